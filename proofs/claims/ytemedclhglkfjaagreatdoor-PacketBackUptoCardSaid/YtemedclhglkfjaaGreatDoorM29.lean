/- Proved here: helpers, one text behind the other. -/
import Derived.Test.YtemedclhglkfjaaGreatDoorM11
import Derived.Test.YtemedclhglkfjaaGreatDoorZErrNum
import Derived.Laws.BitsAllLaws
namespace Go.Proofs.YtemedclhglkfjaaGreatDoor.V
open Go.RowKit
set_option maxRecDepth 100000
theorem ofInt_64 (a : Nat) (ha : a < 18446744073709551616) : (BitVec.ofInt 64 (a : Int)).toNat = a := by
 rw [BitVec.ofInt_natCast,BitVec.toNat_ofNat]; exact Nat.mod_eq_of_lt (by omega)
theorem i64_or_nat (a b : Nat) (ha : a < 4611686018427387904) (hb : b < 4611686018427387904) : bits .or .i64 (a : Int) (b : Int) = ((a ||| b : Nat) : Int) := by
 have hx : a ||| b < 2 ^ 62 := Nat.or_lt_two_pow (by omega) (by omega)
 show IntKind.i64.wrap ((BitVec.ofInt 64 (a : Int) ||| BitVec.ofInt 64 (b : Int)).toNat : Int) = _
 rw [BitVec.toNat_or,ofInt_64 a (by omega),ofInt_64 b (by omega),IntKind.wrap_i64]
 omega
theorem or_hi (i : Nat) (x y : Int) (hx0 : 0 <= x) (hx1 : x < 4611686018427387904) (hy0 : 0 <= y) (hy1 : y < 4611686018427387904) (hm : x.toNat % 2 ^ i = 0) (hy : y.toNat < 2 ^ i) : bits .or .i64 x y = x + y := by
 obtain ⟨a,rfl⟩ := Int.eq_ofNat_of_zero_le hx0
 obtain ⟨b,rfl⟩ := Int.eq_ofNat_of_zero_le hy0
 rw [i64_or_nat a b (by omega) (by omega),nat_join i a b (by simpa using hm) (by simpa using hy)]
 omega
theorem or_lo (i : Nat) (x y : Int) (hx0 : 0 <= x) (hx1 : x < 4611686018427387904) (hy0 : 0 <= y) (hy1 : y < 4611686018427387904) (hm : y.toNat % 2 ^ i = 0) (hx : x.toNat < 2 ^ i) : bits .or .i64 x y = x + y := by
 obtain ⟨a,rfl⟩ := Int.eq_ofNat_of_zero_le hx0
 obtain ⟨b,rfl⟩ := Int.eq_ofNat_of_zero_le hy0
 rw [i64_or_nat a b (by omega) (by omega),Nat.or_comm,nat_join i b a (by simpa using hm) (by simpa using hx)]
 omega
theorem or_zero (y : Int) (hy0 : 0 <= y) (hy1 : y < 4611686018427387904) : bits .or .i64 0 y = y := by
 rw [or_lo 0 0 y (by omega) (by omega) hy0 hy1 (by omega) (by decide)]; omega
theorem and128_hi (x : Int) (h0 : 128 <= x) (h1 : x <= 255) : bits .and .u8 x 128 = 128 := by
 rw [and128 x (by omega) (by omega),if_neg (by omega)]
theorem and128_lo (x : Int) (h0 : 0 <= x) (h1 : x < 128) : bits .and .u8 x 128 = 0 := by
 rw [and128 x (by omega) (by omega),if_pos (by omega)]
theorem and127_hi (x : Int) (h0 : 128 <= x) (h1 : x <= 255) : bits .and .u8 x 127 = x - 128 := by
 rw [and127 x (by omega) (by omega)]; omega
theorem and127_lo (x : Int) (h0 : 0 <= x) (h1 : x < 128) : bits .and .u8 x 127 = x := by
 rw [and127 x (by omega) (by omega)]; omega
theorem meas_s0 (ao : Option Addr) (cap : Nat) (w : World) :
  Calls Tryz.prog 108 #[.slice ao 0 cap] w fun e w' => e = .returned (.tuple #[.int .i64 0,.iface 112 (.pointer (some ⟨w.heap.size,0,none⟩))]) /\ w' = w.alloc (.cells #[.string ⟨#[118,97,114,105,110,116]⟩,.iface 63 (.int .i64 3)] 114) := by
 go_enter Tryz.func108,Tryz.ntmps108
 go_wp2
 refine wp_loop_rounds 1 ?_
 rw [rounds_succ]
 go_wp2_with (go_at_call 57; refine (fault_any _ _).mono ?_; rintro e w' ⟨rfl,rfl⟩)
 go_ret2
 exact ⟨rfl,rfl⟩
theorem meas_o1 (b off len cap : Nat) (x0 : Int) (w : World) (hlen : len <= maxLen) (hl : 0 < len) (c0 : w.cell? ⟨b,off,none⟩ = some (.int .u8 x0)) (p0 : 0 <= x0) (p1 : x0 < 128) :
  Calls Tryz.prog 108 #[.slice (some ⟨b,off,none⟩) len cap] w fun e w' => e = .returned (.tuple #[.int .i64 1,.nilIface]) /\ w' = w := by
 unfold maxLen at hlen
 have k0 := and128_lo x0 (by omega) p1
 go_enter Tryz.func108,Tryz.ntmps108
 go_wp2
 refine wp_loop_rounds 1 ?_
 rw [rounds_succ]
 go_wp2
 go_ret2
 exact ⟨rfl,rfl⟩
theorem meas_s1 (b off len cap : Nat) (x0 : Int) (w : World) (hlen : len <= maxLen) (hl : len = 1) (c0 : w.cell? ⟨b,off,none⟩ = some (.int .u8 x0)) (r0 : 0 <= x0 /\ x0 <= 255) (g0 : 128 <= x0) :
  Calls Tryz.prog 108 #[.slice (some ⟨b,off,none⟩) len cap] w fun e w' => e = .returned (.tuple #[.int .i64 0,.iface 112 (.pointer (some ⟨w.heap.size,0,none⟩))]) /\ w' = w.alloc (.cells #[.string ⟨#[118,97,114,105,110,116]⟩,.iface 63 (.int .i64 3)] 114) := by
 unfold maxLen at hlen
 have k0 := and128_hi x0 g0 r0.2
 subst hl
 go_enter Tryz.func108,Tryz.ntmps108
 go_wp2
 refine wp_loop_rounds 2 ?_
 rw [rounds_succ]
 go_wp2
 rw [rounds_succ]
 go_wp2_with (go_at_call 57; refine (fault_any _ _).mono ?_; rintro e w' ⟨rfl,rfl⟩)
 go_ret2
 exact ⟨rfl,rfl⟩
theorem meas_z2 (b off len cap : Nat) (x0 x1 : Int) (w : World) (hlen : len <= maxLen) (hl : 1 < len) (c0 : w.cell? ⟨b,off,none⟩ = some (.int .u8 x0)) (r0 : 0 <= x0 /\ x0 <= 255) (c1 : w.cell? ⟨b,off + 1,none⟩ = some (.int .u8 x1)) (g0 : 128 <= x0) (p0 : x1 = 0) :
  Calls Tryz.prog 108 #[.slice (some ⟨b,off,none⟩) len cap] w fun e w' => e = .returned (.tuple #[.int .i64 0,.iface 112 (.pointer (some ⟨w.heap.size,0,none⟩))]) /\ w' = w.alloc (.cells #[.string ⟨#[118,97,114,105,110,116]⟩,.iface 63 (.int .i64 1)] 114) := by
 unfold maxLen at hlen
 have k0 := and128_hi x0 g0 r0.2
 subst p0
 have k1 := and128_lo 0 (by omega) (by omega)
 go_enter Tryz.func108,Tryz.ntmps108
 go_wp2
 refine wp_loop_rounds 2 ?_
 rw [rounds_succ]
 go_wp2
 rw [rounds_succ]
 go_wp2_with (go_at_call 57; refine (fault_any _ _).mono ?_; rintro e w' ⟨rfl,rfl⟩)
 go_ret2
 exact ⟨rfl,rfl⟩
theorem meas_o2 (b off len cap : Nat) (x0 x1 : Int) (w : World) (hlen : len <= maxLen) (hl : 1 < len) (c0 : w.cell? ⟨b,off,none⟩ = some (.int .u8 x0)) (r0 : 0 <= x0 /\ x0 <= 255) (c1 : w.cell? ⟨b,off + 1,none⟩ = some (.int .u8 x1)) (g0 : 128 <= x0) (p0 : 1 <= x1) (p1 : x1 < 128) :
  Calls Tryz.prog 108 #[.slice (some ⟨b,off,none⟩) len cap] w fun e w' => e = .returned (.tuple #[.int .i64 2,.nilIface]) /\ w' = w := by
 unfold maxLen at hlen
 have k0 := and128_hi x0 g0 r0.2
 have k1 := and128_lo x1 (by omega) p1
 go_enter Tryz.func108,Tryz.ntmps108
 go_wp2
 refine wp_loop_rounds 2 ?_
 rw [rounds_succ]
 go_wp2
 rw [rounds_succ]
 go_wp2
 go_ret2
 exact ⟨rfl,rfl⟩
theorem meas_s2 (b off len cap : Nat) (x0 x1 : Int) (w : World) (hlen : len <= maxLen) (hl : len = 2) (c0 : w.cell? ⟨b,off,none⟩ = some (.int .u8 x0)) (r0 : 0 <= x0 /\ x0 <= 255) (c1 : w.cell? ⟨b,off + 1,none⟩ = some (.int .u8 x1)) (r1 : 0 <= x1 /\ x1 <= 255) (g0 : 128 <= x0) (g1 : 128 <= x1) :
  Calls Tryz.prog 108 #[.slice (some ⟨b,off,none⟩) len cap] w fun e w' => e = .returned (.tuple #[.int .i64 0,.iface 112 (.pointer (some ⟨w.heap.size,0,none⟩))]) /\ w' = w.alloc (.cells #[.string ⟨#[118,97,114,105,110,116]⟩,.iface 63 (.int .i64 3)] 114) := by
 unfold maxLen at hlen
 have k0 := and128_hi x0 g0 r0.2
 have k1 := and128_hi x1 g1 r1.2
 subst hl
 go_enter Tryz.func108,Tryz.ntmps108
 go_wp2
 refine wp_loop_rounds 3 ?_
 rw [rounds_succ]
 go_wp2
 rw [rounds_succ]
 go_wp2
 rw [rounds_succ]
 go_wp2_with (go_at_call 57; refine (fault_any _ _).mono ?_; rintro e w' ⟨rfl,rfl⟩)
 go_ret2
 exact ⟨rfl,rfl⟩
theorem meas_z3 (b off len cap : Nat) (x0 x1 x2 : Int) (w : World) (hlen : len <= maxLen) (hl : 2 < len) (c0 : w.cell? ⟨b,off,none⟩ = some (.int .u8 x0)) (r0 : 0 <= x0 /\ x0 <= 255) (c1 : w.cell? ⟨b,off + 1,none⟩ = some (.int .u8 x1)) (r1 : 0 <= x1 /\ x1 <= 255) (c2 : w.cell? ⟨b,off + 2,none⟩ = some (.int .u8 x2)) (g0 : 128 <= x0) (g1 : 128 <= x1) (p0 : x2 = 0) :
  Calls Tryz.prog 108 #[.slice (some ⟨b,off,none⟩) len cap] w fun e w' => e = .returned (.tuple #[.int .i64 0,.iface 112 (.pointer (some ⟨w.heap.size,0,none⟩))]) /\ w' = w.alloc (.cells #[.string ⟨#[118,97,114,105,110,116]⟩,.iface 63 (.int .i64 1)] 114) := by
 unfold maxLen at hlen
 have k0 := and128_hi x0 g0 r0.2
 have k1 := and128_hi x1 g1 r1.2
 subst p0
 have k2 := and128_lo 0 (by omega) (by omega)
 go_enter Tryz.func108,Tryz.ntmps108
 go_wp2
 refine wp_loop_rounds 3 ?_
 rw [rounds_succ]
 go_wp2
 rw [rounds_succ]
 go_wp2
 rw [rounds_succ]
 go_wp2_with (go_at_call 57; refine (fault_any _ _).mono ?_; rintro e w' ⟨rfl,rfl⟩)
 go_ret2
 exact ⟨rfl,rfl⟩
theorem meas_o3 (b off len cap : Nat) (x0 x1 x2 : Int) (w : World) (hlen : len <= maxLen) (hl : 2 < len) (c0 : w.cell? ⟨b,off,none⟩ = some (.int .u8 x0)) (r0 : 0 <= x0 /\ x0 <= 255) (c1 : w.cell? ⟨b,off + 1,none⟩ = some (.int .u8 x1)) (r1 : 0 <= x1 /\ x1 <= 255) (c2 : w.cell? ⟨b,off + 2,none⟩ = some (.int .u8 x2)) (g0 : 128 <= x0) (g1 : 128 <= x1) (p0 : 1 <= x2) (p1 : x2 < 128) :
  Calls Tryz.prog 108 #[.slice (some ⟨b,off,none⟩) len cap] w fun e w' => e = .returned (.tuple #[.int .i64 3,.nilIface]) /\ w' = w := by
 unfold maxLen at hlen
 have k0 := and128_hi x0 g0 r0.2
 have k1 := and128_hi x1 g1 r1.2
 have k2 := and128_lo x2 (by omega) p1
 go_enter Tryz.func108,Tryz.ntmps108
 go_wp2
 refine wp_loop_rounds 3 ?_
 rw [rounds_succ]
 go_wp2
 rw [rounds_succ]
 go_wp2
 rw [rounds_succ]
 go_wp2
 go_ret2
 exact ⟨rfl,rfl⟩
theorem meas_s3 (b off len cap : Nat) (x0 x1 x2 : Int) (w : World) (hlen : len <= maxLen) (hl : len = 3) (c0 : w.cell? ⟨b,off,none⟩ = some (.int .u8 x0)) (r0 : 0 <= x0 /\ x0 <= 255) (c1 : w.cell? ⟨b,off + 1,none⟩ = some (.int .u8 x1)) (r1 : 0 <= x1 /\ x1 <= 255) (c2 : w.cell? ⟨b,off + 2,none⟩ = some (.int .u8 x2)) (r2 : 0 <= x2 /\ x2 <= 255) (g0 : 128 <= x0) (g1 : 128 <= x1) (g2 : 128 <= x2) :
  Calls Tryz.prog 108 #[.slice (some ⟨b,off,none⟩) len cap] w fun e w' => e = .returned (.tuple #[.int .i64 0,.iface 112 (.pointer (some ⟨w.heap.size,0,none⟩))]) /\ w' = w.alloc (.cells #[.string ⟨#[118,97,114,105,110,116]⟩,.iface 63 (.int .i64 3)] 114) := by
 unfold maxLen at hlen
 have k0 := and128_hi x0 g0 r0.2
 have k1 := and128_hi x1 g1 r1.2
 have k2 := and128_hi x2 g2 r2.2
 subst hl
 go_enter Tryz.func108,Tryz.ntmps108
 go_wp2
 refine wp_loop_rounds 4 ?_
 rw [rounds_succ]
 go_wp2
 rw [rounds_succ]
 go_wp2
 rw [rounds_succ]
 go_wp2
 rw [rounds_succ]
 go_wp2_with (go_at_call 57; refine (fault_any _ _).mono ?_; rintro e w' ⟨rfl,rfl⟩)
 go_ret2
 exact ⟨rfl,rfl⟩
theorem meas_z4 (b off len cap : Nat) (x0 x1 x2 x3 : Int) (w : World) (hlen : len <= maxLen) (hl : 3 < len) (c0 : w.cell? ⟨b,off,none⟩ = some (.int .u8 x0)) (r0 : 0 <= x0 /\ x0 <= 255) (c1 : w.cell? ⟨b,off + 1,none⟩ = some (.int .u8 x1)) (r1 : 0 <= x1 /\ x1 <= 255) (c2 : w.cell? ⟨b,off + 2,none⟩ = some (.int .u8 x2)) (r2 : 0 <= x2 /\ x2 <= 255) (c3 : w.cell? ⟨b,off + 3,none⟩ = some (.int .u8 x3)) (g0 : 128 <= x0) (g1 : 128 <= x1) (g2 : 128 <= x2) (p0 : x3 = 0) :
  Calls Tryz.prog 108 #[.slice (some ⟨b,off,none⟩) len cap] w fun e w' => e = .returned (.tuple #[.int .i64 0,.iface 112 (.pointer (some ⟨w.heap.size,0,none⟩))]) /\ w' = w.alloc (.cells #[.string ⟨#[118,97,114,105,110,116]⟩,.iface 63 (.int .i64 1)] 114) := by
 unfold maxLen at hlen
 have k0 := and128_hi x0 g0 r0.2
 have k1 := and128_hi x1 g1 r1.2
 have k2 := and128_hi x2 g2 r2.2
 subst p0
 have k3 := and128_lo 0 (by omega) (by omega)
 go_enter Tryz.func108,Tryz.ntmps108
 go_wp2
 refine wp_loop_rounds 4 ?_
 rw [rounds_succ]
 go_wp2
 rw [rounds_succ]
 go_wp2
 rw [rounds_succ]
 go_wp2
 rw [rounds_succ]
 go_wp2_with (go_at_call 57; refine (fault_any _ _).mono ?_; rintro e w' ⟨rfl,rfl⟩)
 go_ret2
 exact ⟨rfl,rfl⟩
theorem meas_o4 (b off len cap : Nat) (x0 x1 x2 x3 : Int) (w : World) (hlen : len <= maxLen) (hl : 3 < len) (c0 : w.cell? ⟨b,off,none⟩ = some (.int .u8 x0)) (r0 : 0 <= x0 /\ x0 <= 255) (c1 : w.cell? ⟨b,off + 1,none⟩ = some (.int .u8 x1)) (r1 : 0 <= x1 /\ x1 <= 255) (c2 : w.cell? ⟨b,off + 2,none⟩ = some (.int .u8 x2)) (r2 : 0 <= x2 /\ x2 <= 255) (c3 : w.cell? ⟨b,off + 3,none⟩ = some (.int .u8 x3)) (g0 : 128 <= x0) (g1 : 128 <= x1) (g2 : 128 <= x2) (p0 : 1 <= x3) (p1 : x3 < 128) :
  Calls Tryz.prog 108 #[.slice (some ⟨b,off,none⟩) len cap] w fun e w' => e = .returned (.tuple #[.int .i64 4,.nilIface]) /\ w' = w := by
 unfold maxLen at hlen
 have k0 := and128_hi x0 g0 r0.2
 have k1 := and128_hi x1 g1 r1.2
 have k2 := and128_hi x2 g2 r2.2
 have k3 := and128_lo x3 (by omega) p1
 go_enter Tryz.func108,Tryz.ntmps108
 go_wp2
 refine wp_loop_rounds 4 ?_
 rw [rounds_succ]
 go_wp2
 rw [rounds_succ]
 go_wp2
 rw [rounds_succ]
 go_wp2
 rw [rounds_succ]
 go_wp2
 go_ret2
 exact ⟨rfl,rfl⟩
theorem meas_l4 (b off len cap : Nat) (x0 x1 x2 x3 : Int) (w : World) (hlen : len <= maxLen) (hl : 3 < len) (c0 : w.cell? ⟨b,off,none⟩ = some (.int .u8 x0)) (r0 : 0 <= x0 /\ x0 <= 255) (c1 : w.cell? ⟨b,off + 1,none⟩ = some (.int .u8 x1)) (r1 : 0 <= x1 /\ x1 <= 255) (c2 : w.cell? ⟨b,off + 2,none⟩ = some (.int .u8 x2)) (r2 : 0 <= x2 /\ x2 <= 255) (c3 : w.cell? ⟨b,off + 3,none⟩ = some (.int .u8 x3)) (r3 : 0 <= x3 /\ x3 <= 255) (g0 : 128 <= x0) (g1 : 128 <= x1) (g2 : 128 <= x2) (g3 : 128 <= x3) :
  Calls Tryz.prog 108 #[.slice (some ⟨b,off,none⟩) len cap] w fun e w' => e = .returned (.tuple #[.int .i64 0,.iface 112 (.pointer (some ⟨w.heap.size,0,none⟩))]) /\ w' = w.alloc (.cells #[.string ⟨#[118,97,114,105,110,116]⟩,.iface 63 (.int .i64 1)] 114) := by
 unfold maxLen at hlen
 have k0 := and128_hi x0 g0 r0.2
 have k1 := and128_hi x1 g1 r1.2
 have k2 := and128_hi x2 g2 r2.2
 have k3 := and128_hi x3 g3 r3.2
 go_enter Tryz.func108,Tryz.ntmps108
 go_wp2
 refine wp_loop_rounds 5 ?_
 rw [rounds_succ]
 go_wp2
 rw [rounds_succ]
 go_wp2
 rw [rounds_succ]
 go_wp2
 rw [rounds_succ]
 go_wp2
 rw [rounds_succ]
 go_wp2_with (go_at_call 57; refine (fault_any _ _).mono ?_; rintro e w' ⟨rfl,rfl⟩)
 go_ret2
 exact ⟨rfl,rfl⟩
theorem get_s0 (ao : Option Addr) (cap : Nat) (w : World) :
  Calls Tryz.prog 74 #[.slice ao 0 cap] w fun e w' => e = .returned (.tuple #[.int .i64 0,.int .i64 0,.iface 112 (.pointer (some ⟨w.heap.size,0,none⟩))]) /\ w' = w.alloc (.cells #[.string ⟨#[118,97,114,105,110,116]⟩,.iface 63 (.int .i64 3)] 114) := by
 have HM := zh (meas_s0 ao cap w)
 go_enter Tryz.func74,Tryz.ntmps74
 go_wp2_with (go_at_call 108; refine (uh HM).mono ?_; rintro e w' ⟨rfl,rfl⟩)
 go_ret3
 exact ⟨rfl,rfl⟩
theorem get_o1 (b off len cap : Nat) (x0 : Int) (w : World) (hlen : len <= maxLen) (hl : 0 < len) (c0 : w.cell? ⟨b,off,none⟩ = some (.int .u8 x0)) (p0 : 0 <= x0) (p1 : x0 < 128) :
  Calls Tryz.prog 74 #[.slice (some ⟨b,off,none⟩) len cap] w fun e w' => e = .returned (.tuple #[.int .i64 (x0),.int .i64 1,.nilIface]) /\ w' = w := by
 have HM := zh (meas_o1 b off len cap x0 w hlen hl c0 p0 p1)
 unfold maxLen at hlen
 have k0 := and127_lo x0 (by omega) p1
 go_enter Tryz.func74,Tryz.ntmps74
 go_wp2_with (go_at_call 108; refine (uh HM).mono ?_; rintro e w' ⟨rfl,rfl⟩)
 go_ret3
 refine ⟨congrArg (fun z : Int => Ending.returned (.tuple #[.int .i64 z,.int .i64 1,.nilIface])) ?_,rfl⟩
 rw [or_zero (x0) (by omega) (by omega)]
theorem get_s1 (b off len cap : Nat) (x0 : Int) (w : World) (hlen : len <= maxLen) (hl : len = 1) (c0 : w.cell? ⟨b,off,none⟩ = some (.int .u8 x0)) (r0 : 0 <= x0 /\ x0 <= 255) (g0 : 128 <= x0) :
  Calls Tryz.prog 74 #[.slice (some ⟨b,off,none⟩) len cap] w fun e w' => e = .returned (.tuple #[.int .i64 0,.int .i64 0,.iface 112 (.pointer (some ⟨w.heap.size,0,none⟩))]) /\ w' = w.alloc (.cells #[.string ⟨#[118,97,114,105,110,116]⟩,.iface 63 (.int .i64 3)] 114) := by
 have HM := zh (meas_s1 b off len cap x0 w hlen hl c0 r0 g0)
 unfold maxLen at hlen
 subst hl
 go_enter Tryz.func74,Tryz.ntmps74
 go_wp2_with (go_at_call 108; refine (uh HM).mono ?_; rintro e w' ⟨rfl,rfl⟩)
 go_ret3
 exact ⟨rfl,rfl⟩
theorem get_z2 (b off len cap : Nat) (x0 x1 : Int) (w : World) (hlen : len <= maxLen) (hl : 1 < len) (c0 : w.cell? ⟨b,off,none⟩ = some (.int .u8 x0)) (r0 : 0 <= x0 /\ x0 <= 255) (c1 : w.cell? ⟨b,off + 1,none⟩ = some (.int .u8 x1)) (g0 : 128 <= x0) (p0 : x1 = 0) :
  Calls Tryz.prog 74 #[.slice (some ⟨b,off,none⟩) len cap] w fun e w' => e = .returned (.tuple #[.int .i64 0,.int .i64 0,.iface 112 (.pointer (some ⟨w.heap.size,0,none⟩))]) /\ w' = w.alloc (.cells #[.string ⟨#[118,97,114,105,110,116]⟩,.iface 63 (.int .i64 1)] 114) := by
 have HM := zh (meas_z2 b off len cap x0 x1 w hlen hl c0 r0 c1 g0 p0)
 unfold maxLen at hlen
 subst p0
 go_enter Tryz.func74,Tryz.ntmps74
 go_wp2_with (go_at_call 108; refine (uh HM).mono ?_; rintro e w' ⟨rfl,rfl⟩)
 go_ret3
 exact ⟨rfl,rfl⟩
theorem get_o2 (b off len cap : Nat) (x0 x1 : Int) (w : World) (hlen : len <= maxLen) (hl : 1 < len) (c0 : w.cell? ⟨b,off,none⟩ = some (.int .u8 x0)) (r0 : 0 <= x0 /\ x0 <= 255) (c1 : w.cell? ⟨b,off + 1,none⟩ = some (.int .u8 x1)) (g0 : 128 <= x0) (p0 : 1 <= x1) (p1 : x1 < 128) :
  Calls Tryz.prog 74 #[.slice (some ⟨b,off,none⟩) len cap] w fun e w' => e = .returned (.tuple #[.int .i64 ((x0 - 128) + x1 * 128),.int .i64 2,.nilIface]) /\ w' = w := by
 have HM := zh (meas_o2 b off len cap x0 x1 w hlen hl c0 r0 c1 g0 p0 p1)
 unfold maxLen at hlen
 have k0 := and127_hi x0 g0 r0.2
 have k1 := and127_lo x1 (by omega) p1
 go_enter Tryz.func74,Tryz.ntmps74
 go_wp2_with (go_at_call 108; refine (uh HM).mono ?_; rintro e w' ⟨rfl,rfl⟩)
 go_ret3
 refine ⟨congrArg (fun z : Int => Ending.returned (.tuple #[.int .i64 z,.int .i64 2,.nilIface])) ?_,rfl⟩
 rw [or_zero (x1 * 128) (by omega) (by omega),or_hi 7 (x1 * 128) ((x0 - 128)) (by omega) (by omega) (by omega) (by omega) (by omega) (by omega)]
 omega
theorem get_s2 (b off len cap : Nat) (x0 x1 : Int) (w : World) (hlen : len <= maxLen) (hl : len = 2) (c0 : w.cell? ⟨b,off,none⟩ = some (.int .u8 x0)) (r0 : 0 <= x0 /\ x0 <= 255) (c1 : w.cell? ⟨b,off + 1,none⟩ = some (.int .u8 x1)) (r1 : 0 <= x1 /\ x1 <= 255) (g0 : 128 <= x0) (g1 : 128 <= x1) :
  Calls Tryz.prog 74 #[.slice (some ⟨b,off,none⟩) len cap] w fun e w' => e = .returned (.tuple #[.int .i64 0,.int .i64 0,.iface 112 (.pointer (some ⟨w.heap.size,0,none⟩))]) /\ w' = w.alloc (.cells #[.string ⟨#[118,97,114,105,110,116]⟩,.iface 63 (.int .i64 3)] 114) := by
 have HM := zh (meas_s2 b off len cap x0 x1 w hlen hl c0 r0 c1 r1 g0 g1)
 unfold maxLen at hlen
 subst hl
 go_enter Tryz.func74,Tryz.ntmps74
 go_wp2_with (go_at_call 108; refine (uh HM).mono ?_; rintro e w' ⟨rfl,rfl⟩)
 go_ret3
 exact ⟨rfl,rfl⟩
theorem get_z3 (b off len cap : Nat) (x0 x1 x2 : Int) (w : World) (hlen : len <= maxLen) (hl : 2 < len) (c0 : w.cell? ⟨b,off,none⟩ = some (.int .u8 x0)) (r0 : 0 <= x0 /\ x0 <= 255) (c1 : w.cell? ⟨b,off + 1,none⟩ = some (.int .u8 x1)) (r1 : 0 <= x1 /\ x1 <= 255) (c2 : w.cell? ⟨b,off + 2,none⟩ = some (.int .u8 x2)) (g0 : 128 <= x0) (g1 : 128 <= x1) (p0 : x2 = 0) :
  Calls Tryz.prog 74 #[.slice (some ⟨b,off,none⟩) len cap] w fun e w' => e = .returned (.tuple #[.int .i64 0,.int .i64 0,.iface 112 (.pointer (some ⟨w.heap.size,0,none⟩))]) /\ w' = w.alloc (.cells #[.string ⟨#[118,97,114,105,110,116]⟩,.iface 63 (.int .i64 1)] 114) := by
 have HM := zh (meas_z3 b off len cap x0 x1 x2 w hlen hl c0 r0 c1 r1 c2 g0 g1 p0)
 unfold maxLen at hlen
 subst p0
 go_enter Tryz.func74,Tryz.ntmps74
 go_wp2_with (go_at_call 108; refine (uh HM).mono ?_; rintro e w' ⟨rfl,rfl⟩)
 go_ret3
 exact ⟨rfl,rfl⟩
theorem get_o3 (b off len cap : Nat) (x0 x1 x2 : Int) (w : World) (hlen : len <= maxLen) (hl : 2 < len) (c0 : w.cell? ⟨b,off,none⟩ = some (.int .u8 x0)) (r0 : 0 <= x0 /\ x0 <= 255) (c1 : w.cell? ⟨b,off + 1,none⟩ = some (.int .u8 x1)) (r1 : 0 <= x1 /\ x1 <= 255) (c2 : w.cell? ⟨b,off + 2,none⟩ = some (.int .u8 x2)) (g0 : 128 <= x0) (g1 : 128 <= x1) (p0 : 1 <= x2) (p1 : x2 < 128) :
  Calls Tryz.prog 74 #[.slice (some ⟨b,off,none⟩) len cap] w fun e w' => e = .returned (.tuple #[.int .i64 ((x0 - 128) + (x1 - 128) * 128 + x2 * 16384),.int .i64 3,.nilIface]) /\ w' = w := by
 have HM := zh (meas_o3 b off len cap x0 x1 x2 w hlen hl c0 r0 c1 r1 c2 g0 g1 p0 p1)
 unfold maxLen at hlen
 have k0 := and127_hi x0 g0 r0.2
 have k1 := and127_hi x1 g1 r1.2
 have k2 := and127_lo x2 (by omega) p1
 go_enter Tryz.func74,Tryz.ntmps74
 go_wp2_with (go_at_call 108; refine (uh HM).mono ?_; rintro e w' ⟨rfl,rfl⟩)
 go_ret3
 refine ⟨congrArg (fun z : Int => Ending.returned (.tuple #[.int .i64 z,.int .i64 3,.nilIface])) ?_,rfl⟩
 rw [or_zero (x2 * 16384) (by omega) (by omega),or_hi 14 (x2 * 16384) ((x1 - 128) * 128) (by omega) (by omega) (by omega) (by omega) (by omega) (by omega),or_hi 7 (x2 * 16384 + (x1 - 128) * 128) ((x0 - 128)) (by omega) (by omega) (by omega) (by omega) (by omega) (by omega)]
 omega
theorem get_s3 (b off len cap : Nat) (x0 x1 x2 : Int) (w : World) (hlen : len <= maxLen) (hl : len = 3) (c0 : w.cell? ⟨b,off,none⟩ = some (.int .u8 x0)) (r0 : 0 <= x0 /\ x0 <= 255) (c1 : w.cell? ⟨b,off + 1,none⟩ = some (.int .u8 x1)) (r1 : 0 <= x1 /\ x1 <= 255) (c2 : w.cell? ⟨b,off + 2,none⟩ = some (.int .u8 x2)) (r2 : 0 <= x2 /\ x2 <= 255) (g0 : 128 <= x0) (g1 : 128 <= x1) (g2 : 128 <= x2) :
  Calls Tryz.prog 74 #[.slice (some ⟨b,off,none⟩) len cap] w fun e w' => e = .returned (.tuple #[.int .i64 0,.int .i64 0,.iface 112 (.pointer (some ⟨w.heap.size,0,none⟩))]) /\ w' = w.alloc (.cells #[.string ⟨#[118,97,114,105,110,116]⟩,.iface 63 (.int .i64 3)] 114) := by
 have HM := zh (meas_s3 b off len cap x0 x1 x2 w hlen hl c0 r0 c1 r1 c2 r2 g0 g1 g2)
 unfold maxLen at hlen
 subst hl
 go_enter Tryz.func74,Tryz.ntmps74
 go_wp2_with (go_at_call 108; refine (uh HM).mono ?_; rintro e w' ⟨rfl,rfl⟩)
 go_ret3
 exact ⟨rfl,rfl⟩
theorem get_z4 (b off len cap : Nat) (x0 x1 x2 x3 : Int) (w : World) (hlen : len <= maxLen) (hl : 3 < len) (c0 : w.cell? ⟨b,off,none⟩ = some (.int .u8 x0)) (r0 : 0 <= x0 /\ x0 <= 255) (c1 : w.cell? ⟨b,off + 1,none⟩ = some (.int .u8 x1)) (r1 : 0 <= x1 /\ x1 <= 255) (c2 : w.cell? ⟨b,off + 2,none⟩ = some (.int .u8 x2)) (r2 : 0 <= x2 /\ x2 <= 255) (c3 : w.cell? ⟨b,off + 3,none⟩ = some (.int .u8 x3)) (g0 : 128 <= x0) (g1 : 128 <= x1) (g2 : 128 <= x2) (p0 : x3 = 0) :
  Calls Tryz.prog 74 #[.slice (some ⟨b,off,none⟩) len cap] w fun e w' => e = .returned (.tuple #[.int .i64 0,.int .i64 0,.iface 112 (.pointer (some ⟨w.heap.size,0,none⟩))]) /\ w' = w.alloc (.cells #[.string ⟨#[118,97,114,105,110,116]⟩,.iface 63 (.int .i64 1)] 114) := by
 have HM := zh (meas_z4 b off len cap x0 x1 x2 x3 w hlen hl c0 r0 c1 r1 c2 r2 c3 g0 g1 g2 p0)
 unfold maxLen at hlen
 subst p0
 go_enter Tryz.func74,Tryz.ntmps74
 go_wp2_with (go_at_call 108; refine (uh HM).mono ?_; rintro e w' ⟨rfl,rfl⟩)
 go_ret3
 exact ⟨rfl,rfl⟩
theorem get_o4 (b off len cap : Nat) (x0 x1 x2 x3 : Int) (w : World) (hlen : len <= maxLen) (hl : 3 < len) (c0 : w.cell? ⟨b,off,none⟩ = some (.int .u8 x0)) (r0 : 0 <= x0 /\ x0 <= 255) (c1 : w.cell? ⟨b,off + 1,none⟩ = some (.int .u8 x1)) (r1 : 0 <= x1 /\ x1 <= 255) (c2 : w.cell? ⟨b,off + 2,none⟩ = some (.int .u8 x2)) (r2 : 0 <= x2 /\ x2 <= 255) (c3 : w.cell? ⟨b,off + 3,none⟩ = some (.int .u8 x3)) (g0 : 128 <= x0) (g1 : 128 <= x1) (g2 : 128 <= x2) (p0 : 1 <= x3) (p1 : x3 < 128) :
  Calls Tryz.prog 74 #[.slice (some ⟨b,off,none⟩) len cap] w fun e w' => e = .returned (.tuple #[.int .i64 ((x0 - 128) + (x1 - 128) * 128 + (x2 - 128) * 16384 + x3 * 2097152),.int .i64 4,.nilIface]) /\ w' = w := by
 have HM := zh (meas_o4 b off len cap x0 x1 x2 x3 w hlen hl c0 r0 c1 r1 c2 r2 c3 g0 g1 g2 p0 p1)
 unfold maxLen at hlen
 have k0 := and127_hi x0 g0 r0.2
 have k1 := and127_hi x1 g1 r1.2
 have k2 := and127_hi x2 g2 r2.2
 have k3 := and127_lo x3 (by omega) p1
 go_enter Tryz.func74,Tryz.ntmps74
 go_wp2_with (go_at_call 108; refine (uh HM).mono ?_; rintro e w' ⟨rfl,rfl⟩)
 go_ret3
 refine ⟨congrArg (fun z : Int => Ending.returned (.tuple #[.int .i64 z,.int .i64 4,.nilIface])) ?_,rfl⟩
 rw [or_zero (x3 * 2097152) (by omega) (by omega),or_hi 21 (x3 * 2097152) ((x2 - 128) * 16384) (by omega) (by omega) (by omega) (by omega) (by omega) (by omega),or_hi 14 (x3 * 2097152 + (x2 - 128) * 16384) ((x1 - 128) * 128) (by omega) (by omega) (by omega) (by omega) (by omega) (by omega),or_hi 7 (x3 * 2097152 + (x2 - 128) * 16384 + (x1 - 128) * 128) ((x0 - 128)) (by omega) (by omega) (by omega) (by omega) (by omega) (by omega)]
 omega
theorem get_l4 (b off len cap : Nat) (x0 x1 x2 x3 : Int) (w : World) (hlen : len <= maxLen) (hl : 3 < len) (c0 : w.cell? ⟨b,off,none⟩ = some (.int .u8 x0)) (r0 : 0 <= x0 /\ x0 <= 255) (c1 : w.cell? ⟨b,off + 1,none⟩ = some (.int .u8 x1)) (r1 : 0 <= x1 /\ x1 <= 255) (c2 : w.cell? ⟨b,off + 2,none⟩ = some (.int .u8 x2)) (r2 : 0 <= x2 /\ x2 <= 255) (c3 : w.cell? ⟨b,off + 3,none⟩ = some (.int .u8 x3)) (r3 : 0 <= x3 /\ x3 <= 255) (g0 : 128 <= x0) (g1 : 128 <= x1) (g2 : 128 <= x2) (g3 : 128 <= x3) :
  Calls Tryz.prog 74 #[.slice (some ⟨b,off,none⟩) len cap] w fun e w' => e = .returned (.tuple #[.int .i64 0,.int .i64 0,.iface 112 (.pointer (some ⟨w.heap.size,0,none⟩))]) /\ w' = w.alloc (.cells #[.string ⟨#[118,97,114,105,110,116]⟩,.iface 63 (.int .i64 1)] 114) := by
 have HM := zh (meas_l4 b off len cap x0 x1 x2 x3 w hlen hl c0 r0 c1 r1 c2 r2 c3 r3 g0 g1 g2 g3)
 unfold maxLen at hlen
 go_enter Tryz.func74,Tryz.ntmps74
 go_wp2_with (go_at_call 108; refine (uh HM).mono ?_; rintro e w' ⟨rfl,rfl⟩)
 go_ret3
 exact ⟨rfl,rfl⟩
theorem sz1 (n : Int) (h : n < 128) : sz n = 1 := by simp [sz,h]
theorem sz2 (n : Int) (h0 : 128 <= n) (h : n < 16384) : sz n = 2 := by unfold sz; rw [if_neg (by omega),if_pos h]
theorem sz3 (n : Int) (h0 : 16384 <= n) (h : n < 2097152) : sz n = 3 := by unfold sz; rw [if_neg (by omega),if_neg (by omega),if_pos h]
theorem sz4 (n : Int) (h0 : 2097152 <= n) : sz n = 4 := by unfold sz; rw [if_neg (by omega),if_neg (by omega),if_neg (by omega)]
theorem put_length (n : Int) : ((put n).length : Int) = sz n := by
 unfold put sz
 split <;> (try split) <;> (try split) <;> simp
def ErrS (w : World) (v : Value) (n : Int) : Prop := (n = 0 /\ v = .nilIface) \/ (n ≠ 0 /\ ∃ b,v = .iface 112 (.pointer (some ⟨b,0,none⟩)) /\ w.cell? ⟨b,1,none⟩ = some (.iface 63 (.int .i64 n)))
def vgetf (len : Nat) (x0 x1 x2 x3 : Int) : Int × Int × Int :=
 if len = 0 then (0,0,3) else
 if x0 < 128 then (x0,1,0) else
 if len = 1 then (0,0,3) else
 if x1 = 0 then (0,0,1) else
 if x1 < 128 then ((x0 - 128) + x1 * 128,2,0) else
 if len = 2 then (0,0,3) else
 if x2 = 0 then (0,0,1) else
 if x2 < 128 then ((x0 - 128) + (x1 - 128) * 128 + x2 * 16384,3,0) else
 if len = 3 then (0,0,3) else
 if x3 = 0 then (0,0,1) else
 if x3 < 128 then ((x0 - 128) + (x1 - 128) * 128 + (x2 - 128) * 16384 + x3 * 2097152,4,0) else
 (0,0,1)
def vget (bs : List Int) : Int × Int × Int := vgetf bs.length (bs.getD 0 0) (bs.getD 1 0) (bs.getD 2 0) (bs.getD 3 0)
theorem get_at (b off len cap : Nat) (x0 x1 x2 x3 : Int) (w : World) (hlen : len <= maxLen) (hc0 : 0 < len -> w.cell? ⟨b,off,none⟩ = some (.int .u8 x0)) (hc1 : 1 < len -> w.cell? ⟨b,off + 1,none⟩ = some (.int .u8 x1)) (hc2 : 2 < len -> w.cell? ⟨b,off + 2,none⟩ = some (.int .u8 x2)) (hc3 : 3 < len -> w.cell? ⟨b,off + 3,none⟩ = some (.int .u8 x3)) (r0 : 0 <= x0 /\ x0 <= 255) (r1 : 0 <= x1 /\ x1 <= 255) (r2 : 0 <= x2 /\ x2 <= 255) (r3 : 0 <= x3 /\ x3 <= 255) :
  Calls Tryz.prog 74 #[.slice (some ⟨b,off,none⟩) len cap] w fun e w' => ∃ E,e = .returned (.tuple #[.int .i64 (vgetf len x0 x1 x2 x3).1,.int .i64 (vgetf len x0 x1 x2 x3).2.1,E]) /\ ErrS w' E (vgetf len x0 x1 x2 x3).2.2 /\ Below w.heap.size w w' := by
 by_cases ds0 : len = 0
 ·have hv : vgetf len x0 x1 x2 x3 = (0,0,3) := by unfold vgetf; rw [if_pos ds0]
  rw [hv]
  subst ds0
  refine (get_s0 _ _ _).mono ?_
  rintro e w' ⟨rfl,rfl⟩; exact ⟨_,rfl,.inr ⟨by decide,_,rfl,by simp⟩,bal _ _⟩
 ·skip
  by_cases do1 : x0 < 128
  ·have hv : vgetf len x0 x1 x2 x3 = (x0,1,0) := by unfold vgetf; rw [if_neg ds0,if_pos do1]
   rw [hv]
   refine (get_o1 b off len cap x0 w hlen (by omega) (hc0 (by omega)) (by omega) (by omega)).mono ?_
   rintro e w' ⟨rfl,rfl⟩; exact ⟨_,rfl,.inl ⟨rfl,rfl⟩,Below.refl _ _⟩
  ·skip
   by_cases ds1 : len = 1
   ·have hv : vgetf len x0 x1 x2 x3 = (0,0,3) := by unfold vgetf; rw [if_neg ds0,if_neg do1,if_pos ds1]
    rw [hv]
    refine (get_s1 b off len cap x0 w hlen (by omega) (hc0 (by omega)) r0 (by omega)).mono ?_
    rintro e w' ⟨rfl,rfl⟩; exact ⟨_,rfl,.inr ⟨by decide,_,rfl,by simp⟩,bal _ _⟩
   ·skip
    by_cases dz2 : x1 = 0
    ·have hv : vgetf len x0 x1 x2 x3 = (0,0,1) := by unfold vgetf; rw [if_neg ds0,if_neg do1,if_neg ds1,if_pos dz2]
     rw [hv]
     refine (get_z2 b off len cap x0 x1 w hlen (by omega) (hc0 (by omega)) r0 (hc1 (by omega)) (by omega) (by assumption)).mono ?_
     rintro e w' ⟨rfl,rfl⟩; exact ⟨_,rfl,.inr ⟨by decide,_,rfl,by simp⟩,bal _ _⟩
    ·skip
     by_cases do2 : x1 < 128
     ·have hv : vgetf len x0 x1 x2 x3 = ((x0 - 128) + x1 * 128,2,0) := by unfold vgetf; rw [if_neg ds0,if_neg do1,if_neg ds1,if_neg dz2,if_pos do2]
      rw [hv]
      refine (get_o2 b off len cap x0 x1 w hlen (by omega) (hc0 (by omega)) r0 (hc1 (by omega)) (by omega) (by omega) (by omega)).mono ?_
      rintro e w' ⟨rfl,rfl⟩; exact ⟨_,rfl,.inl ⟨rfl,rfl⟩,Below.refl _ _⟩
     ·skip
      by_cases ds2 : len = 2
      ·have hv : vgetf len x0 x1 x2 x3 = (0,0,3) := by unfold vgetf; rw [if_neg ds0,if_neg do1,if_neg ds1,if_neg dz2,if_neg do2,if_pos ds2]
       rw [hv]
       refine (get_s2 b off len cap x0 x1 w hlen (by omega) (hc0 (by omega)) r0 (hc1 (by omega)) r1 (by omega) (by omega)).mono ?_
       rintro e w' ⟨rfl,rfl⟩; exact ⟨_,rfl,.inr ⟨by decide,_,rfl,by simp⟩,bal _ _⟩
      ·skip
       by_cases dz3 : x2 = 0
       ·have hv : vgetf len x0 x1 x2 x3 = (0,0,1) := by unfold vgetf; rw [if_neg ds0,if_neg do1,if_neg ds1,if_neg dz2,if_neg do2,if_neg ds2,if_pos dz3]
        rw [hv]
        refine (get_z3 b off len cap x0 x1 x2 w hlen (by omega) (hc0 (by omega)) r0 (hc1 (by omega)) r1 (hc2 (by omega)) (by omega) (by omega) (by assumption)).mono ?_
        rintro e w' ⟨rfl,rfl⟩; exact ⟨_,rfl,.inr ⟨by decide,_,rfl,by simp⟩,bal _ _⟩
       ·skip
        by_cases do3 : x2 < 128
        ·have hv : vgetf len x0 x1 x2 x3 = ((x0 - 128) + (x1 - 128) * 128 + x2 * 16384,3,0) := by unfold vgetf; rw [if_neg ds0,if_neg do1,if_neg ds1,if_neg dz2,if_neg do2,if_neg ds2,if_neg dz3,if_pos do3]
         rw [hv]
         refine (get_o3 b off len cap x0 x1 x2 w hlen (by omega) (hc0 (by omega)) r0 (hc1 (by omega)) r1 (hc2 (by omega)) (by omega) (by omega) (by omega) (by omega)).mono ?_
         rintro e w' ⟨rfl,rfl⟩; exact ⟨_,rfl,.inl ⟨rfl,rfl⟩,Below.refl _ _⟩
        ·skip
         by_cases ds3 : len = 3
         ·have hv : vgetf len x0 x1 x2 x3 = (0,0,3) := by unfold vgetf; rw [if_neg ds0,if_neg do1,if_neg ds1,if_neg dz2,if_neg do2,if_neg ds2,if_neg dz3,if_neg do3,if_pos ds3]
          rw [hv]
          refine (get_s3 b off len cap x0 x1 x2 w hlen (by omega) (hc0 (by omega)) r0 (hc1 (by omega)) r1 (hc2 (by omega)) r2 (by omega) (by omega) (by omega)).mono ?_
          rintro e w' ⟨rfl,rfl⟩; exact ⟨_,rfl,.inr ⟨by decide,_,rfl,by simp⟩,bal _ _⟩
         ·skip
          by_cases dz4 : x3 = 0
          ·have hv : vgetf len x0 x1 x2 x3 = (0,0,1) := by unfold vgetf; rw [if_neg ds0,if_neg do1,if_neg ds1,if_neg dz2,if_neg do2,if_neg ds2,if_neg dz3,if_neg do3,if_neg ds3,if_pos dz4]
           rw [hv]
           refine (get_z4 b off len cap x0 x1 x2 x3 w hlen (by omega) (hc0 (by omega)) r0 (hc1 (by omega)) r1 (hc2 (by omega)) r2 (hc3 (by omega)) (by omega) (by omega) (by omega) (by assumption)).mono ?_
           rintro e w' ⟨rfl,rfl⟩; exact ⟨_,rfl,.inr ⟨by decide,_,rfl,by simp⟩,bal _ _⟩
          ·skip
           by_cases do4 : x3 < 128
           ·have hv : vgetf len x0 x1 x2 x3 = ((x0 - 128) + (x1 - 128) * 128 + (x2 - 128) * 16384 + x3 * 2097152,4,0) := by unfold vgetf; rw [if_neg ds0,if_neg do1,if_neg ds1,if_neg dz2,if_neg do2,if_neg ds2,if_neg dz3,if_neg do3,if_neg ds3,if_neg dz4,if_pos do4]
            rw [hv]
            refine (get_o4 b off len cap x0 x1 x2 x3 w hlen (by omega) (hc0 (by omega)) r0 (hc1 (by omega)) r1 (hc2 (by omega)) r2 (hc3 (by omega)) (by omega) (by omega) (by omega) (by omega) (by omega)).mono ?_
            rintro e w' ⟨rfl,rfl⟩; exact ⟨_,rfl,.inl ⟨rfl,rfl⟩,Below.refl _ _⟩
           ·skip
            have hv : vgetf len x0 x1 x2 x3 = (0,0,1) := by unfold vgetf; rw [if_neg ds0,if_neg do1,if_neg ds1,if_neg dz2,if_neg do2,if_neg ds2,if_neg dz3,if_neg do3,if_neg ds3,if_neg dz4,if_neg do4]
            rw [hv]
            refine (get_l4 b off len cap x0 x1 x2 x3 w hlen (by omega) (hc0 (by omega)) r0 (hc1 (by omega)) r1 (hc2 (by omega)) r2 (hc3 (by omega)) r3 (by omega) (by omega) (by omega) (by omega)).mono ?_
            rintro e w' ⟨rfl,rfl⟩; exact ⟨_,rfl,.inr ⟨by decide,_,rfl,by simp⟩,bal _ _⟩
theorem get_any (v : Value) (bs : List Int) (w : World) (h : Byt w v bs) :
  Calls Tryz.prog 74 #[v] w fun e w' => ∃ E,e = .returned (.tuple #[.int .i64 (vget bs).1,.int .i64 (vget bs).2.1,E]) /\ ErrS w' E (vget bs).2.2 /\ Below w.heap.size w w' := by
 obtain ⟨ao,cap,rfl,hlen,hr,hcase⟩ := h
 rcases hcase with rfl | ⟨b,off,rfl,hc⟩
 ·rw [show vget [] = (0,0,3) from rfl]
  refine (get_s0 ao cap w).mono ?_
  rintro e w' ⟨rfl,rfl⟩; exact ⟨_,rfl,.inr ⟨by decide,_,rfl,by simp⟩,bal _ _⟩
 ·exact get_at b off bs.length cap _ _ _ _ w (Nat.le_trans hlen.1 hlen.2) (hc 0) (hc 1) (hc 2) (hc 3) (hr 0) (hr 1) (hr 2) (hr 3)
end Go.Proofs.YtemedclhglkfjaaGreatDoor.V
namespace Go.Proofs.YtemedclhglkfjaaGreatDoor.V
theorem sz_mono (x y : Int) (h : x <= y) : sz x <= sz y := by
 unfold sz
 split <;> (try split) <;> (try split) <;> (try split) <;> (try split) <;> (try split) <;> omega
theorem sz_bounds (x : Int) : 1 <= sz x /\ sz x <= 4 := by
 unfold sz
 split <;> (try split) <;> (try split) <;> omega
theorem vget_put (x : Int) (h0 : 0 <= x) (h1 : x <= 268435455) (l : List Int) : vget (put x ++ l) = (x,sz x,0) := by
 by_cases a : x < 128
 ·have hp : put x = [x] := by simp [put,a]
  rw [hp,sz1 x a]
  simp only [vget,List.cons_append,List.nil_append,List.length_cons,List.getD_cons_zero,List.getD_cons_succ]
  unfold vgetf
  rw [if_neg (by omega),if_pos a]
 ·by_cases b : x < 16384
  ·have hp : put x = [x % 128 + 128,x / 128] := by unfold put; rw [if_neg (by omega),if_pos (by omega)]
   rw [hp,sz2 x (by omega) b]
   simp only [vget,List.cons_append,List.nil_append,List.length_cons,List.getD_cons_zero,List.getD_cons_succ]
   unfold vgetf
   rw [if_neg (by omega),if_neg (by omega),if_neg (by omega),if_neg (by omega),if_pos (by omega)]
   rw [show x % 128 + 128 - 128 + x / 128 * 128 = x from by omega]
  ·by_cases c : x < 2097152
   ·have hp : put x = [x % 128 + 128,x / 128 % 128 + 128,x / 16384] := by unfold put; rw [if_neg (by omega),if_neg (by omega),if_pos (by omega)]
    rw [hp,sz3 x (by omega) c]
    simp only [vget,List.cons_append,List.nil_append,List.length_cons,List.getD_cons_zero,List.getD_cons_succ]
    unfold vgetf
    rw [if_neg (by omega),if_neg (by omega),if_neg (by omega),if_neg (by omega),if_neg (by omega),if_neg (by omega),if_neg (by omega),if_pos (by omega)]
    rw [show x % 128 + 128 - 128 + (x / 128 % 128 + 128 - 128) * 128 + x / 16384 * 16384 = x from by omega]
   ·have hp : put x = [x % 128 + 128,x / 128 % 128 + 128,x / 16384 % 128 + 128,x / 2097152] := by unfold put; rw [if_neg (by omega),if_neg (by omega),if_neg (by omega)]
    rw [hp,sz4 x (by omega)]
    simp only [vget,List.cons_append,List.nil_append,List.length_cons,List.getD_cons_zero,List.getD_cons_succ]
    unfold vgetf
    rw [if_neg (by omega),if_neg (by omega),if_neg (by omega),if_neg (by omega),if_neg (by omega),if_neg (by omega),if_neg (by omega),if_neg (by omega),if_neg (by omega),if_neg (by omega),if_pos (by omega)]
    rw [show x % 128 + 128 - 128 + (x / 128 % 128 + 128 - 128) * 128 + (x / 16384 % 128 + 128 - 128) * 16384 + x / 2097152 * 2097152 = x from by omega]
theorem short0 : vget [] = (0,0,3) := rfl
theorem short1 (a : Int) (ha : 128 <= a) : vget [a] = (0,0,3) := by
 simp only [vget,List.length_cons,List.length_nil,List.getD_cons_zero,List.getD_cons_succ]
 unfold vgetf
 rw [if_neg (by omega),if_neg (by omega),if_pos (by omega)]
theorem short2 (a b : Int) (ha : 128 <= a) (hb : 128 <= b) : vget [a,b] = (0,0,3) := by
 simp only [vget,List.length_cons,List.length_nil,List.getD_cons_zero,List.getD_cons_succ]
 unfold vgetf
 rw [if_neg (by omega),if_neg (by omega),if_neg (by omega),if_neg (by omega),if_neg (by omega),if_pos (by omega)]
theorem short3 (a b c : Int) (ha : 128 <= a) (hb : 128 <= b) (hc : 128 <= c) : vget [a,b,c] = (0,0,3) := by
 simp only [vget,List.length_cons,List.length_nil,List.getD_cons_zero,List.getD_cons_succ]
 unfold vgetf
 rw [if_neg (by omega),if_neg (by omega),if_neg (by omega),if_neg (by omega),if_neg (by omega),if_neg (by omega),if_neg (by omega),if_neg (by omega),if_pos (by omega)]
theorem vget_short (x : Int) (j : Nat) (hj : j < (put x).length) : vget ((put x).take j) = (0,0,3) := by
 by_cases a : x < 128
 ·have hp : put x = [x] := by simp [put,a]
  rw [hp] at hj |-
  rcases j with _ | j
  ·rfl
  ·simp at hj
 ·by_cases b : x < 16384
  ·have hp : put x = [x % 128 + 128,x / 128] := by unfold put; rw [if_neg (by omega),if_pos (by omega)]
   rw [hp] at hj |-
   rcases j with _ | _ | j
   ·rfl
   ·exact short1 _ (by omega)
   ·simp at hj; omega
  ·by_cases c : x < 2097152
   ·have hp : put x = [x % 128 + 128,x / 128 % 128 + 128,x / 16384] := by unfold put; rw [if_neg (by omega),if_neg (by omega),if_pos (by omega)]
    rw [hp] at hj |-
    rcases j with _ | _ | _ | j
    ·rfl
    ·exact short1 _ (by omega)
    ·exact short2 _ _ (by omega) (by omega)
    ·simp at hj; omega
   ·have hp : put x = [x % 128 + 128,x / 128 % 128 + 128,x / 16384 % 128 + 128,x / 2097152] := by unfold put; rw [if_neg (by omega),if_neg (by omega),if_neg (by omega)]
    rw [hp] at hj |-
    rcases j with _ | _ | _ | _ | j
    ·rfl
    ·exact short1 _ (by omega)
    ·exact short2 _ _ (by omega) (by omega)
    ·exact short3 _ _ _ (by omega) (by omega) (by omega)
    ·simp at hj; omega
def Told (l : List Int) (n k : Int) : Prop := 0 <= n /\ n <= 268435455 /\ ∃ K : Nat,k = K /\ 1 <= K /\ K <= l.length /\ put n = l.take K
theorem vget_ok (l : List Int) (hr : ∀ j,0 <= l.getD j 0 /\ l.getD j 0 <= 255) (n k : Int) (h : vget l = (n,k,0)) : Told l n k := by
 have r0 := hr 0
 have r1 := hr 1
 have r2 := hr 2
 have r3 := hr 3
 match l,r0,r1,r2,r3,h with
 | [],_,_,_,_,h => simp [short0] at h
 | [a],r0,_,_,_,h =>
  simp only [vget,List.length_cons,List.length_nil,List.getD_cons_zero,List.getD_cons_succ] at h r0
  unfold vgetf at h
  rw [if_neg (by omega)] at h
  by_cases d : a < 128
  ·rw [if_pos d] at h
   simp only [Prod.mk.injEq] at h
   obtain ⟨rfl,rfl,_⟩ := h
   exact ⟨by omega,by omega,1,rfl,by omega,by simp,by unfold put; rw [if_pos d]; rfl⟩
  ·rw [if_neg d,if_pos (by omega)] at h
   simp at h
 | [a,b],r0,r1,_,_,h =>
  simp only [vget,List.length_cons,List.length_nil,List.getD_cons_zero,List.getD_cons_succ] at h r0 r1
  unfold vgetf at h
  rw [if_neg (by omega)] at h
  by_cases d : a < 128
  ·rw [if_pos d] at h
   simp only [Prod.mk.injEq] at h
   obtain ⟨rfl,rfl,_⟩ := h
   exact ⟨by omega,by omega,1,rfl,by omega,by simp,by unfold put; rw [if_pos d]; rfl⟩
  ·rw [if_neg d,if_neg (by omega)] at h
   by_cases z : b = 0
   ·rw [if_pos z] at h; simp at h
   ·rw [if_neg z] at h
    by_cases d1 : b < 128
    ·rw [if_pos d1] at h
     simp only [Prod.mk.injEq] at h
     obtain ⟨rfl,rfl,_⟩ := h
     exact ⟨by omega,by omega,2,rfl,by omega,by simp,by
      unfold put; rw [if_neg (by omega),if_pos (by omega),show (a - 128 + b * 128) % 128 + 128 = a from by omega,show (a - 128 + b * 128) / 128 = b from by omega]; rfl⟩
    ·rw [if_neg d1,if_pos (by omega)] at h
     simp at h
 | [a,b,c],r0,r1,r2,_,h =>
  simp only [vget,List.length_cons,List.length_nil,List.getD_cons_zero,List.getD_cons_succ] at h r0 r1 r2
  unfold vgetf at h
  rw [if_neg (by omega)] at h
  by_cases d : a < 128
  ·rw [if_pos d] at h
   simp only [Prod.mk.injEq] at h
   obtain ⟨rfl,rfl,_⟩ := h
   exact ⟨by omega,by omega,1,rfl,by omega,by simp,by unfold put; rw [if_pos d]; rfl⟩
  ·rw [if_neg d,if_neg (by omega)] at h
   by_cases z : b = 0
   ·rw [if_pos z] at h; simp at h
   ·rw [if_neg z] at h
    by_cases d1 : b < 128
    ·rw [if_pos d1] at h
     simp only [Prod.mk.injEq] at h
     obtain ⟨rfl,rfl,_⟩ := h
     exact ⟨by omega,by omega,2,rfl,by omega,by simp,by
      unfold put; rw [if_neg (by omega),if_pos (by omega),show (a - 128 + b * 128) % 128 + 128 = a from by omega,show (a - 128 + b * 128) / 128 = b from by omega]; rfl⟩
    ·rw [if_neg d1,if_neg (by omega)] at h
     by_cases z2 : c = 0
     ·rw [if_pos z2] at h; simp at h
     ·rw [if_neg z2] at h
      by_cases d2 : c < 128
      ·rw [if_pos d2] at h
       simp only [Prod.mk.injEq] at h
       obtain ⟨rfl,rfl,_⟩ := h
       exact ⟨by omega,by omega,3,rfl,by omega,by simp,by
        unfold put; rw [if_neg (by omega),if_neg (by omega),if_pos (by omega),show (a - 128 + (b - 128) * 128 + c * 16384) % 128 + 128 = a from by omega,show (a - 128 + (b - 128) * 128 + c * 16384) / 128 % 128 + 128 = b from by omega,show (a - 128 + (b - 128) * 128 + c * 16384) / 16384 = c from by omega]; rfl⟩
      ·rw [if_neg d2,if_pos (by omega)] at h
       simp at h
 | a :: b :: c :: e :: r,r0,r1,r2,r3,h =>
  simp only [vget,List.length_cons,List.getD_cons_zero,List.getD_cons_succ] at h r0 r1 r2 r3
  unfold vgetf at h
  rw [if_neg (by omega)] at h
  by_cases d : a < 128
  ·rw [if_pos d] at h
   simp only [Prod.mk.injEq] at h
   obtain ⟨rfl,rfl,_⟩ := h
   exact ⟨by omega,by omega,1,rfl,by omega,by simp,by unfold put; rw [if_pos d]; rfl⟩
  ·rw [if_neg d,if_neg (by omega)] at h
   by_cases z : b = 0
   ·rw [if_pos z] at h; simp at h
   ·rw [if_neg z] at h
    by_cases d1 : b < 128
    ·rw [if_pos d1] at h
     simp only [Prod.mk.injEq] at h
     obtain ⟨rfl,rfl,_⟩ := h
     exact ⟨by omega,by omega,2,rfl,by omega,by simp,by
      unfold put; rw [if_neg (by omega),if_pos (by omega),show (a - 128 + b * 128) % 128 + 128 = a from by omega,show (a - 128 + b * 128) / 128 = b from by omega]; rfl⟩
    ·rw [if_neg d1,if_neg (by omega)] at h
     by_cases z2 : c = 0
     ·rw [if_pos z2] at h; simp at h
     ·rw [if_neg z2] at h
      by_cases d2 : c < 128
      ·rw [if_pos d2] at h
       simp only [Prod.mk.injEq] at h
       obtain ⟨rfl,rfl,_⟩ := h
       exact ⟨by omega,by omega,3,rfl,by omega,by simp,by
        unfold put; rw [if_neg (by omega),if_neg (by omega),if_pos (by omega),show (a - 128 + (b - 128) * 128 + c * 16384) % 128 + 128 = a from by omega,show (a - 128 + (b - 128) * 128 + c * 16384) / 128 % 128 + 128 = b from by omega,show (a - 128 + (b - 128) * 128 + c * 16384) / 16384 = c from by omega]; rfl⟩
      ·rw [if_neg d2,if_neg (by omega)] at h
       by_cases z3 : e = 0
       ·rw [if_pos z3] at h; simp at h
       ·rw [if_neg z3] at h
        by_cases d3 : e < 128
        ·rw [if_pos d3] at h
         simp only [Prod.mk.injEq] at h
         obtain ⟨rfl,rfl,_⟩ := h
         exact ⟨by omega,by omega,4,rfl,by omega,by simp,by
          unfold put; rw [if_neg (by omega),if_neg (by omega),if_neg (by omega),show (a - 128 + (b - 128) * 128 + (c - 128) * 16384 + e * 2097152) % 128 + 128 = a from by omega,show (a - 128 + (b - 128) * 128 + (c - 128) * 16384 + e * 2097152) / 128 % 128 + 128 = b from by omega,show (a - 128 + (b - 128) * 128 + (c - 128) * 16384 + e * 2097152) / 16384 % 128 + 128 = c from by omega,show (a - 128 + (b - 128) * 128 + (c - 128) * 16384 + e * 2097152) / 2097152 = e from by omega]; rfl⟩
        ·rw [if_neg d3] at h
         simp at h
end Go.Proofs.YtemedclhglkfjaaGreatDoor.V
