/- Proved here: helpers, one text behind the other. -/
import Derived.Test.YtgdfnopnmdjklaaGreatDoorM2
import Derived.Test.YtgdfnopnmdjklaaGreatDoorM1
import Derived.Laws.BitsAllLaws
import Derived.Handy
import Derived.Deep.RegionHeld3
/- Proved here: varint.Get tells the number with whose bytes any bytes begin and how many they are, or a Fault around ErrShort or ErrForm; dovecoteref1.Get tells the same. Helper contracts. -/
namespace Go.Proofs.YtgdfnopnmdjklaaGreatDoor.V
open Go.RowKit
set_option maxRecDepth 100000

theorem ofInt_64 (a : Nat) (ha : a < 18446744073709551616) : (BitVec.ofInt 64 (a : Int)).toNat = a := by
  rw [BitVec.ofInt_natCast, BitVec.toNat_ofNat]; exact Nat.mod_eq_of_lt (by omega)
theorem i64_or_nat (a b : Nat) (ha : a < 4611686018427387904) (hb : b < 4611686018427387904) : bits .or .i64 (a : Int) (b : Int) = ((a ||| b : Nat) : Int) := by
  have hx : a ||| b < 2 ^ 62 := Nat.or_lt_two_pow (by omega) (by omega)
  show IntKind.i64.wrap ((BitVec.ofInt 64 (a : Int) ||| BitVec.ofInt 64 (b : Int)).toNat : Int) = _
  rw [BitVec.toNat_or, ofInt_64 a (by omega), ofInt_64 b (by omega), IntKind.wrap_i64]
  omega
theorem or_hi (i : Nat) (x y : Int) (hx0 : 0 ≤ x) (hx1 : x < 4611686018427387904) (hy0 : 0 ≤ y) (hy1 : y < 4611686018427387904) (hm : x.toNat % 2 ^ i = 0) (hy : y.toNat < 2 ^ i) : bits .or .i64 x y = x + y := by
  obtain ⟨a, rfl⟩ := Int.eq_ofNat_of_zero_le hx0
  obtain ⟨b, rfl⟩ := Int.eq_ofNat_of_zero_le hy0
  rw [i64_or_nat a b (by omega) (by omega), nat_join i a b (by simpa using hm) (by simpa using hy)]
  omega
theorem or_lo (i : Nat) (x y : Int) (hx0 : 0 ≤ x) (hx1 : x < 4611686018427387904) (hy0 : 0 ≤ y) (hy1 : y < 4611686018427387904) (hm : y.toNat % 2 ^ i = 0) (hx : x.toNat < 2 ^ i) : bits .or .i64 x y = x + y := by
  obtain ⟨a, rfl⟩ := Int.eq_ofNat_of_zero_le hx0
  obtain ⟨b, rfl⟩ := Int.eq_ofNat_of_zero_le hy0
  rw [i64_or_nat a b (by omega) (by omega), Nat.or_comm, nat_join i b a (by simpa using hm) (by simpa using hx)]
  omega
theorem or_zero (y : Int) (hy0 : 0 ≤ y) (hy1 : y < 4611686018427387904) : bits .or .i64 0 y = y := by
  rw [or_lo 0 0 y (by omega) (by omega) hy0 hy1 (by omega) (by decide)]; omega
theorem and128_hi (x : Int) (h0 : 128 ≤ x) (h1 : x ≤ 255) : bits .and .u8 x 128 = 128 := by
  rw [and128 x (by omega) (by omega), if_neg (by omega)]
theorem and128_lo (x : Int) (h0 : 0 ≤ x) (h1 : x < 128) : bits .and .u8 x 128 = 0 := by
  rw [and128 x (by omega) (by omega), if_pos (by omega)]
theorem and127_hi (x : Int) (h0 : 128 ≤ x) (h1 : x ≤ 255) : bits .and .u8 x 127 = x - 128 := by
  rw [and127 x (by omega) (by omega)]; omega
theorem and127_lo (x : Int) (h0 : 0 ≤ x) (h1 : x < 128) : bits .and .u8 x 127 = x := by
  rw [and127 x (by omega) (by omega)]; omega

theorem meas_s0 (ao : Option Addr) (cap : Nat) (w : World) :
    Calls Tryz.prog 32 #[.slice ao 0 cap] w fun e w' => e = .returned (.tuple #[.int .i64 0, .iface 64 (.pointer (some ⟨w.heap.size, 0, none⟩))]) ∧ w' = w.alloc (.cells #[.string ⟨#[118, 97, 114, 105, 110, 116]⟩, .iface 40 (.int .i64 3)] 66) := by
  go_enter Tryz.func32, Tryz.ntmps32
  go_wp2
  refine wp_loop_rounds 1 ?_
  rw [rounds_succ]
  go_wp2_with (go_at_call 60; refine (fault_any _ _).mono ?_; rintro e w' ⟨rfl, rfl⟩)
  go_ret2
  exact ⟨rfl, rfl⟩

theorem meas_o1 (b off len cap : Nat) (x0 : Int) (w : World) (hlen : len ≤ maxLen) (hl : 0 < len) (c0 : w.cell? ⟨b, off, none⟩ = some (.int .u8 x0)) (p0 : 0 ≤ x0) (p1 : x0 < 128) :
    Calls Tryz.prog 32 #[.slice (some ⟨b, off, none⟩) len cap] w fun e w' => e = .returned (.tuple #[.int .i64 1, .nilIface]) ∧ w' = w := by
  unfold maxLen at hlen
  have k0 := and128_lo x0 (by omega) p1
  go_enter Tryz.func32, Tryz.ntmps32
  go_wp2
  refine wp_loop_rounds 1 ?_
  rw [rounds_succ]
  go_wp2
  go_ret2
  exact ⟨rfl, rfl⟩

theorem meas_s1 (b off len cap : Nat) (x0 : Int) (w : World) (hlen : len ≤ maxLen) (hl : len = 1) (c0 : w.cell? ⟨b, off, none⟩ = some (.int .u8 x0)) (r0 : 0 ≤ x0 ∧ x0 ≤ 255) (g0 : 128 ≤ x0) :
    Calls Tryz.prog 32 #[.slice (some ⟨b, off, none⟩) len cap] w fun e w' => e = .returned (.tuple #[.int .i64 0, .iface 64 (.pointer (some ⟨w.heap.size, 0, none⟩))]) ∧ w' = w.alloc (.cells #[.string ⟨#[118, 97, 114, 105, 110, 116]⟩, .iface 40 (.int .i64 3)] 66) := by
  unfold maxLen at hlen
  have k0 := and128_hi x0 g0 r0.2
  subst hl
  go_enter Tryz.func32, Tryz.ntmps32
  go_wp2
  refine wp_loop_rounds 2 ?_
  rw [rounds_succ]
  go_wp2
  rw [rounds_succ]
  go_wp2_with (go_at_call 60; refine (fault_any _ _).mono ?_; rintro e w' ⟨rfl, rfl⟩)
  go_ret2
  exact ⟨rfl, rfl⟩

theorem meas_z2 (b off len cap : Nat) (x0 x1 : Int) (w : World) (hlen : len ≤ maxLen) (hl : 1 < len) (c0 : w.cell? ⟨b, off, none⟩ = some (.int .u8 x0)) (r0 : 0 ≤ x0 ∧ x0 ≤ 255) (c1 : w.cell? ⟨b, off + 1, none⟩ = some (.int .u8 x1)) (g0 : 128 ≤ x0) (p0 : x1 = 0) :
    Calls Tryz.prog 32 #[.slice (some ⟨b, off, none⟩) len cap] w fun e w' => e = .returned (.tuple #[.int .i64 0, .iface 64 (.pointer (some ⟨w.heap.size, 0, none⟩))]) ∧ w' = w.alloc (.cells #[.string ⟨#[118, 97, 114, 105, 110, 116]⟩, .iface 40 (.int .i64 1)] 66) := by
  unfold maxLen at hlen
  have k0 := and128_hi x0 g0 r0.2
  subst p0
  have k1 := and128_lo 0 (by omega) (by omega)
  go_enter Tryz.func32, Tryz.ntmps32
  go_wp2
  refine wp_loop_rounds 2 ?_
  rw [rounds_succ]
  go_wp2
  rw [rounds_succ]
  go_wp2_with (go_at_call 60; refine (fault_any _ _).mono ?_; rintro e w' ⟨rfl, rfl⟩)
  go_ret2
  exact ⟨rfl, rfl⟩

theorem meas_o2 (b off len cap : Nat) (x0 x1 : Int) (w : World) (hlen : len ≤ maxLen) (hl : 1 < len) (c0 : w.cell? ⟨b, off, none⟩ = some (.int .u8 x0)) (r0 : 0 ≤ x0 ∧ x0 ≤ 255) (c1 : w.cell? ⟨b, off + 1, none⟩ = some (.int .u8 x1)) (g0 : 128 ≤ x0) (p0 : 1 ≤ x1) (p1 : x1 < 128) :
    Calls Tryz.prog 32 #[.slice (some ⟨b, off, none⟩) len cap] w fun e w' => e = .returned (.tuple #[.int .i64 2, .nilIface]) ∧ w' = w := by
  unfold maxLen at hlen
  have k0 := and128_hi x0 g0 r0.2
  have k1 := and128_lo x1 (by omega) p1
  go_enter Tryz.func32, Tryz.ntmps32
  go_wp2
  refine wp_loop_rounds 2 ?_
  rw [rounds_succ]
  go_wp2
  rw [rounds_succ]
  go_wp2
  go_ret2
  exact ⟨rfl, rfl⟩

theorem meas_s2 (b off len cap : Nat) (x0 x1 : Int) (w : World) (hlen : len ≤ maxLen) (hl : len = 2) (c0 : w.cell? ⟨b, off, none⟩ = some (.int .u8 x0)) (r0 : 0 ≤ x0 ∧ x0 ≤ 255) (c1 : w.cell? ⟨b, off + 1, none⟩ = some (.int .u8 x1)) (r1 : 0 ≤ x1 ∧ x1 ≤ 255) (g0 : 128 ≤ x0) (g1 : 128 ≤ x1) :
    Calls Tryz.prog 32 #[.slice (some ⟨b, off, none⟩) len cap] w fun e w' => e = .returned (.tuple #[.int .i64 0, .iface 64 (.pointer (some ⟨w.heap.size, 0, none⟩))]) ∧ w' = w.alloc (.cells #[.string ⟨#[118, 97, 114, 105, 110, 116]⟩, .iface 40 (.int .i64 3)] 66) := by
  unfold maxLen at hlen
  have k0 := and128_hi x0 g0 r0.2
  have k1 := and128_hi x1 g1 r1.2
  subst hl
  go_enter Tryz.func32, Tryz.ntmps32
  go_wp2
  refine wp_loop_rounds 3 ?_
  rw [rounds_succ]
  go_wp2
  rw [rounds_succ]
  go_wp2
  rw [rounds_succ]
  go_wp2_with (go_at_call 60; refine (fault_any _ _).mono ?_; rintro e w' ⟨rfl, rfl⟩)
  go_ret2
  exact ⟨rfl, rfl⟩

theorem meas_z3 (b off len cap : Nat) (x0 x1 x2 : Int) (w : World) (hlen : len ≤ maxLen) (hl : 2 < len) (c0 : w.cell? ⟨b, off, none⟩ = some (.int .u8 x0)) (r0 : 0 ≤ x0 ∧ x0 ≤ 255) (c1 : w.cell? ⟨b, off + 1, none⟩ = some (.int .u8 x1)) (r1 : 0 ≤ x1 ∧ x1 ≤ 255) (c2 : w.cell? ⟨b, off + 2, none⟩ = some (.int .u8 x2)) (g0 : 128 ≤ x0) (g1 : 128 ≤ x1) (p0 : x2 = 0) :
    Calls Tryz.prog 32 #[.slice (some ⟨b, off, none⟩) len cap] w fun e w' => e = .returned (.tuple #[.int .i64 0, .iface 64 (.pointer (some ⟨w.heap.size, 0, none⟩))]) ∧ w' = w.alloc (.cells #[.string ⟨#[118, 97, 114, 105, 110, 116]⟩, .iface 40 (.int .i64 1)] 66) := by
  unfold maxLen at hlen
  have k0 := and128_hi x0 g0 r0.2
  have k1 := and128_hi x1 g1 r1.2
  subst p0
  have k2 := and128_lo 0 (by omega) (by omega)
  go_enter Tryz.func32, Tryz.ntmps32
  go_wp2
  refine wp_loop_rounds 3 ?_
  rw [rounds_succ]
  go_wp2
  rw [rounds_succ]
  go_wp2
  rw [rounds_succ]
  go_wp2_with (go_at_call 60; refine (fault_any _ _).mono ?_; rintro e w' ⟨rfl, rfl⟩)
  go_ret2
  exact ⟨rfl, rfl⟩

theorem meas_o3 (b off len cap : Nat) (x0 x1 x2 : Int) (w : World) (hlen : len ≤ maxLen) (hl : 2 < len) (c0 : w.cell? ⟨b, off, none⟩ = some (.int .u8 x0)) (r0 : 0 ≤ x0 ∧ x0 ≤ 255) (c1 : w.cell? ⟨b, off + 1, none⟩ = some (.int .u8 x1)) (r1 : 0 ≤ x1 ∧ x1 ≤ 255) (c2 : w.cell? ⟨b, off + 2, none⟩ = some (.int .u8 x2)) (g0 : 128 ≤ x0) (g1 : 128 ≤ x1) (p0 : 1 ≤ x2) (p1 : x2 < 128) :
    Calls Tryz.prog 32 #[.slice (some ⟨b, off, none⟩) len cap] w fun e w' => e = .returned (.tuple #[.int .i64 3, .nilIface]) ∧ w' = w := by
  unfold maxLen at hlen
  have k0 := and128_hi x0 g0 r0.2
  have k1 := and128_hi x1 g1 r1.2
  have k2 := and128_lo x2 (by omega) p1
  go_enter Tryz.func32, Tryz.ntmps32
  go_wp2
  refine wp_loop_rounds 3 ?_
  rw [rounds_succ]
  go_wp2
  rw [rounds_succ]
  go_wp2
  rw [rounds_succ]
  go_wp2
  go_ret2
  exact ⟨rfl, rfl⟩

theorem meas_s3 (b off len cap : Nat) (x0 x1 x2 : Int) (w : World) (hlen : len ≤ maxLen) (hl : len = 3) (c0 : w.cell? ⟨b, off, none⟩ = some (.int .u8 x0)) (r0 : 0 ≤ x0 ∧ x0 ≤ 255) (c1 : w.cell? ⟨b, off + 1, none⟩ = some (.int .u8 x1)) (r1 : 0 ≤ x1 ∧ x1 ≤ 255) (c2 : w.cell? ⟨b, off + 2, none⟩ = some (.int .u8 x2)) (r2 : 0 ≤ x2 ∧ x2 ≤ 255) (g0 : 128 ≤ x0) (g1 : 128 ≤ x1) (g2 : 128 ≤ x2) :
    Calls Tryz.prog 32 #[.slice (some ⟨b, off, none⟩) len cap] w fun e w' => e = .returned (.tuple #[.int .i64 0, .iface 64 (.pointer (some ⟨w.heap.size, 0, none⟩))]) ∧ w' = w.alloc (.cells #[.string ⟨#[118, 97, 114, 105, 110, 116]⟩, .iface 40 (.int .i64 3)] 66) := by
  unfold maxLen at hlen
  have k0 := and128_hi x0 g0 r0.2
  have k1 := and128_hi x1 g1 r1.2
  have k2 := and128_hi x2 g2 r2.2
  subst hl
  go_enter Tryz.func32, Tryz.ntmps32
  go_wp2
  refine wp_loop_rounds 4 ?_
  rw [rounds_succ]
  go_wp2
  rw [rounds_succ]
  go_wp2
  rw [rounds_succ]
  go_wp2
  rw [rounds_succ]
  go_wp2_with (go_at_call 60; refine (fault_any _ _).mono ?_; rintro e w' ⟨rfl, rfl⟩)
  go_ret2
  exact ⟨rfl, rfl⟩

theorem meas_z4 (b off len cap : Nat) (x0 x1 x2 x3 : Int) (w : World) (hlen : len ≤ maxLen) (hl : 3 < len) (c0 : w.cell? ⟨b, off, none⟩ = some (.int .u8 x0)) (r0 : 0 ≤ x0 ∧ x0 ≤ 255) (c1 : w.cell? ⟨b, off + 1, none⟩ = some (.int .u8 x1)) (r1 : 0 ≤ x1 ∧ x1 ≤ 255) (c2 : w.cell? ⟨b, off + 2, none⟩ = some (.int .u8 x2)) (r2 : 0 ≤ x2 ∧ x2 ≤ 255) (c3 : w.cell? ⟨b, off + 3, none⟩ = some (.int .u8 x3)) (g0 : 128 ≤ x0) (g1 : 128 ≤ x1) (g2 : 128 ≤ x2) (p0 : x3 = 0) :
    Calls Tryz.prog 32 #[.slice (some ⟨b, off, none⟩) len cap] w fun e w' => e = .returned (.tuple #[.int .i64 0, .iface 64 (.pointer (some ⟨w.heap.size, 0, none⟩))]) ∧ w' = w.alloc (.cells #[.string ⟨#[118, 97, 114, 105, 110, 116]⟩, .iface 40 (.int .i64 1)] 66) := by
  unfold maxLen at hlen
  have k0 := and128_hi x0 g0 r0.2
  have k1 := and128_hi x1 g1 r1.2
  have k2 := and128_hi x2 g2 r2.2
  subst p0
  have k3 := and128_lo 0 (by omega) (by omega)
  go_enter Tryz.func32, Tryz.ntmps32
  go_wp2
  refine wp_loop_rounds 4 ?_
  rw [rounds_succ]
  go_wp2
  rw [rounds_succ]
  go_wp2
  rw [rounds_succ]
  go_wp2
  rw [rounds_succ]
  go_wp2_with (go_at_call 60; refine (fault_any _ _).mono ?_; rintro e w' ⟨rfl, rfl⟩)
  go_ret2
  exact ⟨rfl, rfl⟩

theorem meas_o4 (b off len cap : Nat) (x0 x1 x2 x3 : Int) (w : World) (hlen : len ≤ maxLen) (hl : 3 < len) (c0 : w.cell? ⟨b, off, none⟩ = some (.int .u8 x0)) (r0 : 0 ≤ x0 ∧ x0 ≤ 255) (c1 : w.cell? ⟨b, off + 1, none⟩ = some (.int .u8 x1)) (r1 : 0 ≤ x1 ∧ x1 ≤ 255) (c2 : w.cell? ⟨b, off + 2, none⟩ = some (.int .u8 x2)) (r2 : 0 ≤ x2 ∧ x2 ≤ 255) (c3 : w.cell? ⟨b, off + 3, none⟩ = some (.int .u8 x3)) (g0 : 128 ≤ x0) (g1 : 128 ≤ x1) (g2 : 128 ≤ x2) (p0 : 1 ≤ x3) (p1 : x3 < 128) :
    Calls Tryz.prog 32 #[.slice (some ⟨b, off, none⟩) len cap] w fun e w' => e = .returned (.tuple #[.int .i64 4, .nilIface]) ∧ w' = w := by
  unfold maxLen at hlen
  have k0 := and128_hi x0 g0 r0.2
  have k1 := and128_hi x1 g1 r1.2
  have k2 := and128_hi x2 g2 r2.2
  have k3 := and128_lo x3 (by omega) p1
  go_enter Tryz.func32, Tryz.ntmps32
  go_wp2
  refine wp_loop_rounds 4 ?_
  rw [rounds_succ]
  go_wp2
  rw [rounds_succ]
  go_wp2
  rw [rounds_succ]
  go_wp2
  rw [rounds_succ]
  go_wp2
  go_ret2
  exact ⟨rfl, rfl⟩

theorem meas_l4 (b off len cap : Nat) (x0 x1 x2 x3 : Int) (w : World) (hlen : len ≤ maxLen) (hl : 3 < len) (c0 : w.cell? ⟨b, off, none⟩ = some (.int .u8 x0)) (r0 : 0 ≤ x0 ∧ x0 ≤ 255) (c1 : w.cell? ⟨b, off + 1, none⟩ = some (.int .u8 x1)) (r1 : 0 ≤ x1 ∧ x1 ≤ 255) (c2 : w.cell? ⟨b, off + 2, none⟩ = some (.int .u8 x2)) (r2 : 0 ≤ x2 ∧ x2 ≤ 255) (c3 : w.cell? ⟨b, off + 3, none⟩ = some (.int .u8 x3)) (r3 : 0 ≤ x3 ∧ x3 ≤ 255) (g0 : 128 ≤ x0) (g1 : 128 ≤ x1) (g2 : 128 ≤ x2) (g3 : 128 ≤ x3) :
    Calls Tryz.prog 32 #[.slice (some ⟨b, off, none⟩) len cap] w fun e w' => e = .returned (.tuple #[.int .i64 0, .iface 64 (.pointer (some ⟨w.heap.size, 0, none⟩))]) ∧ w' = w.alloc (.cells #[.string ⟨#[118, 97, 114, 105, 110, 116]⟩, .iface 40 (.int .i64 1)] 66) := by
  unfold maxLen at hlen
  have k0 := and128_hi x0 g0 r0.2
  have k1 := and128_hi x1 g1 r1.2
  have k2 := and128_hi x2 g2 r2.2
  have k3 := and128_hi x3 g3 r3.2
  go_enter Tryz.func32, Tryz.ntmps32
  go_wp2
  refine wp_loop_rounds 5 ?_
  rw [rounds_succ]
  go_wp2
  rw [rounds_succ]
  go_wp2
  rw [rounds_succ]
  go_wp2
  rw [rounds_succ]
  go_wp2
  rw [rounds_succ]
  go_wp2_with (go_at_call 60; refine (fault_any _ _).mono ?_; rintro e w' ⟨rfl, rfl⟩)
  go_ret2
  exact ⟨rfl, rfl⟩

theorem get_s0 (ao : Option Addr) (cap : Nat) (w : World) :
    Calls Tryz.prog 17 #[.slice ao 0 cap] w fun e w' => e = .returned (.tuple #[.int .i64 0, .int .i64 0, .iface 64 (.pointer (some ⟨w.heap.size, 0, none⟩))]) ∧ w' = w.alloc (.cells #[.string ⟨#[118, 97, 114, 105, 110, 116]⟩, .iface 40 (.int .i64 3)] 66) := by
  have HM := hide (meas_s0 ao cap w)
  go_enter Tryz.func17, Tryz.ntmps17
  go_wp2_with (go_at_call 32; refine (unhide HM).mono ?_; rintro e w' ⟨rfl, rfl⟩)
  go_ret3
  exact ⟨rfl, rfl⟩

theorem get_o1 (b off len cap : Nat) (x0 : Int) (w : World) (hlen : len ≤ maxLen) (hl : 0 < len) (c0 : w.cell? ⟨b, off, none⟩ = some (.int .u8 x0)) (p0 : 0 ≤ x0) (p1 : x0 < 128) :
    Calls Tryz.prog 17 #[.slice (some ⟨b, off, none⟩) len cap] w fun e w' => e = .returned (.tuple #[.int .i64 (x0), .int .i64 1, .nilIface]) ∧ w' = w := by
  have HM := hide (meas_o1 b off len cap x0 w hlen hl c0 p0 p1)
  unfold maxLen at hlen
  have k0 := and127_lo x0 (by omega) p1
  go_enter Tryz.func17, Tryz.ntmps17
  go_wp2_with (go_at_call 32; refine (unhide HM).mono ?_; rintro e w' ⟨rfl, rfl⟩)
  go_ret3
  refine ⟨congrArg (fun z : Int => Ending.returned (.tuple #[.int .i64 z, .int .i64 1, .nilIface])) ?_, rfl⟩
  rw [or_zero (x0) (by omega) (by omega)]

theorem get_s1 (b off len cap : Nat) (x0 : Int) (w : World) (hlen : len ≤ maxLen) (hl : len = 1) (c0 : w.cell? ⟨b, off, none⟩ = some (.int .u8 x0)) (r0 : 0 ≤ x0 ∧ x0 ≤ 255) (g0 : 128 ≤ x0) :
    Calls Tryz.prog 17 #[.slice (some ⟨b, off, none⟩) len cap] w fun e w' => e = .returned (.tuple #[.int .i64 0, .int .i64 0, .iface 64 (.pointer (some ⟨w.heap.size, 0, none⟩))]) ∧ w' = w.alloc (.cells #[.string ⟨#[118, 97, 114, 105, 110, 116]⟩, .iface 40 (.int .i64 3)] 66) := by
  have HM := hide (meas_s1 b off len cap x0 w hlen hl c0 r0 g0)
  unfold maxLen at hlen
  subst hl
  go_enter Tryz.func17, Tryz.ntmps17
  go_wp2_with (go_at_call 32; refine (unhide HM).mono ?_; rintro e w' ⟨rfl, rfl⟩)
  go_ret3
  exact ⟨rfl, rfl⟩

theorem get_z2 (b off len cap : Nat) (x0 x1 : Int) (w : World) (hlen : len ≤ maxLen) (hl : 1 < len) (c0 : w.cell? ⟨b, off, none⟩ = some (.int .u8 x0)) (r0 : 0 ≤ x0 ∧ x0 ≤ 255) (c1 : w.cell? ⟨b, off + 1, none⟩ = some (.int .u8 x1)) (g0 : 128 ≤ x0) (p0 : x1 = 0) :
    Calls Tryz.prog 17 #[.slice (some ⟨b, off, none⟩) len cap] w fun e w' => e = .returned (.tuple #[.int .i64 0, .int .i64 0, .iface 64 (.pointer (some ⟨w.heap.size, 0, none⟩))]) ∧ w' = w.alloc (.cells #[.string ⟨#[118, 97, 114, 105, 110, 116]⟩, .iface 40 (.int .i64 1)] 66) := by
  have HM := hide (meas_z2 b off len cap x0 x1 w hlen hl c0 r0 c1 g0 p0)
  unfold maxLen at hlen
  subst p0
  go_enter Tryz.func17, Tryz.ntmps17
  go_wp2_with (go_at_call 32; refine (unhide HM).mono ?_; rintro e w' ⟨rfl, rfl⟩)
  go_ret3
  exact ⟨rfl, rfl⟩

theorem get_o2 (b off len cap : Nat) (x0 x1 : Int) (w : World) (hlen : len ≤ maxLen) (hl : 1 < len) (c0 : w.cell? ⟨b, off, none⟩ = some (.int .u8 x0)) (r0 : 0 ≤ x0 ∧ x0 ≤ 255) (c1 : w.cell? ⟨b, off + 1, none⟩ = some (.int .u8 x1)) (g0 : 128 ≤ x0) (p0 : 1 ≤ x1) (p1 : x1 < 128) :
    Calls Tryz.prog 17 #[.slice (some ⟨b, off, none⟩) len cap] w fun e w' => e = .returned (.tuple #[.int .i64 ((x0 - 128) + x1 * 128), .int .i64 2, .nilIface]) ∧ w' = w := by
  have HM := hide (meas_o2 b off len cap x0 x1 w hlen hl c0 r0 c1 g0 p0 p1)
  unfold maxLen at hlen
  have k0 := and127_hi x0 g0 r0.2
  have k1 := and127_lo x1 (by omega) p1
  go_enter Tryz.func17, Tryz.ntmps17
  go_wp2_with (go_at_call 32; refine (unhide HM).mono ?_; rintro e w' ⟨rfl, rfl⟩)
  go_ret3
  refine ⟨congrArg (fun z : Int => Ending.returned (.tuple #[.int .i64 z, .int .i64 2, .nilIface])) ?_, rfl⟩
  rw [or_zero (x1 * 128) (by omega) (by omega), or_hi 7 (x1 * 128) ((x0 - 128)) (by omega) (by omega) (by omega) (by omega) (by omega) (by omega)]
  omega

theorem get_s2 (b off len cap : Nat) (x0 x1 : Int) (w : World) (hlen : len ≤ maxLen) (hl : len = 2) (c0 : w.cell? ⟨b, off, none⟩ = some (.int .u8 x0)) (r0 : 0 ≤ x0 ∧ x0 ≤ 255) (c1 : w.cell? ⟨b, off + 1, none⟩ = some (.int .u8 x1)) (r1 : 0 ≤ x1 ∧ x1 ≤ 255) (g0 : 128 ≤ x0) (g1 : 128 ≤ x1) :
    Calls Tryz.prog 17 #[.slice (some ⟨b, off, none⟩) len cap] w fun e w' => e = .returned (.tuple #[.int .i64 0, .int .i64 0, .iface 64 (.pointer (some ⟨w.heap.size, 0, none⟩))]) ∧ w' = w.alloc (.cells #[.string ⟨#[118, 97, 114, 105, 110, 116]⟩, .iface 40 (.int .i64 3)] 66) := by
  have HM := hide (meas_s2 b off len cap x0 x1 w hlen hl c0 r0 c1 r1 g0 g1)
  unfold maxLen at hlen
  subst hl
  go_enter Tryz.func17, Tryz.ntmps17
  go_wp2_with (go_at_call 32; refine (unhide HM).mono ?_; rintro e w' ⟨rfl, rfl⟩)
  go_ret3
  exact ⟨rfl, rfl⟩

theorem get_z3 (b off len cap : Nat) (x0 x1 x2 : Int) (w : World) (hlen : len ≤ maxLen) (hl : 2 < len) (c0 : w.cell? ⟨b, off, none⟩ = some (.int .u8 x0)) (r0 : 0 ≤ x0 ∧ x0 ≤ 255) (c1 : w.cell? ⟨b, off + 1, none⟩ = some (.int .u8 x1)) (r1 : 0 ≤ x1 ∧ x1 ≤ 255) (c2 : w.cell? ⟨b, off + 2, none⟩ = some (.int .u8 x2)) (g0 : 128 ≤ x0) (g1 : 128 ≤ x1) (p0 : x2 = 0) :
    Calls Tryz.prog 17 #[.slice (some ⟨b, off, none⟩) len cap] w fun e w' => e = .returned (.tuple #[.int .i64 0, .int .i64 0, .iface 64 (.pointer (some ⟨w.heap.size, 0, none⟩))]) ∧ w' = w.alloc (.cells #[.string ⟨#[118, 97, 114, 105, 110, 116]⟩, .iface 40 (.int .i64 1)] 66) := by
  have HM := hide (meas_z3 b off len cap x0 x1 x2 w hlen hl c0 r0 c1 r1 c2 g0 g1 p0)
  unfold maxLen at hlen
  subst p0
  go_enter Tryz.func17, Tryz.ntmps17
  go_wp2_with (go_at_call 32; refine (unhide HM).mono ?_; rintro e w' ⟨rfl, rfl⟩)
  go_ret3
  exact ⟨rfl, rfl⟩

theorem get_o3 (b off len cap : Nat) (x0 x1 x2 : Int) (w : World) (hlen : len ≤ maxLen) (hl : 2 < len) (c0 : w.cell? ⟨b, off, none⟩ = some (.int .u8 x0)) (r0 : 0 ≤ x0 ∧ x0 ≤ 255) (c1 : w.cell? ⟨b, off + 1, none⟩ = some (.int .u8 x1)) (r1 : 0 ≤ x1 ∧ x1 ≤ 255) (c2 : w.cell? ⟨b, off + 2, none⟩ = some (.int .u8 x2)) (g0 : 128 ≤ x0) (g1 : 128 ≤ x1) (p0 : 1 ≤ x2) (p1 : x2 < 128) :
    Calls Tryz.prog 17 #[.slice (some ⟨b, off, none⟩) len cap] w fun e w' => e = .returned (.tuple #[.int .i64 ((x0 - 128) + (x1 - 128) * 128 + x2 * 16384), .int .i64 3, .nilIface]) ∧ w' = w := by
  have HM := hide (meas_o3 b off len cap x0 x1 x2 w hlen hl c0 r0 c1 r1 c2 g0 g1 p0 p1)
  unfold maxLen at hlen
  have k0 := and127_hi x0 g0 r0.2
  have k1 := and127_hi x1 g1 r1.2
  have k2 := and127_lo x2 (by omega) p1
  go_enter Tryz.func17, Tryz.ntmps17
  go_wp2_with (go_at_call 32; refine (unhide HM).mono ?_; rintro e w' ⟨rfl, rfl⟩)
  go_ret3
  refine ⟨congrArg (fun z : Int => Ending.returned (.tuple #[.int .i64 z, .int .i64 3, .nilIface])) ?_, rfl⟩
  rw [or_zero (x2 * 16384) (by omega) (by omega), or_hi 14 (x2 * 16384) ((x1 - 128) * 128) (by omega) (by omega) (by omega) (by omega) (by omega) (by omega), or_hi 7 (x2 * 16384 + (x1 - 128) * 128) ((x0 - 128)) (by omega) (by omega) (by omega) (by omega) (by omega) (by omega)]
  omega

theorem get_s3 (b off len cap : Nat) (x0 x1 x2 : Int) (w : World) (hlen : len ≤ maxLen) (hl : len = 3) (c0 : w.cell? ⟨b, off, none⟩ = some (.int .u8 x0)) (r0 : 0 ≤ x0 ∧ x0 ≤ 255) (c1 : w.cell? ⟨b, off + 1, none⟩ = some (.int .u8 x1)) (r1 : 0 ≤ x1 ∧ x1 ≤ 255) (c2 : w.cell? ⟨b, off + 2, none⟩ = some (.int .u8 x2)) (r2 : 0 ≤ x2 ∧ x2 ≤ 255) (g0 : 128 ≤ x0) (g1 : 128 ≤ x1) (g2 : 128 ≤ x2) :
    Calls Tryz.prog 17 #[.slice (some ⟨b, off, none⟩) len cap] w fun e w' => e = .returned (.tuple #[.int .i64 0, .int .i64 0, .iface 64 (.pointer (some ⟨w.heap.size, 0, none⟩))]) ∧ w' = w.alloc (.cells #[.string ⟨#[118, 97, 114, 105, 110, 116]⟩, .iface 40 (.int .i64 3)] 66) := by
  have HM := hide (meas_s3 b off len cap x0 x1 x2 w hlen hl c0 r0 c1 r1 c2 r2 g0 g1 g2)
  unfold maxLen at hlen
  subst hl
  go_enter Tryz.func17, Tryz.ntmps17
  go_wp2_with (go_at_call 32; refine (unhide HM).mono ?_; rintro e w' ⟨rfl, rfl⟩)
  go_ret3
  exact ⟨rfl, rfl⟩

theorem get_z4 (b off len cap : Nat) (x0 x1 x2 x3 : Int) (w : World) (hlen : len ≤ maxLen) (hl : 3 < len) (c0 : w.cell? ⟨b, off, none⟩ = some (.int .u8 x0)) (r0 : 0 ≤ x0 ∧ x0 ≤ 255) (c1 : w.cell? ⟨b, off + 1, none⟩ = some (.int .u8 x1)) (r1 : 0 ≤ x1 ∧ x1 ≤ 255) (c2 : w.cell? ⟨b, off + 2, none⟩ = some (.int .u8 x2)) (r2 : 0 ≤ x2 ∧ x2 ≤ 255) (c3 : w.cell? ⟨b, off + 3, none⟩ = some (.int .u8 x3)) (g0 : 128 ≤ x0) (g1 : 128 ≤ x1) (g2 : 128 ≤ x2) (p0 : x3 = 0) :
    Calls Tryz.prog 17 #[.slice (some ⟨b, off, none⟩) len cap] w fun e w' => e = .returned (.tuple #[.int .i64 0, .int .i64 0, .iface 64 (.pointer (some ⟨w.heap.size, 0, none⟩))]) ∧ w' = w.alloc (.cells #[.string ⟨#[118, 97, 114, 105, 110, 116]⟩, .iface 40 (.int .i64 1)] 66) := by
  have HM := hide (meas_z4 b off len cap x0 x1 x2 x3 w hlen hl c0 r0 c1 r1 c2 r2 c3 g0 g1 g2 p0)
  unfold maxLen at hlen
  subst p0
  go_enter Tryz.func17, Tryz.ntmps17
  go_wp2_with (go_at_call 32; refine (unhide HM).mono ?_; rintro e w' ⟨rfl, rfl⟩)
  go_ret3
  exact ⟨rfl, rfl⟩

theorem get_o4 (b off len cap : Nat) (x0 x1 x2 x3 : Int) (w : World) (hlen : len ≤ maxLen) (hl : 3 < len) (c0 : w.cell? ⟨b, off, none⟩ = some (.int .u8 x0)) (r0 : 0 ≤ x0 ∧ x0 ≤ 255) (c1 : w.cell? ⟨b, off + 1, none⟩ = some (.int .u8 x1)) (r1 : 0 ≤ x1 ∧ x1 ≤ 255) (c2 : w.cell? ⟨b, off + 2, none⟩ = some (.int .u8 x2)) (r2 : 0 ≤ x2 ∧ x2 ≤ 255) (c3 : w.cell? ⟨b, off + 3, none⟩ = some (.int .u8 x3)) (g0 : 128 ≤ x0) (g1 : 128 ≤ x1) (g2 : 128 ≤ x2) (p0 : 1 ≤ x3) (p1 : x3 < 128) :
    Calls Tryz.prog 17 #[.slice (some ⟨b, off, none⟩) len cap] w fun e w' => e = .returned (.tuple #[.int .i64 ((x0 - 128) + (x1 - 128) * 128 + (x2 - 128) * 16384 + x3 * 2097152), .int .i64 4, .nilIface]) ∧ w' = w := by
  have HM := hide (meas_o4 b off len cap x0 x1 x2 x3 w hlen hl c0 r0 c1 r1 c2 r2 c3 g0 g1 g2 p0 p1)
  unfold maxLen at hlen
  have k0 := and127_hi x0 g0 r0.2
  have k1 := and127_hi x1 g1 r1.2
  have k2 := and127_hi x2 g2 r2.2
  have k3 := and127_lo x3 (by omega) p1
  go_enter Tryz.func17, Tryz.ntmps17
  go_wp2_with (go_at_call 32; refine (unhide HM).mono ?_; rintro e w' ⟨rfl, rfl⟩)
  go_ret3
  refine ⟨congrArg (fun z : Int => Ending.returned (.tuple #[.int .i64 z, .int .i64 4, .nilIface])) ?_, rfl⟩
  rw [or_zero (x3 * 2097152) (by omega) (by omega), or_hi 21 (x3 * 2097152) ((x2 - 128) * 16384) (by omega) (by omega) (by omega) (by omega) (by omega) (by omega), or_hi 14 (x3 * 2097152 + (x2 - 128) * 16384) ((x1 - 128) * 128) (by omega) (by omega) (by omega) (by omega) (by omega) (by omega), or_hi 7 (x3 * 2097152 + (x2 - 128) * 16384 + (x1 - 128) * 128) ((x0 - 128)) (by omega) (by omega) (by omega) (by omega) (by omega) (by omega)]
  omega

theorem get_l4 (b off len cap : Nat) (x0 x1 x2 x3 : Int) (w : World) (hlen : len ≤ maxLen) (hl : 3 < len) (c0 : w.cell? ⟨b, off, none⟩ = some (.int .u8 x0)) (r0 : 0 ≤ x0 ∧ x0 ≤ 255) (c1 : w.cell? ⟨b, off + 1, none⟩ = some (.int .u8 x1)) (r1 : 0 ≤ x1 ∧ x1 ≤ 255) (c2 : w.cell? ⟨b, off + 2, none⟩ = some (.int .u8 x2)) (r2 : 0 ≤ x2 ∧ x2 ≤ 255) (c3 : w.cell? ⟨b, off + 3, none⟩ = some (.int .u8 x3)) (r3 : 0 ≤ x3 ∧ x3 ≤ 255) (g0 : 128 ≤ x0) (g1 : 128 ≤ x1) (g2 : 128 ≤ x2) (g3 : 128 ≤ x3) :
    Calls Tryz.prog 17 #[.slice (some ⟨b, off, none⟩) len cap] w fun e w' => e = .returned (.tuple #[.int .i64 0, .int .i64 0, .iface 64 (.pointer (some ⟨w.heap.size, 0, none⟩))]) ∧ w' = w.alloc (.cells #[.string ⟨#[118, 97, 114, 105, 110, 116]⟩, .iface 40 (.int .i64 1)] 66) := by
  have HM := hide (meas_l4 b off len cap x0 x1 x2 x3 w hlen hl c0 r0 c1 r1 c2 r2 c3 r3 g0 g1 g2 g3)
  unfold maxLen at hlen
  go_enter Tryz.func17, Tryz.ntmps17
  go_wp2_with (go_at_call 32; refine (unhide HM).mono ?_; rintro e w' ⟨rfl, rfl⟩)
  go_ret3
  exact ⟨rfl, rfl⟩

theorem sz1 (n : Int) (h : n < 128) : sz n = 1 := by simp [sz, h]
theorem sz2 (n : Int) (h0 : 128 ≤ n) (h : n < 16384) : sz n = 2 := by unfold sz; rw [if_neg (by omega), if_pos h]
theorem sz3 (n : Int) (h0 : 16384 ≤ n) (h : n < 2097152) : sz n = 3 := by unfold sz; rw [if_neg (by omega), if_neg (by omega), if_pos h]
theorem sz4 (n : Int) (h0 : 2097152 ≤ n) : sz n = 4 := by unfold sz; rw [if_neg (by omega), if_neg (by omega), if_neg (by omega)]
theorem szle1 (n : Int) (h : n < 128) : sz n ≤ 1 := by unfold sz; rw [if_pos h]; omega
theorem szle2 (n : Int) (h : n < 16384) : sz n ≤ 2 := by unfold sz; split <;> (try split) <;> omega
theorem szle3 (n : Int) (h : n < 2097152) : sz n ≤ 3 := by unfold sz; split <;> (try split) <;> (try split) <;> omega
theorem put_length (n : Int) : ((put n).length : Int) = sz n := by
  unfold put sz
  split <;> (try split) <;> (try split) <;> simp

end Go.Proofs.YtgdfnopnmdjklaaGreatDoor.V
/- Proved here: prop.getNumber reads a number of one, two or four bytes, the highest first, or tells that they are not there. Helper contracts. -/
namespace Go.Proofs.YtgdfnopnmdjklaaGreatDoor
open Go.RowKit
set_option maxRecDepth 100000

/-- the number of the first k bytes, the highest first -/
def be (k : Int) (l : List Int) : Int := if k = 1 then l.getD 0 0 else if k = 2 then l.getD 0 0 * 256 + l.getD 1 0 else ((l.getD 0 0 * 256 + l.getD 1 0) * 256 + l.getD 2 0) * 256 + l.getD 3 0
theorem or_256 (x y : Int) (hx0 : 0 ≤ x) (hx1 : x < 16777216) (hy0 : 0 ≤ y) (hy1 : y ≤ 255) : bits .or .i64 (x * 256) y = x * 256 + y := V.or_hi 8 _ _ (by omega) (by omega) hy0 (by omega) (by omega) (by omega)
theorem gnum_short (ao : Option Addr) (len cap : Nat) (k : Int) (w : World) (hl : (len : Int) < k) : Calls Tryz.prog 107 #[.slice ao len cap, .int .i64 k] w fun e w' => e = .returned (.tuple #[.int .i64 0, .int .i64 0, .iface 40 (.int .i64 3)]) ∧ w' = w := by
  go_enter Tryz.func107, Tryz.ntmps107
  go_wp2
  go_ret3
  exact ⟨rfl, rfl⟩
theorem gnum_1 (b off len cap : Nat) (x0 : Int) (w : World) (hl : 1 ≤ len) (hcap : len ≤ cap) (hcm : cap ≤ maxLen) (c0 : w.cell? ⟨b, off, none⟩ = some (.int .u8 x0)) (r0 : 0 ≤ x0 ∧ x0 ≤ 255) :
    Calls Tryz.prog 107 #[.slice (some ⟨b, off, none⟩) len cap, .int .i64 1] w fun e w' => e = .returned (.tuple #[.int .i64 x0, .int .i64 1, .nilIface]) ∧ Below w.heap.size w w' := by
  unfold maxLen at hcm
  have e0 : bits .or .i64 0 x0 = x0 := V.or_zero x0 r0.1 (by omega)
  go_enter Tryz.func107, Tryz.ntmps107
  go_wp2
  refine wp_loop_rounds 2 ?_
  rw [rounds_succ]
  go_wp2
  rw [rounds_succ]
  go_wp2
  go_ret3
  exact ⟨rfl, by go_grown⟩
theorem gnum_2 (b off len cap : Nat) (x0 x1 : Int) (w : World) (hl : 2 ≤ len) (hcap : len ≤ cap) (hcm : cap ≤ maxLen) (c0 : w.cell? ⟨b, off, none⟩ = some (.int .u8 x0)) (c1 : w.cell? ⟨b, off + 1, none⟩ = some (.int .u8 x1)) (r0 : 0 ≤ x0 ∧ x0 ≤ 255) (r1 : 0 ≤ x1 ∧ x1 ≤ 255) :
    Calls Tryz.prog 107 #[.slice (some ⟨b, off, none⟩) len cap, .int .i64 2] w fun e w' => e = .returned (.tuple #[.int .i64 (x0 * 256 + x1), .int .i64 2, .nilIface]) ∧ Below w.heap.size w w' := by
  unfold maxLen at hcm
  have e0 : bits .or .i64 0 x0 = x0 := V.or_zero x0 r0.1 (by omega)
  have e1 := or_256 x0 x1 r0.1 (by omega) r1.1 r1.2
  go_enter Tryz.func107, Tryz.ntmps107
  go_wp2
  refine wp_loop_rounds 3 ?_
  rw [rounds_succ]
  go_wp2
  rw [rounds_succ]
  go_wp2
  rw [rounds_succ]
  go_wp2
  go_ret3
  exact ⟨rfl, by go_grown⟩
theorem gnum_4 (b off len cap : Nat) (x0 x1 x2 x3 : Int) (w : World) (hl : 4 ≤ len) (hcap : len ≤ cap) (hcm : cap ≤ maxLen) (c0 : w.cell? ⟨b, off, none⟩ = some (.int .u8 x0)) (c1 : w.cell? ⟨b, off + 1, none⟩ = some (.int .u8 x1)) (c2 : w.cell? ⟨b, off + 2, none⟩ = some (.int .u8 x2)) (c3 : w.cell? ⟨b, off + 3, none⟩ = some (.int .u8 x3)) (r0 : 0 ≤ x0 ∧ x0 ≤ 255) (r1 : 0 ≤ x1 ∧ x1 ≤ 255) (r2 : 0 ≤ x2 ∧ x2 ≤ 255) (r3 : 0 ≤ x3 ∧ x3 ≤ 255) :
    Calls Tryz.prog 107 #[.slice (some ⟨b, off, none⟩) len cap, .int .i64 4] w fun e w' => e = .returned (.tuple #[.int .i64 (((x0 * 256 + x1) * 256 + x2) * 256 + x3), .int .i64 4, .nilIface]) ∧ Below w.heap.size w w' := by
  unfold maxLen at hcm
  have e0 : bits .or .i64 0 x0 = x0 := V.or_zero x0 r0.1 (by omega)
  have e1 := or_256 x0 x1 r0.1 (by omega) r1.1 r1.2
  have e2 := or_256 (x0 * 256 + x1) x2 (by omega) (by omega) r2.1 r2.2
  have e3 := or_256 ((x0 * 256 + x1) * 256 + x2) x3 (by omega) (by omega) r3.1 r3.2
  go_enter Tryz.func107, Tryz.ntmps107
  go_wp2
  refine wp_loop_rounds 5 ?_
  rw [rounds_succ]
  go_wp2
  rw [rounds_succ]
  go_wp2
  rw [rounds_succ]
  go_wp2
  rw [rounds_succ]
  go_wp2
  rw [rounds_succ]
  go_wp2
  go_ret3
  exact ⟨rfl, by go_grown⟩
end Go.Proofs.YtgdfnopnmdjklaaGreatDoor
/- Proved here: what prop.shapeOf tells of any ID. Helper contracts. -/
namespace Go.Proofs.YtgdfnopnmdjklaaGreatDoor
open Go.RowKit
set_option maxRecDepth 100000

def frm (id : Int) : Int := if kd id = 1 ∨ kd id = 2 ∨ kd id = 4 then 1 else if kd id = 5 then 2 else if kd id = 6 then 3 else if kd id = 7 then 4 else if kd id = 8 then 5 else 0
def wid (id : Int) : Int := if kd id = 1 ∨ kd id = 2 ∨ kd id = 4 then kd id else 0
def shv (id : Int) : Value := .agg #[.int .i64 (frm id), .int .i64 (wid id), .int .i64 (lst id), .int .i64 (mx id)]
theorem shv_none (id : Int) (hk : kd id = 0) (hl : lst id = 0) : shv id = .agg #[.int .i64 0, .int .i64 0, .int .i64 0, .int .i64 0] := by
  simp [shv, frm, wid, mx, hk, hl]
set_option maxHeartbeats 40000000 in
theorem shape_any (id : Int) (w : World) : Calls Tryz.prog 98 #[.int .i64 id] w fun e w' => e = .returned (shv id) ∧ Below w.heap.size w w' := by
  refine id_cases (P := fun id => Calls Tryz.prog 98 #[.int .i64 id] w fun e w' => e = .returned (shv id) ∧ Below w.heap.size w w') id ?_ ?_ ?_ ?_ ?_ ?_ ?_ ?_ ?_ ?_ ?_ ?_ ?_ ?_ ?_ ?_ ?_ ?_ ?_ ?_ ?_ ?_ ?_ ?_ ?_ ?_ ?_ ?none
  case none =>
    intro n1 n2 n3 n8 n9 n11 n17 n18 n19 n21 n22 n23 n24 n25 n26 n28 n31 n33 n34 n35 n36 n37 n38 n39 n40 n41 n42
    rw [shv_none id (kd_none id n1 n2 n3 n8 n9 n11 n17 n18 n19 n21 n22 n23 n24 n25 n26 n28 n31 n33 n34 n35 n36 n37 n38 n39 n40 n41 n42) (lst_none id n11 n33 n35 n39)]
    have b1 : (id == 1) = false := beq_eq_false_iff_ne.2 n1
    have b2 : (id == 2) = false := beq_eq_false_iff_ne.2 n2
    have b3 : (id == 3) = false := beq_eq_false_iff_ne.2 n3
    have b8 : (id == 8) = false := beq_eq_false_iff_ne.2 n8
    have b9 : (id == 9) = false := beq_eq_false_iff_ne.2 n9
    have b11 : (id == 11) = false := beq_eq_false_iff_ne.2 n11
    have b17 : (id == 17) = false := beq_eq_false_iff_ne.2 n17
    have b18 : (id == 18) = false := beq_eq_false_iff_ne.2 n18
    have b19 : (id == 19) = false := beq_eq_false_iff_ne.2 n19
    have b21 : (id == 21) = false := beq_eq_false_iff_ne.2 n21
    have b22 : (id == 22) = false := beq_eq_false_iff_ne.2 n22
    have b23 : (id == 23) = false := beq_eq_false_iff_ne.2 n23
    have b24 : (id == 24) = false := beq_eq_false_iff_ne.2 n24
    have b25 : (id == 25) = false := beq_eq_false_iff_ne.2 n25
    have b26 : (id == 26) = false := beq_eq_false_iff_ne.2 n26
    have b28 : (id == 28) = false := beq_eq_false_iff_ne.2 n28
    have b31 : (id == 31) = false := beq_eq_false_iff_ne.2 n31
    have b33 : (id == 33) = false := beq_eq_false_iff_ne.2 n33
    have b34 : (id == 34) = false := beq_eq_false_iff_ne.2 n34
    have b35 : (id == 35) = false := beq_eq_false_iff_ne.2 n35
    have b36 : (id == 36) = false := beq_eq_false_iff_ne.2 n36
    have b37 : (id == 37) = false := beq_eq_false_iff_ne.2 n37
    have b38 : (id == 38) = false := beq_eq_false_iff_ne.2 n38
    have b39 : (id == 39) = false := beq_eq_false_iff_ne.2 n39
    have b40 : (id == 40) = false := beq_eq_false_iff_ne.2 n40
    have b41 : (id == 41) = false := beq_eq_false_iff_ne.2 n41
    have b42 : (id == 42) = false := beq_eq_false_iff_ne.2 n42
    clear n1 n2 n3 n8 n9 n11 n17 n18 n19 n21 n22 n23 n24 n25 n26 n28 n31 n33 n34 n35 n36 n37 n38 n39 n40 n41 n42
    go_enter Tryz.func98, Tryz.ntmps98
    go_wp2
    go_returns
    refine ⟨?_, ?_⟩
    · rfl
    · go_grown
  all_goals
    go_enter Tryz.func98, Tryz.ntmps98
    go_wp2
    go_returns
    refine ⟨?_, ?_⟩
    · kernel_rfl
    · go_grown
end Go.Proofs.YtgdfnopnmdjklaaGreatDoor
/- Proved here: what (prop.shape).fits and prop.mayRepeat tell. Helper contracts. -/
namespace Go.Proofs.YtgdfnopnmdjklaaGreatDoor
open Go.RowKit
set_option maxRecDepth 100000

def fitB (f lo hi n : Int) (s t : ByteArray) : Bool := decide (lo ≤ n) && decide (n ≤ hi) && (if f = 5 then true else if f = 3 ∨ f = 4 then emp t else emp s && emp t)
theorem kd_cases (id : Int) : kd id = 0 ∨ kd id = 1 ∨ kd id = 2 ∨ kd id = 4 ∨ kd id = 5 ∨ kd id = 6 ∨ kd id = 7 ∨ kd id = 8 := by
  unfold kd
  repeat' split
  all_goals omega
theorem fit_eq (id n : Int) (s t : ByteArray) : fit (id, n, s, t) = fitB (frm id) (lst id) (mx id) n s t := by
  unfold fit fitB frm
  rcases kd_cases id with h | h | h | h | h | h | h | h <;> simp [h]
abbrev FitPost (f lo hi n : Int) (s t : ByteArray) (w : World) (e : Ending) (w' : World) : Prop := e = .returned (.bool (fitB f lo hi n s t)) ∧ Below w.heap.size w w'
theorem fits_any (f wd lo hi id n : Int) (s t : ByteArray) (w : World) :
    Calls Tryz.prog 100 #[.agg #[.int .i64 f, .int .i64 wd, .int .i64 lo, .int .i64 hi], .agg #[.int .i64 id, .int .i64 n, .string s, .string t]] w (FitPost f lo hi n s t w) := by
  unfold FitPost
  by_cases h1 : n < lo
  · have hm : Hid (false = fitB f lo hi n s t) := by show _ = _; unfold fitB; rw [decide_eq_false (by omega : ¬ lo ≤ n)]; rfl
    go_enter Tryz.func100, Tryz.ntmps100
    go_wp2
    go_ret
    exact ⟨ret_bool (unhide hm), by go_grown⟩
  by_cases h2 : hi < n
  · have hm : Hid (false = fitB f lo hi n s t) := by show _ = _; unfold fitB; rw [decide_eq_false (by omega : ¬ n ≤ hi), Bool.and_false]; rfl
    go_enter Tryz.func100, Tryz.ntmps100
    go_wp2
    go_ret
    exact ⟨ret_bool (unhide hm), by go_grown⟩
  have hg : Hid (fitB f lo hi n s t = (if f = 5 then true else if f = 3 ∨ f = 4 then emp t else emp s && emp t)) := by
    show _ = _; unfold fitB; rw [decide_eq_true (by omega : lo ≤ n), decide_eq_true (by omega : n ≤ hi)]; rfl
  by_cases f5 : f = 5
  · have hm : Hid (true = fitB f lo hi n s t) := by show _ = _; rw [unhide hg, if_pos f5]
    subst f5
    go_enter Tryz.func100, Tryz.ntmps100
    go_wp2
    go_ret
    exact ⟨ret_bool (unhide hm), by go_grown⟩
  by_cases f3 : f = 3
  · have hm : Hid (fitB f lo hi n s t = emp t) := by show _ = _; rw [unhide hg, if_neg f5, if_pos (.inl f3)]
    subst f3
    clear hg f5
    go_enter Tryz.func100, Tryz.ntmps100
    go_wp2
    go_ret
    exact ⟨ret_bool (unhide hm).symm, by go_grown⟩
  by_cases f4 : f = 4
  · have hm : Hid (fitB f lo hi n s t = emp t) := by show _ = _; rw [unhide hg, if_neg f5, if_pos (.inr f4)]
    subst f4
    clear hg f5 f3
    go_enter Tryz.func100, Tryz.ntmps100
    go_wp2
    go_ret
    exact ⟨ret_bool (unhide hm).symm, by go_grown⟩
  have hm : Hid (fitB f lo hi n s t = (emp s && emp t)) := by show _ = _; rw [unhide hg, if_neg f5, if_neg (by omega)]
  have b5 : (f == 5) = false := beq_eq_false_iff_ne.2 f5
  have b4 : (f == 4) = false := beq_eq_false_iff_ne.2 f4
  have b3 : (f == 3) = false := beq_eq_false_iff_ne.2 f3
  clear hg f5 f4 f3
  by_cases hs : s.toList.isEmpty = true
  · have hm' : Hid (fitB f lo hi n s t = emp t) := by show _ = _; rw [unhide hm]; show (s.toList.isEmpty && _) = _; rw [hs]; rfl
    clear hm
    go_enter Tryz.func100, Tryz.ntmps100
    go_wp2
    go_ret
    exact ⟨ret_bool (unhide hm').symm, by go_grown⟩
  · have hs' : s.toList.isEmpty = false := by simpa using hs
    have hm' : Hid (false = fitB f lo hi n s t) := by show _ = _; rw [unhide hm]; show _ = (s.toList.isEmpty && _); rw [hs']; rfl
    clear hm hs
    go_enter Tryz.func100, Tryz.ntmps100
    go_wp2
    go_ret
    exact ⟨ret_bool (unhide hm'), by go_grown⟩
theorem repeat_any (id place : Int) (w : World) : Calls Tryz.prog 101 #[.int .i64 id, .int .i64 place] w fun e w' => e = .returned (.bool (rep id place)) ∧ w' = w := by
  by_cases h1 : id = 38
  · subst h1
    go_enter Tryz.func101, Tryz.ntmps101
    go_wp2
    go_ret
    exact ⟨rfl, rfl⟩
  by_cases h2 : id = 11
  · subst h2
    go_enter Tryz.func101, Tryz.ntmps101
    go_wp2
    go_ret
    exact ⟨rfl, rfl⟩
  · have hm : Hid (false = rep id place) := by show _ = _; unfold rep; simp [h1, h2]
    have b1 : (id == 38) = false := beq_eq_false_iff_ne.2 h1
    have b2 : (id == 11) = false := beq_eq_false_iff_ne.2 h2
    go_enter Tryz.func101, Tryz.ntmps101
    go_wp2
    go_ret
    exact ⟨ret_bool (unhide hm), rfl⟩
theorem fits_use (f wd lo hi id n : Int) (s t : ByteArray) (w : World) :
    Calls Tryz.prog 100 #[.agg #[.int .i64 f, .int .i64 wd, .int .i64 lo, .int .i64 hi], .agg #[.int .i64 id, .int .i64 n, .string s, .string t]] w fun e w' => (∃ b : Bool, e = .returned (.bool b) ∧ Hid (b = fitB f lo hi n s t)) ∧ Below w.heap.size w w' := by
  refine (fits_any f wd lo hi id n s t w).mono ?_
  rintro e w' ⟨rfl, hb⟩
  exact ⟨⟨_, rfl, rfl⟩, hb⟩
end Go.Proofs.YtgdfnopnmdjklaaGreatDoor
/- Proved here: slices.Index, slices.Contains, prop.oneOf and dovecoteref0.In tell whether a number stands in a slice of numbers. Helper contracts. -/
namespace Go.Proofs.YtgdfnopnmdjklaaGreatDoor
open Go.RowKit
set_option maxRecDepth 100000

/-- the value v reads in the world w as the numbers xs -/
def Ints (w : World) (v : Value) (xs : List Int) : Prop :=
  ∃ ao cap, v = .slice ao xs.length cap ∧ xs.length ≤ maxLen ∧ (xs = [] ∨ ∃ b off, ao = some ⟨b, off, none⟩ ∧ ∀ j, j < xs.length → w.cell? ⟨b, off + j, none⟩ = some (.int .i64 (xs.getD j 0)))
theorem ints_lit (w : World) (xs : List Int) (n : Nat) (hn : xs.length = n) (h : n ≤ 100) (t : TypeId) : Ints (w.alloc (.cells (xs.map (Value.int .i64)).toArray t)) (.slice (some ⟨w.heap.size, 0, none⟩) n n) xs := by
  subst hn
  refine ⟨_, _, rfl, by unfold maxLen; omega, .inr ⟨_, _, rfl, fun j hj => ?_⟩⟩
  rw [World.cell?_alloc_at _ _ _ _ rfl]
  simp [hj]
theorem mem_getD (xs : List Int) (v : Int) : (∃ j, j < xs.length ∧ xs.getD j 0 = v) ↔ v ∈ xs := by
  rw [List.mem_iff_getElem]
  constructor
  · rintro ⟨j, hj, h⟩; exact ⟨j, hj, by rw [List.getD_eq_getElem?_getD, List.getElem?_eq_getElem hj] at h; exact h⟩
  · rintro ⟨j, hj, h⟩; exact ⟨j, hj, by rw [List.getD_eq_getElem?_getD, List.getElem?_eq_getElem hj]; exact h⟩

set_option maxHeartbeats 1000000 in
theorem index_core (b off n cap : Nat) (f : Nat → Int) (v : Int) (w : World) (hn : n ≤ maxLen) (hf : ∀ j, j < n → w.cell? ⟨b, off + j, none⟩ = some (.int .i64 (f j))) :
    Calls Tryz.prog 115 #[.slice (some ⟨b, off, none⟩) n cap, .int .i64 v] w fun e w' => (∃ r : Int, e = .returned (.int .i64 r) ∧ (0 ≤ r ↔ ∃ j, j < n ∧ f j = v)) ∧ w' = w := by
  unfold maxLen at hn
  have HF := hide hf
  clear hf
  go_enter Tryz.func115, Tryz.ntmps115
  go_wp2
  go_loop [8] (fun i => ∃ k : Nat, k ≤ n ∧ i = .int .i64 k ∧ Hid (∀ j, j < k → f j ≠ v)) (fun i => n - (intOf i).toNat)
  case atStart => exact ⟨0, Nat.zero_le _, rfl, fun j hj => absurd hj (Nat.not_lt_zero j)⟩
  case round =>
    obtain ⟨k, hk, rfl, HA⟩ := hrel
    by_cases hlt : k < n
    · have hfk := (unhide HF) k hlt
      generalize hx : f k = x at hfk
      have HX := hide hx
      clear hx
      by_cases hxy : v = x
      · have hb : (v == x) = true := beq_iff_eq.2 hxy
        have HE := hide hxy
        clear hxy
        go_wp2
        go_ret
        exact ⟨⟨_, rfl, fun _ => ⟨k, hlt, (unhide HX).trans (unhide HE).symm⟩, fun _ => by omega⟩, rfl⟩
      · have hb : (v == x) = false := beq_eq_false_iff_ne.2 hxy
        have HE := hide hxy
        clear hxy
        go_wp2
        go_round
        case rel => exact ⟨k + 1, by omega, by go_num, fun j hj => by
          rcases Nat.lt_succ_iff_lt_or_eq.1 hj with h | h
          · exact (unhide HA) j h
          · rw [h, unhide HX]; exact fun h => (unhide HE) h.symm⟩
        case measure => simp [intOf]; omega
    · go_wp2
      go_ret
      exact ⟨⟨_, rfl, fun h => absurd h (by omega), fun ⟨j, hj, h⟩ => absurd h ((unhide HA) j (by omega))⟩, rfl⟩
theorem index_nil (ao : Option Addr) (cap : Nat) (v : Int) (w : World) : Calls Tryz.prog 115 #[.slice ao 0 cap, .int .i64 v] w fun e w' => e = .returned (.int .i64 (-1)) ∧ w' = w := by
  go_enter Tryz.func115, Tryz.ntmps115
  go_wp2
  refine wp_loop_rounds 1 ?_
  rw [rounds_succ]
  go_wp2
  go_ret
  exact ⟨rfl, rfl⟩
theorem index_any (vx : Value) (xs : List Int) (v : Int) (w : World) (h : Ints w vx xs) :
    Calls Tryz.prog 115 #[vx, .int .i64 v] w fun e w' => (∃ r : Int, e = .returned (.int .i64 r) ∧ Hid (decide (0 ≤ r) = decide (v ∈ xs))) ∧ w' = w := by
  obtain ⟨ao, cap, rfl, hl, hcase⟩ := h
  rcases hcase with rfl | ⟨b, off, rfl, hc⟩
  · refine (index_nil ao cap v w).mono ?_
    rintro e w' ⟨rfl, rfl⟩
    exact ⟨⟨_, rfl, by show decide _ = decide _; simp⟩, rfl⟩
  · refine (index_core b off xs.length cap (fun j => xs.getD j 0) v w hl hc).mono ?_
    rintro e w' ⟨⟨r, rfl, hr⟩, rfl⟩
    rw [mem_getD] at hr
    exact ⟨⟨r, rfl, by show decide _ = decide _; rw [decide_eq_decide]; exact hr⟩, rfl⟩
theorem oneOf_any (vx : Value) (xs : List Int) (v : Int) (w : World) (h : Ints w vx xs) :
    Calls Tryz.prog 109 #[.int .i64 v, vx] w fun e w' => e = .returned (.bool (decide (v ∈ xs))) ∧ w' = w := by
  have H := hide h
  clear h
  have hc : Calls Tryz.prog 112 #[vx, .int .i64 v] w fun e w' => e = .returned (.bool (decide (v ∈ xs))) ∧ w' = w := by
    go_enter Tryz.func112, Tryz.ntmps112
    go_wp2_with (go_at_call 115; refine (index_any vx xs v _ (unhide H)).mono ?_; rintro e w' ⟨⟨r, rfl, hr⟩, rfl⟩)
    go_ret
    exact ⟨ret_bool (unhide hr), rfl⟩
  go_enter Tryz.func109, Tryz.ntmps109
  go_wp2_with (go_at_call 112; refine hc.mono ?_; rintro e w' ⟨rfl, rfl⟩)
  go_ret
  exact ⟨rfl, rfl⟩
theorem oneOf_use (vx : Value) (xs : List Int) (v : Int) (w : World) (h : Ints w vx xs) :
    Calls Tryz.prog 109 #[.int .i64 v, vx] w fun e w' => (∃ b : Bool, e = .returned (.bool b) ∧ Hid (b = decide (v ∈ xs))) ∧ w' = w := by
  refine (oneOf_any vx xs v w h).mono ?_
  rintro e w' ⟨rfl, rfl⟩
  exact ⟨⟨_, rfl, rfl⟩, rfl⟩

end Go.Proofs.YtgdfnopnmdjklaaGreatDoor
/- Proved here: prop.mayStand tells whether an ID may stand at a place, for any of both. Helper contracts. -/
namespace Go.Proofs.YtgdfnopnmdjklaaGreatDoor
open Go.RowKit
set_option maxRecDepth 100000

/-- mayStand's answer at one ID -/
def StandPost (id place : Int) (w : World) (e : Ending) (w' : World) : Prop := e = .returned (.bool (mst id place)) ∧ Below w.heap.size w w'
set_option maxHeartbeats 4000000 in
theorem stand_1 (place : Int) (w : World) : Calls Tryz.prog 99 #[.int .i64 1, .int .i64 place] w (StandPost 1 place w) := by
  unfold StandPost
  go_enter Tryz.func99, Tryz.ntmps99
  go_wp2_with (go_at_call 109; refine (oneOf_use _ [3, 16] place _ (ints_lit _ [3, 16] 2 rfl (by omega) 3)).mono ?_; rintro e w' ⟨⟨b, rfl, hb⟩, rfl⟩)
  go_ret
  exact ⟨ret_bool (unhide hb), by go_grown⟩
set_option maxHeartbeats 4000000 in
theorem stand_2 (place : Int) (w : World) : Calls Tryz.prog 99 #[.int .i64 2, .int .i64 place] w (StandPost 2 place w) := by
  unfold StandPost
  go_enter Tryz.func99, Tryz.ntmps99
  go_wp2_with (go_at_call 109; refine (oneOf_use _ [3, 16] place _ (ints_lit _ [3, 16] 2 rfl (by omega) 3)).mono ?_; rintro e w' ⟨⟨b, rfl, hb⟩, rfl⟩)
  go_ret
  exact ⟨ret_bool (unhide hb), by go_grown⟩
set_option maxHeartbeats 4000000 in
theorem stand_3 (place : Int) (w : World) : Calls Tryz.prog 99 #[.int .i64 3, .int .i64 place] w (StandPost 3 place w) := by
  unfold StandPost
  go_enter Tryz.func99, Tryz.ntmps99
  go_wp2_with (go_at_call 109; refine (oneOf_use _ [3, 16] place _ (ints_lit _ [3, 16] 2 rfl (by omega) 3)).mono ?_; rintro e w' ⟨⟨b, rfl, hb⟩, rfl⟩)
  go_ret
  exact ⟨ret_bool (unhide hb), by go_grown⟩
set_option maxHeartbeats 4000000 in
theorem stand_8 (place : Int) (w : World) : Calls Tryz.prog 99 #[.int .i64 8, .int .i64 place] w (StandPost 8 place w) := by
  unfold StandPost
  go_enter Tryz.func99, Tryz.ntmps99
  go_wp2_with (go_at_call 109; refine (oneOf_use _ [3, 16] place _ (ints_lit _ [3, 16] 2 rfl (by omega) 3)).mono ?_; rintro e w' ⟨⟨b, rfl, hb⟩, rfl⟩)
  go_ret
  exact ⟨ret_bool (unhide hb), by go_grown⟩
set_option maxHeartbeats 4000000 in
theorem stand_9 (place : Int) (w : World) : Calls Tryz.prog 99 #[.int .i64 9, .int .i64 place] w (StandPost 9 place w) := by
  unfold StandPost
  go_enter Tryz.func99, Tryz.ntmps99
  go_wp2_with (go_at_call 109; refine (oneOf_use _ [3, 16] place _ (ints_lit _ [3, 16] 2 rfl (by omega) 3)).mono ?_; rintro e w' ⟨⟨b, rfl, hb⟩, rfl⟩)
  go_ret
  exact ⟨ret_bool (unhide hb), by go_grown⟩
set_option maxHeartbeats 4000000 in
theorem stand_11 (place : Int) (w : World) : Calls Tryz.prog 99 #[.int .i64 11, .int .i64 place] w (StandPost 11 place w) := by
  unfold StandPost
  go_enter Tryz.func99, Tryz.ntmps99
  go_wp2_with (go_at_call 109; refine (oneOf_use _ [3, 8] place _ (ints_lit _ [3, 8] 2 rfl (by omega) 3)).mono ?_; rintro e w' ⟨⟨b, rfl, hb⟩, rfl⟩)
  go_ret
  exact ⟨ret_bool (unhide hb), by go_grown⟩
set_option maxHeartbeats 4000000 in
theorem stand_17 (place : Int) (w : World) : Calls Tryz.prog 99 #[.int .i64 17, .int .i64 place] w (StandPost 17 place w) := by
  unfold StandPost
  go_enter Tryz.func99, Tryz.ntmps99
  go_wp2_with (go_at_call 109; refine (oneOf_use _ [1, 2, 14] place _ (ints_lit _ [1, 2, 14] 3 rfl (by omega) 3)).mono ?_; rintro e w' ⟨⟨b, rfl, hb⟩, rfl⟩)
  go_ret
  exact ⟨ret_bool (unhide hb), by go_grown⟩
set_option maxHeartbeats 4000000 in
theorem stand_18 (place : Int) (w : World) : Calls Tryz.prog 99 #[.int .i64 18, .int .i64 place] w (StandPost 18 place w) := by
  unfold StandPost
  have hm : Hid (mst 18 place = (place == 2)) := by
    show mst 18 place = (place == 2)
    unfold mst
    rw [show plc 18 = [2] from rfl]
    simp only [List.mem_singleton]
    rfl
  go_enter Tryz.func99, Tryz.ntmps99
  go_wp2
  go_ret
  exact ⟨ret_bool (unhide hm).symm, by go_grown⟩
set_option maxHeartbeats 4000000 in
theorem stand_19 (place : Int) (w : World) : Calls Tryz.prog 99 #[.int .i64 19, .int .i64 place] w (StandPost 19 place w) := by
  unfold StandPost
  have hm : Hid (mst 19 place = (place == 2)) := by
    show mst 19 place = (place == 2)
    unfold mst
    rw [show plc 19 = [2] from rfl]
    simp only [List.mem_singleton]
    rfl
  go_enter Tryz.func99, Tryz.ntmps99
  go_wp2
  go_ret
  exact ⟨ret_bool (unhide hm).symm, by go_grown⟩
set_option maxHeartbeats 4000000 in
theorem stand_21 (place : Int) (w : World) : Calls Tryz.prog 99 #[.int .i64 21, .int .i64 place] w (StandPost 21 place w) := by
  unfold StandPost
  go_enter Tryz.func99, Tryz.ntmps99
  go_wp2_with (go_at_call 109; refine (oneOf_use _ [1, 2, 15] place _ (ints_lit _ [1, 2, 15] 3 rfl (by omega) 3)).mono ?_; rintro e w' ⟨⟨b, rfl, hb⟩, rfl⟩)
  go_ret
  exact ⟨ret_bool (unhide hb), by go_grown⟩
set_option maxHeartbeats 4000000 in
theorem stand_22 (place : Int) (w : World) : Calls Tryz.prog 99 #[.int .i64 22, .int .i64 place] w (StandPost 22 place w) := by
  unfold StandPost
  go_enter Tryz.func99, Tryz.ntmps99
  go_wp2_with (go_at_call 109; refine (oneOf_use _ [1, 2, 15] place _ (ints_lit _ [1, 2, 15] 3 rfl (by omega) 3)).mono ?_; rintro e w' ⟨⟨b, rfl, hb⟩, rfl⟩)
  go_ret
  exact ⟨ret_bool (unhide hb), by go_grown⟩
set_option maxHeartbeats 4000000 in
theorem stand_23 (place : Int) (w : World) : Calls Tryz.prog 99 #[.int .i64 23, .int .i64 place] w (StandPost 23 place w) := by
  unfold StandPost
  have hm : Hid (mst 23 place = (place == 1)) := by
    show mst 23 place = (place == 1)
    unfold mst
    rw [show plc 23 = [1] from rfl]
    simp only [List.mem_singleton]
    rfl
  go_enter Tryz.func99, Tryz.ntmps99
  go_wp2
  go_ret
  exact ⟨ret_bool (unhide hm).symm, by go_grown⟩
set_option maxHeartbeats 4000000 in
theorem stand_24 (place : Int) (w : World) : Calls Tryz.prog 99 #[.int .i64 24, .int .i64 place] w (StandPost 24 place w) := by
  unfold StandPost
  have hm : Hid (mst 24 place = (place == 16)) := by
    show mst 24 place = (place == 16)
    unfold mst
    rw [show plc 24 = [16] from rfl]
    simp only [List.mem_singleton]
    rfl
  go_enter Tryz.func99, Tryz.ntmps99
  go_wp2
  go_ret
  exact ⟨ret_bool (unhide hm).symm, by go_grown⟩
set_option maxHeartbeats 4000000 in
theorem stand_25 (place : Int) (w : World) : Calls Tryz.prog 99 #[.int .i64 25, .int .i64 place] w (StandPost 25 place w) := by
  unfold StandPost
  have hm : Hid (mst 25 place = (place == 1)) := by
    show mst 25 place = (place == 1)
    unfold mst
    rw [show plc 25 = [1] from rfl]
    simp only [List.mem_singleton]
    rfl
  go_enter Tryz.func99, Tryz.ntmps99
  go_wp2
  go_ret
  exact ⟨ret_bool (unhide hm).symm, by go_grown⟩
set_option maxHeartbeats 4000000 in
theorem stand_26 (place : Int) (w : World) : Calls Tryz.prog 99 #[.int .i64 26, .int .i64 place] w (StandPost 26 place w) := by
  unfold StandPost
  have hm : Hid (mst 26 place = (place == 2)) := by
    show mst 26 place = (place == 2)
    unfold mst
    rw [show plc 26 = [2] from rfl]
    simp only [List.mem_singleton]
    rfl
  go_enter Tryz.func99, Tryz.ntmps99
  go_wp2
  go_ret
  exact ⟨ret_bool (unhide hm).symm, by go_grown⟩
set_option maxHeartbeats 4000000 in
theorem stand_28 (place : Int) (w : World) : Calls Tryz.prog 99 #[.int .i64 28, .int .i64 place] w (StandPost 28 place w) := by
  unfold StandPost
  go_enter Tryz.func99, Tryz.ntmps99
  go_wp2_with (go_at_call 109; refine (oneOf_use _ [2, 14] place _ (ints_lit _ [2, 14] 2 rfl (by omega) 3)).mono ?_; rintro e w' ⟨⟨b, rfl, hb⟩, rfl⟩)
  go_ret
  exact ⟨ret_bool (unhide hb), by go_grown⟩
set_option maxHeartbeats 4000000 in
theorem stand_31 (place : Int) (w : World) : Calls Tryz.prog 99 #[.int .i64 31, .int .i64 place] w (StandPost 31 place w) := by
  unfold StandPost
  go_enter Tryz.func99, Tryz.ntmps99
  go_wp2_with (go_at_call 109; refine (oneOf_use _ [2, 4, 5, 6, 7, 9, 11, 14, 15] place _ (ints_lit _ [2, 4, 5, 6, 7, 9, 11, 14, 15] 9 rfl (by omega) 3)).mono ?_; rintro e w' ⟨⟨b, rfl, hb⟩, rfl⟩)
  go_ret
  exact ⟨ret_bool (unhide hb), by go_grown⟩
set_option maxHeartbeats 4000000 in
theorem stand_33 (place : Int) (w : World) : Calls Tryz.prog 99 #[.int .i64 33, .int .i64 place] w (StandPost 33 place w) := by
  unfold StandPost
  go_enter Tryz.func99, Tryz.ntmps99
  go_wp2_with (go_at_call 109; refine (oneOf_use _ [1, 2] place _ (ints_lit _ [1, 2] 2 rfl (by omega) 3)).mono ?_; rintro e w' ⟨⟨b, rfl, hb⟩, rfl⟩)
  go_ret
  exact ⟨ret_bool (unhide hb), by go_grown⟩
set_option maxHeartbeats 4000000 in
theorem stand_34 (place : Int) (w : World) : Calls Tryz.prog 99 #[.int .i64 34, .int .i64 place] w (StandPost 34 place w) := by
  unfold StandPost
  go_enter Tryz.func99, Tryz.ntmps99
  go_wp2_with (go_at_call 109; refine (oneOf_use _ [1, 2] place _ (ints_lit _ [1, 2] 2 rfl (by omega) 3)).mono ?_; rintro e w' ⟨⟨b, rfl, hb⟩, rfl⟩)
  go_ret
  exact ⟨ret_bool (unhide hb), by go_grown⟩
set_option maxHeartbeats 4000000 in
theorem stand_35 (place : Int) (w : World) : Calls Tryz.prog 99 #[.int .i64 35, .int .i64 place] w (StandPost 35 place w) := by
  unfold StandPost
  have hm : Hid (mst 35 place = (place == 3)) := by
    show mst 35 place = (place == 3)
    unfold mst
    rw [show plc 35 = [3] from rfl]
    simp only [List.mem_singleton]
    rfl
  go_enter Tryz.func99, Tryz.ntmps99
  go_wp2
  go_ret
  exact ⟨ret_bool (unhide hm).symm, by go_grown⟩
set_option maxHeartbeats 4000000 in
theorem stand_36 (place : Int) (w : World) : Calls Tryz.prog 99 #[.int .i64 36, .int .i64 place] w (StandPost 36 place w) := by
  unfold StandPost
  have hm : Hid (mst 36 place = (place == 2)) := by
    show mst 36 place = (place == 2)
    unfold mst
    rw [show plc 36 = [2] from rfl]
    simp only [List.mem_singleton]
    rfl
  go_enter Tryz.func99, Tryz.ntmps99
  go_wp2
  go_ret
  exact ⟨ret_bool (unhide hm).symm, by go_grown⟩
set_option maxHeartbeats 4000000 in
theorem stand_37 (place : Int) (w : World) : Calls Tryz.prog 99 #[.int .i64 37, .int .i64 place] w (StandPost 37 place w) := by
  unfold StandPost
  have hm : Hid (mst 37 place = (place == 2)) := by
    show mst 37 place = (place == 2)
    unfold mst
    rw [show plc 37 = [2] from rfl]
    simp only [List.mem_singleton]
    rfl
  go_enter Tryz.func99, Tryz.ntmps99
  go_wp2
  go_ret
  exact ⟨ret_bool (unhide hm).symm, by go_grown⟩
set_option maxHeartbeats 4000000 in
theorem stand_38 (place : Int) (w : World) : Calls Tryz.prog 99 #[.int .i64 38, .int .i64 place] w (StandPost 38 place w) := by
  unfold StandPost
  by_cases h : 1 ≤ place ∧ place ≤ 11
  · obtain ⟨h1, h2⟩ := h
    have hm : Hid (mst 38 place = true) := by
      show mst 38 place = true
      unfold mst
      rw [decide_eq_true_eq, show plc 38 = [1, 2, 3, 4, 5, 6, 7, 8, 9, 10, 11, 14, 15, 16] from rfl]
      simp only [List.mem_cons]
      omega
    go_enter Tryz.func99, Tryz.ntmps99
    go_wp2
    go_ret
    exact ⟨ret_bool (unhide hm).symm, by go_grown⟩
  · have hm : Hid (mst 38 place = decide (place ∈ [14, 15, 16])) := by
      show mst 38 place = decide (place ∈ [14, 15, 16])
      unfold mst
      rw [decide_eq_decide, show plc 38 = [1, 2, 3, 4, 5, 6, 7, 8, 9, 10, 11, 14, 15, 16] from rfl]
      simp only [List.mem_cons, List.not_mem_nil, or_false]
      constructor <;> intro a <;> omega
    by_cases h1 : 1 ≤ place
    · have h2 : ¬ place ≤ 11 := fun a => h ⟨h1, a⟩
      clear h
      go_enter Tryz.func99, Tryz.ntmps99
      go_wp2_with (go_at_call 109; refine (oneOf_use _ [14, 15, 16] place _ (ints_lit _ [14, 15, 16] 3 rfl (by omega) 3)).mono ?_; rintro e w' ⟨⟨b, rfl, hb⟩, rfl⟩)
      go_ret
      exact ⟨ret_bool ((unhide hb).trans (unhide hm).symm), by go_grown⟩
    · clear h
      go_enter Tryz.func99, Tryz.ntmps99
      go_wp2_with (go_at_call 109; refine (oneOf_use _ [14, 15, 16] place _ (ints_lit _ [14, 15, 16] 3 rfl (by omega) 3)).mono ?_; rintro e w' ⟨⟨b, rfl, hb⟩, rfl⟩)
      go_ret
      exact ⟨ret_bool ((unhide hb).trans (unhide hm).symm), by go_grown⟩
set_option maxHeartbeats 4000000 in
theorem stand_39 (place : Int) (w : World) : Calls Tryz.prog 99 #[.int .i64 39, .int .i64 place] w (StandPost 39 place w) := by
  unfold StandPost
  go_enter Tryz.func99, Tryz.ntmps99
  go_wp2_with (go_at_call 109; refine (oneOf_use _ [1, 2] place _ (ints_lit _ [1, 2] 2 rfl (by omega) 3)).mono ?_; rintro e w' ⟨⟨b, rfl, hb⟩, rfl⟩)
  go_ret
  exact ⟨ret_bool (unhide hb), by go_grown⟩
set_option maxHeartbeats 4000000 in
theorem stand_40 (place : Int) (w : World) : Calls Tryz.prog 99 #[.int .i64 40, .int .i64 place] w (StandPost 40 place w) := by
  unfold StandPost
  have hm : Hid (mst 40 place = (place == 2)) := by
    show mst 40 place = (place == 2)
    unfold mst
    rw [show plc 40 = [2] from rfl]
    simp only [List.mem_singleton]
    rfl
  go_enter Tryz.func99, Tryz.ntmps99
  go_wp2
  go_ret
  exact ⟨ret_bool (unhide hm).symm, by go_grown⟩
set_option maxHeartbeats 4000000 in
theorem stand_41 (place : Int) (w : World) : Calls Tryz.prog 99 #[.int .i64 41, .int .i64 place] w (StandPost 41 place w) := by
  unfold StandPost
  have hm : Hid (mst 41 place = (place == 2)) := by
    show mst 41 place = (place == 2)
    unfold mst
    rw [show plc 41 = [2] from rfl]
    simp only [List.mem_singleton]
    rfl
  go_enter Tryz.func99, Tryz.ntmps99
  go_wp2
  go_ret
  exact ⟨ret_bool (unhide hm).symm, by go_grown⟩
set_option maxHeartbeats 4000000 in
theorem stand_42 (place : Int) (w : World) : Calls Tryz.prog 99 #[.int .i64 42, .int .i64 place] w (StandPost 42 place w) := by
  unfold StandPost
  have hm : Hid (mst 42 place = (place == 2)) := by
    show mst 42 place = (place == 2)
    unfold mst
    rw [show plc 42 = [2] from rfl]
    simp only [List.mem_singleton]
    rfl
  go_enter Tryz.func99, Tryz.ntmps99
  go_wp2
  go_ret
  exact ⟨ret_bool (unhide hm).symm, by go_grown⟩
set_option maxHeartbeats 4000000 in
theorem stand_none (id place : Int) (w : World) (hp : plc id = []) (b1 : (id == 1) = false) (b2 : (id == 2) = false) (b3 : (id == 3) = false) (b8 : (id == 8) = false) (b9 : (id == 9) = false) (b11 : (id == 11) = false) (b17 : (id == 17) = false) (b18 : (id == 18) = false) (b19 : (id == 19) = false) (b21 : (id == 21) = false) (b22 : (id == 22) = false) (b23 : (id == 23) = false) (b24 : (id == 24) = false) (b25 : (id == 25) = false) (b26 : (id == 26) = false) (b28 : (id == 28) = false) (b31 : (id == 31) = false) (b33 : (id == 33) = false) (b34 : (id == 34) = false) (b35 : (id == 35) = false) (b36 : (id == 36) = false) (b37 : (id == 37) = false) (b38 : (id == 38) = false) (b39 : (id == 39) = false) (b40 : (id == 40) = false) (b41 : (id == 41) = false) (b42 : (id == 42) = false) : Calls Tryz.prog 99 #[.int .i64 id, .int .i64 place] w (StandPost id place w) := by
  have hm : Hid (mst id place = false) := by show mst id place = false; unfold mst; rw [hp]; simp
  clear hp
  unfold StandPost
  go_enter Tryz.func99, Tryz.ntmps99
  go_wp2
  go_ret
  exact ⟨ret_bool (unhide hm).symm, by go_grown⟩
theorem stand_any (id place : Int) (w : World) : Calls Tryz.prog 99 #[.int .i64 id, .int .i64 place] w (StandPost id place w) := by
  refine id_cases (P := fun id => Calls Tryz.prog 99 #[.int .i64 id, .int .i64 place] w (StandPost id place w)) id (stand_1 place w) (stand_2 place w) (stand_3 place w) (stand_8 place w) (stand_9 place w) (stand_11 place w) (stand_17 place w) (stand_18 place w) (stand_19 place w) (stand_21 place w) (stand_22 place w) (stand_23 place w) (stand_24 place w) (stand_25 place w) (stand_26 place w) (stand_28 place w) (stand_31 place w) (stand_33 place w) (stand_34 place w) (stand_35 place w) (stand_36 place w) (stand_37 place w) (stand_38 place w) (stand_39 place w) (stand_40 place w) (stand_41 place w) (stand_42 place w) ?_
  intro n1 n2 n3 n8 n9 n11 n17 n18 n19 n21 n22 n23 n24 n25 n26 n28 n31 n33 n34 n35 n36 n37 n38 n39 n40 n41 n42
  exact stand_none id place w (plc_none id n1 n2 n3 n8 n9 n11 n17 n18 n19 n21 n22 n23 n24 n25 n26 n28 n31 n33 n34 n35 n36 n37 n38 n39 n40 n41 n42) (beq_eq_false_iff_ne.2 n1) (beq_eq_false_iff_ne.2 n2) (beq_eq_false_iff_ne.2 n3) (beq_eq_false_iff_ne.2 n8) (beq_eq_false_iff_ne.2 n9) (beq_eq_false_iff_ne.2 n11) (beq_eq_false_iff_ne.2 n17) (beq_eq_false_iff_ne.2 n18) (beq_eq_false_iff_ne.2 n19) (beq_eq_false_iff_ne.2 n21) (beq_eq_false_iff_ne.2 n22) (beq_eq_false_iff_ne.2 n23) (beq_eq_false_iff_ne.2 n24) (beq_eq_false_iff_ne.2 n25) (beq_eq_false_iff_ne.2 n26) (beq_eq_false_iff_ne.2 n28) (beq_eq_false_iff_ne.2 n31) (beq_eq_false_iff_ne.2 n33) (beq_eq_false_iff_ne.2 n34) (beq_eq_false_iff_ne.2 n35) (beq_eq_false_iff_ne.2 n36) (beq_eq_false_iff_ne.2 n37) (beq_eq_false_iff_ne.2 n38) (beq_eq_false_iff_ne.2 n39) (beq_eq_false_iff_ne.2 n40) (beq_eq_false_iff_ne.2 n41) (beq_eq_false_iff_ne.2 n42)
end Go.Proofs.YtgdfnopnmdjklaaGreatDoor
/- Proved here: what (*prop.row).take tells of a property behind others, and what it writes down. Helper contracts. -/
namespace Go.Proofs.YtgdfnopnmdjklaaGreatDoor
open Go.RowKit
set_option maxRecDepth 100000

theorem stand_use (id place : Int) (b : Bool) (h : mst id place = b) (w : World) : Calls Tryz.prog 99 #[.int .i64 id, .int .i64 place] w fun e w' => e = .returned (.bool b) ∧ Below w.heap.size w w' := by
  subst h
  exact stand_any id place w
theorem shape_use (id f wd lo hi : Int) (h : shv id = .agg #[.int .i64 f, .int .i64 wd, .int .i64 lo, .int .i64 hi]) (w : World) : Calls Tryz.prog 98 #[.int .i64 id] w fun e w' => e = .returned (.agg #[.int .i64 f, .int .i64 wd, .int .i64 lo, .int .i64 hi]) ∧ Below w.heap.size w w' := by
  rw [← h]
  exact shape_any id w
theorem fits_is (f wd lo hi id n : Int) (s t : ByteArray) (b : Bool) (h : fitB f lo hi n s t = b) (w : World) :
    Calls Tryz.prog 100 #[.agg #[.int .i64 f, .int .i64 wd, .int .i64 lo, .int .i64 hi], .agg #[.int .i64 id, .int .i64 n, .string s, .string t]] w fun e w' => e = .returned (.bool b) ∧ Below w.heap.size w w' := by
  subst h
  exact fits_any f wd lo hi id n s t w
theorem repeat_is (id place : Int) (b : Bool) (h : rep id place = b) (w : World) : Calls Tryz.prog 101 #[.int .i64 id, .int .i64 place] w fun e w' => e = .returned (.bool b) ∧ w' = w := by
  subst h
  exact repeat_any id place w
theorem below_undrew1 {a w : World} (h : Below a.drew.heap.size a.drew w) : Below a.heap.size a w := ⟨h.os, h.tape, h.output, h.size, h.block⟩
/-- the cells that take reads: the place, and the property that it was handed -/
def TakeS (R B : Nat) (place id n : Int) (s t : ByteArray) (w : World) : Prop :=
  w.cell? ⟨R, 0, none⟩ = some (.int .i64 place) ∧ w.cell? ⟨B, 0, none⟩ = some (.int .i64 id) ∧ w.cell? ⟨B, 1, none⟩ = some (.int .i64 n) ∧ w.cell? ⟨B, 2, none⟩ = some (.string s) ∧ w.cell? ⟨B, 3, none⟩ = some (.string t)
theorem TakeS.below {R B : Nat} {place id n : Int} {s t : ByteArray} {w w' : World} (h : TakeS R B place id n s t w) (hb : Below w.heap.size w w') : TakeS R B place id n s t w' := by
  obtain ⟨h0, h1, h2, h3, h4⟩ := h
  exact ⟨(hb.cell (cell_lt h0)).trans h0, (hb.cell (cell_lt h1)).trans h1, (hb.cell (cell_lt h2)).trans h2, (hb.cell (cell_lt h3)).trans h3, (hb.cell (cell_lt h4)).trans h4⟩
theorem takeS_box (R : Nat) (place id n : Int) (s t : ByteArray) (w : World) (hR : w.cell? ⟨R, 0, none⟩ = some (.int .i64 place)) : TakeS R w.heap.size place id n s t (w.alloc (.cells #[.int .i64 id, .int .i64 n, .string s, .string t] 147)) :=
  ⟨by rw [World.cell?_alloc_lt _ _ ⟨R, 0, none⟩ (cell_lt hR)]; exact hR, by simp, by simp, by simp, by simp⟩
/-- what take tells of a property that may not come -/
def TakeNo (w : World) (e : Ending) (w' : World) : Prop := ∃ E, e = .returned (.iface 64 E) ∧ Hid (ErrP w' (.iface 64 E) 1) ∧ Below w.heap.size w w'
set_option maxHeartbeats 8000000 in
theorem take_no1 (R : Nat) (place id n : Int) (s t : ByteArray) (w : World) (hR : w.cell? ⟨R, 0, none⟩ = some (.int .i64 place)) (hm : mst id place = false) :
    Calls Tryz.prog 90 #[.pointer (some ⟨R, 0, none⟩), .agg #[.int .i64 id, .int .i64 n, .string s, .string t]] w (TakeNo w) := by
  have HS0 : Hid (TakeS R w.heap.size place id n s t (w.alloc (.cells #[.int .i64 id, .int .i64 n, .string s, .string t] 147))) := takeS_box R place id n s t w hR
  have HB0 : Hid (Below w.heap.size w (w.alloc (.cells #[.int .i64 id, .int .i64 n, .string s, .string t] 147))) := (Below.refl _ _).alloc (Nat.le_refl _) _
  clear hR
  go_enter Tryz.func90, Tryz.ntmps90
  go_wp2_with fail
  generalize w.alloc (.cells #[.int .i64 id, .int .i64 n, .string s, .string t] 147) = W0 at HS0 HB0 ⊢
  refine wp_region_noPanic ?_
  refine wp_region_held_drew (S := (fun w' => w'.cell? ⟨R, 0, none⟩ = some (.int .i64 place) ∧ w'.cell? ⟨w.heap.size, 0, none⟩ = some (.int .i64 id) ∧ w'.cell? ⟨w.heap.size, 1, none⟩ = some (.int .i64 n) ∧ w'.cell? ⟨w.heap.size, 2, none⟩ = some (.string s) ∧ w'.cell? ⟨w.heap.size, 3, none⟩ = some (.string t))) (by kernel_rfl) ((unhide HS0).below (below_drewN (Below.refl _ _) 1)) (fun hHeld => ?_)
  refine wpAnyH_take (i := 0) (oi := { dst := some 5, op := Op.fieldAddr 147 (Operand.tmp 3) 0, type := 0, pos := "prop.go:131", after := #[], guard := none }) (v := ?v1) rfl (by kernel_rfl) (by kernel_rfl) (by kernel_rfl) (fun _ _ _ h => h) (Or.inl ⟨by rfl, ?hy1⟩) (by assumption) ?rest1
  case hy1 => (intro w hSw; (try dsimp only at hSw); go_simp; (try rw [if_pos (by omega)]); (try with_reducible rfl))
  simp only [Act.put, List.setIfInBounds_toArray, List.set_cons_zero, List.set_cons_succ]
  refine wpAnyH_take (i := 1) (oi := { dst := some 6, op := Op.load 3 (Operand.tmp 5), type := 3, pos := "prop.go:131", after := #[{ on := 0, ground := Ground.data }], guard := none }) (v := ?v2) rfl (by kernel_rfl) (by kernel_rfl) (by kernel_rfl) (fun _ _ _ h => h) (Or.inl ⟨by rfl, ?hy2⟩) (by assumption) ?rest2
  case hy2 => (intro w hSw; (try dsimp only at hSw); go_simp; (try rw [if_pos (by omega)]); (try with_reducible rfl))
  simp only [Act.put, List.setIfInBounds_toArray, List.set_cons_zero, List.set_cons_succ]
  refine wpAnyH_take (i := 2) (oi := { dst := some 7, op := Op.move (Operand.tmp 0), type := 163, pos := "prop.go:131", after := #[], guard := none }) (v := ?v3) rfl (by kernel_rfl) (by kernel_rfl) (by kernel_rfl) (fun _ _ _ h => h) (Or.inl ⟨by rfl, ?hy3⟩) (by assumption) ?rest3
  case hy3 => (intro w hSw; (try dsimp only at hSw); go_simp; (try rw [if_pos (by omega)]); (try with_reducible rfl))
  simp only [Act.put, List.setIfInBounds_toArray, List.set_cons_zero, List.set_cons_succ]
  refine wpAnyH_take (i := 3) (oi := { dst := some 8, op := Op.nilCheck (Operand.tmp 7), type := 0, pos := "prop.go:131", after := #[{ on := 2, ground := Ground.data }], guard := none }) (v := ?v4) rfl (by kernel_rfl) (by kernel_rfl) (by kernel_rfl) (fun _ _ _ h => h) (Or.inl ⟨by rfl, ?hy4⟩) (by assumption) ?rest4
  case hy4 => (intro w hSw; (try dsimp only at hSw); go_simp; (try rw [if_pos (by omega)]); (try with_reducible rfl))
  simp only [Act.put, List.setIfInBounds_toArray, List.set_cons_zero, List.set_cons_succ]
  refine wpAnyH_take (i := 4) (oi := { dst := some 9, op := Op.fieldAddr 145 (Operand.tmp 8) 0, type := 0, pos := "prop.go:131", after := #[{ on := 3, ground := Ground.data }], guard := none }) (v := ?v5) rfl (by kernel_rfl) (by kernel_rfl) (by kernel_rfl) (fun _ _ _ h => h) (Or.inl ⟨by rfl, ?hy5⟩) (by assumption) ?rest5
  case hy5 => (intro w hSw; (try dsimp only at hSw); go_simp; (try rw [if_pos (by omega)]); (try with_reducible rfl))
  simp only [Act.put, List.setIfInBounds_toArray, List.set_cons_zero, List.set_cons_succ]
  refine wpAnyH_take (i := 5) (oi := { dst := some 10, op := Op.load 3 (Operand.tmp 9), type := 3, pos := "prop.go:131", after := #[{ on := 4, ground := Ground.data }], guard := none }) (v := ?v6) rfl (by kernel_rfl) (by kernel_rfl) (by kernel_rfl) (fun _ _ _ h => h) (Or.inl ⟨by rfl, ?hy6⟩) (by assumption) ?rest6
  case hy6 => (intro w hSw; (try dsimp only at hSw); go_simp; (try rw [if_pos (by omega)]); (try with_reducible rfl))
  simp only [Act.put, List.setIfInBounds_toArray, List.set_cons_zero, List.set_cons_succ]
  refine wpAnyH_ready (rs := [6]) (by kernel_rfl) (by simp) ?_
  refine AllReadyH.cons (o := { dst := some 11, op := Op.call { callee := Callee.value (Operand.func 99), args := #[Operand.tmp 6, Operand.tmp 10], argTypes := #[3, 3] }, type := 4, pos := "prop.go:131", after := #[{ on := 1, ground := Ground.data }, { on := 5, ground := Ground.data }], guard := none }) rfl (fun K hK => ?_) AllReadyH.nil
  go_simp
  refine (stand_use _ place false hm _).mono ?_
  rintro e w1 ⟨rfl, hb1⟩
  have HB1 : Hid (Below W0.heap.size W0 w1) := below_undrew1 hb1
  have HS1 : Hid (TakeS R w.heap.size place id n s t w1) := (unhide HS0).below (unhide HB1)
  clear hb1
  go_wp2_with fail
  refine hK.out _ _ (by exact unhide HS1) (fun hHeld => ?_)
  clear hK K
  refine wpAnyH_take (i := 7) (oi := { dst := some 12, op := Op.unOp UnOp.not 4 (Operand.tmp 11), type := 4, pos := "prop.go:131", after := #[{ on := 6, ground := Ground.data }], guard := none }) (v := ?v7) rfl (by kernel_rfl) (by kernel_rfl) (by kernel_rfl) (fun _ _ _ h => h) (Or.inl ⟨by rfl, ?hy7⟩) (by assumption) ?rest7
  case hy7 => (intro w hSw; (try dsimp only at hSw); go_simp; (try rw [if_pos (by omega)]); (try with_reducible rfl))
  simp only [Act.put, List.setIfInBounds_toArray, List.set_cons_zero, List.set_cons_succ]
  refine wpAnyH_take (i := 8) (oi := { dst := some 13, op := Op.move (Operand.tmp 12), type := 4, pos := "prop.go:131", after := #[{ on := 7, ground := Ground.data }, { on := 6, ground := Ground.chain }], guard := none }) (v := ?v8) rfl (by kernel_rfl) (by kernel_rfl) (by kernel_rfl) (fun _ _ _ h => h) (Or.inl ⟨by rfl, ?hy8⟩) (by assumption) ?rest8
  case hy8 => (intro w hSw; (try dsimp only at hSw); go_simp; (try rw [if_pos (by omega)]); (try with_reducible rfl))
  simp only [Act.put, List.setIfInBounds_toArray, List.set_cons_zero, List.set_cons_succ]
  refine wpAnyH_take (i := 9) (oi := { dst := some 14, op := Op.fieldAddr 147 (Operand.tmp 3) 0, type := 0, pos := "prop.go:131", after := #[{ on := 8, ground := Ground.guard }], guard := some (8, false) }) (v := undef) rfl (by kernel_rfl) (by kernel_rfl) (by kernel_rfl) (fun _ _ _ h => h) (Or.inr ⟨by rfl, rfl⟩) (by assumption) ?_
  simp only [Act.put, List.setIfInBounds_toArray, List.set_cons_zero, List.set_cons_succ]
  refine wpAnyH_take (i := 10) (oi := { dst := some 15, op := Op.load 3 (Operand.tmp 14), type := 3, pos := "prop.go:131", after := #[{ on := 9, ground := Ground.data }, { on := 8, ground := Ground.guard }], guard := some (8, false) }) (v := undef) rfl (by kernel_rfl) (by kernel_rfl) (by kernel_rfl) (fun _ _ _ h => h) (Or.inr ⟨by rfl, rfl⟩) (by assumption) ?_
  simp only [Act.put, List.setIfInBounds_toArray, List.set_cons_zero, List.set_cons_succ]
  refine wpAnyH_take (i := 11) (oi := { dst := some 16, op := Op.call { callee := Callee.value (Operand.func 98), args := #[Operand.tmp 15], argTypes := #[3] }, type := 161, pos := "prop.go:131", after := #[{ on := 10, ground := Ground.data }, { on := 8, ground := Ground.chain }, { on := 8, ground := Ground.guard }], guard := some (8, false) }) (v := undef) rfl (by kernel_rfl) (by kernel_rfl) (by kernel_rfl) (fun _ _ _ h => h) (Or.inr ⟨by rfl, rfl⟩) (by assumption) ?_
  simp only [Act.put, List.setIfInBounds_toArray, List.set_cons_zero, List.set_cons_succ]
  refine wpAnyH_take (i := 12) (oi := { dst := some 17, op := Op.load 147 (Operand.tmp 3), type := 147, pos := "prop.go:131", after := #[{ on := 8, ground := Ground.guard }], guard := some (8, false) }) (v := undef) rfl (by kernel_rfl) (by kernel_rfl) (by kernel_rfl) (fun _ _ _ h => h) (Or.inr ⟨by rfl, rfl⟩) (by assumption) ?_
  simp only [Act.put, List.setIfInBounds_toArray, List.set_cons_zero, List.set_cons_succ]
  refine wpAnyH_take (i := 13) (oi := { dst := some 18, op := Op.call { callee := Callee.value (Operand.func 100), args := #[Operand.tmp 16, Operand.tmp 17], argTypes := #[161, 147] }, type := 4, pos := "prop.go:131", after := #[{ on := 11, ground := Ground.data }, { on := 12, ground := Ground.data }, { on := 11, ground := Ground.chain }, { on := 8, ground := Ground.guard }], guard := some (8, false) }) (v := undef) rfl (by kernel_rfl) (by kernel_rfl) (by kernel_rfl) (fun _ _ _ h => h) (Or.inr ⟨by rfl, rfl⟩) (by assumption) ?_
  simp only [Act.put, List.setIfInBounds_toArray, List.set_cons_zero, List.set_cons_succ]
  refine wpAnyH_take (i := 14) (oi := { dst := some 19, op := Op.unOp UnOp.not 4 (Operand.tmp 18), type := 4, pos := "prop.go:131", after := #[{ on := 13, ground := Ground.data }, { on := 8, ground := Ground.guard }], guard := some (8, false) }) (v := undef) rfl (by kernel_rfl) (by kernel_rfl) (by kernel_rfl) (fun _ _ _ h => h) (Or.inr ⟨by rfl, rfl⟩) (by assumption) ?_
  simp only [Act.put, List.setIfInBounds_toArray, List.set_cons_zero, List.set_cons_succ]
  refine wpAnyH_take (i := 15) (oi := { dst := some 20, op := Op.pick (Operand.tmp 13) (Operand.const (Value.bool true)) (Operand.tmp 19), type := 4, pos := "prop.go:131", after := #[{ on := 8, ground := Ground.data }, { on := 14, ground := Ground.data }], guard := none }) (v := ?v9) rfl (by kernel_rfl) (by kernel_rfl) (by kernel_rfl) (fun _ _ _ h => h) (Or.inl ⟨by rfl, ?hy9⟩) (by assumption) ?rest9
  case hy9 => (intro w hSw; (try dsimp only at hSw); go_simp; (try rw [if_pos (by omega)]); (try with_reducible rfl))
  simp only [Act.put, List.setIfInBounds_toArray, List.set_cons_zero, List.set_cons_succ]
  refine wpAnyH_done (by kernel_rfl) ?_ _
  refine NoPanic.normal ?_
  go_wp2_with (go_at_call 66; refine (pfault_use 1 _).mono ?_; rintro e w9 ⟨E, rfl, hE, hb9⟩)
  go_ret
  exact ⟨E, rfl, hE, (unhide HB0).trans (((unhide HB1).trans (hb9.mono (unhide HB1).size)).mono (unhide HB0).size)⟩
set_option maxHeartbeats 8000000 in
theorem take_no2 (R : Nat) (place id n : Int) (s t : ByteArray) (w : World) (hR : w.cell? ⟨R, 0, none⟩ = some (.int .i64 place)) (hm : mst id place = true) (hf : fit (id, n, s, t) = false) :
    Calls Tryz.prog 90 #[.pointer (some ⟨R, 0, none⟩), .agg #[.int .i64 id, .int .i64 n, .string s, .string t]] w (TakeNo w) := by
  have HSH : Hid (shv id = .agg #[.int .i64 (frm id), .int .i64 (wid id), .int .i64 (lst id), .int .i64 (mx id)]) := rfl
  rw [fit_eq] at hf
  generalize frm id = f at HSH hf
  generalize wid id = wd at HSH
  generalize lst id = lo at HSH hf
  generalize mx id = hi at HSH hf
  have HS0 : Hid (TakeS R w.heap.size place id n s t (w.alloc (.cells #[.int .i64 id, .int .i64 n, .string s, .string t] 147))) := takeS_box R place id n s t w hR
  have HB0 : Hid (Below w.heap.size w (w.alloc (.cells #[.int .i64 id, .int .i64 n, .string s, .string t] 147))) := (Below.refl _ _).alloc (Nat.le_refl _) _
  clear hR
  go_enter Tryz.func90, Tryz.ntmps90
  go_wp2_with fail
  generalize w.alloc (.cells #[.int .i64 id, .int .i64 n, .string s, .string t] 147) = W0 at HS0 HB0 ⊢
  refine wp_region_noPanic ?_
  refine wp_region_held_drew (S := (fun w' => w'.cell? ⟨R, 0, none⟩ = some (.int .i64 place) ∧ w'.cell? ⟨w.heap.size, 0, none⟩ = some (.int .i64 id) ∧ w'.cell? ⟨w.heap.size, 1, none⟩ = some (.int .i64 n) ∧ w'.cell? ⟨w.heap.size, 2, none⟩ = some (.string s) ∧ w'.cell? ⟨w.heap.size, 3, none⟩ = some (.string t))) (by kernel_rfl) ((unhide HS0).below (below_drewN (Below.refl _ _) 1)) (fun hHeld => ?_)
  refine wpAnyH_take (i := 0) (oi := { dst := some 5, op := Op.fieldAddr 147 (Operand.tmp 3) 0, type := 0, pos := "prop.go:131", after := #[], guard := none }) (v := ?v10) rfl (by kernel_rfl) (by kernel_rfl) (by kernel_rfl) (fun _ _ _ h => h) (Or.inl ⟨by rfl, ?hy10⟩) (by assumption) ?rest10
  case hy10 => (intro w hSw; (try dsimp only at hSw); go_simp; (try rw [if_pos (by omega)]); (try with_reducible rfl))
  simp only [Act.put, List.setIfInBounds_toArray, List.set_cons_zero, List.set_cons_succ]
  refine wpAnyH_take (i := 1) (oi := { dst := some 6, op := Op.load 3 (Operand.tmp 5), type := 3, pos := "prop.go:131", after := #[{ on := 0, ground := Ground.data }], guard := none }) (v := ?v11) rfl (by kernel_rfl) (by kernel_rfl) (by kernel_rfl) (fun _ _ _ h => h) (Or.inl ⟨by rfl, ?hy11⟩) (by assumption) ?rest11
  case hy11 => (intro w hSw; (try dsimp only at hSw); go_simp; (try rw [if_pos (by omega)]); (try with_reducible rfl))
  simp only [Act.put, List.setIfInBounds_toArray, List.set_cons_zero, List.set_cons_succ]
  refine wpAnyH_take (i := 2) (oi := { dst := some 7, op := Op.move (Operand.tmp 0), type := 163, pos := "prop.go:131", after := #[], guard := none }) (v := ?v12) rfl (by kernel_rfl) (by kernel_rfl) (by kernel_rfl) (fun _ _ _ h => h) (Or.inl ⟨by rfl, ?hy12⟩) (by assumption) ?rest12
  case hy12 => (intro w hSw; (try dsimp only at hSw); go_simp; (try rw [if_pos (by omega)]); (try with_reducible rfl))
  simp only [Act.put, List.setIfInBounds_toArray, List.set_cons_zero, List.set_cons_succ]
  refine wpAnyH_take (i := 3) (oi := { dst := some 8, op := Op.nilCheck (Operand.tmp 7), type := 0, pos := "prop.go:131", after := #[{ on := 2, ground := Ground.data }], guard := none }) (v := ?v13) rfl (by kernel_rfl) (by kernel_rfl) (by kernel_rfl) (fun _ _ _ h => h) (Or.inl ⟨by rfl, ?hy13⟩) (by assumption) ?rest13
  case hy13 => (intro w hSw; (try dsimp only at hSw); go_simp; (try rw [if_pos (by omega)]); (try with_reducible rfl))
  simp only [Act.put, List.setIfInBounds_toArray, List.set_cons_zero, List.set_cons_succ]
  refine wpAnyH_take (i := 4) (oi := { dst := some 9, op := Op.fieldAddr 145 (Operand.tmp 8) 0, type := 0, pos := "prop.go:131", after := #[{ on := 3, ground := Ground.data }], guard := none }) (v := ?v14) rfl (by kernel_rfl) (by kernel_rfl) (by kernel_rfl) (fun _ _ _ h => h) (Or.inl ⟨by rfl, ?hy14⟩) (by assumption) ?rest14
  case hy14 => (intro w hSw; (try dsimp only at hSw); go_simp; (try rw [if_pos (by omega)]); (try with_reducible rfl))
  simp only [Act.put, List.setIfInBounds_toArray, List.set_cons_zero, List.set_cons_succ]
  refine wpAnyH_take (i := 5) (oi := { dst := some 10, op := Op.load 3 (Operand.tmp 9), type := 3, pos := "prop.go:131", after := #[{ on := 4, ground := Ground.data }], guard := none }) (v := ?v15) rfl (by kernel_rfl) (by kernel_rfl) (by kernel_rfl) (fun _ _ _ h => h) (Or.inl ⟨by rfl, ?hy15⟩) (by assumption) ?rest15
  case hy15 => (intro w hSw; (try dsimp only at hSw); go_simp; (try rw [if_pos (by omega)]); (try with_reducible rfl))
  simp only [Act.put, List.setIfInBounds_toArray, List.set_cons_zero, List.set_cons_succ]
  refine wpAnyH_ready (rs := [6]) (by kernel_rfl) (by simp) ?_
  refine AllReadyH.cons (o := { dst := some 11, op := Op.call { callee := Callee.value (Operand.func 99), args := #[Operand.tmp 6, Operand.tmp 10], argTypes := #[3, 3] }, type := 4, pos := "prop.go:131", after := #[{ on := 1, ground := Ground.data }, { on := 5, ground := Ground.data }], guard := none }) rfl (fun K hK => ?_) AllReadyH.nil
  go_simp
  refine (stand_use _ place true hm _).mono ?_
  rintro e w1 ⟨rfl, hb1⟩
  have HB1 : Hid (Below W0.heap.size W0 w1) := below_undrew1 hb1
  have HS1 : Hid (TakeS R w.heap.size place id n s t w1) := (unhide HS0).below (unhide HB1)
  clear hb1
  go_wp2_with fail
  refine hK.out _ _ (by exact unhide HS1) (fun hHeld => ?_)
  clear hK K
  refine wpAnyH_take (i := 7) (oi := { dst := some 12, op := Op.unOp UnOp.not 4 (Operand.tmp 11), type := 4, pos := "prop.go:131", after := #[{ on := 6, ground := Ground.data }], guard := none }) (v := ?v16) rfl (by kernel_rfl) (by kernel_rfl) (by kernel_rfl) (fun _ _ _ h => h) (Or.inl ⟨by rfl, ?hy16⟩) (by assumption) ?rest16
  case hy16 => (intro w hSw; (try dsimp only at hSw); go_simp; (try rw [if_pos (by omega)]); (try with_reducible rfl))
  simp only [Act.put, List.setIfInBounds_toArray, List.set_cons_zero, List.set_cons_succ]
  refine wpAnyH_take (i := 8) (oi := { dst := some 13, op := Op.move (Operand.tmp 12), type := 4, pos := "prop.go:131", after := #[{ on := 7, ground := Ground.data }, { on := 6, ground := Ground.chain }], guard := none }) (v := ?v17) rfl (by kernel_rfl) (by kernel_rfl) (by kernel_rfl) (fun _ _ _ h => h) (Or.inl ⟨by rfl, ?hy17⟩) (by assumption) ?rest17
  case hy17 => (intro w hSw; (try dsimp only at hSw); go_simp; (try rw [if_pos (by omega)]); (try with_reducible rfl))
  simp only [Act.put, List.setIfInBounds_toArray, List.set_cons_zero, List.set_cons_succ]
  refine wpAnyH_take (i := 9) (oi := { dst := some 14, op := Op.fieldAddr 147 (Operand.tmp 3) 0, type := 0, pos := "prop.go:131", after := #[{ on := 8, ground := Ground.guard }], guard := some (8, false) }) (v := ?v18) rfl (by kernel_rfl) (by kernel_rfl) (by kernel_rfl) (fun _ _ _ h => h) (Or.inl ⟨by rfl, ?hy18⟩) (by assumption) ?rest18
  case hy18 => (intro w hSw; (try dsimp only at hSw); go_simp; (try rw [if_pos (by omega)]); (try with_reducible rfl))
  simp only [Act.put, List.setIfInBounds_toArray, List.set_cons_zero, List.set_cons_succ]
  refine wpAnyH_take (i := 10) (oi := { dst := some 15, op := Op.load 3 (Operand.tmp 14), type := 3, pos := "prop.go:131", after := #[{ on := 9, ground := Ground.data }, { on := 8, ground := Ground.guard }], guard := some (8, false) }) (v := ?v19) rfl (by kernel_rfl) (by kernel_rfl) (by kernel_rfl) (fun _ _ _ h => h) (Or.inl ⟨by rfl, ?hy19⟩) (by assumption) ?rest19
  case hy19 => (intro w hSw; (try dsimp only at hSw); go_simp; (try rw [if_pos (by omega)]); (try with_reducible rfl))
  simp only [Act.put, List.setIfInBounds_toArray, List.set_cons_zero, List.set_cons_succ]
  refine wpAnyH_take (i := 12) (oi := { dst := some 17, op := Op.load 147 (Operand.tmp 3), type := 147, pos := "prop.go:131", after := #[{ on := 8, ground := Ground.guard }], guard := some (8, false) }) (v := ?v20) rfl (by kernel_rfl) (by kernel_rfl) (by kernel_rfl) (fun _ _ _ h => h) (Or.inl ⟨by rfl, ?hy20⟩) (by assumption) ?rest20
  case hy20 => (intro w hSw; (try dsimp only at hSw); go_simp; (try rw [if_pos (by omega)]); (try with_reducible rfl))
  simp only [Act.put, List.setIfInBounds_toArray, List.set_cons_zero, List.set_cons_succ]
  refine wpAnyH_ready (rs := [11]) (by kernel_rfl) (by simp) ?_
  refine AllReadyH.cons (o := { dst := some 16, op := Op.call { callee := Callee.value (Operand.func 98), args := #[Operand.tmp 15], argTypes := #[3] }, type := 161, pos := "prop.go:131", after := #[{ on := 10, ground := Ground.data }, { on := 8, ground := Ground.chain }, { on := 8, ground := Ground.guard }], guard := some (8, false) }) rfl (fun K hK => ?_) AllReadyH.nil
  go_simp
  refine (shape_use _ f wd lo hi (unhide HSH) _).mono ?_
  rintro e w2 ⟨rfl, hb2⟩
  have HB2 : Hid (Below W0.heap.size W0 w2) := (unhide HB1).trans (hb2.mono (unhide HB1).size)
  have HS2 : Hid (TakeS R w.heap.size place id n s t w2) := (unhide HS0).below (unhide HB2)
  clear hb2 HB1 HS1
  go_wp2_with fail
  refine hK.out _ _ (by exact unhide HS2) (fun hHeld => ?_)
  clear hK K
  refine wpAnyH_ready (rs := [13]) (by kernel_rfl) (by simp) ?_
  refine AllReadyH.cons (o := { dst := some 18, op := Op.call { callee := Callee.value (Operand.func 100), args := #[Operand.tmp 16, Operand.tmp 17], argTypes := #[161, 147] }, type := 4, pos := "prop.go:131", after := #[{ on := 11, ground := Ground.data }, { on := 12, ground := Ground.data }, { on := 11, ground := Ground.chain }, { on := 8, ground := Ground.guard }], guard := some (8, false) }) rfl (fun K hK => ?_) AllReadyH.nil
  go_simp
  refine (fits_is f wd lo hi _ n s t false hf _).mono ?_
  rintro e w3 ⟨rfl, hb3⟩
  have HB3 : Hid (Below W0.heap.size W0 w3) := (unhide HB2).trans (hb3.mono (unhide HB2).size)
  have HS3 : Hid (TakeS R w.heap.size place id n s t w3) := (unhide HS0).below (unhide HB3)
  clear hb3 HB2 HS2
  go_wp2_with fail
  refine hK.out _ _ (by exact unhide HS3) (fun hHeld => ?_)
  clear hK K
  refine wpAnyH_take (i := 14) (oi := { dst := some 19, op := Op.unOp UnOp.not 4 (Operand.tmp 18), type := 4, pos := "prop.go:131", after := #[{ on := 13, ground := Ground.data }, { on := 8, ground := Ground.guard }], guard := some (8, false) }) (v := ?v21) rfl (by kernel_rfl) (by kernel_rfl) (by kernel_rfl) (fun _ _ _ h => h) (Or.inl ⟨by rfl, ?hy21⟩) (by assumption) ?rest21
  case hy21 => (intro w hSw; (try dsimp only at hSw); go_simp; (try rw [if_pos (by omega)]); (try with_reducible rfl))
  simp only [Act.put, List.setIfInBounds_toArray, List.set_cons_zero, List.set_cons_succ]
  refine wpAnyH_take (i := 15) (oi := { dst := some 20, op := Op.pick (Operand.tmp 13) (Operand.const (Value.bool true)) (Operand.tmp 19), type := 4, pos := "prop.go:131", after := #[{ on := 8, ground := Ground.data }, { on := 14, ground := Ground.data }], guard := none }) (v := ?v22) rfl (by kernel_rfl) (by kernel_rfl) (by kernel_rfl) (fun _ _ _ h => h) (Or.inl ⟨by rfl, ?hy22⟩) (by assumption) ?rest22
  case hy22 => (intro w hSw; (try dsimp only at hSw); go_simp; (try rw [if_pos (by omega)]); (try with_reducible rfl))
  simp only [Act.put, List.setIfInBounds_toArray, List.set_cons_zero, List.set_cons_succ]
  refine wpAnyH_done (by kernel_rfl) ?_ _
  refine NoPanic.normal ?_
  go_wp2_with (go_at_call 66; refine (pfault_use 1 _).mono ?_; rintro e w9 ⟨E, rfl, hE, hb9⟩)
  go_ret
  exact ⟨E, rfl, hE, (unhide HB0).trans (((unhide HB3).trans (hb9.mono (unhide HB3).size)).mono (unhide HB0).size)⟩
set_option maxHeartbeats 8000000 in
theorem take_no3 (R k : Nat) (place n : Int) (s t : ByteArray) (w : World) (hk : k ≤ 42) (hR : w.cell? ⟨R, 0, none⟩ = some (.int .i64 place)) (hsn : w.cell? ⟨R, 1 + k, none⟩ = some (.bool true)) (hm : mst k place = true) (hf : fit (k, n, s, t) = true) (hr : rep k place = false) :
    Calls Tryz.prog 90 #[.pointer (some ⟨R, 0, none⟩), .agg #[.int .i64 (k : Int), .int .i64 n, .string s, .string t]] w (TakeNo w) := by
  have HSH : Hid (shv (k : Int) = .agg #[.int .i64 (frm (k : Int)), .int .i64 (wid (k : Int)), .int .i64 (lst (k : Int)), .int .i64 (mx (k : Int))]) := rfl
  rw [fit_eq] at hf
  generalize frm (k : Int) = f at HSH hf
  generalize wid (k : Int) = wd at HSH
  generalize lst (k : Int) = lo at HSH hf
  generalize mx (k : Int) = hi at HSH hf
  have HQ : Hid ((w.alloc (.cells #[.int .i64 (k : Int), .int .i64 n, .string s, .string t] 147)).cell? ⟨R, 1 + k, none⟩ = some (.bool true)) := by
    show _ = _
    rw [World.cell?_alloc_lt _ _ ⟨R, 1 + k, none⟩ (cell_lt hsn)]; exact hsn
  clear hsn
  have HS0 : Hid (TakeS R w.heap.size place (k : Int) n s t (w.alloc (.cells #[.int .i64 (k : Int), .int .i64 n, .string s, .string t] 147))) := takeS_box R place (k : Int) n s t w hR
  have HB0 : Hid (Below w.heap.size w (w.alloc (.cells #[.int .i64 (k : Int), .int .i64 n, .string s, .string t] 147))) := (Below.refl _ _).alloc (Nat.le_refl _) _
  clear hR
  go_enter Tryz.func90, Tryz.ntmps90
  go_wp2_with fail
  generalize w.alloc (.cells #[.int .i64 (k : Int), .int .i64 n, .string s, .string t] 147) = W0 at HS0 HB0 HQ ⊢
  refine wp_region_noPanic ?_
  refine wp_region_held_drew (S := (fun w' => w'.cell? ⟨R, 0, none⟩ = some (.int .i64 place) ∧ w'.cell? ⟨w.heap.size, 0, none⟩ = some (.int .i64 (k : Int)) ∧ w'.cell? ⟨w.heap.size, 1, none⟩ = some (.int .i64 n) ∧ w'.cell? ⟨w.heap.size, 2, none⟩ = some (.string s) ∧ w'.cell? ⟨w.heap.size, 3, none⟩ = some (.string t))) (by kernel_rfl) ((unhide HS0).below (below_drewN (Below.refl _ _) 1)) (fun hHeld => ?_)
  refine wpAnyH_take (i := 0) (oi := { dst := some 5, op := Op.fieldAddr 147 (Operand.tmp 3) 0, type := 0, pos := "prop.go:131", after := #[], guard := none }) (v := ?v23) rfl (by kernel_rfl) (by kernel_rfl) (by kernel_rfl) (fun _ _ _ h => h) (Or.inl ⟨by rfl, ?hy23⟩) (by assumption) ?rest23
  case hy23 => (intro w hSw; (try dsimp only at hSw); go_simp; (try rw [if_pos (by omega)]); (try with_reducible rfl))
  simp only [Act.put, List.setIfInBounds_toArray, List.set_cons_zero, List.set_cons_succ]
  refine wpAnyH_take (i := 1) (oi := { dst := some 6, op := Op.load 3 (Operand.tmp 5), type := 3, pos := "prop.go:131", after := #[{ on := 0, ground := Ground.data }], guard := none }) (v := ?v24) rfl (by kernel_rfl) (by kernel_rfl) (by kernel_rfl) (fun _ _ _ h => h) (Or.inl ⟨by rfl, ?hy24⟩) (by assumption) ?rest24
  case hy24 => (intro w hSw; (try dsimp only at hSw); go_simp; (try rw [if_pos (by omega)]); (try with_reducible rfl))
  simp only [Act.put, List.setIfInBounds_toArray, List.set_cons_zero, List.set_cons_succ]
  refine wpAnyH_take (i := 2) (oi := { dst := some 7, op := Op.move (Operand.tmp 0), type := 163, pos := "prop.go:131", after := #[], guard := none }) (v := ?v25) rfl (by kernel_rfl) (by kernel_rfl) (by kernel_rfl) (fun _ _ _ h => h) (Or.inl ⟨by rfl, ?hy25⟩) (by assumption) ?rest25
  case hy25 => (intro w hSw; (try dsimp only at hSw); go_simp; (try rw [if_pos (by omega)]); (try with_reducible rfl))
  simp only [Act.put, List.setIfInBounds_toArray, List.set_cons_zero, List.set_cons_succ]
  refine wpAnyH_take (i := 3) (oi := { dst := some 8, op := Op.nilCheck (Operand.tmp 7), type := 0, pos := "prop.go:131", after := #[{ on := 2, ground := Ground.data }], guard := none }) (v := ?v26) rfl (by kernel_rfl) (by kernel_rfl) (by kernel_rfl) (fun _ _ _ h => h) (Or.inl ⟨by rfl, ?hy26⟩) (by assumption) ?rest26
  case hy26 => (intro w hSw; (try dsimp only at hSw); go_simp; (try rw [if_pos (by omega)]); (try with_reducible rfl))
  simp only [Act.put, List.setIfInBounds_toArray, List.set_cons_zero, List.set_cons_succ]
  refine wpAnyH_take (i := 4) (oi := { dst := some 9, op := Op.fieldAddr 145 (Operand.tmp 8) 0, type := 0, pos := "prop.go:131", after := #[{ on := 3, ground := Ground.data }], guard := none }) (v := ?v27) rfl (by kernel_rfl) (by kernel_rfl) (by kernel_rfl) (fun _ _ _ h => h) (Or.inl ⟨by rfl, ?hy27⟩) (by assumption) ?rest27
  case hy27 => (intro w hSw; (try dsimp only at hSw); go_simp; (try rw [if_pos (by omega)]); (try with_reducible rfl))
  simp only [Act.put, List.setIfInBounds_toArray, List.set_cons_zero, List.set_cons_succ]
  refine wpAnyH_take (i := 5) (oi := { dst := some 10, op := Op.load 3 (Operand.tmp 9), type := 3, pos := "prop.go:131", after := #[{ on := 4, ground := Ground.data }], guard := none }) (v := ?v28) rfl (by kernel_rfl) (by kernel_rfl) (by kernel_rfl) (fun _ _ _ h => h) (Or.inl ⟨by rfl, ?hy28⟩) (by assumption) ?rest28
  case hy28 => (intro w hSw; (try dsimp only at hSw); go_simp; (try rw [if_pos (by omega)]); (try with_reducible rfl))
  simp only [Act.put, List.setIfInBounds_toArray, List.set_cons_zero, List.set_cons_succ]
  refine wpAnyH_ready (rs := [6]) (by kernel_rfl) (by simp) ?_
  refine AllReadyH.cons (o := { dst := some 11, op := Op.call { callee := Callee.value (Operand.func 99), args := #[Operand.tmp 6, Operand.tmp 10], argTypes := #[3, 3] }, type := 4, pos := "prop.go:131", after := #[{ on := 1, ground := Ground.data }, { on := 5, ground := Ground.data }], guard := none }) rfl (fun K hK => ?_) AllReadyH.nil
  go_simp
  refine (stand_use _ place true hm _).mono ?_
  rintro e w1 ⟨rfl, hb1⟩
  have HB1 : Hid (Below W0.heap.size W0 w1) := below_undrew1 hb1
  have HS1 : Hid (TakeS R w.heap.size place (k : Int) n s t w1) := (unhide HS0).below (unhide HB1)
  clear hb1
  go_wp2_with fail
  refine hK.out _ _ (by exact unhide HS1) (fun hHeld => ?_)
  clear hK K
  refine wpAnyH_take (i := 7) (oi := { dst := some 12, op := Op.unOp UnOp.not 4 (Operand.tmp 11), type := 4, pos := "prop.go:131", after := #[{ on := 6, ground := Ground.data }], guard := none }) (v := ?v29) rfl (by kernel_rfl) (by kernel_rfl) (by kernel_rfl) (fun _ _ _ h => h) (Or.inl ⟨by rfl, ?hy29⟩) (by assumption) ?rest29
  case hy29 => (intro w hSw; (try dsimp only at hSw); go_simp; (try rw [if_pos (by omega)]); (try with_reducible rfl))
  simp only [Act.put, List.setIfInBounds_toArray, List.set_cons_zero, List.set_cons_succ]
  refine wpAnyH_take (i := 8) (oi := { dst := some 13, op := Op.move (Operand.tmp 12), type := 4, pos := "prop.go:131", after := #[{ on := 7, ground := Ground.data }, { on := 6, ground := Ground.chain }], guard := none }) (v := ?v30) rfl (by kernel_rfl) (by kernel_rfl) (by kernel_rfl) (fun _ _ _ h => h) (Or.inl ⟨by rfl, ?hy30⟩) (by assumption) ?rest30
  case hy30 => (intro w hSw; (try dsimp only at hSw); go_simp; (try rw [if_pos (by omega)]); (try with_reducible rfl))
  simp only [Act.put, List.setIfInBounds_toArray, List.set_cons_zero, List.set_cons_succ]
  refine wpAnyH_take (i := 9) (oi := { dst := some 14, op := Op.fieldAddr 147 (Operand.tmp 3) 0, type := 0, pos := "prop.go:131", after := #[{ on := 8, ground := Ground.guard }], guard := some (8, false) }) (v := ?v31) rfl (by kernel_rfl) (by kernel_rfl) (by kernel_rfl) (fun _ _ _ h => h) (Or.inl ⟨by rfl, ?hy31⟩) (by assumption) ?rest31
  case hy31 => (intro w hSw; (try dsimp only at hSw); go_simp; (try rw [if_pos (by omega)]); (try with_reducible rfl))
  simp only [Act.put, List.setIfInBounds_toArray, List.set_cons_zero, List.set_cons_succ]
  refine wpAnyH_take (i := 10) (oi := { dst := some 15, op := Op.load 3 (Operand.tmp 14), type := 3, pos := "prop.go:131", after := #[{ on := 9, ground := Ground.data }, { on := 8, ground := Ground.guard }], guard := some (8, false) }) (v := ?v32) rfl (by kernel_rfl) (by kernel_rfl) (by kernel_rfl) (fun _ _ _ h => h) (Or.inl ⟨by rfl, ?hy32⟩) (by assumption) ?rest32
  case hy32 => (intro w hSw; (try dsimp only at hSw); go_simp; (try rw [if_pos (by omega)]); (try with_reducible rfl))
  simp only [Act.put, List.setIfInBounds_toArray, List.set_cons_zero, List.set_cons_succ]
  refine wpAnyH_take (i := 12) (oi := { dst := some 17, op := Op.load 147 (Operand.tmp 3), type := 147, pos := "prop.go:131", after := #[{ on := 8, ground := Ground.guard }], guard := some (8, false) }) (v := ?v33) rfl (by kernel_rfl) (by kernel_rfl) (by kernel_rfl) (fun _ _ _ h => h) (Or.inl ⟨by rfl, ?hy33⟩) (by assumption) ?rest33
  case hy33 => (intro w hSw; (try dsimp only at hSw); go_simp; (try rw [if_pos (by omega)]); (try with_reducible rfl))
  simp only [Act.put, List.setIfInBounds_toArray, List.set_cons_zero, List.set_cons_succ]
  refine wpAnyH_ready (rs := [11]) (by kernel_rfl) (by simp) ?_
  refine AllReadyH.cons (o := { dst := some 16, op := Op.call { callee := Callee.value (Operand.func 98), args := #[Operand.tmp 15], argTypes := #[3] }, type := 161, pos := "prop.go:131", after := #[{ on := 10, ground := Ground.data }, { on := 8, ground := Ground.chain }, { on := 8, ground := Ground.guard }], guard := some (8, false) }) rfl (fun K hK => ?_) AllReadyH.nil
  go_simp
  refine (shape_use _ f wd lo hi (unhide HSH) _).mono ?_
  rintro e w2 ⟨rfl, hb2⟩
  have HB2 : Hid (Below W0.heap.size W0 w2) := (unhide HB1).trans (hb2.mono (unhide HB1).size)
  have HS2 : Hid (TakeS R w.heap.size place (k : Int) n s t w2) := (unhide HS0).below (unhide HB2)
  clear hb2 HB1 HS1
  go_wp2_with fail
  refine hK.out _ _ (by exact unhide HS2) (fun hHeld => ?_)
  clear hK K
  refine wpAnyH_ready (rs := [13]) (by kernel_rfl) (by simp) ?_
  refine AllReadyH.cons (o := { dst := some 18, op := Op.call { callee := Callee.value (Operand.func 100), args := #[Operand.tmp 16, Operand.tmp 17], argTypes := #[161, 147] }, type := 4, pos := "prop.go:131", after := #[{ on := 11, ground := Ground.data }, { on := 12, ground := Ground.data }, { on := 11, ground := Ground.chain }, { on := 8, ground := Ground.guard }], guard := some (8, false) }) rfl (fun K hK => ?_) AllReadyH.nil
  go_simp
  refine (fits_is f wd lo hi _ n s t true hf _).mono ?_
  rintro e w3 ⟨rfl, hb3⟩
  have HB3 : Hid (Below W0.heap.size W0 w3) := (unhide HB2).trans (hb3.mono (unhide HB2).size)
  have HS3 : Hid (TakeS R w.heap.size place (k : Int) n s t w3) := (unhide HS0).below (unhide HB3)
  clear hb3 HB2 HS2
  go_wp2_with fail
  refine hK.out _ _ (by exact unhide HS3) (fun hHeld => ?_)
  clear hK K
  refine wpAnyH_take (i := 14) (oi := { dst := some 19, op := Op.unOp UnOp.not 4 (Operand.tmp 18), type := 4, pos := "prop.go:131", after := #[{ on := 13, ground := Ground.data }, { on := 8, ground := Ground.guard }], guard := some (8, false) }) (v := ?v34) rfl (by kernel_rfl) (by kernel_rfl) (by kernel_rfl) (fun _ _ _ h => h) (Or.inl ⟨by rfl, ?hy34⟩) (by assumption) ?rest34
  case hy34 => (intro w hSw; (try dsimp only at hSw); go_simp; (try rw [if_pos (by omega)]); (try with_reducible rfl))
  simp only [Act.put, List.setIfInBounds_toArray, List.set_cons_zero, List.set_cons_succ]
  refine wpAnyH_take (i := 15) (oi := { dst := some 20, op := Op.pick (Operand.tmp 13) (Operand.const (Value.bool true)) (Operand.tmp 19), type := 4, pos := "prop.go:131", after := #[{ on := 8, ground := Ground.data }, { on := 14, ground := Ground.data }], guard := none }) (v := ?v35) rfl (by kernel_rfl) (by kernel_rfl) (by kernel_rfl) (fun _ _ _ h => h) (Or.inl ⟨by rfl, ?hy35⟩) (by assumption) ?rest35
  case hy35 => (intro w hSw; (try dsimp only at hSw); go_simp; (try rw [if_pos (by omega)]); (try with_reducible rfl))
  simp only [Act.put, List.setIfInBounds_toArray, List.set_cons_zero, List.set_cons_succ]
  refine wpAnyH_done (by kernel_rfl) ?_ _
  refine NoPanic.normal ?_
  have HQ0 : Hid (W0.cell? ⟨R, 1 + k, none⟩ = some (.bool true)) := by show _ = _; exact unhide HQ
  have HQ3 : Hid (w3.cell? ⟨R, 1 + k, none⟩ = some (.bool true)) := ((unhide HB3).cell (cell_lt (unhide HQ0))).trans (unhide HQ0)
  go_wp2_with fail
  refine wp_region_noPanic ?_
  refine wp_region_held_drew (S := (fun w' => w'.cell? ⟨R, 0, none⟩ = some (.int .i64 place) ∧ w'.cell? ⟨w.heap.size, 0, none⟩ = some (.int .i64 (k : Int)) ∧ w'.cell? ⟨R, 1 + k, none⟩ = some (.bool true))) (by kernel_rfl) ⟨(unhide HS3).1, (unhide HS3).2.1, unhide HQ3⟩ (fun hHeld => ?_)
  refine wpAnyH_take (i := 0) (oi := { dst := some 22, op := Op.move (Operand.tmp 0), type := 163, pos := "prop.go:134", after := #[], guard := none }) (v := ?v36) rfl (by kernel_rfl) (by kernel_rfl) (by kernel_rfl) (fun _ _ _ h => h) (Or.inl ⟨by rfl, ?hy36⟩) (by assumption) ?rest36
  case hy36 => (intro w hSw; (try dsimp only at hSw); go_simp; (try rw [if_pos (by omega)]); (try with_reducible rfl))
  simp only [Act.put, List.setIfInBounds_toArray, List.set_cons_zero, List.set_cons_succ]
  refine wpAnyH_take (i := 1) (oi := { dst := some 23, op := Op.fieldAddr 147 (Operand.tmp 3) 0, type := 0, pos := "prop.go:134", after := #[], guard := none }) (v := ?v37) rfl (by kernel_rfl) (by kernel_rfl) (by kernel_rfl) (fun _ _ _ h => h) (Or.inl ⟨by rfl, ?hy37⟩) (by assumption) ?rest37
  case hy37 => (intro w hSw; (try dsimp only at hSw); go_simp; (try rw [if_pos (by omega)]); (try with_reducible rfl))
  simp only [Act.put, List.setIfInBounds_toArray, List.set_cons_zero, List.set_cons_succ]
  refine wpAnyH_take (i := 2) (oi := { dst := some 24, op := Op.load 3 (Operand.tmp 23), type := 3, pos := "prop.go:134", after := #[{ on := 1, ground := Ground.data }], guard := none }) (v := ?v38) rfl (by kernel_rfl) (by kernel_rfl) (by kernel_rfl) (fun _ _ _ h => h) (Or.inl ⟨by rfl, ?hy38⟩) (by assumption) ?rest38
  case hy38 => (intro w hSw; (try dsimp only at hSw); go_simp; (try rw [if_pos (by omega)]); (try with_reducible rfl))
  simp only [Act.put, List.setIfInBounds_toArray, List.set_cons_zero, List.set_cons_succ]
  refine wpAnyH_take (i := 3) (oi := { dst := some 25, op := Op.nilCheck (Operand.tmp 22), type := 0, pos := "prop.go:134", after := #[{ on := 0, ground := Ground.data }], guard := none }) (v := ?v39) rfl (by kernel_rfl) (by kernel_rfl) (by kernel_rfl) (fun _ _ _ h => h) (Or.inl ⟨by rfl, ?hy39⟩) (by assumption) ?rest39
  case hy39 => (intro w hSw; (try dsimp only at hSw); go_simp; (try rw [if_pos (by omega)]); (try with_reducible rfl))
  simp only [Act.put, List.setIfInBounds_toArray, List.set_cons_zero, List.set_cons_succ]
  refine wpAnyH_take (i := 4) (oi := { dst := some 26, op := Op.fieldAddr 145 (Operand.tmp 25) 1, type := 0, pos := "prop.go:134", after := #[{ on := 3, ground := Ground.data }], guard := none }) (v := ?v40) rfl (by kernel_rfl) (by kernel_rfl) (by kernel_rfl) (fun _ _ _ h => h) (Or.inl ⟨by rfl, ?hy40⟩) (by assumption) ?rest40
  case hy40 => (intro w hSw; (try dsimp only at hSw); go_simp; (try rw [if_pos (by omega)]); (try with_reducible rfl))
  simp only [Act.put, List.setIfInBounds_toArray, List.set_cons_zero, List.set_cons_succ]
  refine wpAnyH_take (i := 5) (oi := { dst := some 27, op := Op.indexAddr 143 (Operand.tmp 26) (Operand.tmp 24), type := 0, pos := "prop.go:134", after := #[{ on := 4, ground := Ground.data }, { on := 2, ground := Ground.data }], guard := none }) (v := ?v41) rfl (by kernel_rfl) (by kernel_rfl) (by kernel_rfl) (fun _ _ _ h => h) (Or.inl ⟨by rfl, ?hy41⟩) (by assumption) ?rest41
  case hy41 => (intro w hSw; (try dsimp only at hSw); go_simp; (try rw [if_pos (by omega)]); (try with_reducible rfl))
  simp only [Act.put, List.setIfInBounds_toArray, List.set_cons_zero, List.set_cons_succ]
  refine wpAnyH_take (i := 6) (oi := { dst := some 28, op := Op.load 4 (Operand.tmp 27), type := 4, pos := "prop.go:134", after := #[{ on := 5, ground := Ground.data }], guard := none }) (v := ?v42) rfl (by kernel_rfl) (by kernel_rfl) (by kernel_rfl) (fun _ _ _ h => h) (Or.inl ⟨by rfl, ?hy42⟩) (by assumption) ?rest42
  case hy42 => (intro w hSw; (try dsimp only at hSw); go_simp; (try rw [if_pos (by omega)]); (try with_reducible rfl))
  simp only [Act.put, List.setIfInBounds_toArray, List.set_cons_zero, List.set_cons_succ]
  refine wpAnyH_take (i := 7) (oi := { dst := some 29, op := Op.move (Operand.tmp 28), type := 4, pos := "prop.go:134", after := #[{ on := 6, ground := Ground.data }], guard := none }) (v := ?v43) rfl (by kernel_rfl) (by kernel_rfl) (by kernel_rfl) (fun _ _ _ h => h) (Or.inl ⟨by rfl, ?hy43⟩) (by assumption) ?rest43
  case hy43 => (intro w hSw; (try dsimp only at hSw); go_simp; (try rw [if_pos (by omega)]); (try with_reducible rfl))
  simp only [Act.put, List.setIfInBounds_toArray, List.set_cons_zero, List.set_cons_succ]
  refine wpAnyH_take (i := 8) (oi := { dst := some 30, op := Op.fieldAddr 147 (Operand.tmp 3) 0, type := 0, pos := "prop.go:134", after := #[{ on := 7, ground := Ground.guard }], guard := some (7, true) }) (v := ?v44) rfl (by kernel_rfl) (by kernel_rfl) (by kernel_rfl) (fun _ _ _ h => h) (Or.inl ⟨by rfl, ?hy44⟩) (by assumption) ?rest44
  case hy44 => (intro w hSw; (try dsimp only at hSw); go_simp; (try rw [if_pos (by omega)]); (try with_reducible rfl))
  simp only [Act.put, List.setIfInBounds_toArray, List.set_cons_zero, List.set_cons_succ]
  refine wpAnyH_take (i := 9) (oi := { dst := some 31, op := Op.load 3 (Operand.tmp 30), type := 3, pos := "prop.go:134", after := #[{ on := 8, ground := Ground.data }, { on := 7, ground := Ground.guard }], guard := some (7, true) }) (v := ?v45) rfl (by kernel_rfl) (by kernel_rfl) (by kernel_rfl) (fun _ _ _ h => h) (Or.inl ⟨by rfl, ?hy45⟩) (by assumption) ?rest45
  case hy45 => (intro w hSw; (try dsimp only at hSw); go_simp; (try rw [if_pos (by omega)]); (try with_reducible rfl))
  simp only [Act.put, List.setIfInBounds_toArray, List.set_cons_zero, List.set_cons_succ]
  refine wpAnyH_take (i := 10) (oi := { dst := some 32, op := Op.move (Operand.tmp 0), type := 163, pos := "prop.go:134", after := #[{ on := 7, ground := Ground.guard }], guard := some (7, true) }) (v := ?v46) rfl (by kernel_rfl) (by kernel_rfl) (by kernel_rfl) (fun _ _ _ h => h) (Or.inl ⟨by rfl, ?hy46⟩) (by assumption) ?rest46
  case hy46 => (intro w hSw; (try dsimp only at hSw); go_simp; (try rw [if_pos (by omega)]); (try with_reducible rfl))
  simp only [Act.put, List.setIfInBounds_toArray, List.set_cons_zero, List.set_cons_succ]
  refine wpAnyH_take (i := 11) (oi := { dst := some 33, op := Op.nilCheck (Operand.tmp 32), type := 0, pos := "prop.go:134", after := #[{ on := 10, ground := Ground.data }, { on := 7, ground := Ground.guard }], guard := some (7, true) }) (v := ?v47) rfl (by kernel_rfl) (by kernel_rfl) (by kernel_rfl) (fun _ _ _ h => h) (Or.inl ⟨by rfl, ?hy47⟩) (by assumption) ?rest47
  case hy47 => (intro w hSw; (try dsimp only at hSw); go_simp; (try rw [if_pos (by omega)]); (try with_reducible rfl))
  simp only [Act.put, List.setIfInBounds_toArray, List.set_cons_zero, List.set_cons_succ]
  refine wpAnyH_take (i := 12) (oi := { dst := some 34, op := Op.fieldAddr 145 (Operand.tmp 33) 0, type := 0, pos := "prop.go:134", after := #[{ on := 11, ground := Ground.data }, { on := 7, ground := Ground.guard }], guard := some (7, true) }) (v := ?v48) rfl (by kernel_rfl) (by kernel_rfl) (by kernel_rfl) (fun _ _ _ h => h) (Or.inl ⟨by rfl, ?hy48⟩) (by assumption) ?rest48
  case hy48 => (intro w hSw; (try dsimp only at hSw); go_simp; (try rw [if_pos (by omega)]); (try with_reducible rfl))
  simp only [Act.put, List.setIfInBounds_toArray, List.set_cons_zero, List.set_cons_succ]
  refine wpAnyH_take (i := 13) (oi := { dst := some 35, op := Op.load 3 (Operand.tmp 34), type := 3, pos := "prop.go:134", after := #[{ on := 12, ground := Ground.data }, { on := 7, ground := Ground.guard }], guard := some (7, true) }) (v := ?v49) rfl (by kernel_rfl) (by kernel_rfl) (by kernel_rfl) (fun _ _ _ h => h) (Or.inl ⟨by rfl, ?hy49⟩) (by assumption) ?rest49
  case hy49 => (intro w hSw; (try dsimp only at hSw); go_simp; (try rw [if_pos (by omega)]); (try with_reducible rfl))
  simp only [Act.put, List.setIfInBounds_toArray, List.set_cons_zero, List.set_cons_succ]
  refine wpAnyH_ready (rs := [14]) (by kernel_rfl) (by simp) ?_
  refine AllReadyH.cons (o := { dst := some 36, op := Op.call { callee := Callee.value (Operand.func 101), args := #[Operand.tmp 31, Operand.tmp 35], argTypes := #[3, 3] }, type := 4, pos := "prop.go:134", after := #[{ on := 9, ground := Ground.data }, { on := 13, ground := Ground.data }, { on := 7, ground := Ground.chain }, { on := 7, ground := Ground.guard }], guard := some (7, true) }) rfl (fun K hK => ?_) AllReadyH.nil
  go_simp
  refine (repeat_is _ place false hr _).mono ?_
  rintro e w4 ⟨rfl, hw4⟩
  obtain rfl := hw4.symm
  clear hw4
  go_wp2_with fail
  refine hK.out _ _ (by assumption) (fun hHeld => ?_)
  clear hK K
  refine wpAnyH_take (i := 15) (oi := { dst := some 37, op := Op.unOp UnOp.not 4 (Operand.tmp 36), type := 4, pos := "prop.go:134", after := #[{ on := 14, ground := Ground.data }, { on := 7, ground := Ground.guard }], guard := some (7, true) }) (v := ?v50) rfl (by kernel_rfl) (by kernel_rfl) (by kernel_rfl) (fun _ _ _ h => h) (Or.inl ⟨by rfl, ?hy50⟩) (by assumption) ?rest50
  case hy50 => (intro w hSw; (try dsimp only at hSw); go_simp; (try rw [if_pos (by omega)]); (try with_reducible rfl))
  simp only [Act.put, List.setIfInBounds_toArray, List.set_cons_zero, List.set_cons_succ]
  refine wpAnyH_take (i := 16) (oi := { dst := some 38, op := Op.pick (Operand.tmp 29) (Operand.tmp 37) (Operand.const (Value.bool false)), type := 4, pos := "prop.go:134", after := #[{ on := 7, ground := Ground.data }, { on := 15, ground := Ground.data }], guard := none }) (v := ?v51) rfl (by kernel_rfl) (by kernel_rfl) (by kernel_rfl) (fun _ _ _ h => h) (Or.inl ⟨by rfl, ?hy51⟩) (by assumption) ?rest51
  case hy51 => (intro w hSw; (try dsimp only at hSw); go_simp; (try rw [if_pos (by omega)]); (try with_reducible rfl))
  simp only [Act.put, List.setIfInBounds_toArray, List.set_cons_zero, List.set_cons_succ]
  refine wpAnyH_done (by kernel_rfl) ?_ _
  refine NoPanic.normal ?_
  have HB4 : Hid (Below W0.heap.size W0 w3.drew) := below_drewN (unhide HB3) 1
  go_wp2_with (go_at_call 66; refine (pfault_use 1 _).mono ?_; rintro e w9 ⟨E, rfl, hE, hb9⟩)
  go_ret
  exact ⟨E, rfl, hE, (unhide HB0).trans (((unhide HB4).trans (hb9.mono (unhide HB4).size)).mono (unhide HB0).size)⟩
set_option maxHeartbeats 8000000 in
theorem take_ok0 (R k : Nat) (place n : Int) (s t : ByteArray) (w : World) (hk : k ≤ 42) (hR : w.cell? ⟨R, 0, none⟩ = some (.int .i64 place)) (hsn : w.cell? ⟨R, 1 + k, none⟩ = some (.bool false)) (hfz : w.frozen? ⟨R, 1 + k, none⟩ = false) (hm : mst k place = true) (hf : fit (k, n, s, t) = true) :
    Calls Tryz.prog 90 #[.pointer (some ⟨R, 0, none⟩), .agg #[.int .i64 (k : Int), .int .i64 n, .string s, .string t]] w (fun e w' => e = .returned .nilIface ∧ ∃ w1, Below w.heap.size w w1 ∧ w' = w1.setCell ⟨R, 1 + k, none⟩ (.bool true)) := by
  have HSH : Hid (shv (k : Int) = .agg #[.int .i64 (frm (k : Int)), .int .i64 (wid (k : Int)), .int .i64 (lst (k : Int)), .int .i64 (mx (k : Int))]) := rfl
  rw [fit_eq] at hf
  generalize frm (k : Int) = f at HSH hf
  generalize wid (k : Int) = wd at HSH
  generalize lst (k : Int) = lo at HSH hf
  generalize mx (k : Int) = hi at HSH hf
  have hRl : R < w.heap.size := cell_lt hR
  have HQ : Hid ((w.alloc (.cells #[.int .i64 (k : Int), .int .i64 n, .string s, .string t] 147)).cell? ⟨R, 1 + k, none⟩ = some (.bool false)) := by
    show _ = _
    rw [World.cell?_alloc_lt _ _ ⟨R, 1 + k, none⟩ (cell_lt hsn)]; exact hsn
  clear hsn
  have HS0 : Hid (TakeS R w.heap.size place (k : Int) n s t (w.alloc (.cells #[.int .i64 (k : Int), .int .i64 n, .string s, .string t] 147))) := takeS_box R place (k : Int) n s t w hR
  have HB0 : Hid (Below w.heap.size w (w.alloc (.cells #[.int .i64 (k : Int), .int .i64 n, .string s, .string t] 147))) := (Below.refl _ _).alloc (Nat.le_refl _) _
  clear hR
  go_enter Tryz.func90, Tryz.ntmps90
  go_wp2_with fail
  generalize w.alloc (.cells #[.int .i64 (k : Int), .int .i64 n, .string s, .string t] 147) = W0 at HS0 HB0 HQ ⊢
  refine wp_region_noPanic ?_
  refine wp_region_held_drew (S := (fun w' => w'.cell? ⟨R, 0, none⟩ = some (.int .i64 place) ∧ w'.cell? ⟨w.heap.size, 0, none⟩ = some (.int .i64 (k : Int)) ∧ w'.cell? ⟨w.heap.size, 1, none⟩ = some (.int .i64 n) ∧ w'.cell? ⟨w.heap.size, 2, none⟩ = some (.string s) ∧ w'.cell? ⟨w.heap.size, 3, none⟩ = some (.string t))) (by kernel_rfl) ((unhide HS0).below (below_drewN (Below.refl _ _) 1)) (fun hHeld => ?_)
  refine wpAnyH_take (i := 0) (oi := { dst := some 5, op := Op.fieldAddr 147 (Operand.tmp 3) 0, type := 0, pos := "prop.go:131", after := #[], guard := none }) (v := ?v52) rfl (by kernel_rfl) (by kernel_rfl) (by kernel_rfl) (fun _ _ _ h => h) (Or.inl ⟨by rfl, ?hy52⟩) (by assumption) ?rest52
  case hy52 => (intro w hSw; (try dsimp only at hSw); go_simp; (try rw [if_pos (by omega)]); (try with_reducible rfl))
  simp only [Act.put, List.setIfInBounds_toArray, List.set_cons_zero, List.set_cons_succ]
  refine wpAnyH_take (i := 1) (oi := { dst := some 6, op := Op.load 3 (Operand.tmp 5), type := 3, pos := "prop.go:131", after := #[{ on := 0, ground := Ground.data }], guard := none }) (v := ?v53) rfl (by kernel_rfl) (by kernel_rfl) (by kernel_rfl) (fun _ _ _ h => h) (Or.inl ⟨by rfl, ?hy53⟩) (by assumption) ?rest53
  case hy53 => (intro w hSw; (try dsimp only at hSw); go_simp; (try rw [if_pos (by omega)]); (try with_reducible rfl))
  simp only [Act.put, List.setIfInBounds_toArray, List.set_cons_zero, List.set_cons_succ]
  refine wpAnyH_take (i := 2) (oi := { dst := some 7, op := Op.move (Operand.tmp 0), type := 163, pos := "prop.go:131", after := #[], guard := none }) (v := ?v54) rfl (by kernel_rfl) (by kernel_rfl) (by kernel_rfl) (fun _ _ _ h => h) (Or.inl ⟨by rfl, ?hy54⟩) (by assumption) ?rest54
  case hy54 => (intro w hSw; (try dsimp only at hSw); go_simp; (try rw [if_pos (by omega)]); (try with_reducible rfl))
  simp only [Act.put, List.setIfInBounds_toArray, List.set_cons_zero, List.set_cons_succ]
  refine wpAnyH_take (i := 3) (oi := { dst := some 8, op := Op.nilCheck (Operand.tmp 7), type := 0, pos := "prop.go:131", after := #[{ on := 2, ground := Ground.data }], guard := none }) (v := ?v55) rfl (by kernel_rfl) (by kernel_rfl) (by kernel_rfl) (fun _ _ _ h => h) (Or.inl ⟨by rfl, ?hy55⟩) (by assumption) ?rest55
  case hy55 => (intro w hSw; (try dsimp only at hSw); go_simp; (try rw [if_pos (by omega)]); (try with_reducible rfl))
  simp only [Act.put, List.setIfInBounds_toArray, List.set_cons_zero, List.set_cons_succ]
  refine wpAnyH_take (i := 4) (oi := { dst := some 9, op := Op.fieldAddr 145 (Operand.tmp 8) 0, type := 0, pos := "prop.go:131", after := #[{ on := 3, ground := Ground.data }], guard := none }) (v := ?v56) rfl (by kernel_rfl) (by kernel_rfl) (by kernel_rfl) (fun _ _ _ h => h) (Or.inl ⟨by rfl, ?hy56⟩) (by assumption) ?rest56
  case hy56 => (intro w hSw; (try dsimp only at hSw); go_simp; (try rw [if_pos (by omega)]); (try with_reducible rfl))
  simp only [Act.put, List.setIfInBounds_toArray, List.set_cons_zero, List.set_cons_succ]
  refine wpAnyH_take (i := 5) (oi := { dst := some 10, op := Op.load 3 (Operand.tmp 9), type := 3, pos := "prop.go:131", after := #[{ on := 4, ground := Ground.data }], guard := none }) (v := ?v57) rfl (by kernel_rfl) (by kernel_rfl) (by kernel_rfl) (fun _ _ _ h => h) (Or.inl ⟨by rfl, ?hy57⟩) (by assumption) ?rest57
  case hy57 => (intro w hSw; (try dsimp only at hSw); go_simp; (try rw [if_pos (by omega)]); (try with_reducible rfl))
  simp only [Act.put, List.setIfInBounds_toArray, List.set_cons_zero, List.set_cons_succ]
  refine wpAnyH_ready (rs := [6]) (by kernel_rfl) (by simp) ?_
  refine AllReadyH.cons (o := { dst := some 11, op := Op.call { callee := Callee.value (Operand.func 99), args := #[Operand.tmp 6, Operand.tmp 10], argTypes := #[3, 3] }, type := 4, pos := "prop.go:131", after := #[{ on := 1, ground := Ground.data }, { on := 5, ground := Ground.data }], guard := none }) rfl (fun K hK => ?_) AllReadyH.nil
  go_simp
  refine (stand_use _ place true hm _).mono ?_
  rintro e w1 ⟨rfl, hb1⟩
  have HB1 : Hid (Below W0.heap.size W0 w1) := below_undrew1 hb1
  have HS1 : Hid (TakeS R w.heap.size place (k : Int) n s t w1) := (unhide HS0).below (unhide HB1)
  clear hb1
  go_wp2_with fail
  refine hK.out _ _ (by exact unhide HS1) (fun hHeld => ?_)
  clear hK K
  refine wpAnyH_take (i := 7) (oi := { dst := some 12, op := Op.unOp UnOp.not 4 (Operand.tmp 11), type := 4, pos := "prop.go:131", after := #[{ on := 6, ground := Ground.data }], guard := none }) (v := ?v58) rfl (by kernel_rfl) (by kernel_rfl) (by kernel_rfl) (fun _ _ _ h => h) (Or.inl ⟨by rfl, ?hy58⟩) (by assumption) ?rest58
  case hy58 => (intro w hSw; (try dsimp only at hSw); go_simp; (try rw [if_pos (by omega)]); (try with_reducible rfl))
  simp only [Act.put, List.setIfInBounds_toArray, List.set_cons_zero, List.set_cons_succ]
  refine wpAnyH_take (i := 8) (oi := { dst := some 13, op := Op.move (Operand.tmp 12), type := 4, pos := "prop.go:131", after := #[{ on := 7, ground := Ground.data }, { on := 6, ground := Ground.chain }], guard := none }) (v := ?v59) rfl (by kernel_rfl) (by kernel_rfl) (by kernel_rfl) (fun _ _ _ h => h) (Or.inl ⟨by rfl, ?hy59⟩) (by assumption) ?rest59
  case hy59 => (intro w hSw; (try dsimp only at hSw); go_simp; (try rw [if_pos (by omega)]); (try with_reducible rfl))
  simp only [Act.put, List.setIfInBounds_toArray, List.set_cons_zero, List.set_cons_succ]
  refine wpAnyH_take (i := 9) (oi := { dst := some 14, op := Op.fieldAddr 147 (Operand.tmp 3) 0, type := 0, pos := "prop.go:131", after := #[{ on := 8, ground := Ground.guard }], guard := some (8, false) }) (v := ?v60) rfl (by kernel_rfl) (by kernel_rfl) (by kernel_rfl) (fun _ _ _ h => h) (Or.inl ⟨by rfl, ?hy60⟩) (by assumption) ?rest60
  case hy60 => (intro w hSw; (try dsimp only at hSw); go_simp; (try rw [if_pos (by omega)]); (try with_reducible rfl))
  simp only [Act.put, List.setIfInBounds_toArray, List.set_cons_zero, List.set_cons_succ]
  refine wpAnyH_take (i := 10) (oi := { dst := some 15, op := Op.load 3 (Operand.tmp 14), type := 3, pos := "prop.go:131", after := #[{ on := 9, ground := Ground.data }, { on := 8, ground := Ground.guard }], guard := some (8, false) }) (v := ?v61) rfl (by kernel_rfl) (by kernel_rfl) (by kernel_rfl) (fun _ _ _ h => h) (Or.inl ⟨by rfl, ?hy61⟩) (by assumption) ?rest61
  case hy61 => (intro w hSw; (try dsimp only at hSw); go_simp; (try rw [if_pos (by omega)]); (try with_reducible rfl))
  simp only [Act.put, List.setIfInBounds_toArray, List.set_cons_zero, List.set_cons_succ]
  refine wpAnyH_take (i := 12) (oi := { dst := some 17, op := Op.load 147 (Operand.tmp 3), type := 147, pos := "prop.go:131", after := #[{ on := 8, ground := Ground.guard }], guard := some (8, false) }) (v := ?v62) rfl (by kernel_rfl) (by kernel_rfl) (by kernel_rfl) (fun _ _ _ h => h) (Or.inl ⟨by rfl, ?hy62⟩) (by assumption) ?rest62
  case hy62 => (intro w hSw; (try dsimp only at hSw); go_simp; (try rw [if_pos (by omega)]); (try with_reducible rfl))
  simp only [Act.put, List.setIfInBounds_toArray, List.set_cons_zero, List.set_cons_succ]
  refine wpAnyH_ready (rs := [11]) (by kernel_rfl) (by simp) ?_
  refine AllReadyH.cons (o := { dst := some 16, op := Op.call { callee := Callee.value (Operand.func 98), args := #[Operand.tmp 15], argTypes := #[3] }, type := 161, pos := "prop.go:131", after := #[{ on := 10, ground := Ground.data }, { on := 8, ground := Ground.chain }, { on := 8, ground := Ground.guard }], guard := some (8, false) }) rfl (fun K hK => ?_) AllReadyH.nil
  go_simp
  refine (shape_use _ f wd lo hi (unhide HSH) _).mono ?_
  rintro e w2 ⟨rfl, hb2⟩
  have HB2 : Hid (Below W0.heap.size W0 w2) := (unhide HB1).trans (hb2.mono (unhide HB1).size)
  have HS2 : Hid (TakeS R w.heap.size place (k : Int) n s t w2) := (unhide HS0).below (unhide HB2)
  clear hb2 HB1 HS1
  go_wp2_with fail
  refine hK.out _ _ (by exact unhide HS2) (fun hHeld => ?_)
  clear hK K
  refine wpAnyH_ready (rs := [13]) (by kernel_rfl) (by simp) ?_
  refine AllReadyH.cons (o := { dst := some 18, op := Op.call { callee := Callee.value (Operand.func 100), args := #[Operand.tmp 16, Operand.tmp 17], argTypes := #[161, 147] }, type := 4, pos := "prop.go:131", after := #[{ on := 11, ground := Ground.data }, { on := 12, ground := Ground.data }, { on := 11, ground := Ground.chain }, { on := 8, ground := Ground.guard }], guard := some (8, false) }) rfl (fun K hK => ?_) AllReadyH.nil
  go_simp
  refine (fits_is f wd lo hi _ n s t true hf _).mono ?_
  rintro e w3 ⟨rfl, hb3⟩
  have HB3 : Hid (Below W0.heap.size W0 w3) := (unhide HB2).trans (hb3.mono (unhide HB2).size)
  have HS3 : Hid (TakeS R w.heap.size place (k : Int) n s t w3) := (unhide HS0).below (unhide HB3)
  clear hb3 HB2 HS2
  go_wp2_with fail
  refine hK.out _ _ (by exact unhide HS3) (fun hHeld => ?_)
  clear hK K
  refine wpAnyH_take (i := 14) (oi := { dst := some 19, op := Op.unOp UnOp.not 4 (Operand.tmp 18), type := 4, pos := "prop.go:131", after := #[{ on := 13, ground := Ground.data }, { on := 8, ground := Ground.guard }], guard := some (8, false) }) (v := ?v63) rfl (by kernel_rfl) (by kernel_rfl) (by kernel_rfl) (fun _ _ _ h => h) (Or.inl ⟨by rfl, ?hy63⟩) (by assumption) ?rest63
  case hy63 => (intro w hSw; (try dsimp only at hSw); go_simp; (try rw [if_pos (by omega)]); (try with_reducible rfl))
  simp only [Act.put, List.setIfInBounds_toArray, List.set_cons_zero, List.set_cons_succ]
  refine wpAnyH_take (i := 15) (oi := { dst := some 20, op := Op.pick (Operand.tmp 13) (Operand.const (Value.bool true)) (Operand.tmp 19), type := 4, pos := "prop.go:131", after := #[{ on := 8, ground := Ground.data }, { on := 14, ground := Ground.data }], guard := none }) (v := ?v64) rfl (by kernel_rfl) (by kernel_rfl) (by kernel_rfl) (fun _ _ _ h => h) (Or.inl ⟨by rfl, ?hy64⟩) (by assumption) ?rest64
  case hy64 => (intro w hSw; (try dsimp only at hSw); go_simp; (try rw [if_pos (by omega)]); (try with_reducible rfl))
  simp only [Act.put, List.setIfInBounds_toArray, List.set_cons_zero, List.set_cons_succ]
  refine wpAnyH_done (by kernel_rfl) ?_ _
  refine NoPanic.normal ?_
  have HQ0 : Hid (W0.cell? ⟨R, 1 + k, none⟩ = some (.bool false)) := by show _ = _; exact unhide HQ
  have HQ3 : Hid (w3.cell? ⟨R, 1 + k, none⟩ = some (.bool false)) := ((unhide HB3).cell (cell_lt (unhide HQ0))).trans (unhide HQ0)
  go_wp2_with fail
  refine wp_region_noPanic ?_
  refine wp_region_held_drew (S := (fun w' => w'.cell? ⟨R, 0, none⟩ = some (.int .i64 place) ∧ w'.cell? ⟨w.heap.size, 0, none⟩ = some (.int .i64 (k : Int)) ∧ w'.cell? ⟨R, 1 + k, none⟩ = some (.bool false))) (by kernel_rfl) ⟨(unhide HS3).1, (unhide HS3).2.1, unhide HQ3⟩ (fun hHeld => ?_)
  refine wpAnyH_take (i := 0) (oi := { dst := some 22, op := Op.move (Operand.tmp 0), type := 163, pos := "prop.go:134", after := #[], guard := none }) (v := ?v65) rfl (by kernel_rfl) (by kernel_rfl) (by kernel_rfl) (fun _ _ _ h => h) (Or.inl ⟨by rfl, ?hy65⟩) (by assumption) ?rest65
  case hy65 => (intro w hSw; (try dsimp only at hSw); go_simp; (try rw [if_pos (by omega)]); (try with_reducible rfl))
  simp only [Act.put, List.setIfInBounds_toArray, List.set_cons_zero, List.set_cons_succ]
  refine wpAnyH_take (i := 1) (oi := { dst := some 23, op := Op.fieldAddr 147 (Operand.tmp 3) 0, type := 0, pos := "prop.go:134", after := #[], guard := none }) (v := ?v66) rfl (by kernel_rfl) (by kernel_rfl) (by kernel_rfl) (fun _ _ _ h => h) (Or.inl ⟨by rfl, ?hy66⟩) (by assumption) ?rest66
  case hy66 => (intro w hSw; (try dsimp only at hSw); go_simp; (try rw [if_pos (by omega)]); (try with_reducible rfl))
  simp only [Act.put, List.setIfInBounds_toArray, List.set_cons_zero, List.set_cons_succ]
  refine wpAnyH_take (i := 2) (oi := { dst := some 24, op := Op.load 3 (Operand.tmp 23), type := 3, pos := "prop.go:134", after := #[{ on := 1, ground := Ground.data }], guard := none }) (v := ?v67) rfl (by kernel_rfl) (by kernel_rfl) (by kernel_rfl) (fun _ _ _ h => h) (Or.inl ⟨by rfl, ?hy67⟩) (by assumption) ?rest67
  case hy67 => (intro w hSw; (try dsimp only at hSw); go_simp; (try rw [if_pos (by omega)]); (try with_reducible rfl))
  simp only [Act.put, List.setIfInBounds_toArray, List.set_cons_zero, List.set_cons_succ]
  refine wpAnyH_take (i := 3) (oi := { dst := some 25, op := Op.nilCheck (Operand.tmp 22), type := 0, pos := "prop.go:134", after := #[{ on := 0, ground := Ground.data }], guard := none }) (v := ?v68) rfl (by kernel_rfl) (by kernel_rfl) (by kernel_rfl) (fun _ _ _ h => h) (Or.inl ⟨by rfl, ?hy68⟩) (by assumption) ?rest68
  case hy68 => (intro w hSw; (try dsimp only at hSw); go_simp; (try rw [if_pos (by omega)]); (try with_reducible rfl))
  simp only [Act.put, List.setIfInBounds_toArray, List.set_cons_zero, List.set_cons_succ]
  refine wpAnyH_take (i := 4) (oi := { dst := some 26, op := Op.fieldAddr 145 (Operand.tmp 25) 1, type := 0, pos := "prop.go:134", after := #[{ on := 3, ground := Ground.data }], guard := none }) (v := ?v69) rfl (by kernel_rfl) (by kernel_rfl) (by kernel_rfl) (fun _ _ _ h => h) (Or.inl ⟨by rfl, ?hy69⟩) (by assumption) ?rest69
  case hy69 => (intro w hSw; (try dsimp only at hSw); go_simp; (try rw [if_pos (by omega)]); (try with_reducible rfl))
  simp only [Act.put, List.setIfInBounds_toArray, List.set_cons_zero, List.set_cons_succ]
  refine wpAnyH_take (i := 5) (oi := { dst := some 27, op := Op.indexAddr 143 (Operand.tmp 26) (Operand.tmp 24), type := 0, pos := "prop.go:134", after := #[{ on := 4, ground := Ground.data }, { on := 2, ground := Ground.data }], guard := none }) (v := ?v70) rfl (by kernel_rfl) (by kernel_rfl) (by kernel_rfl) (fun _ _ _ h => h) (Or.inl ⟨by rfl, ?hy70⟩) (by assumption) ?rest70
  case hy70 => (intro w hSw; (try dsimp only at hSw); go_simp; (try rw [if_pos (by omega)]); (try with_reducible rfl))
  simp only [Act.put, List.setIfInBounds_toArray, List.set_cons_zero, List.set_cons_succ]
  refine wpAnyH_take (i := 6) (oi := { dst := some 28, op := Op.load 4 (Operand.tmp 27), type := 4, pos := "prop.go:134", after := #[{ on := 5, ground := Ground.data }], guard := none }) (v := ?v71) rfl (by kernel_rfl) (by kernel_rfl) (by kernel_rfl) (fun _ _ _ h => h) (Or.inl ⟨by rfl, ?hy71⟩) (by assumption) ?rest71
  case hy71 => (intro w hSw; (try dsimp only at hSw); go_simp; (try rw [if_pos (by omega)]); (try with_reducible rfl))
  simp only [Act.put, List.setIfInBounds_toArray, List.set_cons_zero, List.set_cons_succ]
  refine wpAnyH_take (i := 7) (oi := { dst := some 29, op := Op.move (Operand.tmp 28), type := 4, pos := "prop.go:134", after := #[{ on := 6, ground := Ground.data }], guard := none }) (v := ?v72) rfl (by kernel_rfl) (by kernel_rfl) (by kernel_rfl) (fun _ _ _ h => h) (Or.inl ⟨by rfl, ?hy72⟩) (by assumption) ?rest72
  case hy72 => (intro w hSw; (try dsimp only at hSw); go_simp; (try rw [if_pos (by omega)]); (try with_reducible rfl))
  simp only [Act.put, List.setIfInBounds_toArray, List.set_cons_zero, List.set_cons_succ]
  refine wpAnyH_take (i := 8) (oi := { dst := some 30, op := Op.fieldAddr 147 (Operand.tmp 3) 0, type := 0, pos := "prop.go:134", after := #[{ on := 7, ground := Ground.guard }], guard := some (7, true) }) (v := undef) rfl (by kernel_rfl) (by kernel_rfl) (by kernel_rfl) (fun _ _ _ h => h) (Or.inr ⟨by rfl, rfl⟩) (by assumption) ?_
  simp only [Act.put, List.setIfInBounds_toArray, List.set_cons_zero, List.set_cons_succ]
  refine wpAnyH_take (i := 9) (oi := { dst := some 31, op := Op.load 3 (Operand.tmp 30), type := 3, pos := "prop.go:134", after := #[{ on := 8, ground := Ground.data }, { on := 7, ground := Ground.guard }], guard := some (7, true) }) (v := undef) rfl (by kernel_rfl) (by kernel_rfl) (by kernel_rfl) (fun _ _ _ h => h) (Or.inr ⟨by rfl, rfl⟩) (by assumption) ?_
  simp only [Act.put, List.setIfInBounds_toArray, List.set_cons_zero, List.set_cons_succ]
  refine wpAnyH_take (i := 10) (oi := { dst := some 32, op := Op.move (Operand.tmp 0), type := 163, pos := "prop.go:134", after := #[{ on := 7, ground := Ground.guard }], guard := some (7, true) }) (v := undef) rfl (by kernel_rfl) (by kernel_rfl) (by kernel_rfl) (fun _ _ _ h => h) (Or.inr ⟨by rfl, rfl⟩) (by assumption) ?_
  simp only [Act.put, List.setIfInBounds_toArray, List.set_cons_zero, List.set_cons_succ]
  refine wpAnyH_take (i := 11) (oi := { dst := some 33, op := Op.nilCheck (Operand.tmp 32), type := 0, pos := "prop.go:134", after := #[{ on := 10, ground := Ground.data }, { on := 7, ground := Ground.guard }], guard := some (7, true) }) (v := undef) rfl (by kernel_rfl) (by kernel_rfl) (by kernel_rfl) (fun _ _ _ h => h) (Or.inr ⟨by rfl, rfl⟩) (by assumption) ?_
  simp only [Act.put, List.setIfInBounds_toArray, List.set_cons_zero, List.set_cons_succ]
  refine wpAnyH_take (i := 12) (oi := { dst := some 34, op := Op.fieldAddr 145 (Operand.tmp 33) 0, type := 0, pos := "prop.go:134", after := #[{ on := 11, ground := Ground.data }, { on := 7, ground := Ground.guard }], guard := some (7, true) }) (v := undef) rfl (by kernel_rfl) (by kernel_rfl) (by kernel_rfl) (fun _ _ _ h => h) (Or.inr ⟨by rfl, rfl⟩) (by assumption) ?_
  simp only [Act.put, List.setIfInBounds_toArray, List.set_cons_zero, List.set_cons_succ]
  refine wpAnyH_take (i := 13) (oi := { dst := some 35, op := Op.load 3 (Operand.tmp 34), type := 3, pos := "prop.go:134", after := #[{ on := 12, ground := Ground.data }, { on := 7, ground := Ground.guard }], guard := some (7, true) }) (v := undef) rfl (by kernel_rfl) (by kernel_rfl) (by kernel_rfl) (fun _ _ _ h => h) (Or.inr ⟨by rfl, rfl⟩) (by assumption) ?_
  simp only [Act.put, List.setIfInBounds_toArray, List.set_cons_zero, List.set_cons_succ]
  refine wpAnyH_take (i := 14) (oi := { dst := some 36, op := Op.call { callee := Callee.value (Operand.func 101), args := #[Operand.tmp 31, Operand.tmp 35], argTypes := #[3, 3] }, type := 4, pos := "prop.go:134", after := #[{ on := 9, ground := Ground.data }, { on := 13, ground := Ground.data }, { on := 7, ground := Ground.chain }, { on := 7, ground := Ground.guard }], guard := some (7, true) }) (v := undef) rfl (by kernel_rfl) (by kernel_rfl) (by kernel_rfl) (fun _ _ _ h => h) (Or.inr ⟨by rfl, rfl⟩) (by assumption) ?_
  simp only [Act.put, List.setIfInBounds_toArray, List.set_cons_zero, List.set_cons_succ]
  refine wpAnyH_take (i := 15) (oi := { dst := some 37, op := Op.unOp UnOp.not 4 (Operand.tmp 36), type := 4, pos := "prop.go:134", after := #[{ on := 14, ground := Ground.data }, { on := 7, ground := Ground.guard }], guard := some (7, true) }) (v := undef) rfl (by kernel_rfl) (by kernel_rfl) (by kernel_rfl) (fun _ _ _ h => h) (Or.inr ⟨by rfl, rfl⟩) (by assumption) ?_
  simp only [Act.put, List.setIfInBounds_toArray, List.set_cons_zero, List.set_cons_succ]
  refine wpAnyH_take (i := 16) (oi := { dst := some 38, op := Op.pick (Operand.tmp 29) (Operand.tmp 37) (Operand.const (Value.bool false)), type := 4, pos := "prop.go:134", after := #[{ on := 7, ground := Ground.data }, { on := 15, ground := Ground.data }], guard := none }) (v := ?v73) rfl (by kernel_rfl) (by kernel_rfl) (by kernel_rfl) (fun _ _ _ h => h) (Or.inl ⟨by rfl, ?hy73⟩) (by assumption) ?rest73
  case hy73 => (intro w hSw; (try dsimp only at hSw); go_simp; (try rw [if_pos (by omega)]); (try with_reducible rfl))
  simp only [Act.put, List.setIfInBounds_toArray, List.set_cons_zero, List.set_cons_succ]
  refine wpAnyH_done (by kernel_rfl) ?_ _
  refine NoPanic.normal ?_
  have hq4 : w3.drew.cell? ⟨R, 1 + k, none⟩ = some (.bool false) := by exact unhide HQ3
  have hx4 : w3.drew.cell? ⟨w.heap.size, 0, none⟩ = some (.int .i64 (k : Int)) := by exact (unhide HS3).2.1
  have HB4 : Hid (Below w.heap.size w w3.drew) := below_drewN ((unhide HB0).trans ((unhide HB3).mono (unhide HB0).size)) 1
  have hz4 : w3.drew.frozen? ⟨R, 1 + k, none⟩ = false := ((unhide HB4).frozen (p := ⟨R, 1 + k, none⟩) hRl).trans hfz
  clear HB3 HS3 HQ3 HQ0 HS0 HB0 HQ hfz HSH hf hm hHeld
  generalize w3.drew = w4 at hq4 hx4 HB4 hz4 ⊢
  go_wp2_with fail
  refine wp_region_noPanic ?_
  refine wp_region_held_drew (S := (fun w' => w'.cell? ⟨w.heap.size, 0, none⟩ = some (.int .i64 (k : Int)))) (by kernel_rfl) (by exact hx4) (fun hHeld => ?_)
  refine wpAnyH_take (i := 0) (oi := { dst := some 40, op := Op.move (Operand.tmp 0), type := 163, pos := "prop.go:137", after := #[], guard := none }) (v := ?v74) rfl (by kernel_rfl) (by kernel_rfl) (by kernel_rfl) (fun _ _ _ h => h) (Or.inl ⟨by rfl, ?hy74⟩) (by assumption) ?rest74
  case hy74 => (intro w hSw; (try dsimp only at hSw); go_simp; (try rw [if_pos (by omega)]); (try with_reducible rfl))
  simp only [Act.put, List.setIfInBounds_toArray, List.set_cons_zero, List.set_cons_succ]
  refine wpAnyH_take (i := 1) (oi := { dst := some 41, op := Op.fieldAddr 147 (Operand.tmp 3) 0, type := 0, pos := "prop.go:137", after := #[], guard := none }) (v := ?v75) rfl (by kernel_rfl) (by kernel_rfl) (by kernel_rfl) (fun _ _ _ h => h) (Or.inl ⟨by rfl, ?hy75⟩) (by assumption) ?rest75
  case hy75 => (intro w hSw; (try dsimp only at hSw); go_simp; (try rw [if_pos (by omega)]); (try with_reducible rfl))
  simp only [Act.put, List.setIfInBounds_toArray, List.set_cons_zero, List.set_cons_succ]
  refine wpAnyH_take (i := 2) (oi := { dst := some 42, op := Op.load 3 (Operand.tmp 41), type := 3, pos := "prop.go:137", after := #[{ on := 1, ground := Ground.data }], guard := none }) (v := ?v76) rfl (by kernel_rfl) (by kernel_rfl) (by kernel_rfl) (fun _ _ _ h => h) (Or.inl ⟨by rfl, ?hy76⟩) (by assumption) ?rest76
  case hy76 => (intro w hSw; (try dsimp only at hSw); go_simp; (try rw [if_pos (by omega)]); (try with_reducible rfl))
  simp only [Act.put, List.setIfInBounds_toArray, List.set_cons_zero, List.set_cons_succ]
  refine wpAnyH_take (i := 3) (oi := { dst := some 43, op := Op.nilCheck (Operand.tmp 40), type := 0, pos := "prop.go:137", after := #[{ on := 0, ground := Ground.data }], guard := none }) (v := ?v77) rfl (by kernel_rfl) (by kernel_rfl) (by kernel_rfl) (fun _ _ _ h => h) (Or.inl ⟨by rfl, ?hy77⟩) (by assumption) ?rest77
  case hy77 => (intro w hSw; (try dsimp only at hSw); go_simp; (try rw [if_pos (by omega)]); (try with_reducible rfl))
  simp only [Act.put, List.setIfInBounds_toArray, List.set_cons_zero, List.set_cons_succ]
  refine wpAnyH_take (i := 4) (oi := { dst := some 44, op := Op.fieldAddr 145 (Operand.tmp 43) 1, type := 0, pos := "prop.go:137", after := #[{ on := 3, ground := Ground.data }], guard := none }) (v := ?v78) rfl (by kernel_rfl) (by kernel_rfl) (by kernel_rfl) (fun _ _ _ h => h) (Or.inl ⟨by rfl, ?hy78⟩) (by assumption) ?rest78
  case hy78 => (intro w hSw; (try dsimp only at hSw); go_simp; (try rw [if_pos (by omega)]); (try with_reducible rfl))
  simp only [Act.put, List.setIfInBounds_toArray, List.set_cons_zero, List.set_cons_succ]
  refine wpAnyH_take (i := 5) (oi := { dst := some 45, op := Op.indexAddr 143 (Operand.tmp 44) (Operand.tmp 42), type := 0, pos := "prop.go:137", after := #[{ on := 4, ground := Ground.data }, { on := 2, ground := Ground.data }, { on := 0, ground := Ground.phase }, { on := 1, ground := Ground.phase }, { on := 2, ground := Ground.phase }], guard := none }) (v := ?v79) rfl (by kernel_rfl) (by kernel_rfl) (by kernel_rfl) (fun _ _ _ h => h) (Or.inl ⟨by rfl, ?hy79⟩) (by assumption) ?rest79
  case hy79 => (intro w hSw; (try dsimp only at hSw); go_simp; (try rw [if_pos (by omega)]); (try with_reducible rfl))
  simp only [Act.put, List.setIfInBounds_toArray, List.set_cons_zero, List.set_cons_succ]
  have hq5 : w4.drew.cell? ⟨R, 1 + k, none⟩ = some (.bool false) := hq4
  have hz5 : w4.drew.frozen? ⟨R, 1 + k, none⟩ = false := hz4
  refine wpAnyH_ready (rs := [6]) (by kernel_rfl) (by simp) ?_
  refine AllReadyH.cons (o := { dst := none, op := Op.store 4 (Operand.tmp 45) (Operand.const (Value.bool true)), type := 0, pos := "prop.go:137", after := #[{ on := 5, ground := Ground.data }, { on := 0, ground := Ground.phase }, { on := 1, ground := Ground.phase }, { on := 2, ground := Ground.phase }], guard := none }) rfl (fun K hK => ?_) AllReadyH.nil
  go_simp
  refine hK.out _ _ (by show (w4.setCell ⟨R, 1 + k, none⟩ (.bool true)).cell? _ = _; rw [World.cell?_setCell_far _ _ _ _ (by simp; omega)]; exact hx4) (fun hHeld => ?_)
  clear hK K
  refine wpAnyH_done (by kernel_rfl) ?_ _
  refine NoPanic.normal ?_
  go_wp2
  go_ret
  exact ⟨rfl, w4.drew, below_drewN (unhide HB4) 1, rfl⟩
set_option maxHeartbeats 8000000 in
theorem take_ok1 (R k : Nat) (place n : Int) (s t : ByteArray) (w : World) (hk : k ≤ 42) (hR : w.cell? ⟨R, 0, none⟩ = some (.int .i64 place)) (hsn : w.cell? ⟨R, 1 + k, none⟩ = some (.bool true)) (hfz : w.frozen? ⟨R, 1 + k, none⟩ = false) (hm : mst k place = true) (hf : fit (k, n, s, t) = true) (hr : rep k place = true) :
    Calls Tryz.prog 90 #[.pointer (some ⟨R, 0, none⟩), .agg #[.int .i64 (k : Int), .int .i64 n, .string s, .string t]] w (fun e w' => e = .returned .nilIface ∧ ∃ w1, Below w.heap.size w w1 ∧ w' = w1.setCell ⟨R, 1 + k, none⟩ (.bool true)) := by
  have HSH : Hid (shv (k : Int) = .agg #[.int .i64 (frm (k : Int)), .int .i64 (wid (k : Int)), .int .i64 (lst (k : Int)), .int .i64 (mx (k : Int))]) := rfl
  rw [fit_eq] at hf
  generalize frm (k : Int) = f at HSH hf
  generalize wid (k : Int) = wd at HSH
  generalize lst (k : Int) = lo at HSH hf
  generalize mx (k : Int) = hi at HSH hf
  have hRl : R < w.heap.size := cell_lt hR
  have HQ : Hid ((w.alloc (.cells #[.int .i64 (k : Int), .int .i64 n, .string s, .string t] 147)).cell? ⟨R, 1 + k, none⟩ = some (.bool true)) := by
    show _ = _
    rw [World.cell?_alloc_lt _ _ ⟨R, 1 + k, none⟩ (cell_lt hsn)]; exact hsn
  clear hsn
  have HS0 : Hid (TakeS R w.heap.size place (k : Int) n s t (w.alloc (.cells #[.int .i64 (k : Int), .int .i64 n, .string s, .string t] 147))) := takeS_box R place (k : Int) n s t w hR
  have HB0 : Hid (Below w.heap.size w (w.alloc (.cells #[.int .i64 (k : Int), .int .i64 n, .string s, .string t] 147))) := (Below.refl _ _).alloc (Nat.le_refl _) _
  clear hR
  go_enter Tryz.func90, Tryz.ntmps90
  go_wp2_with fail
  generalize w.alloc (.cells #[.int .i64 (k : Int), .int .i64 n, .string s, .string t] 147) = W0 at HS0 HB0 HQ ⊢
  refine wp_region_noPanic ?_
  refine wp_region_held_drew (S := (fun w' => w'.cell? ⟨R, 0, none⟩ = some (.int .i64 place) ∧ w'.cell? ⟨w.heap.size, 0, none⟩ = some (.int .i64 (k : Int)) ∧ w'.cell? ⟨w.heap.size, 1, none⟩ = some (.int .i64 n) ∧ w'.cell? ⟨w.heap.size, 2, none⟩ = some (.string s) ∧ w'.cell? ⟨w.heap.size, 3, none⟩ = some (.string t))) (by kernel_rfl) ((unhide HS0).below (below_drewN (Below.refl _ _) 1)) (fun hHeld => ?_)
  refine wpAnyH_take (i := 0) (oi := { dst := some 5, op := Op.fieldAddr 147 (Operand.tmp 3) 0, type := 0, pos := "prop.go:131", after := #[], guard := none }) (v := ?v80) rfl (by kernel_rfl) (by kernel_rfl) (by kernel_rfl) (fun _ _ _ h => h) (Or.inl ⟨by rfl, ?hy80⟩) (by assumption) ?rest80
  case hy80 => (intro w hSw; (try dsimp only at hSw); go_simp; (try rw [if_pos (by omega)]); (try with_reducible rfl))
  simp only [Act.put, List.setIfInBounds_toArray, List.set_cons_zero, List.set_cons_succ]
  refine wpAnyH_take (i := 1) (oi := { dst := some 6, op := Op.load 3 (Operand.tmp 5), type := 3, pos := "prop.go:131", after := #[{ on := 0, ground := Ground.data }], guard := none }) (v := ?v81) rfl (by kernel_rfl) (by kernel_rfl) (by kernel_rfl) (fun _ _ _ h => h) (Or.inl ⟨by rfl, ?hy81⟩) (by assumption) ?rest81
  case hy81 => (intro w hSw; (try dsimp only at hSw); go_simp; (try rw [if_pos (by omega)]); (try with_reducible rfl))
  simp only [Act.put, List.setIfInBounds_toArray, List.set_cons_zero, List.set_cons_succ]
  refine wpAnyH_take (i := 2) (oi := { dst := some 7, op := Op.move (Operand.tmp 0), type := 163, pos := "prop.go:131", after := #[], guard := none }) (v := ?v82) rfl (by kernel_rfl) (by kernel_rfl) (by kernel_rfl) (fun _ _ _ h => h) (Or.inl ⟨by rfl, ?hy82⟩) (by assumption) ?rest82
  case hy82 => (intro w hSw; (try dsimp only at hSw); go_simp; (try rw [if_pos (by omega)]); (try with_reducible rfl))
  simp only [Act.put, List.setIfInBounds_toArray, List.set_cons_zero, List.set_cons_succ]
  refine wpAnyH_take (i := 3) (oi := { dst := some 8, op := Op.nilCheck (Operand.tmp 7), type := 0, pos := "prop.go:131", after := #[{ on := 2, ground := Ground.data }], guard := none }) (v := ?v83) rfl (by kernel_rfl) (by kernel_rfl) (by kernel_rfl) (fun _ _ _ h => h) (Or.inl ⟨by rfl, ?hy83⟩) (by assumption) ?rest83
  case hy83 => (intro w hSw; (try dsimp only at hSw); go_simp; (try rw [if_pos (by omega)]); (try with_reducible rfl))
  simp only [Act.put, List.setIfInBounds_toArray, List.set_cons_zero, List.set_cons_succ]
  refine wpAnyH_take (i := 4) (oi := { dst := some 9, op := Op.fieldAddr 145 (Operand.tmp 8) 0, type := 0, pos := "prop.go:131", after := #[{ on := 3, ground := Ground.data }], guard := none }) (v := ?v84) rfl (by kernel_rfl) (by kernel_rfl) (by kernel_rfl) (fun _ _ _ h => h) (Or.inl ⟨by rfl, ?hy84⟩) (by assumption) ?rest84
  case hy84 => (intro w hSw; (try dsimp only at hSw); go_simp; (try rw [if_pos (by omega)]); (try with_reducible rfl))
  simp only [Act.put, List.setIfInBounds_toArray, List.set_cons_zero, List.set_cons_succ]
  refine wpAnyH_take (i := 5) (oi := { dst := some 10, op := Op.load 3 (Operand.tmp 9), type := 3, pos := "prop.go:131", after := #[{ on := 4, ground := Ground.data }], guard := none }) (v := ?v85) rfl (by kernel_rfl) (by kernel_rfl) (by kernel_rfl) (fun _ _ _ h => h) (Or.inl ⟨by rfl, ?hy85⟩) (by assumption) ?rest85
  case hy85 => (intro w hSw; (try dsimp only at hSw); go_simp; (try rw [if_pos (by omega)]); (try with_reducible rfl))
  simp only [Act.put, List.setIfInBounds_toArray, List.set_cons_zero, List.set_cons_succ]
  refine wpAnyH_ready (rs := [6]) (by kernel_rfl) (by simp) ?_
  refine AllReadyH.cons (o := { dst := some 11, op := Op.call { callee := Callee.value (Operand.func 99), args := #[Operand.tmp 6, Operand.tmp 10], argTypes := #[3, 3] }, type := 4, pos := "prop.go:131", after := #[{ on := 1, ground := Ground.data }, { on := 5, ground := Ground.data }], guard := none }) rfl (fun K hK => ?_) AllReadyH.nil
  go_simp
  refine (stand_use _ place true hm _).mono ?_
  rintro e w1 ⟨rfl, hb1⟩
  have HB1 : Hid (Below W0.heap.size W0 w1) := below_undrew1 hb1
  have HS1 : Hid (TakeS R w.heap.size place (k : Int) n s t w1) := (unhide HS0).below (unhide HB1)
  clear hb1
  go_wp2_with fail
  refine hK.out _ _ (by exact unhide HS1) (fun hHeld => ?_)
  clear hK K
  refine wpAnyH_take (i := 7) (oi := { dst := some 12, op := Op.unOp UnOp.not 4 (Operand.tmp 11), type := 4, pos := "prop.go:131", after := #[{ on := 6, ground := Ground.data }], guard := none }) (v := ?v86) rfl (by kernel_rfl) (by kernel_rfl) (by kernel_rfl) (fun _ _ _ h => h) (Or.inl ⟨by rfl, ?hy86⟩) (by assumption) ?rest86
  case hy86 => (intro w hSw; (try dsimp only at hSw); go_simp; (try rw [if_pos (by omega)]); (try with_reducible rfl))
  simp only [Act.put, List.setIfInBounds_toArray, List.set_cons_zero, List.set_cons_succ]
  refine wpAnyH_take (i := 8) (oi := { dst := some 13, op := Op.move (Operand.tmp 12), type := 4, pos := "prop.go:131", after := #[{ on := 7, ground := Ground.data }, { on := 6, ground := Ground.chain }], guard := none }) (v := ?v87) rfl (by kernel_rfl) (by kernel_rfl) (by kernel_rfl) (fun _ _ _ h => h) (Or.inl ⟨by rfl, ?hy87⟩) (by assumption) ?rest87
  case hy87 => (intro w hSw; (try dsimp only at hSw); go_simp; (try rw [if_pos (by omega)]); (try with_reducible rfl))
  simp only [Act.put, List.setIfInBounds_toArray, List.set_cons_zero, List.set_cons_succ]
  refine wpAnyH_take (i := 9) (oi := { dst := some 14, op := Op.fieldAddr 147 (Operand.tmp 3) 0, type := 0, pos := "prop.go:131", after := #[{ on := 8, ground := Ground.guard }], guard := some (8, false) }) (v := ?v88) rfl (by kernel_rfl) (by kernel_rfl) (by kernel_rfl) (fun _ _ _ h => h) (Or.inl ⟨by rfl, ?hy88⟩) (by assumption) ?rest88
  case hy88 => (intro w hSw; (try dsimp only at hSw); go_simp; (try rw [if_pos (by omega)]); (try with_reducible rfl))
  simp only [Act.put, List.setIfInBounds_toArray, List.set_cons_zero, List.set_cons_succ]
  refine wpAnyH_take (i := 10) (oi := { dst := some 15, op := Op.load 3 (Operand.tmp 14), type := 3, pos := "prop.go:131", after := #[{ on := 9, ground := Ground.data }, { on := 8, ground := Ground.guard }], guard := some (8, false) }) (v := ?v89) rfl (by kernel_rfl) (by kernel_rfl) (by kernel_rfl) (fun _ _ _ h => h) (Or.inl ⟨by rfl, ?hy89⟩) (by assumption) ?rest89
  case hy89 => (intro w hSw; (try dsimp only at hSw); go_simp; (try rw [if_pos (by omega)]); (try with_reducible rfl))
  simp only [Act.put, List.setIfInBounds_toArray, List.set_cons_zero, List.set_cons_succ]
  refine wpAnyH_take (i := 12) (oi := { dst := some 17, op := Op.load 147 (Operand.tmp 3), type := 147, pos := "prop.go:131", after := #[{ on := 8, ground := Ground.guard }], guard := some (8, false) }) (v := ?v90) rfl (by kernel_rfl) (by kernel_rfl) (by kernel_rfl) (fun _ _ _ h => h) (Or.inl ⟨by rfl, ?hy90⟩) (by assumption) ?rest90
  case hy90 => (intro w hSw; (try dsimp only at hSw); go_simp; (try rw [if_pos (by omega)]); (try with_reducible rfl))
  simp only [Act.put, List.setIfInBounds_toArray, List.set_cons_zero, List.set_cons_succ]
  refine wpAnyH_ready (rs := [11]) (by kernel_rfl) (by simp) ?_
  refine AllReadyH.cons (o := { dst := some 16, op := Op.call { callee := Callee.value (Operand.func 98), args := #[Operand.tmp 15], argTypes := #[3] }, type := 161, pos := "prop.go:131", after := #[{ on := 10, ground := Ground.data }, { on := 8, ground := Ground.chain }, { on := 8, ground := Ground.guard }], guard := some (8, false) }) rfl (fun K hK => ?_) AllReadyH.nil
  go_simp
  refine (shape_use _ f wd lo hi (unhide HSH) _).mono ?_
  rintro e w2 ⟨rfl, hb2⟩
  have HB2 : Hid (Below W0.heap.size W0 w2) := (unhide HB1).trans (hb2.mono (unhide HB1).size)
  have HS2 : Hid (TakeS R w.heap.size place (k : Int) n s t w2) := (unhide HS0).below (unhide HB2)
  clear hb2 HB1 HS1
  go_wp2_with fail
  refine hK.out _ _ (by exact unhide HS2) (fun hHeld => ?_)
  clear hK K
  refine wpAnyH_ready (rs := [13]) (by kernel_rfl) (by simp) ?_
  refine AllReadyH.cons (o := { dst := some 18, op := Op.call { callee := Callee.value (Operand.func 100), args := #[Operand.tmp 16, Operand.tmp 17], argTypes := #[161, 147] }, type := 4, pos := "prop.go:131", after := #[{ on := 11, ground := Ground.data }, { on := 12, ground := Ground.data }, { on := 11, ground := Ground.chain }, { on := 8, ground := Ground.guard }], guard := some (8, false) }) rfl (fun K hK => ?_) AllReadyH.nil
  go_simp
  refine (fits_is f wd lo hi _ n s t true hf _).mono ?_
  rintro e w3 ⟨rfl, hb3⟩
  have HB3 : Hid (Below W0.heap.size W0 w3) := (unhide HB2).trans (hb3.mono (unhide HB2).size)
  have HS3 : Hid (TakeS R w.heap.size place (k : Int) n s t w3) := (unhide HS0).below (unhide HB3)
  clear hb3 HB2 HS2
  go_wp2_with fail
  refine hK.out _ _ (by exact unhide HS3) (fun hHeld => ?_)
  clear hK K
  refine wpAnyH_take (i := 14) (oi := { dst := some 19, op := Op.unOp UnOp.not 4 (Operand.tmp 18), type := 4, pos := "prop.go:131", after := #[{ on := 13, ground := Ground.data }, { on := 8, ground := Ground.guard }], guard := some (8, false) }) (v := ?v91) rfl (by kernel_rfl) (by kernel_rfl) (by kernel_rfl) (fun _ _ _ h => h) (Or.inl ⟨by rfl, ?hy91⟩) (by assumption) ?rest91
  case hy91 => (intro w hSw; (try dsimp only at hSw); go_simp; (try rw [if_pos (by omega)]); (try with_reducible rfl))
  simp only [Act.put, List.setIfInBounds_toArray, List.set_cons_zero, List.set_cons_succ]
  refine wpAnyH_take (i := 15) (oi := { dst := some 20, op := Op.pick (Operand.tmp 13) (Operand.const (Value.bool true)) (Operand.tmp 19), type := 4, pos := "prop.go:131", after := #[{ on := 8, ground := Ground.data }, { on := 14, ground := Ground.data }], guard := none }) (v := ?v92) rfl (by kernel_rfl) (by kernel_rfl) (by kernel_rfl) (fun _ _ _ h => h) (Or.inl ⟨by rfl, ?hy92⟩) (by assumption) ?rest92
  case hy92 => (intro w hSw; (try dsimp only at hSw); go_simp; (try rw [if_pos (by omega)]); (try with_reducible rfl))
  simp only [Act.put, List.setIfInBounds_toArray, List.set_cons_zero, List.set_cons_succ]
  refine wpAnyH_done (by kernel_rfl) ?_ _
  refine NoPanic.normal ?_
  have HQ0 : Hid (W0.cell? ⟨R, 1 + k, none⟩ = some (.bool true)) := by show _ = _; exact unhide HQ
  have HQ3 : Hid (w3.cell? ⟨R, 1 + k, none⟩ = some (.bool true)) := ((unhide HB3).cell (cell_lt (unhide HQ0))).trans (unhide HQ0)
  go_wp2_with fail
  refine wp_region_noPanic ?_
  refine wp_region_held_drew (S := (fun w' => w'.cell? ⟨R, 0, none⟩ = some (.int .i64 place) ∧ w'.cell? ⟨w.heap.size, 0, none⟩ = some (.int .i64 (k : Int)) ∧ w'.cell? ⟨R, 1 + k, none⟩ = some (.bool true))) (by kernel_rfl) ⟨(unhide HS3).1, (unhide HS3).2.1, unhide HQ3⟩ (fun hHeld => ?_)
  refine wpAnyH_take (i := 0) (oi := { dst := some 22, op := Op.move (Operand.tmp 0), type := 163, pos := "prop.go:134", after := #[], guard := none }) (v := ?v93) rfl (by kernel_rfl) (by kernel_rfl) (by kernel_rfl) (fun _ _ _ h => h) (Or.inl ⟨by rfl, ?hy93⟩) (by assumption) ?rest93
  case hy93 => (intro w hSw; (try dsimp only at hSw); go_simp; (try rw [if_pos (by omega)]); (try with_reducible rfl))
  simp only [Act.put, List.setIfInBounds_toArray, List.set_cons_zero, List.set_cons_succ]
  refine wpAnyH_take (i := 1) (oi := { dst := some 23, op := Op.fieldAddr 147 (Operand.tmp 3) 0, type := 0, pos := "prop.go:134", after := #[], guard := none }) (v := ?v94) rfl (by kernel_rfl) (by kernel_rfl) (by kernel_rfl) (fun _ _ _ h => h) (Or.inl ⟨by rfl, ?hy94⟩) (by assumption) ?rest94
  case hy94 => (intro w hSw; (try dsimp only at hSw); go_simp; (try rw [if_pos (by omega)]); (try with_reducible rfl))
  simp only [Act.put, List.setIfInBounds_toArray, List.set_cons_zero, List.set_cons_succ]
  refine wpAnyH_take (i := 2) (oi := { dst := some 24, op := Op.load 3 (Operand.tmp 23), type := 3, pos := "prop.go:134", after := #[{ on := 1, ground := Ground.data }], guard := none }) (v := ?v95) rfl (by kernel_rfl) (by kernel_rfl) (by kernel_rfl) (fun _ _ _ h => h) (Or.inl ⟨by rfl, ?hy95⟩) (by assumption) ?rest95
  case hy95 => (intro w hSw; (try dsimp only at hSw); go_simp; (try rw [if_pos (by omega)]); (try with_reducible rfl))
  simp only [Act.put, List.setIfInBounds_toArray, List.set_cons_zero, List.set_cons_succ]
  refine wpAnyH_take (i := 3) (oi := { dst := some 25, op := Op.nilCheck (Operand.tmp 22), type := 0, pos := "prop.go:134", after := #[{ on := 0, ground := Ground.data }], guard := none }) (v := ?v96) rfl (by kernel_rfl) (by kernel_rfl) (by kernel_rfl) (fun _ _ _ h => h) (Or.inl ⟨by rfl, ?hy96⟩) (by assumption) ?rest96
  case hy96 => (intro w hSw; (try dsimp only at hSw); go_simp; (try rw [if_pos (by omega)]); (try with_reducible rfl))
  simp only [Act.put, List.setIfInBounds_toArray, List.set_cons_zero, List.set_cons_succ]
  refine wpAnyH_take (i := 4) (oi := { dst := some 26, op := Op.fieldAddr 145 (Operand.tmp 25) 1, type := 0, pos := "prop.go:134", after := #[{ on := 3, ground := Ground.data }], guard := none }) (v := ?v97) rfl (by kernel_rfl) (by kernel_rfl) (by kernel_rfl) (fun _ _ _ h => h) (Or.inl ⟨by rfl, ?hy97⟩) (by assumption) ?rest97
  case hy97 => (intro w hSw; (try dsimp only at hSw); go_simp; (try rw [if_pos (by omega)]); (try with_reducible rfl))
  simp only [Act.put, List.setIfInBounds_toArray, List.set_cons_zero, List.set_cons_succ]
  refine wpAnyH_take (i := 5) (oi := { dst := some 27, op := Op.indexAddr 143 (Operand.tmp 26) (Operand.tmp 24), type := 0, pos := "prop.go:134", after := #[{ on := 4, ground := Ground.data }, { on := 2, ground := Ground.data }], guard := none }) (v := ?v98) rfl (by kernel_rfl) (by kernel_rfl) (by kernel_rfl) (fun _ _ _ h => h) (Or.inl ⟨by rfl, ?hy98⟩) (by assumption) ?rest98
  case hy98 => (intro w hSw; (try dsimp only at hSw); go_simp; (try rw [if_pos (by omega)]); (try with_reducible rfl))
  simp only [Act.put, List.setIfInBounds_toArray, List.set_cons_zero, List.set_cons_succ]
  refine wpAnyH_take (i := 6) (oi := { dst := some 28, op := Op.load 4 (Operand.tmp 27), type := 4, pos := "prop.go:134", after := #[{ on := 5, ground := Ground.data }], guard := none }) (v := ?v99) rfl (by kernel_rfl) (by kernel_rfl) (by kernel_rfl) (fun _ _ _ h => h) (Or.inl ⟨by rfl, ?hy99⟩) (by assumption) ?rest99
  case hy99 => (intro w hSw; (try dsimp only at hSw); go_simp; (try rw [if_pos (by omega)]); (try with_reducible rfl))
  simp only [Act.put, List.setIfInBounds_toArray, List.set_cons_zero, List.set_cons_succ]
  refine wpAnyH_take (i := 7) (oi := { dst := some 29, op := Op.move (Operand.tmp 28), type := 4, pos := "prop.go:134", after := #[{ on := 6, ground := Ground.data }], guard := none }) (v := ?v100) rfl (by kernel_rfl) (by kernel_rfl) (by kernel_rfl) (fun _ _ _ h => h) (Or.inl ⟨by rfl, ?hy100⟩) (by assumption) ?rest100
  case hy100 => (intro w hSw; (try dsimp only at hSw); go_simp; (try rw [if_pos (by omega)]); (try with_reducible rfl))
  simp only [Act.put, List.setIfInBounds_toArray, List.set_cons_zero, List.set_cons_succ]
  refine wpAnyH_take (i := 8) (oi := { dst := some 30, op := Op.fieldAddr 147 (Operand.tmp 3) 0, type := 0, pos := "prop.go:134", after := #[{ on := 7, ground := Ground.guard }], guard := some (7, true) }) (v := ?v101) rfl (by kernel_rfl) (by kernel_rfl) (by kernel_rfl) (fun _ _ _ h => h) (Or.inl ⟨by rfl, ?hy101⟩) (by assumption) ?rest101
  case hy101 => (intro w hSw; (try dsimp only at hSw); go_simp; (try rw [if_pos (by omega)]); (try with_reducible rfl))
  simp only [Act.put, List.setIfInBounds_toArray, List.set_cons_zero, List.set_cons_succ]
  refine wpAnyH_take (i := 9) (oi := { dst := some 31, op := Op.load 3 (Operand.tmp 30), type := 3, pos := "prop.go:134", after := #[{ on := 8, ground := Ground.data }, { on := 7, ground := Ground.guard }], guard := some (7, true) }) (v := ?v102) rfl (by kernel_rfl) (by kernel_rfl) (by kernel_rfl) (fun _ _ _ h => h) (Or.inl ⟨by rfl, ?hy102⟩) (by assumption) ?rest102
  case hy102 => (intro w hSw; (try dsimp only at hSw); go_simp; (try rw [if_pos (by omega)]); (try with_reducible rfl))
  simp only [Act.put, List.setIfInBounds_toArray, List.set_cons_zero, List.set_cons_succ]
  refine wpAnyH_take (i := 10) (oi := { dst := some 32, op := Op.move (Operand.tmp 0), type := 163, pos := "prop.go:134", after := #[{ on := 7, ground := Ground.guard }], guard := some (7, true) }) (v := ?v103) rfl (by kernel_rfl) (by kernel_rfl) (by kernel_rfl) (fun _ _ _ h => h) (Or.inl ⟨by rfl, ?hy103⟩) (by assumption) ?rest103
  case hy103 => (intro w hSw; (try dsimp only at hSw); go_simp; (try rw [if_pos (by omega)]); (try with_reducible rfl))
  simp only [Act.put, List.setIfInBounds_toArray, List.set_cons_zero, List.set_cons_succ]
  refine wpAnyH_take (i := 11) (oi := { dst := some 33, op := Op.nilCheck (Operand.tmp 32), type := 0, pos := "prop.go:134", after := #[{ on := 10, ground := Ground.data }, { on := 7, ground := Ground.guard }], guard := some (7, true) }) (v := ?v104) rfl (by kernel_rfl) (by kernel_rfl) (by kernel_rfl) (fun _ _ _ h => h) (Or.inl ⟨by rfl, ?hy104⟩) (by assumption) ?rest104
  case hy104 => (intro w hSw; (try dsimp only at hSw); go_simp; (try rw [if_pos (by omega)]); (try with_reducible rfl))
  simp only [Act.put, List.setIfInBounds_toArray, List.set_cons_zero, List.set_cons_succ]
  refine wpAnyH_take (i := 12) (oi := { dst := some 34, op := Op.fieldAddr 145 (Operand.tmp 33) 0, type := 0, pos := "prop.go:134", after := #[{ on := 11, ground := Ground.data }, { on := 7, ground := Ground.guard }], guard := some (7, true) }) (v := ?v105) rfl (by kernel_rfl) (by kernel_rfl) (by kernel_rfl) (fun _ _ _ h => h) (Or.inl ⟨by rfl, ?hy105⟩) (by assumption) ?rest105
  case hy105 => (intro w hSw; (try dsimp only at hSw); go_simp; (try rw [if_pos (by omega)]); (try with_reducible rfl))
  simp only [Act.put, List.setIfInBounds_toArray, List.set_cons_zero, List.set_cons_succ]
  refine wpAnyH_take (i := 13) (oi := { dst := some 35, op := Op.load 3 (Operand.tmp 34), type := 3, pos := "prop.go:134", after := #[{ on := 12, ground := Ground.data }, { on := 7, ground := Ground.guard }], guard := some (7, true) }) (v := ?v106) rfl (by kernel_rfl) (by kernel_rfl) (by kernel_rfl) (fun _ _ _ h => h) (Or.inl ⟨by rfl, ?hy106⟩) (by assumption) ?rest106
  case hy106 => (intro w hSw; (try dsimp only at hSw); go_simp; (try rw [if_pos (by omega)]); (try with_reducible rfl))
  simp only [Act.put, List.setIfInBounds_toArray, List.set_cons_zero, List.set_cons_succ]
  refine wpAnyH_ready (rs := [14]) (by kernel_rfl) (by simp) ?_
  refine AllReadyH.cons (o := { dst := some 36, op := Op.call { callee := Callee.value (Operand.func 101), args := #[Operand.tmp 31, Operand.tmp 35], argTypes := #[3, 3] }, type := 4, pos := "prop.go:134", after := #[{ on := 9, ground := Ground.data }, { on := 13, ground := Ground.data }, { on := 7, ground := Ground.chain }, { on := 7, ground := Ground.guard }], guard := some (7, true) }) rfl (fun K hK => ?_) AllReadyH.nil
  go_simp
  refine (repeat_is _ place true hr _).mono ?_
  rintro e w4 ⟨rfl, hw4⟩
  obtain rfl := hw4.symm
  clear hw4
  go_wp2_with fail
  refine hK.out _ _ (by assumption) (fun hHeld => ?_)
  clear hK K
  refine wpAnyH_take (i := 15) (oi := { dst := some 37, op := Op.unOp UnOp.not 4 (Operand.tmp 36), type := 4, pos := "prop.go:134", after := #[{ on := 14, ground := Ground.data }, { on := 7, ground := Ground.guard }], guard := some (7, true) }) (v := ?v107) rfl (by kernel_rfl) (by kernel_rfl) (by kernel_rfl) (fun _ _ _ h => h) (Or.inl ⟨by rfl, ?hy107⟩) (by assumption) ?rest107
  case hy107 => (intro w hSw; (try dsimp only at hSw); go_simp; (try rw [if_pos (by omega)]); (try with_reducible rfl))
  simp only [Act.put, List.setIfInBounds_toArray, List.set_cons_zero, List.set_cons_succ]
  refine wpAnyH_take (i := 16) (oi := { dst := some 38, op := Op.pick (Operand.tmp 29) (Operand.tmp 37) (Operand.const (Value.bool false)), type := 4, pos := "prop.go:134", after := #[{ on := 7, ground := Ground.data }, { on := 15, ground := Ground.data }], guard := none }) (v := ?v108) rfl (by kernel_rfl) (by kernel_rfl) (by kernel_rfl) (fun _ _ _ h => h) (Or.inl ⟨by rfl, ?hy108⟩) (by assumption) ?rest108
  case hy108 => (intro w hSw; (try dsimp only at hSw); go_simp; (try rw [if_pos (by omega)]); (try with_reducible rfl))
  simp only [Act.put, List.setIfInBounds_toArray, List.set_cons_zero, List.set_cons_succ]
  refine wpAnyH_done (by kernel_rfl) ?_ _
  refine NoPanic.normal ?_
  have hq4 : w3.drew.cell? ⟨R, 1 + k, none⟩ = some (.bool true) := by exact unhide HQ3
  have hx4 : w3.drew.cell? ⟨w.heap.size, 0, none⟩ = some (.int .i64 (k : Int)) := by exact (unhide HS3).2.1
  have HB4 : Hid (Below w.heap.size w w3.drew) := below_drewN ((unhide HB0).trans ((unhide HB3).mono (unhide HB0).size)) 1
  have hz4 : w3.drew.frozen? ⟨R, 1 + k, none⟩ = false := ((unhide HB4).frozen (p := ⟨R, 1 + k, none⟩) hRl).trans hfz
  clear HB3 HS3 HQ3 HQ0 HS0 HB0 HQ hfz HSH hf hm hHeld
  generalize w3.drew = w4 at hq4 hx4 HB4 hz4 ⊢
  go_wp2_with fail
  refine wp_region_noPanic ?_
  refine wp_region_held_drew (S := (fun w' => w'.cell? ⟨w.heap.size, 0, none⟩ = some (.int .i64 (k : Int)))) (by kernel_rfl) (by exact hx4) (fun hHeld => ?_)
  refine wpAnyH_take (i := 0) (oi := { dst := some 40, op := Op.move (Operand.tmp 0), type := 163, pos := "prop.go:137", after := #[], guard := none }) (v := ?v109) rfl (by kernel_rfl) (by kernel_rfl) (by kernel_rfl) (fun _ _ _ h => h) (Or.inl ⟨by rfl, ?hy109⟩) (by assumption) ?rest109
  case hy109 => (intro w hSw; (try dsimp only at hSw); go_simp; (try rw [if_pos (by omega)]); (try with_reducible rfl))
  simp only [Act.put, List.setIfInBounds_toArray, List.set_cons_zero, List.set_cons_succ]
  refine wpAnyH_take (i := 1) (oi := { dst := some 41, op := Op.fieldAddr 147 (Operand.tmp 3) 0, type := 0, pos := "prop.go:137", after := #[], guard := none }) (v := ?v110) rfl (by kernel_rfl) (by kernel_rfl) (by kernel_rfl) (fun _ _ _ h => h) (Or.inl ⟨by rfl, ?hy110⟩) (by assumption) ?rest110
  case hy110 => (intro w hSw; (try dsimp only at hSw); go_simp; (try rw [if_pos (by omega)]); (try with_reducible rfl))
  simp only [Act.put, List.setIfInBounds_toArray, List.set_cons_zero, List.set_cons_succ]
  refine wpAnyH_take (i := 2) (oi := { dst := some 42, op := Op.load 3 (Operand.tmp 41), type := 3, pos := "prop.go:137", after := #[{ on := 1, ground := Ground.data }], guard := none }) (v := ?v111) rfl (by kernel_rfl) (by kernel_rfl) (by kernel_rfl) (fun _ _ _ h => h) (Or.inl ⟨by rfl, ?hy111⟩) (by assumption) ?rest111
  case hy111 => (intro w hSw; (try dsimp only at hSw); go_simp; (try rw [if_pos (by omega)]); (try with_reducible rfl))
  simp only [Act.put, List.setIfInBounds_toArray, List.set_cons_zero, List.set_cons_succ]
  refine wpAnyH_take (i := 3) (oi := { dst := some 43, op := Op.nilCheck (Operand.tmp 40), type := 0, pos := "prop.go:137", after := #[{ on := 0, ground := Ground.data }], guard := none }) (v := ?v112) rfl (by kernel_rfl) (by kernel_rfl) (by kernel_rfl) (fun _ _ _ h => h) (Or.inl ⟨by rfl, ?hy112⟩) (by assumption) ?rest112
  case hy112 => (intro w hSw; (try dsimp only at hSw); go_simp; (try rw [if_pos (by omega)]); (try with_reducible rfl))
  simp only [Act.put, List.setIfInBounds_toArray, List.set_cons_zero, List.set_cons_succ]
  refine wpAnyH_take (i := 4) (oi := { dst := some 44, op := Op.fieldAddr 145 (Operand.tmp 43) 1, type := 0, pos := "prop.go:137", after := #[{ on := 3, ground := Ground.data }], guard := none }) (v := ?v113) rfl (by kernel_rfl) (by kernel_rfl) (by kernel_rfl) (fun _ _ _ h => h) (Or.inl ⟨by rfl, ?hy113⟩) (by assumption) ?rest113
  case hy113 => (intro w hSw; (try dsimp only at hSw); go_simp; (try rw [if_pos (by omega)]); (try with_reducible rfl))
  simp only [Act.put, List.setIfInBounds_toArray, List.set_cons_zero, List.set_cons_succ]
  refine wpAnyH_take (i := 5) (oi := { dst := some 45, op := Op.indexAddr 143 (Operand.tmp 44) (Operand.tmp 42), type := 0, pos := "prop.go:137", after := #[{ on := 4, ground := Ground.data }, { on := 2, ground := Ground.data }, { on := 0, ground := Ground.phase }, { on := 1, ground := Ground.phase }, { on := 2, ground := Ground.phase }], guard := none }) (v := ?v114) rfl (by kernel_rfl) (by kernel_rfl) (by kernel_rfl) (fun _ _ _ h => h) (Or.inl ⟨by rfl, ?hy114⟩) (by assumption) ?rest114
  case hy114 => (intro w hSw; (try dsimp only at hSw); go_simp; (try rw [if_pos (by omega)]); (try with_reducible rfl))
  simp only [Act.put, List.setIfInBounds_toArray, List.set_cons_zero, List.set_cons_succ]
  have hq5 : w4.drew.cell? ⟨R, 1 + k, none⟩ = some (.bool true) := hq4
  have hz5 : w4.drew.frozen? ⟨R, 1 + k, none⟩ = false := hz4
  refine wpAnyH_ready (rs := [6]) (by kernel_rfl) (by simp) ?_
  refine AllReadyH.cons (o := { dst := none, op := Op.store 4 (Operand.tmp 45) (Operand.const (Value.bool true)), type := 0, pos := "prop.go:137", after := #[{ on := 5, ground := Ground.data }, { on := 0, ground := Ground.phase }, { on := 1, ground := Ground.phase }, { on := 2, ground := Ground.phase }], guard := none }) rfl (fun K hK => ?_) AllReadyH.nil
  go_simp
  refine hK.out _ _ (by show (w4.setCell ⟨R, 1 + k, none⟩ (.bool true)).cell? _ = _; rw [World.cell?_setCell_far _ _ _ _ (by simp; omega)]; exact hx4) (fun hHeld => ?_)
  clear hK K
  refine wpAnyH_done (by kernel_rfl) ?_ _
  refine NoPanic.normal ?_
  go_wp2
  go_ret
  exact ⟨rfl, w4.drew, below_drewN (unhide HB4) 1, rfl⟩
end Go.Proofs.YtgdfnopnmdjklaaGreatDoor
/- Proved here: prop.putNumber tells a number's bytes, the highest first. Helper contracts. -/
namespace Go.Proofs.YtgdfnopnmdjklaaGreatDoor
open Go.RowKit
set_option maxRecDepth 100000

/-- a number in so many bytes, the highest first -/
def nbs (k n : Int) : List Int := if k = 1 then [n] else if k = 2 then [n / 256, n % 256] else [n / 16777216, n / 65536 % 256, n / 256 % 256, n % 256]
def NumPost (k n : Int) (w : World) (e : Ending) (w' : World) : Prop :=
  ∃ v, e = .returned v ∧ Hid (w'.ownsRow w.heap.size 5 1 v (nbs k n).length ((nbs k n).map (Value.int .u8))) ∧ Below w.heap.size w w'
theorem num_1 (n : Int) (w : World) (h0 : 0 ≤ n) (h1 : n ≤ 1) : Calls Tryz.prog 113 #[.int .i64 n, .int .i64 1] w (NumPost 1 n w) := by
  unfold NumPost
  have m1 := V.make1
  have hx : n % 256 = n := by omega
  go_enter Tryz.func113, Tryz.ntmps113
  go_wp2
  refine wp_loop_rounds 2 ?_
  rw [rounds_succ]
  go_wp2
  rw [rounds_succ]
  go_wp2
  go_ret
  exact ⟨_, rfl, World.ownsRow_lit w _ _ (Nat.le_refl _) (by unfold maxLen; omega) (by simp), by go_grown⟩
theorem num_2 (n : Int) (w : World) (h0 : 0 ≤ n) (h1 : n ≤ 65535) : Calls Tryz.prog 113 #[.int .i64 n, .int .i64 2] w (NumPost 2 n w) := by
  unfold NumPost
  have m1 := V.make2
  have hx : n / 256 % 256 = n / 256 := by omega
  go_enter Tryz.func113, Tryz.ntmps113
  go_wp2
  refine wp_loop_rounds 3 ?_
  rw [rounds_succ]
  go_wp2
  rw [rounds_succ]
  go_wp2
  rw [rounds_succ]
  go_wp2
  go_ret
  exact ⟨_, rfl, World.ownsRow_lit w _ _ (Nat.le_refl _) (by unfold maxLen; omega) (by simp), by go_grown⟩
theorem num_4 (n : Int) (w : World) (h0 : 0 ≤ n) (h1 : n ≤ 4294967295) : Calls Tryz.prog 113 #[.int .i64 n, .int .i64 4] w (NumPost 4 n w) := by
  unfold NumPost
  have m1 := V.make4
  have hx : n / 256 / 256 / 256 = n / 16777216 := by omega
  have hy : n / 256 / 256 % 256 = n / 65536 % 256 := by omega
  go_enter Tryz.func113, Tryz.ntmps113
  go_wp2
  refine wp_loop_rounds 5 ?_
  rw [rounds_succ]
  go_wp2
  rw [rounds_succ]
  go_wp2
  rw [rounds_succ]
  go_wp2
  rw [rounds_succ]
  go_wp2
  rw [rounds_succ]
  go_wp2
  go_ret
  exact ⟨_, rfl, World.ownsRow_lit w _ _ (Nat.le_refl _) (by unfold maxLen; omega) (by simp), by go_grown⟩
end Go.Proofs.YtgdfnopnmdjklaaGreatDoor
/- Proved here: prop's putPair, putValue and putOne tell one property's bytes, or an error of below. Helper contracts. -/
namespace Go.Proofs.YtgdfnopnmdjklaaGreatDoor
open Go.RowKit
set_option maxRecDepth 100000

/-- bytes l, and no error -/
def ValOk (l : List Int) (w : World) (e : Ending) (w' : World) : Prop := ∃ v, e = .returned (.tuple #[v, .nilIface]) ∧ Hid (Byt w' v l) ∧ Below w.heap.size w w'
/-- an error of below -/
def ValBad (w : World) (e : Ending) (w' : World) : Prop := ∃ t x n, e = .returned (.tuple #[.slice none 0 0, .iface t x]) ∧ Hid (Inn w' (.iface t x) n) ∧ Below w.heap.size w w'
theorem range_app {xs ys : List Int} (hx : ∀ j, 0 ≤ xs.getD j 0 ∧ xs.getD j 0 ≤ 255) (hy : ∀ j, 0 ≤ ys.getD j 0 ∧ ys.getD j 0 ≤ 255) : ∀ j, 0 ≤ (xs ++ ys).getD j 0 ∧ (xs ++ ys).getD j 0 ≤ 255 := by
  intro j
  rcases Nat.lt_or_ge j xs.length with h | h
  · rw [List.getD_eq_getElem?_getD, List.getElem?_append_left h, ← List.getD_eq_getElem?_getD]; exact hx j
  · rw [List.getD_eq_getElem?_getD, List.getElem?_append_right h, ← List.getD_eq_getElem?_getD]; exact hy _
theorem tput_ok (s : ByteArray) (w : World) (hc : chk (sb s) = 0) : Calls Tryz.prog 91 #[.string s] w (fun e w' => ∃ v, e = .returned (.tuple #[v, .nilIface]) ∧ Hid (w'.ownsRow w.heap.size 5 1 v (2 + s.size) ((tx s).map (Value.int .u8))) ∧ Hid (Byt w' v (tx s)) ∧ Below w.heap.size w w') := by
  refine (put_ok s w hc).mono ?_
  rintro e w' ⟨v, rfl, hown, hb⟩
  exact ⟨v, rfl, hown, byt_of_owns (unhide hown) (tx_range s (by have := chk_0 hc; rw [sb_length] at this; exact this)), hb⟩
theorem tput_bad (s : ByteArray) (w : World) (hs : s.size ≤ 4611686018427387904) (hc : chk (sb s) ≠ 0) : Calls Tryz.prog 91 #[.string s] w (fun e w' => ∃ x n, e = .returned (.tuple #[.slice none 0 0, .iface 64 x]) ∧ Hid (Inn w' (.iface 64 x) n) ∧ Below w.heap.size w w') := by
  refine (put_bad s _ w hs rfl hc).mono ?_
  rintro e w' ⟨rfl, rfl⟩
  exact ⟨_, chk (sb s), rfl, .inr ⟨_, rfl, by simp⟩, fault_below _ _⟩
set_option maxHeartbeats 1000000 in
theorem pair_ok (s t : ByteArray) (w : World) (hs : chk (sb s) = 0) (ht : chk (sb t) = 0) : Calls Tryz.prog 114 #[.string s, .string t] w (ValOk (tx s ++ tx t) w) := by
  have ls : s.size ≤ 65535 := by have := chk_0 hs; rw [sb_length] at this; exact this
  have lt : t.size ≤ 65535 := by have := chk_0 ht; rw [sb_length] at this; exact this
  have HS := hide hs
  have HT := hide ht
  clear hs ht
  go_enter Tryz.func114, Tryz.ntmps114
  go_wp2_with fail
  refine (tput_ok s _ (unhide HS)).mono ?_
  rintro e w1 ⟨v1, rfl, hown1, -, hb1⟩
  have HB1 := hide hb1
  clear hb1
  go_wp2_with fail
  refine (tput_ok t _ (unhide HT)).mono ?_
  rintro e w2 ⟨v2, rfl, -, hy2, hb2⟩
  have HO2 : Hid (w2.ownsRow w.heap.size 5 1 v1 (2 + s.size) ((tx s).map (Value.int .u8))) := owns_below (unhide hown1) hb2
  have HB2 : Hid (Below w.heap.size w w2) := (unhide HB1).trans (hb2.mono (unhide HB1).size)
  clear hb2 HB1 hown1
  go_wp2_with (first
    | (at_builtin; refine wpList_append_byt _ rfl _ _ rfl w.heap.size _ (2 + s.size) (tx s) rfl (unhide HO2) v2 (tx t) rfl (unhide hy2) (by rw [tx_length]; omega) (unhide HB2).size ?_)
    | go_in)
  intro v3 w3 hown3 hgrow3
  have hb3 : Below w.heap.size w w3 := (unhide HB2).grown hgrow3 (unhide HB2).size (fun k hk => ((unhide HO2).lt k hk).1)
  have HY3 : Hid (Byt w3 v3 (tx s ++ tx t)) := byt_of_owns (by rw [List.map_append]; exact hown3) (range_app (tx_range s ls) (tx_range t lt))
  clear hown3 hgrow3
  go_wp2
  go_ret2
  exact ⟨_, rfl, HY3, hb3⟩
theorem pair_bad1 (s t : ByteArray) (w : World) (hl : s.size ≤ 4611686018427387904) (hs : chk (sb s) ≠ 0) : Calls Tryz.prog 114 #[.string s, .string t] w (ValBad w) := by
  have HS := hide hs
  clear hs
  go_enter Tryz.func114, Tryz.ntmps114
  go_wp2_with fail
  refine (tput_bad s _ hl (unhide HS)).mono ?_
  rintro e w1 ⟨x, n, rfl, hi, hb1⟩
  go_wp2
  go_ret2
  exact ⟨_, _, _, rfl, hi, hb1⟩
theorem pair_bad2 (s t : ByteArray) (w : World) (hl : t.size ≤ 4611686018427387904) (hs : chk (sb s) = 0) (ht : chk (sb t) ≠ 0) : Calls Tryz.prog 114 #[.string s, .string t] w (ValBad w) := by
  have HS := hide hs
  have HT := hide ht
  clear hs ht
  go_enter Tryz.func114, Tryz.ntmps114
  go_wp2_with fail
  refine (tput_ok s _ (unhide HS)).mono ?_
  rintro e w1 ⟨v1, rfl, -, -, hb1⟩
  have HB1 := hide hb1
  clear hb1
  go_wp2_with fail
  refine (tput_bad t _ hl (unhide HT)).mono ?_
  rintro e w2 ⟨x, n, rfl, hi, hb2⟩
  go_wp2
  go_ret2
  exact ⟨_, _, _, rfl, hi, (unhide HB1).trans (hb2.mono (unhide HB1).size)⟩
theorem vput_use (n : Int) (w : World) (h0 : 0 ≤ n) (h1 : n ≤ 268435455) : Calls Tryz.prog 29 #[.int .i64 n] w (fun e w' => ∃ v, e = .returned (.tuple #[v, .nilIface]) ∧ Hid (w'.ownsRow w.heap.size 5 1 v (V.put n).length ((V.put n).map (Value.int .u8))) ∧ Hid (Byt w' v (V.put n)) ∧ Below w.heap.size w w') := by
  refine (V.put_use n w h0 h1).mono ?_
  rintro e w' ⟨m, rfl, rfl, hown, hb⟩
  exact ⟨_, rfl, hown, byt_of_owns (unhide hown) (V.put_range n h0 h1), hb⟩
theorem nbs_range (k n : Int) (hk : k = 1 ∧ n ≤ 1 ∨ k = 2 ∧ n ≤ 65535 ∨ k = 4 ∧ n ≤ 4294967295) (h0 : 0 ≤ n) : ∀ j, 0 ≤ (nbs k n).getD j 0 ∧ (nbs k n).getD j 0 ≤ 255 := by
  intro j
  unfold nbs
  rcases hk with ⟨rfl, h⟩ | ⟨rfl, h⟩ | ⟨rfl, h⟩
  · rw [if_pos rfl]
    rcases j with _ | j <;> simp <;> omega
  · rw [if_neg (by omega), if_pos rfl]
    rcases j with _ | _ | j <;> simp <;> omega
  · rw [if_neg (by omega), if_neg (by omega)]
    rcases j with _ | _ | _ | _ | j <;> simp <;> omega
/-- putNumber's answer, as a caller uses it -/
theorem number_use (k n : Int) (w : World) (hk : k = 1 ∧ n ≤ 1 ∨ k = 2 ∧ n ≤ 65535 ∨ k = 4 ∧ n ≤ 4294967295) (h0 : 0 ≤ n) : Calls Tryz.prog 113 #[.int .i64 n, .int .i64 k] w (fun e w' => ∃ v, e = .returned v ∧ Hid (Byt w' v (nbs k n)) ∧ Below w.heap.size w w') := by
  have hr := nbs_range k n hk h0
  have key : ∀ e w', NumPost k n w e w' → ∃ v, e = .returned v ∧ Hid (Byt w' v (nbs k n)) ∧ Below w.heap.size w w' := by
    rintro e w' ⟨v, rfl, hown, hb⟩
    exact ⟨v, rfl, byt_of_owns (unhide hown) hr, hb⟩
  rcases hk with ⟨rfl, h⟩ | ⟨rfl, h⟩ | ⟨rfl, h⟩
  · exact (num_1 n w h0 h).mono key
  · exact (num_2 n w h0 h).mono key
  · exact (num_4 n w h0 h).mono key
def numK (k n : Int) : Prop := k = 1 ∧ n ≤ 1 ∨ k = 2 ∧ n ≤ 65535 ∨ k = 4 ∧ n ≤ 4294967295
theorem value_num (id n k : Int) (s t : ByteArray) (w : World) (lo hi : Int) (hsh : shv id = .agg #[.int .i64 1, .int .i64 k, .int .i64 lo, .int .i64 hi]) (hk : numK k n) (h0 : 0 ≤ n) :
    Calls Tryz.prog 110 #[.agg #[.int .i64 id, .int .i64 n, .string s, .string t]] w (ValOk (nbs k n) w) := by
  have HSH := hide hsh
  have HK := hide hk
  clear hsh hk
  go_enter Tryz.func110, Tryz.ntmps110
  go_wp2_with fail
  refine (shape_use id 1 k lo hi (unhide HSH) _).mono ?_
  rintro e w1 ⟨rfl, hb1⟩
  have HB1 : Hid (Below w.heap.size w w1) := ((Below.refl _ _).alloc (Nat.le_refl _) _).trans (hb1.mono (by simp))
  have c1 : w1.cell? ⟨w.heap.size, 1, none⟩ = some (.int .i64 n) := (hb1.cell (p := ⟨w.heap.size, 1, none⟩) (by simp)).trans (by simp)
  have c2 : w1.cell? ⟨w.heap.size, 2, none⟩ = some (.string s) := (hb1.cell (p := ⟨w.heap.size, 2, none⟩) (by simp)).trans (by simp)
  have c3 : w1.cell? ⟨w.heap.size, 3, none⟩ = some (.string t) := (hb1.cell (p := ⟨w.heap.size, 3, none⟩) (by simp)).trans (by simp)
  have hlt : w.heap.size < w1.heap.size := cell_lt c1
  clear hb1
  go_wp2_with fail
  refine (number_use k n _ (unhide HK) h0).mono ?_
  rintro e w2 ⟨v, rfl, hy, hb2⟩
  go_wp2
  go_ret2
  exact ⟨_, rfl, hy, (((unhide HB1).alloc (unhide HB1).size _).trans (hb2.mono (by simp; omega)))⟩
set_option maxHeartbeats 1000000 in
theorem value_var (id n : Int) (s t : ByteArray) (w : World) (wd lo hi : Int) (hsh : shv id = .agg #[.int .i64 2, .int .i64 wd, .int .i64 lo, .int .i64 hi]) (h0 : 0 ≤ n) (h1 : n ≤ 268435455) :
    Calls Tryz.prog 110 #[.agg #[.int .i64 id, .int .i64 n, .string s, .string t]] w (ValOk (V.put n) w) := by
  have HSH := hide hsh
  clear hsh
  go_enter Tryz.func110, Tryz.ntmps110
  go_wp2_with fail
  refine (shape_use id 2 wd lo hi (unhide HSH) _).mono ?_
  rintro e w1 ⟨rfl, hb1⟩
  have HB1 : Hid (Below w.heap.size w w1) := ((Below.refl _ _).alloc (Nat.le_refl _) _).trans (hb1.mono (by simp))
  have c1 : w1.cell? ⟨w.heap.size, 1, none⟩ = some (.int .i64 n) := (hb1.cell (p := ⟨w.heap.size, 1, none⟩) (by simp)).trans (by simp)
  have c2 : w1.cell? ⟨w.heap.size, 2, none⟩ = some (.string s) := (hb1.cell (p := ⟨w.heap.size, 2, none⟩) (by simp)).trans (by simp)
  have c3 : w1.cell? ⟨w.heap.size, 3, none⟩ = some (.string t) := (hb1.cell (p := ⟨w.heap.size, 3, none⟩) (by simp)).trans (by simp)
  have hlt : w.heap.size < w1.heap.size := cell_lt c1
  clear hb1
  go_wp2_with fail
  refine (vput_use n _ h0 h1).mono ?_
  rintro e w2 ⟨v, rfl, -, hy, hb2⟩
  go_wp2
  go_ret2
  exact ⟨_, rfl, hy, (((unhide HB1).alloc (unhide HB1).size _).trans (hb2.mono (by simp; omega)))⟩
set_option maxHeartbeats 1000000 in
theorem value_text (id n : Int) (s t : ByteArray) (w : World) (wd lo hi : Int) (hsh : shv id = .agg #[.int .i64 3, .int .i64 wd, .int .i64 lo, .int .i64 hi]) (hc : chk (sb s) = 0) :
    Calls Tryz.prog 110 #[.agg #[.int .i64 id, .int .i64 n, .string s, .string t]] w (ValOk (tx s) w) := by
  have HSH := hide hsh
  clear hsh
  have Hhc := hide hc
  clear hc
  go_enter Tryz.func110, Tryz.ntmps110
  go_wp2_with fail
  refine (shape_use id 3 wd lo hi (unhide HSH) _).mono ?_
  rintro e w1 ⟨rfl, hb1⟩
  have HB1 : Hid (Below w.heap.size w w1) := ((Below.refl _ _).alloc (Nat.le_refl _) _).trans (hb1.mono (by simp))
  have c1 : w1.cell? ⟨w.heap.size, 1, none⟩ = some (.int .i64 n) := (hb1.cell (p := ⟨w.heap.size, 1, none⟩) (by simp)).trans (by simp)
  have c2 : w1.cell? ⟨w.heap.size, 2, none⟩ = some (.string s) := (hb1.cell (p := ⟨w.heap.size, 2, none⟩) (by simp)).trans (by simp)
  have c3 : w1.cell? ⟨w.heap.size, 3, none⟩ = some (.string t) := (hb1.cell (p := ⟨w.heap.size, 3, none⟩) (by simp)).trans (by simp)
  have hlt : w.heap.size < w1.heap.size := cell_lt c1
  clear hb1
  go_wp2_with fail
  refine (tput_ok s _ (unhide Hhc)).mono ?_
  rintro e w2 ⟨v, rfl, -, hy, hb2⟩
  go_wp2
  go_ret2
  exact ⟨_, rfl, hy, (((unhide HB1).alloc (unhide HB1).size _).trans (hb2.mono (by simp; omega)))⟩
set_option maxHeartbeats 1000000 in
theorem value_text_bad (id n : Int) (s t : ByteArray) (w : World) (wd lo hi : Int) (hsh : shv id = .agg #[.int .i64 3, .int .i64 wd, .int .i64 lo, .int .i64 hi]) (hl : s.size ≤ 4611686018427387904) (hc : chk (sb s) ≠ 0) :
    Calls Tryz.prog 110 #[.agg #[.int .i64 id, .int .i64 n, .string s, .string t]] w (ValBad w) := by
  have HSH := hide hsh
  clear hsh
  have Hhc := hide hc
  clear hc
  go_enter Tryz.func110, Tryz.ntmps110
  go_wp2_with fail
  refine (shape_use id 3 wd lo hi (unhide HSH) _).mono ?_
  rintro e w1 ⟨rfl, hb1⟩
  have HB1 : Hid (Below w.heap.size w w1) := ((Below.refl _ _).alloc (Nat.le_refl _) _).trans (hb1.mono (by simp))
  have c1 : w1.cell? ⟨w.heap.size, 1, none⟩ = some (.int .i64 n) := (hb1.cell (p := ⟨w.heap.size, 1, none⟩) (by simp)).trans (by simp)
  have c2 : w1.cell? ⟨w.heap.size, 2, none⟩ = some (.string s) := (hb1.cell (p := ⟨w.heap.size, 2, none⟩) (by simp)).trans (by simp)
  have c3 : w1.cell? ⟨w.heap.size, 3, none⟩ = some (.string t) := (hb1.cell (p := ⟨w.heap.size, 3, none⟩) (by simp)).trans (by simp)
  have hlt : w.heap.size < w1.heap.size := cell_lt c1
  clear hb1
  go_wp2_with fail
  refine (tput_bad s _ hl (unhide Hhc)).mono ?_
  rintro e w2 ⟨x, m, rfl, hy, hb2⟩
  go_wp2
  go_ret2
  exact ⟨_, _, _, rfl, hy, (((unhide HB1).alloc (unhide HB1).size _).trans (hb2.mono (by simp; omega)))⟩
set_option maxHeartbeats 1000000 in
theorem value_bin (id n : Int) (s t : ByteArray) (w : World) (wd lo hi : Int) (hsh : shv id = .agg #[.int .i64 4, .int .i64 wd, .int .i64 lo, .int .i64 hi]) (hc : s.size ≤ 65535) :
    Calls Tryz.prog 110 #[.agg #[.int .i64 id, .int .i64 n, .string s, .string t]] w (ValOk (tx s) w) := by
  have HSH := hide hsh
  clear hsh
  go_enter Tryz.func110, Tryz.ntmps110
  go_wp2_with fail
  refine (shape_use id 4 wd lo hi (unhide HSH) _).mono ?_
  rintro e w1 ⟨rfl, hb1⟩
  have HB1 : Hid (Below w.heap.size w w1) := ((Below.refl _ _).alloc (Nat.le_refl _) _).trans (hb1.mono (by simp))
  have c1 : w1.cell? ⟨w.heap.size, 1, none⟩ = some (.int .i64 n) := (hb1.cell (p := ⟨w.heap.size, 1, none⟩) (by simp)).trans (by simp)
  have c2 : w1.cell? ⟨w.heap.size, 2, none⟩ = some (.string s) := (hb1.cell (p := ⟨w.heap.size, 2, none⟩) (by simp)).trans (by simp)
  have c3 : w1.cell? ⟨w.heap.size, 3, none⟩ = some (.string t) := (hb1.cell (p := ⟨w.heap.size, 3, none⟩) (by simp)).trans (by simp)
  have hlt : w.heap.size < w1.heap.size := cell_lt c1
  clear hb1
  go_wp2_with fail
  refine (putBin_ok s _ hc).mono ?_
  rintro e w2 ⟨v, rfl, hown, hb2⟩
  have hy : Hid (Byt w2 v (tx s)) := byt_of_owns (unhide hown) (tx_range s hc)
  go_wp2
  go_ret2
  exact ⟨_, rfl, hy, (((unhide HB1).alloc (unhide HB1).size _).trans (hb2.mono (by simp; omega)))⟩
set_option maxHeartbeats 1000000 in
theorem value_bin_bad (id n : Int) (s t : ByteArray) (w : World) (wd lo hi : Int) (hsh : shv id = .agg #[.int .i64 4, .int .i64 wd, .int .i64 lo, .int .i64 hi]) (hc : 65535 < s.size) :
    Calls Tryz.prog 110 #[.agg #[.int .i64 id, .int .i64 n, .string s, .string t]] w (ValBad w) := by
  have HSH := hide hsh
  clear hsh
  go_enter Tryz.func110, Tryz.ntmps110
  go_wp2_with fail
  refine (shape_use id 4 wd lo hi (unhide HSH) _).mono ?_
  rintro e w1 ⟨rfl, hb1⟩
  have HB1 : Hid (Below w.heap.size w w1) := ((Below.refl _ _).alloc (Nat.le_refl _) _).trans (hb1.mono (by simp))
  have c1 : w1.cell? ⟨w.heap.size, 1, none⟩ = some (.int .i64 n) := (hb1.cell (p := ⟨w.heap.size, 1, none⟩) (by simp)).trans (by simp)
  have c2 : w1.cell? ⟨w.heap.size, 2, none⟩ = some (.string s) := (hb1.cell (p := ⟨w.heap.size, 2, none⟩) (by simp)).trans (by simp)
  have c3 : w1.cell? ⟨w.heap.size, 3, none⟩ = some (.string t) := (hb1.cell (p := ⟨w.heap.size, 3, none⟩) (by simp)).trans (by simp)
  have hlt : w.heap.size < w1.heap.size := cell_lt c1
  clear hb1
  go_wp2_with fail
  refine (putBin_bad s _ hc).mono ?_
  rintro e w2 ⟨rfl, hw2⟩
  have hb2 : Below _ _ w2 := hw2 ▸ fault_below 2 _
  have hy : Hid (Inn w2 (.iface 64 (.pointer (some ⟨w1.heap.size + 1, 0, none⟩))) 2) := .inr ⟨_, rfl, by rw [hw2]; simp⟩
  clear hw2
  go_wp2
  go_ret2
  exact ⟨_, _, _, rfl, hy, (((unhide HB1).alloc (unhide HB1).size _).trans (hb2.mono (by simp; omega)))⟩
set_option maxHeartbeats 1000000 in
theorem value_pair (id n : Int) (s t : ByteArray) (w : World) (wd lo hi : Int) (hsh : shv id = .agg #[.int .i64 5, .int .i64 wd, .int .i64 lo, .int .i64 hi]) (hc : chk (sb s) = 0) (hd : chk (sb t) = 0) :
    Calls Tryz.prog 110 #[.agg #[.int .i64 id, .int .i64 n, .string s, .string t]] w (ValOk (tx s ++ tx t) w) := by
  have HSH := hide hsh
  clear hsh
  have Hhc := hide hc
  clear hc
  have Hhd := hide hd
  clear hd
  go_enter Tryz.func110, Tryz.ntmps110
  go_wp2_with fail
  refine (shape_use id 5 wd lo hi (unhide HSH) _).mono ?_
  rintro e w1 ⟨rfl, hb1⟩
  have HB1 : Hid (Below w.heap.size w w1) := ((Below.refl _ _).alloc (Nat.le_refl _) _).trans (hb1.mono (by simp))
  have c1 : w1.cell? ⟨w.heap.size, 1, none⟩ = some (.int .i64 n) := (hb1.cell (p := ⟨w.heap.size, 1, none⟩) (by simp)).trans (by simp)
  have c2 : w1.cell? ⟨w.heap.size, 2, none⟩ = some (.string s) := (hb1.cell (p := ⟨w.heap.size, 2, none⟩) (by simp)).trans (by simp)
  have c3 : w1.cell? ⟨w.heap.size, 3, none⟩ = some (.string t) := (hb1.cell (p := ⟨w.heap.size, 3, none⟩) (by simp)).trans (by simp)
  have hlt : w.heap.size < w1.heap.size := cell_lt c1
  clear hb1
  go_wp2_with fail
  refine (pair_ok s t _ (unhide Hhc) (unhide Hhd)).mono ?_
  rintro e w2 ⟨v, rfl, hy, hb2⟩
  go_wp2
  go_ret2
  exact ⟨_, rfl, hy, (((unhide HB1).alloc (unhide HB1).size _).trans (hb2.mono (by simp; omega)))⟩
set_option maxHeartbeats 1000000 in
theorem value_pair_bad1 (id n : Int) (s t : ByteArray) (w : World) (wd lo hi : Int) (hsh : shv id = .agg #[.int .i64 5, .int .i64 wd, .int .i64 lo, .int .i64 hi]) (hl : s.size ≤ 4611686018427387904) (hc : chk (sb s) ≠ 0) :
    Calls Tryz.prog 110 #[.agg #[.int .i64 id, .int .i64 n, .string s, .string t]] w (ValBad w) := by
  have HSH := hide hsh
  clear hsh
  have Hhc := hide hc
  clear hc
  go_enter Tryz.func110, Tryz.ntmps110
  go_wp2_with fail
  refine (shape_use id 5 wd lo hi (unhide HSH) _).mono ?_
  rintro e w1 ⟨rfl, hb1⟩
  have HB1 : Hid (Below w.heap.size w w1) := ((Below.refl _ _).alloc (Nat.le_refl _) _).trans (hb1.mono (by simp))
  have c1 : w1.cell? ⟨w.heap.size, 1, none⟩ = some (.int .i64 n) := (hb1.cell (p := ⟨w.heap.size, 1, none⟩) (by simp)).trans (by simp)
  have c2 : w1.cell? ⟨w.heap.size, 2, none⟩ = some (.string s) := (hb1.cell (p := ⟨w.heap.size, 2, none⟩) (by simp)).trans (by simp)
  have c3 : w1.cell? ⟨w.heap.size, 3, none⟩ = some (.string t) := (hb1.cell (p := ⟨w.heap.size, 3, none⟩) (by simp)).trans (by simp)
  have hlt : w.heap.size < w1.heap.size := cell_lt c1
  clear hb1
  go_wp2_with fail
  refine (pair_bad1 s t _ hl (unhide Hhc)).mono ?_
  rintro e w2 ⟨t', x, m, rfl, hy, hb2⟩
  go_wp2
  go_ret2
  exact ⟨_, _, _, rfl, hy, (((unhide HB1).alloc (unhide HB1).size _).trans (hb2.mono (by simp; omega)))⟩
set_option maxHeartbeats 1000000 in
theorem value_pair_bad2 (id n : Int) (s t : ByteArray) (w : World) (wd lo hi : Int) (hsh : shv id = .agg #[.int .i64 5, .int .i64 wd, .int .i64 lo, .int .i64 hi]) (hl : t.size ≤ 4611686018427387904) (hc : chk (sb s) = 0) (hd : chk (sb t) ≠ 0) :
    Calls Tryz.prog 110 #[.agg #[.int .i64 id, .int .i64 n, .string s, .string t]] w (ValBad w) := by
  have HSH := hide hsh
  clear hsh
  have Hhc := hide hc
  clear hc
  have Hhd := hide hd
  clear hd
  go_enter Tryz.func110, Tryz.ntmps110
  go_wp2_with fail
  refine (shape_use id 5 wd lo hi (unhide HSH) _).mono ?_
  rintro e w1 ⟨rfl, hb1⟩
  have HB1 : Hid (Below w.heap.size w w1) := ((Below.refl _ _).alloc (Nat.le_refl _) _).trans (hb1.mono (by simp))
  have c1 : w1.cell? ⟨w.heap.size, 1, none⟩ = some (.int .i64 n) := (hb1.cell (p := ⟨w.heap.size, 1, none⟩) (by simp)).trans (by simp)
  have c2 : w1.cell? ⟨w.heap.size, 2, none⟩ = some (.string s) := (hb1.cell (p := ⟨w.heap.size, 2, none⟩) (by simp)).trans (by simp)
  have c3 : w1.cell? ⟨w.heap.size, 3, none⟩ = some (.string t) := (hb1.cell (p := ⟨w.heap.size, 3, none⟩) (by simp)).trans (by simp)
  have hlt : w.heap.size < w1.heap.size := cell_lt c1
  clear hb1
  go_wp2_with fail
  refine (pair_bad2 s t _ hl (unhide Hhc) (unhide Hhd)).mono ?_
  rintro e w2 ⟨t', x, m, rfl, hy, hb2⟩
  go_wp2
  go_ret2
  exact ⟨_, _, _, rfl, hy, (((unhide HB1).alloc (unhide HB1).size _).trans (hb2.mono (by simp; omega)))⟩
end Go.Proofs.YtgdfnopnmdjklaaGreatDoor
/- Proved here: varint.Get and dovecoteref1.Get, at any bytes that are read from memory, tell one and the same answer (vget). Helper contracts. -/
namespace Go.Proofs.YtgdfnopnmdjklaaGreatDoor.V
open Go.RowKit
set_option maxRecDepth 100000

/-- an error value: nil (0) or a Fault around a number that is not 0 -/
def ErrS (w : World) (v : Value) (n : Int) : Prop := (n = 0 ∧ v = .nilIface) ∨ (n ≠ 0 ∧ ∃ b, v = .iface 64 (.pointer (some ⟨b, 0, none⟩)) ∧ w.cell? ⟨b, 1, none⟩ = some (.iface 40 (.int .i64 n)))
/-- the page's answer at len bytes whose first are x0 x1 x2 x3 -/
def vgetf (len : Nat) (x0 x1 x2 x3 : Int) : Int × Int × Int :=
  if len = 0 then (0, 0, 3) else
  if x0 < 128 then (x0, 1, 0) else
  if len = 1 then (0, 0, 3) else
  if x1 = 0 then (0, 0, 1) else
  if x1 < 128 then ((x0 - 128) + x1 * 128, 2, 0) else
  if len = 2 then (0, 0, 3) else
  if x2 = 0 then (0, 0, 1) else
  if x2 < 128 then ((x0 - 128) + (x1 - 128) * 128 + x2 * 16384, 3, 0) else
  if len = 3 then (0, 0, 3) else
  if x3 = 0 then (0, 0, 1) else
  if x3 < 128 then ((x0 - 128) + (x1 - 128) * 128 + (x2 - 128) * 16384 + x3 * 2097152, 4, 0) else
  (0, 0, 1)
/-- the page's answer at any bytes -/
def vget (bs : List Int) : Int × Int × Int := vgetf bs.length (bs.getD 0 0) (bs.getD 1 0) (bs.getD 2 0) (bs.getD 3 0)

theorem get_at (b off len cap : Nat) (x0 x1 x2 x3 : Int) (w : World) (hlen : len ≤ maxLen) (hc0 : 0 < len → w.cell? ⟨b, off, none⟩ = some (.int .u8 x0)) (hc1 : 1 < len → w.cell? ⟨b, off + 1, none⟩ = some (.int .u8 x1)) (hc2 : 2 < len → w.cell? ⟨b, off + 2, none⟩ = some (.int .u8 x2)) (hc3 : 3 < len → w.cell? ⟨b, off + 3, none⟩ = some (.int .u8 x3)) (r0 : 0 ≤ x0 ∧ x0 ≤ 255) (r1 : 0 ≤ x1 ∧ x1 ≤ 255) (r2 : 0 ≤ x2 ∧ x2 ≤ 255) (r3 : 0 ≤ x3 ∧ x3 ≤ 255) :
    Calls Tryz.prog 17 #[.slice (some ⟨b, off, none⟩) len cap] w fun e w' => ∃ E, e = .returned (.tuple #[.int .i64 (vgetf len x0 x1 x2 x3).1, .int .i64 (vgetf len x0 x1 x2 x3).2.1, E]) ∧ ErrS w' E (vgetf len x0 x1 x2 x3).2.2 ∧ Below w.heap.size w w' := by
  by_cases ds0 : len = 0
  · have hv : vgetf len x0 x1 x2 x3 = (0, 0, 3) := by unfold vgetf; rw [if_pos ds0]
    rw [hv]
    subst ds0
    refine (get_s0 _ _ _).mono ?_
    rintro e w' ⟨rfl, rfl⟩; exact ⟨_, rfl, .inr ⟨by decide, _, rfl, by simp⟩, (Below.refl _ _).alloc (Nat.le_refl _) _⟩
  · skip
    by_cases do1 : x0 < 128
    · have hv : vgetf len x0 x1 x2 x3 = (x0, 1, 0) := by unfold vgetf; rw [if_neg ds0, if_pos do1]
      rw [hv]
      refine (get_o1 b off len cap x0 w hlen (by omega) (hc0 (by omega)) (by omega) (by omega)).mono ?_
      rintro e w' ⟨rfl, rfl⟩; exact ⟨_, rfl, .inl ⟨rfl, rfl⟩, Below.refl _ _⟩
    · skip
      by_cases ds1 : len = 1
      · have hv : vgetf len x0 x1 x2 x3 = (0, 0, 3) := by unfold vgetf; rw [if_neg ds0, if_neg do1, if_pos ds1]
        rw [hv]
        refine (get_s1 b off len cap x0 w hlen (by omega) (hc0 (by omega)) r0 (by omega)).mono ?_
        rintro e w' ⟨rfl, rfl⟩; exact ⟨_, rfl, .inr ⟨by decide, _, rfl, by simp⟩, (Below.refl _ _).alloc (Nat.le_refl _) _⟩
      · skip
        by_cases dz2 : x1 = 0
        · have hv : vgetf len x0 x1 x2 x3 = (0, 0, 1) := by unfold vgetf; rw [if_neg ds0, if_neg do1, if_neg ds1, if_pos dz2]
          rw [hv]
          refine (get_z2 b off len cap x0 x1 w hlen (by omega) (hc0 (by omega)) r0 (hc1 (by omega)) (by omega) (by assumption)).mono ?_
          rintro e w' ⟨rfl, rfl⟩; exact ⟨_, rfl, .inr ⟨by decide, _, rfl, by simp⟩, (Below.refl _ _).alloc (Nat.le_refl _) _⟩
        · skip
          by_cases do2 : x1 < 128
          · have hv : vgetf len x0 x1 x2 x3 = ((x0 - 128) + x1 * 128, 2, 0) := by unfold vgetf; rw [if_neg ds0, if_neg do1, if_neg ds1, if_neg dz2, if_pos do2]
            rw [hv]
            refine (get_o2 b off len cap x0 x1 w hlen (by omega) (hc0 (by omega)) r0 (hc1 (by omega)) (by omega) (by omega) (by omega)).mono ?_
            rintro e w' ⟨rfl, rfl⟩; exact ⟨_, rfl, .inl ⟨rfl, rfl⟩, Below.refl _ _⟩
          · skip
            by_cases ds2 : len = 2
            · have hv : vgetf len x0 x1 x2 x3 = (0, 0, 3) := by unfold vgetf; rw [if_neg ds0, if_neg do1, if_neg ds1, if_neg dz2, if_neg do2, if_pos ds2]
              rw [hv]
              refine (get_s2 b off len cap x0 x1 w hlen (by omega) (hc0 (by omega)) r0 (hc1 (by omega)) r1 (by omega) (by omega)).mono ?_
              rintro e w' ⟨rfl, rfl⟩; exact ⟨_, rfl, .inr ⟨by decide, _, rfl, by simp⟩, (Below.refl _ _).alloc (Nat.le_refl _) _⟩
            · skip
              by_cases dz3 : x2 = 0
              · have hv : vgetf len x0 x1 x2 x3 = (0, 0, 1) := by unfold vgetf; rw [if_neg ds0, if_neg do1, if_neg ds1, if_neg dz2, if_neg do2, if_neg ds2, if_pos dz3]
                rw [hv]
                refine (get_z3 b off len cap x0 x1 x2 w hlen (by omega) (hc0 (by omega)) r0 (hc1 (by omega)) r1 (hc2 (by omega)) (by omega) (by omega) (by assumption)).mono ?_
                rintro e w' ⟨rfl, rfl⟩; exact ⟨_, rfl, .inr ⟨by decide, _, rfl, by simp⟩, (Below.refl _ _).alloc (Nat.le_refl _) _⟩
              · skip
                by_cases do3 : x2 < 128
                · have hv : vgetf len x0 x1 x2 x3 = ((x0 - 128) + (x1 - 128) * 128 + x2 * 16384, 3, 0) := by unfold vgetf; rw [if_neg ds0, if_neg do1, if_neg ds1, if_neg dz2, if_neg do2, if_neg ds2, if_neg dz3, if_pos do3]
                  rw [hv]
                  refine (get_o3 b off len cap x0 x1 x2 w hlen (by omega) (hc0 (by omega)) r0 (hc1 (by omega)) r1 (hc2 (by omega)) (by omega) (by omega) (by omega) (by omega)).mono ?_
                  rintro e w' ⟨rfl, rfl⟩; exact ⟨_, rfl, .inl ⟨rfl, rfl⟩, Below.refl _ _⟩
                · skip
                  by_cases ds3 : len = 3
                  · have hv : vgetf len x0 x1 x2 x3 = (0, 0, 3) := by unfold vgetf; rw [if_neg ds0, if_neg do1, if_neg ds1, if_neg dz2, if_neg do2, if_neg ds2, if_neg dz3, if_neg do3, if_pos ds3]
                    rw [hv]
                    refine (get_s3 b off len cap x0 x1 x2 w hlen (by omega) (hc0 (by omega)) r0 (hc1 (by omega)) r1 (hc2 (by omega)) r2 (by omega) (by omega) (by omega)).mono ?_
                    rintro e w' ⟨rfl, rfl⟩; exact ⟨_, rfl, .inr ⟨by decide, _, rfl, by simp⟩, (Below.refl _ _).alloc (Nat.le_refl _) _⟩
                  · skip
                    by_cases dz4 : x3 = 0
                    · have hv : vgetf len x0 x1 x2 x3 = (0, 0, 1) := by unfold vgetf; rw [if_neg ds0, if_neg do1, if_neg ds1, if_neg dz2, if_neg do2, if_neg ds2, if_neg dz3, if_neg do3, if_neg ds3, if_pos dz4]
                      rw [hv]
                      refine (get_z4 b off len cap x0 x1 x2 x3 w hlen (by omega) (hc0 (by omega)) r0 (hc1 (by omega)) r1 (hc2 (by omega)) r2 (hc3 (by omega)) (by omega) (by omega) (by omega) (by assumption)).mono ?_
                      rintro e w' ⟨rfl, rfl⟩; exact ⟨_, rfl, .inr ⟨by decide, _, rfl, by simp⟩, (Below.refl _ _).alloc (Nat.le_refl _) _⟩
                    · skip
                      by_cases do4 : x3 < 128
                      · have hv : vgetf len x0 x1 x2 x3 = ((x0 - 128) + (x1 - 128) * 128 + (x2 - 128) * 16384 + x3 * 2097152, 4, 0) := by unfold vgetf; rw [if_neg ds0, if_neg do1, if_neg ds1, if_neg dz2, if_neg do2, if_neg ds2, if_neg dz3, if_neg do3, if_neg ds3, if_neg dz4, if_pos do4]
                        rw [hv]
                        refine (get_o4 b off len cap x0 x1 x2 x3 w hlen (by omega) (hc0 (by omega)) r0 (hc1 (by omega)) r1 (hc2 (by omega)) r2 (hc3 (by omega)) (by omega) (by omega) (by omega) (by omega) (by omega)).mono ?_
                        rintro e w' ⟨rfl, rfl⟩; exact ⟨_, rfl, .inl ⟨rfl, rfl⟩, Below.refl _ _⟩
                      · skip
                        have hv : vgetf len x0 x1 x2 x3 = (0, 0, 1) := by unfold vgetf; rw [if_neg ds0, if_neg do1, if_neg ds1, if_neg dz2, if_neg do2, if_neg ds2, if_neg dz3, if_neg do3, if_neg ds3, if_neg dz4, if_neg do4]
                        rw [hv]
                        refine (get_l4 b off len cap x0 x1 x2 x3 w hlen (by omega) (hc0 (by omega)) r0 (hc1 (by omega)) r1 (hc2 (by omega)) r2 (hc3 (by omega)) r3 (by omega) (by omega) (by omega) (by omega)).mono ?_
                        rintro e w' ⟨rfl, rfl⟩; exact ⟨_, rfl, .inr ⟨by decide, _, rfl, by simp⟩, (Below.refl _ _).alloc (Nat.le_refl _) _⟩

theorem get_any (v : Value) (bs : List Int) (w : World) (h : Byt w v bs) :
    Calls Tryz.prog 17 #[v] w fun e w' => ∃ E, e = .returned (.tuple #[.int .i64 (vget bs).1, .int .i64 (vget bs).2.1, E]) ∧ ErrS w' E (vget bs).2.2 ∧ Below w.heap.size w w' := by
  obtain ⟨ao, cap, rfl, hlen, hr, hcase⟩ := h
  rcases hcase with rfl | ⟨b, off, rfl, hc⟩
  · rw [show vget [] = (0, 0, 3) from rfl]
    refine (get_s0 ao cap w).mono ?_
    rintro e w' ⟨rfl, rfl⟩; exact ⟨_, rfl, .inr ⟨by decide, _, rfl, by simp⟩, (Below.refl _ _).alloc (Nat.le_refl _) _⟩
  · exact get_at b off bs.length cap _ _ _ _ w (Nat.le_trans hlen.1 hlen.2) (hc 0) (hc 1) (hc 2) (hc 3) (hr 0) (hr 1) (hr 2) (hr 3)

end Go.Proofs.YtgdfnopnmdjklaaGreatDoor.V
