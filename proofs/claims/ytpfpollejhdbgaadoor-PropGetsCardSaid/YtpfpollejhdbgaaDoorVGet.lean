/- Proved here: varint.Get tells the number with whose bytes any bytes begin and how many they are, or a Fault around ErrShort or ErrForm; dovecoteref1.Get tells the same. Helper contracts. -/
import Derived.Test.YtpfpollejhdbgaaDoorVRefPut
import Derived.Test.YtpfpollejhdbgaaDoorErrNum
import Derived.Laws.BitsAllLaws
namespace Go.Proofs.YtpfpollejhdbgaaDoor.V
open Go.RowKit
set_option maxRecDepth 100000

theorem ofInt_64 (a : Nat) (ha : a < 18446744073709551616) : (BitVec.ofInt 64 (a : Int)).toNat = a := by
  rw [BitVec.ofInt_natCast, BitVec.toNat_ofNat]; exact Nat.mod_eq_of_lt (by omega)
theorem i64_or_nat (a b : Nat) (ha : a < 4611686018427387904) (hb : b < 4611686018427387904) : bits .or .i64 (a : Int) (b : Int) = ((a ||| b : Nat) : Int) := by
  have hx : a ||| b < 2 ^ 62 := Nat.or_lt_two_pow (by omega) (by omega)
  show IntKind.i64.wrap ((BitVec.ofInt 64 (a : Int) ||| BitVec.ofInt 64 (b : Int)).toNat : Int) = _
  rw [BitVec.toNat_or, ofInt_64 a (by omega), ofInt_64 b (by omega), IntKind.wrap_i64]
  omega
theorem or_hi (i : Nat) (x y : Int) (hx0 : 0 ≤ x) (hx1 : x < 4611686018427387904) (hy0 : 0 ≤ y) (hy1 : y < 4611686018427387904) (hm : x.toNat % 2 ^ i = 0) (hy : y.toNat < 2 ^ i) : bits .or .i64 x y = x + y := by
  obtain ⟨a, rfl⟩ := Int.eq_ofNat_of_zero_le hx0
  obtain ⟨b, rfl⟩ := Int.eq_ofNat_of_zero_le hy0
  rw [i64_or_nat a b (by omega) (by omega), nat_join i a b (by simpa using hm) (by simpa using hy)]
  omega
theorem or_lo (i : Nat) (x y : Int) (hx0 : 0 ≤ x) (hx1 : x < 4611686018427387904) (hy0 : 0 ≤ y) (hy1 : y < 4611686018427387904) (hm : y.toNat % 2 ^ i = 0) (hx : x.toNat < 2 ^ i) : bits .or .i64 x y = x + y := by
  obtain ⟨a, rfl⟩ := Int.eq_ofNat_of_zero_le hx0
  obtain ⟨b, rfl⟩ := Int.eq_ofNat_of_zero_le hy0
  rw [i64_or_nat a b (by omega) (by omega), Nat.or_comm, nat_join i b a (by simpa using hm) (by simpa using hx)]
  omega
theorem or_zero (y : Int) (hy0 : 0 ≤ y) (hy1 : y < 4611686018427387904) : bits .or .i64 0 y = y := by
  rw [or_lo 0 0 y (by omega) (by omega) hy0 hy1 (by omega) (by decide)]; omega
theorem and128_hi (x : Int) (h0 : 128 ≤ x) (h1 : x ≤ 255) : bits .and .u8 x 128 = 128 := by
  rw [and128 x (by omega) (by omega), if_neg (by omega)]
theorem and128_lo (x : Int) (h0 : 0 ≤ x) (h1 : x < 128) : bits .and .u8 x 128 = 0 := by
  rw [and128 x (by omega) (by omega), if_pos (by omega)]
theorem and127_hi (x : Int) (h0 : 128 ≤ x) (h1 : x ≤ 255) : bits .and .u8 x 127 = x - 128 := by
  rw [and127 x (by omega) (by omega)]; omega
theorem and127_lo (x : Int) (h0 : 0 ≤ x) (h1 : x < 128) : bits .and .u8 x 127 = x := by
  rw [and127 x (by omega) (by omega)]; omega

theorem meas_s0 (ao : Option Addr) (cap : Nat) (w : World) :
    Calls Tryd.prog 49 #[.slice ao 0 cap] w fun e w' => e = .returned (.tuple #[.int .i64 0, .iface 79 (.pointer (some ⟨w.heap.size, 0, none⟩))]) ∧ w' = w.alloc (.cells #[.string ⟨#[118, 97, 114, 105, 110, 116]⟩, .iface 65 (.int .i64 3)] 81) := by
  go_enter Tryd.func49, Tryd.ntmps49
  go_wp2
  refine wp_loop_rounds 1 ?_
  rw [rounds_succ]
  go_wp2_with (go_at_call 46; refine (fault_any _ _).mono ?_; rintro e w' ⟨rfl, rfl⟩)
  go_ret2
  exact ⟨rfl, rfl⟩

theorem meas_o1 (b off len cap : Nat) (x0 : Int) (w : World) (hlen : len ≤ maxLen) (hl : 0 < len) (c0 : w.cell? ⟨b, off, none⟩ = some (.int .u8 x0)) (p0 : 0 ≤ x0) (p1 : x0 < 128) :
    Calls Tryd.prog 49 #[.slice (some ⟨b, off, none⟩) len cap] w fun e w' => e = .returned (.tuple #[.int .i64 1, .nilIface]) ∧ w' = w := by
  unfold maxLen at hlen
  have k0 := and128_lo x0 (by omega) p1
  go_enter Tryd.func49, Tryd.ntmps49
  go_wp2
  refine wp_loop_rounds 1 ?_
  rw [rounds_succ]
  go_wp2
  go_ret2
  exact ⟨rfl, rfl⟩

theorem meas_s1 (b off len cap : Nat) (x0 : Int) (w : World) (hlen : len ≤ maxLen) (hl : len = 1) (c0 : w.cell? ⟨b, off, none⟩ = some (.int .u8 x0)) (r0 : 0 ≤ x0 ∧ x0 ≤ 255) (g0 : 128 ≤ x0) :
    Calls Tryd.prog 49 #[.slice (some ⟨b, off, none⟩) len cap] w fun e w' => e = .returned (.tuple #[.int .i64 0, .iface 79 (.pointer (some ⟨w.heap.size, 0, none⟩))]) ∧ w' = w.alloc (.cells #[.string ⟨#[118, 97, 114, 105, 110, 116]⟩, .iface 65 (.int .i64 3)] 81) := by
  unfold maxLen at hlen
  have k0 := and128_hi x0 g0 r0.2
  subst hl
  go_enter Tryd.func49, Tryd.ntmps49
  go_wp2
  refine wp_loop_rounds 2 ?_
  rw [rounds_succ]
  go_wp2
  rw [rounds_succ]
  go_wp2_with (go_at_call 46; refine (fault_any _ _).mono ?_; rintro e w' ⟨rfl, rfl⟩)
  go_ret2
  exact ⟨rfl, rfl⟩

theorem meas_z2 (b off len cap : Nat) (x0 x1 : Int) (w : World) (hlen : len ≤ maxLen) (hl : 1 < len) (c0 : w.cell? ⟨b, off, none⟩ = some (.int .u8 x0)) (r0 : 0 ≤ x0 ∧ x0 ≤ 255) (c1 : w.cell? ⟨b, off + 1, none⟩ = some (.int .u8 x1)) (g0 : 128 ≤ x0) (p0 : x1 = 0) :
    Calls Tryd.prog 49 #[.slice (some ⟨b, off, none⟩) len cap] w fun e w' => e = .returned (.tuple #[.int .i64 0, .iface 79 (.pointer (some ⟨w.heap.size, 0, none⟩))]) ∧ w' = w.alloc (.cells #[.string ⟨#[118, 97, 114, 105, 110, 116]⟩, .iface 65 (.int .i64 1)] 81) := by
  unfold maxLen at hlen
  have k0 := and128_hi x0 g0 r0.2
  subst p0
  have k1 := and128_lo 0 (by omega) (by omega)
  go_enter Tryd.func49, Tryd.ntmps49
  go_wp2
  refine wp_loop_rounds 2 ?_
  rw [rounds_succ]
  go_wp2
  rw [rounds_succ]
  go_wp2_with (go_at_call 46; refine (fault_any _ _).mono ?_; rintro e w' ⟨rfl, rfl⟩)
  go_ret2
  exact ⟨rfl, rfl⟩

theorem meas_o2 (b off len cap : Nat) (x0 x1 : Int) (w : World) (hlen : len ≤ maxLen) (hl : 1 < len) (c0 : w.cell? ⟨b, off, none⟩ = some (.int .u8 x0)) (r0 : 0 ≤ x0 ∧ x0 ≤ 255) (c1 : w.cell? ⟨b, off + 1, none⟩ = some (.int .u8 x1)) (g0 : 128 ≤ x0) (p0 : 1 ≤ x1) (p1 : x1 < 128) :
    Calls Tryd.prog 49 #[.slice (some ⟨b, off, none⟩) len cap] w fun e w' => e = .returned (.tuple #[.int .i64 2, .nilIface]) ∧ w' = w := by
  unfold maxLen at hlen
  have k0 := and128_hi x0 g0 r0.2
  have k1 := and128_lo x1 (by omega) p1
  go_enter Tryd.func49, Tryd.ntmps49
  go_wp2
  refine wp_loop_rounds 2 ?_
  rw [rounds_succ]
  go_wp2
  rw [rounds_succ]
  go_wp2
  go_ret2
  exact ⟨rfl, rfl⟩

theorem meas_s2 (b off len cap : Nat) (x0 x1 : Int) (w : World) (hlen : len ≤ maxLen) (hl : len = 2) (c0 : w.cell? ⟨b, off, none⟩ = some (.int .u8 x0)) (r0 : 0 ≤ x0 ∧ x0 ≤ 255) (c1 : w.cell? ⟨b, off + 1, none⟩ = some (.int .u8 x1)) (r1 : 0 ≤ x1 ∧ x1 ≤ 255) (g0 : 128 ≤ x0) (g1 : 128 ≤ x1) :
    Calls Tryd.prog 49 #[.slice (some ⟨b, off, none⟩) len cap] w fun e w' => e = .returned (.tuple #[.int .i64 0, .iface 79 (.pointer (some ⟨w.heap.size, 0, none⟩))]) ∧ w' = w.alloc (.cells #[.string ⟨#[118, 97, 114, 105, 110, 116]⟩, .iface 65 (.int .i64 3)] 81) := by
  unfold maxLen at hlen
  have k0 := and128_hi x0 g0 r0.2
  have k1 := and128_hi x1 g1 r1.2
  subst hl
  go_enter Tryd.func49, Tryd.ntmps49
  go_wp2
  refine wp_loop_rounds 3 ?_
  rw [rounds_succ]
  go_wp2
  rw [rounds_succ]
  go_wp2
  rw [rounds_succ]
  go_wp2_with (go_at_call 46; refine (fault_any _ _).mono ?_; rintro e w' ⟨rfl, rfl⟩)
  go_ret2
  exact ⟨rfl, rfl⟩

theorem meas_z3 (b off len cap : Nat) (x0 x1 x2 : Int) (w : World) (hlen : len ≤ maxLen) (hl : 2 < len) (c0 : w.cell? ⟨b, off, none⟩ = some (.int .u8 x0)) (r0 : 0 ≤ x0 ∧ x0 ≤ 255) (c1 : w.cell? ⟨b, off + 1, none⟩ = some (.int .u8 x1)) (r1 : 0 ≤ x1 ∧ x1 ≤ 255) (c2 : w.cell? ⟨b, off + 2, none⟩ = some (.int .u8 x2)) (g0 : 128 ≤ x0) (g1 : 128 ≤ x1) (p0 : x2 = 0) :
    Calls Tryd.prog 49 #[.slice (some ⟨b, off, none⟩) len cap] w fun e w' => e = .returned (.tuple #[.int .i64 0, .iface 79 (.pointer (some ⟨w.heap.size, 0, none⟩))]) ∧ w' = w.alloc (.cells #[.string ⟨#[118, 97, 114, 105, 110, 116]⟩, .iface 65 (.int .i64 1)] 81) := by
  unfold maxLen at hlen
  have k0 := and128_hi x0 g0 r0.2
  have k1 := and128_hi x1 g1 r1.2
  subst p0
  have k2 := and128_lo 0 (by omega) (by omega)
  go_enter Tryd.func49, Tryd.ntmps49
  go_wp2
  refine wp_loop_rounds 3 ?_
  rw [rounds_succ]
  go_wp2
  rw [rounds_succ]
  go_wp2
  rw [rounds_succ]
  go_wp2_with (go_at_call 46; refine (fault_any _ _).mono ?_; rintro e w' ⟨rfl, rfl⟩)
  go_ret2
  exact ⟨rfl, rfl⟩

theorem meas_o3 (b off len cap : Nat) (x0 x1 x2 : Int) (w : World) (hlen : len ≤ maxLen) (hl : 2 < len) (c0 : w.cell? ⟨b, off, none⟩ = some (.int .u8 x0)) (r0 : 0 ≤ x0 ∧ x0 ≤ 255) (c1 : w.cell? ⟨b, off + 1, none⟩ = some (.int .u8 x1)) (r1 : 0 ≤ x1 ∧ x1 ≤ 255) (c2 : w.cell? ⟨b, off + 2, none⟩ = some (.int .u8 x2)) (g0 : 128 ≤ x0) (g1 : 128 ≤ x1) (p0 : 1 ≤ x2) (p1 : x2 < 128) :
    Calls Tryd.prog 49 #[.slice (some ⟨b, off, none⟩) len cap] w fun e w' => e = .returned (.tuple #[.int .i64 3, .nilIface]) ∧ w' = w := by
  unfold maxLen at hlen
  have k0 := and128_hi x0 g0 r0.2
  have k1 := and128_hi x1 g1 r1.2
  have k2 := and128_lo x2 (by omega) p1
  go_enter Tryd.func49, Tryd.ntmps49
  go_wp2
  refine wp_loop_rounds 3 ?_
  rw [rounds_succ]
  go_wp2
  rw [rounds_succ]
  go_wp2
  rw [rounds_succ]
  go_wp2
  go_ret2
  exact ⟨rfl, rfl⟩

theorem meas_s3 (b off len cap : Nat) (x0 x1 x2 : Int) (w : World) (hlen : len ≤ maxLen) (hl : len = 3) (c0 : w.cell? ⟨b, off, none⟩ = some (.int .u8 x0)) (r0 : 0 ≤ x0 ∧ x0 ≤ 255) (c1 : w.cell? ⟨b, off + 1, none⟩ = some (.int .u8 x1)) (r1 : 0 ≤ x1 ∧ x1 ≤ 255) (c2 : w.cell? ⟨b, off + 2, none⟩ = some (.int .u8 x2)) (r2 : 0 ≤ x2 ∧ x2 ≤ 255) (g0 : 128 ≤ x0) (g1 : 128 ≤ x1) (g2 : 128 ≤ x2) :
    Calls Tryd.prog 49 #[.slice (some ⟨b, off, none⟩) len cap] w fun e w' => e = .returned (.tuple #[.int .i64 0, .iface 79 (.pointer (some ⟨w.heap.size, 0, none⟩))]) ∧ w' = w.alloc (.cells #[.string ⟨#[118, 97, 114, 105, 110, 116]⟩, .iface 65 (.int .i64 3)] 81) := by
  unfold maxLen at hlen
  have k0 := and128_hi x0 g0 r0.2
  have k1 := and128_hi x1 g1 r1.2
  have k2 := and128_hi x2 g2 r2.2
  subst hl
  go_enter Tryd.func49, Tryd.ntmps49
  go_wp2
  refine wp_loop_rounds 4 ?_
  rw [rounds_succ]
  go_wp2
  rw [rounds_succ]
  go_wp2
  rw [rounds_succ]
  go_wp2
  rw [rounds_succ]
  go_wp2_with (go_at_call 46; refine (fault_any _ _).mono ?_; rintro e w' ⟨rfl, rfl⟩)
  go_ret2
  exact ⟨rfl, rfl⟩

theorem meas_z4 (b off len cap : Nat) (x0 x1 x2 x3 : Int) (w : World) (hlen : len ≤ maxLen) (hl : 3 < len) (c0 : w.cell? ⟨b, off, none⟩ = some (.int .u8 x0)) (r0 : 0 ≤ x0 ∧ x0 ≤ 255) (c1 : w.cell? ⟨b, off + 1, none⟩ = some (.int .u8 x1)) (r1 : 0 ≤ x1 ∧ x1 ≤ 255) (c2 : w.cell? ⟨b, off + 2, none⟩ = some (.int .u8 x2)) (r2 : 0 ≤ x2 ∧ x2 ≤ 255) (c3 : w.cell? ⟨b, off + 3, none⟩ = some (.int .u8 x3)) (g0 : 128 ≤ x0) (g1 : 128 ≤ x1) (g2 : 128 ≤ x2) (p0 : x3 = 0) :
    Calls Tryd.prog 49 #[.slice (some ⟨b, off, none⟩) len cap] w fun e w' => e = .returned (.tuple #[.int .i64 0, .iface 79 (.pointer (some ⟨w.heap.size, 0, none⟩))]) ∧ w' = w.alloc (.cells #[.string ⟨#[118, 97, 114, 105, 110, 116]⟩, .iface 65 (.int .i64 1)] 81) := by
  unfold maxLen at hlen
  have k0 := and128_hi x0 g0 r0.2
  have k1 := and128_hi x1 g1 r1.2
  have k2 := and128_hi x2 g2 r2.2
  subst p0
  have k3 := and128_lo 0 (by omega) (by omega)
  go_enter Tryd.func49, Tryd.ntmps49
  go_wp2
  refine wp_loop_rounds 4 ?_
  rw [rounds_succ]
  go_wp2
  rw [rounds_succ]
  go_wp2
  rw [rounds_succ]
  go_wp2
  rw [rounds_succ]
  go_wp2_with (go_at_call 46; refine (fault_any _ _).mono ?_; rintro e w' ⟨rfl, rfl⟩)
  go_ret2
  exact ⟨rfl, rfl⟩

theorem meas_o4 (b off len cap : Nat) (x0 x1 x2 x3 : Int) (w : World) (hlen : len ≤ maxLen) (hl : 3 < len) (c0 : w.cell? ⟨b, off, none⟩ = some (.int .u8 x0)) (r0 : 0 ≤ x0 ∧ x0 ≤ 255) (c1 : w.cell? ⟨b, off + 1, none⟩ = some (.int .u8 x1)) (r1 : 0 ≤ x1 ∧ x1 ≤ 255) (c2 : w.cell? ⟨b, off + 2, none⟩ = some (.int .u8 x2)) (r2 : 0 ≤ x2 ∧ x2 ≤ 255) (c3 : w.cell? ⟨b, off + 3, none⟩ = some (.int .u8 x3)) (g0 : 128 ≤ x0) (g1 : 128 ≤ x1) (g2 : 128 ≤ x2) (p0 : 1 ≤ x3) (p1 : x3 < 128) :
    Calls Tryd.prog 49 #[.slice (some ⟨b, off, none⟩) len cap] w fun e w' => e = .returned (.tuple #[.int .i64 4, .nilIface]) ∧ w' = w := by
  unfold maxLen at hlen
  have k0 := and128_hi x0 g0 r0.2
  have k1 := and128_hi x1 g1 r1.2
  have k2 := and128_hi x2 g2 r2.2
  have k3 := and128_lo x3 (by omega) p1
  go_enter Tryd.func49, Tryd.ntmps49
  go_wp2
  refine wp_loop_rounds 4 ?_
  rw [rounds_succ]
  go_wp2
  rw [rounds_succ]
  go_wp2
  rw [rounds_succ]
  go_wp2
  rw [rounds_succ]
  go_wp2
  go_ret2
  exact ⟨rfl, rfl⟩

theorem meas_l4 (b off len cap : Nat) (x0 x1 x2 x3 : Int) (w : World) (hlen : len ≤ maxLen) (hl : 3 < len) (c0 : w.cell? ⟨b, off, none⟩ = some (.int .u8 x0)) (r0 : 0 ≤ x0 ∧ x0 ≤ 255) (c1 : w.cell? ⟨b, off + 1, none⟩ = some (.int .u8 x1)) (r1 : 0 ≤ x1 ∧ x1 ≤ 255) (c2 : w.cell? ⟨b, off + 2, none⟩ = some (.int .u8 x2)) (r2 : 0 ≤ x2 ∧ x2 ≤ 255) (c3 : w.cell? ⟨b, off + 3, none⟩ = some (.int .u8 x3)) (r3 : 0 ≤ x3 ∧ x3 ≤ 255) (g0 : 128 ≤ x0) (g1 : 128 ≤ x1) (g2 : 128 ≤ x2) (g3 : 128 ≤ x3) :
    Calls Tryd.prog 49 #[.slice (some ⟨b, off, none⟩) len cap] w fun e w' => e = .returned (.tuple #[.int .i64 0, .iface 79 (.pointer (some ⟨w.heap.size, 0, none⟩))]) ∧ w' = w.alloc (.cells #[.string ⟨#[118, 97, 114, 105, 110, 116]⟩, .iface 65 (.int .i64 1)] 81) := by
  unfold maxLen at hlen
  have k0 := and128_hi x0 g0 r0.2
  have k1 := and128_hi x1 g1 r1.2
  have k2 := and128_hi x2 g2 r2.2
  have k3 := and128_hi x3 g3 r3.2
  go_enter Tryd.func49, Tryd.ntmps49
  go_wp2
  refine wp_loop_rounds 5 ?_
  rw [rounds_succ]
  go_wp2
  rw [rounds_succ]
  go_wp2
  rw [rounds_succ]
  go_wp2
  rw [rounds_succ]
  go_wp2
  rw [rounds_succ]
  go_wp2_with (go_at_call 46; refine (fault_any _ _).mono ?_; rintro e w' ⟨rfl, rfl⟩)
  go_ret2
  exact ⟨rfl, rfl⟩

theorem get_s0 (ao : Option Addr) (cap : Nat) (w : World) :
    Calls Tryd.prog 34 #[.slice ao 0 cap] w fun e w' => e = .returned (.tuple #[.int .i64 0, .int .i64 0, .iface 79 (.pointer (some ⟨w.heap.size, 0, none⟩))]) ∧ w' = w.alloc (.cells #[.string ⟨#[118, 97, 114, 105, 110, 116]⟩, .iface 65 (.int .i64 3)] 81) := by
  have HM := hide (meas_s0 ao cap w)
  go_enter Tryd.func34, Tryd.ntmps34
  go_wp2_with (go_at_call 49; refine (unhide HM).mono ?_; rintro e w' ⟨rfl, rfl⟩)
  go_ret3
  exact ⟨rfl, rfl⟩

theorem get_o1 (b off len cap : Nat) (x0 : Int) (w : World) (hlen : len ≤ maxLen) (hl : 0 < len) (c0 : w.cell? ⟨b, off, none⟩ = some (.int .u8 x0)) (p0 : 0 ≤ x0) (p1 : x0 < 128) :
    Calls Tryd.prog 34 #[.slice (some ⟨b, off, none⟩) len cap] w fun e w' => e = .returned (.tuple #[.int .i64 (x0), .int .i64 1, .nilIface]) ∧ w' = w := by
  have HM := hide (meas_o1 b off len cap x0 w hlen hl c0 p0 p1)
  unfold maxLen at hlen
  have k0 := and127_lo x0 (by omega) p1
  go_enter Tryd.func34, Tryd.ntmps34
  go_wp2_with (go_at_call 49; refine (unhide HM).mono ?_; rintro e w' ⟨rfl, rfl⟩)
  go_ret3
  refine ⟨congrArg (fun z : Int => Ending.returned (.tuple #[.int .i64 z, .int .i64 1, .nilIface])) ?_, rfl⟩
  rw [or_zero (x0) (by omega) (by omega)]

theorem get_s1 (b off len cap : Nat) (x0 : Int) (w : World) (hlen : len ≤ maxLen) (hl : len = 1) (c0 : w.cell? ⟨b, off, none⟩ = some (.int .u8 x0)) (r0 : 0 ≤ x0 ∧ x0 ≤ 255) (g0 : 128 ≤ x0) :
    Calls Tryd.prog 34 #[.slice (some ⟨b, off, none⟩) len cap] w fun e w' => e = .returned (.tuple #[.int .i64 0, .int .i64 0, .iface 79 (.pointer (some ⟨w.heap.size, 0, none⟩))]) ∧ w' = w.alloc (.cells #[.string ⟨#[118, 97, 114, 105, 110, 116]⟩, .iface 65 (.int .i64 3)] 81) := by
  have HM := hide (meas_s1 b off len cap x0 w hlen hl c0 r0 g0)
  unfold maxLen at hlen
  subst hl
  go_enter Tryd.func34, Tryd.ntmps34
  go_wp2_with (go_at_call 49; refine (unhide HM).mono ?_; rintro e w' ⟨rfl, rfl⟩)
  go_ret3
  exact ⟨rfl, rfl⟩

theorem get_z2 (b off len cap : Nat) (x0 x1 : Int) (w : World) (hlen : len ≤ maxLen) (hl : 1 < len) (c0 : w.cell? ⟨b, off, none⟩ = some (.int .u8 x0)) (r0 : 0 ≤ x0 ∧ x0 ≤ 255) (c1 : w.cell? ⟨b, off + 1, none⟩ = some (.int .u8 x1)) (g0 : 128 ≤ x0) (p0 : x1 = 0) :
    Calls Tryd.prog 34 #[.slice (some ⟨b, off, none⟩) len cap] w fun e w' => e = .returned (.tuple #[.int .i64 0, .int .i64 0, .iface 79 (.pointer (some ⟨w.heap.size, 0, none⟩))]) ∧ w' = w.alloc (.cells #[.string ⟨#[118, 97, 114, 105, 110, 116]⟩, .iface 65 (.int .i64 1)] 81) := by
  have HM := hide (meas_z2 b off len cap x0 x1 w hlen hl c0 r0 c1 g0 p0)
  unfold maxLen at hlen
  subst p0
  go_enter Tryd.func34, Tryd.ntmps34
  go_wp2_with (go_at_call 49; refine (unhide HM).mono ?_; rintro e w' ⟨rfl, rfl⟩)
  go_ret3
  exact ⟨rfl, rfl⟩

theorem get_o2 (b off len cap : Nat) (x0 x1 : Int) (w : World) (hlen : len ≤ maxLen) (hl : 1 < len) (c0 : w.cell? ⟨b, off, none⟩ = some (.int .u8 x0)) (r0 : 0 ≤ x0 ∧ x0 ≤ 255) (c1 : w.cell? ⟨b, off + 1, none⟩ = some (.int .u8 x1)) (g0 : 128 ≤ x0) (p0 : 1 ≤ x1) (p1 : x1 < 128) :
    Calls Tryd.prog 34 #[.slice (some ⟨b, off, none⟩) len cap] w fun e w' => e = .returned (.tuple #[.int .i64 ((x0 - 128) + x1 * 128), .int .i64 2, .nilIface]) ∧ w' = w := by
  have HM := hide (meas_o2 b off len cap x0 x1 w hlen hl c0 r0 c1 g0 p0 p1)
  unfold maxLen at hlen
  have k0 := and127_hi x0 g0 r0.2
  have k1 := and127_lo x1 (by omega) p1
  go_enter Tryd.func34, Tryd.ntmps34
  go_wp2_with (go_at_call 49; refine (unhide HM).mono ?_; rintro e w' ⟨rfl, rfl⟩)
  go_ret3
  refine ⟨congrArg (fun z : Int => Ending.returned (.tuple #[.int .i64 z, .int .i64 2, .nilIface])) ?_, rfl⟩
  rw [or_zero (x1 * 128) (by omega) (by omega), or_hi 7 (x1 * 128) ((x0 - 128)) (by omega) (by omega) (by omega) (by omega) (by omega) (by omega)]
  omega

theorem get_s2 (b off len cap : Nat) (x0 x1 : Int) (w : World) (hlen : len ≤ maxLen) (hl : len = 2) (c0 : w.cell? ⟨b, off, none⟩ = some (.int .u8 x0)) (r0 : 0 ≤ x0 ∧ x0 ≤ 255) (c1 : w.cell? ⟨b, off + 1, none⟩ = some (.int .u8 x1)) (r1 : 0 ≤ x1 ∧ x1 ≤ 255) (g0 : 128 ≤ x0) (g1 : 128 ≤ x1) :
    Calls Tryd.prog 34 #[.slice (some ⟨b, off, none⟩) len cap] w fun e w' => e = .returned (.tuple #[.int .i64 0, .int .i64 0, .iface 79 (.pointer (some ⟨w.heap.size, 0, none⟩))]) ∧ w' = w.alloc (.cells #[.string ⟨#[118, 97, 114, 105, 110, 116]⟩, .iface 65 (.int .i64 3)] 81) := by
  have HM := hide (meas_s2 b off len cap x0 x1 w hlen hl c0 r0 c1 r1 g0 g1)
  unfold maxLen at hlen
  subst hl
  go_enter Tryd.func34, Tryd.ntmps34
  go_wp2_with (go_at_call 49; refine (unhide HM).mono ?_; rintro e w' ⟨rfl, rfl⟩)
  go_ret3
  exact ⟨rfl, rfl⟩

theorem get_z3 (b off len cap : Nat) (x0 x1 x2 : Int) (w : World) (hlen : len ≤ maxLen) (hl : 2 < len) (c0 : w.cell? ⟨b, off, none⟩ = some (.int .u8 x0)) (r0 : 0 ≤ x0 ∧ x0 ≤ 255) (c1 : w.cell? ⟨b, off + 1, none⟩ = some (.int .u8 x1)) (r1 : 0 ≤ x1 ∧ x1 ≤ 255) (c2 : w.cell? ⟨b, off + 2, none⟩ = some (.int .u8 x2)) (g0 : 128 ≤ x0) (g1 : 128 ≤ x1) (p0 : x2 = 0) :
    Calls Tryd.prog 34 #[.slice (some ⟨b, off, none⟩) len cap] w fun e w' => e = .returned (.tuple #[.int .i64 0, .int .i64 0, .iface 79 (.pointer (some ⟨w.heap.size, 0, none⟩))]) ∧ w' = w.alloc (.cells #[.string ⟨#[118, 97, 114, 105, 110, 116]⟩, .iface 65 (.int .i64 1)] 81) := by
  have HM := hide (meas_z3 b off len cap x0 x1 x2 w hlen hl c0 r0 c1 r1 c2 g0 g1 p0)
  unfold maxLen at hlen
  subst p0
  go_enter Tryd.func34, Tryd.ntmps34
  go_wp2_with (go_at_call 49; refine (unhide HM).mono ?_; rintro e w' ⟨rfl, rfl⟩)
  go_ret3
  exact ⟨rfl, rfl⟩

theorem get_o3 (b off len cap : Nat) (x0 x1 x2 : Int) (w : World) (hlen : len ≤ maxLen) (hl : 2 < len) (c0 : w.cell? ⟨b, off, none⟩ = some (.int .u8 x0)) (r0 : 0 ≤ x0 ∧ x0 ≤ 255) (c1 : w.cell? ⟨b, off + 1, none⟩ = some (.int .u8 x1)) (r1 : 0 ≤ x1 ∧ x1 ≤ 255) (c2 : w.cell? ⟨b, off + 2, none⟩ = some (.int .u8 x2)) (g0 : 128 ≤ x0) (g1 : 128 ≤ x1) (p0 : 1 ≤ x2) (p1 : x2 < 128) :
    Calls Tryd.prog 34 #[.slice (some ⟨b, off, none⟩) len cap] w fun e w' => e = .returned (.tuple #[.int .i64 ((x0 - 128) + (x1 - 128) * 128 + x2 * 16384), .int .i64 3, .nilIface]) ∧ w' = w := by
  have HM := hide (meas_o3 b off len cap x0 x1 x2 w hlen hl c0 r0 c1 r1 c2 g0 g1 p0 p1)
  unfold maxLen at hlen
  have k0 := and127_hi x0 g0 r0.2
  have k1 := and127_hi x1 g1 r1.2
  have k2 := and127_lo x2 (by omega) p1
  go_enter Tryd.func34, Tryd.ntmps34
  go_wp2_with (go_at_call 49; refine (unhide HM).mono ?_; rintro e w' ⟨rfl, rfl⟩)
  go_ret3
  refine ⟨congrArg (fun z : Int => Ending.returned (.tuple #[.int .i64 z, .int .i64 3, .nilIface])) ?_, rfl⟩
  rw [or_zero (x2 * 16384) (by omega) (by omega), or_hi 14 (x2 * 16384) ((x1 - 128) * 128) (by omega) (by omega) (by omega) (by omega) (by omega) (by omega), or_hi 7 (x2 * 16384 + (x1 - 128) * 128) ((x0 - 128)) (by omega) (by omega) (by omega) (by omega) (by omega) (by omega)]
  omega

theorem get_s3 (b off len cap : Nat) (x0 x1 x2 : Int) (w : World) (hlen : len ≤ maxLen) (hl : len = 3) (c0 : w.cell? ⟨b, off, none⟩ = some (.int .u8 x0)) (r0 : 0 ≤ x0 ∧ x0 ≤ 255) (c1 : w.cell? ⟨b, off + 1, none⟩ = some (.int .u8 x1)) (r1 : 0 ≤ x1 ∧ x1 ≤ 255) (c2 : w.cell? ⟨b, off + 2, none⟩ = some (.int .u8 x2)) (r2 : 0 ≤ x2 ∧ x2 ≤ 255) (g0 : 128 ≤ x0) (g1 : 128 ≤ x1) (g2 : 128 ≤ x2) :
    Calls Tryd.prog 34 #[.slice (some ⟨b, off, none⟩) len cap] w fun e w' => e = .returned (.tuple #[.int .i64 0, .int .i64 0, .iface 79 (.pointer (some ⟨w.heap.size, 0, none⟩))]) ∧ w' = w.alloc (.cells #[.string ⟨#[118, 97, 114, 105, 110, 116]⟩, .iface 65 (.int .i64 3)] 81) := by
  have HM := hide (meas_s3 b off len cap x0 x1 x2 w hlen hl c0 r0 c1 r1 c2 r2 g0 g1 g2)
  unfold maxLen at hlen
  subst hl
  go_enter Tryd.func34, Tryd.ntmps34
  go_wp2_with (go_at_call 49; refine (unhide HM).mono ?_; rintro e w' ⟨rfl, rfl⟩)
  go_ret3
  exact ⟨rfl, rfl⟩

theorem get_z4 (b off len cap : Nat) (x0 x1 x2 x3 : Int) (w : World) (hlen : len ≤ maxLen) (hl : 3 < len) (c0 : w.cell? ⟨b, off, none⟩ = some (.int .u8 x0)) (r0 : 0 ≤ x0 ∧ x0 ≤ 255) (c1 : w.cell? ⟨b, off + 1, none⟩ = some (.int .u8 x1)) (r1 : 0 ≤ x1 ∧ x1 ≤ 255) (c2 : w.cell? ⟨b, off + 2, none⟩ = some (.int .u8 x2)) (r2 : 0 ≤ x2 ∧ x2 ≤ 255) (c3 : w.cell? ⟨b, off + 3, none⟩ = some (.int .u8 x3)) (g0 : 128 ≤ x0) (g1 : 128 ≤ x1) (g2 : 128 ≤ x2) (p0 : x3 = 0) :
    Calls Tryd.prog 34 #[.slice (some ⟨b, off, none⟩) len cap] w fun e w' => e = .returned (.tuple #[.int .i64 0, .int .i64 0, .iface 79 (.pointer (some ⟨w.heap.size, 0, none⟩))]) ∧ w' = w.alloc (.cells #[.string ⟨#[118, 97, 114, 105, 110, 116]⟩, .iface 65 (.int .i64 1)] 81) := by
  have HM := hide (meas_z4 b off len cap x0 x1 x2 x3 w hlen hl c0 r0 c1 r1 c2 r2 c3 g0 g1 g2 p0)
  unfold maxLen at hlen
  subst p0
  go_enter Tryd.func34, Tryd.ntmps34
  go_wp2_with (go_at_call 49; refine (unhide HM).mono ?_; rintro e w' ⟨rfl, rfl⟩)
  go_ret3
  exact ⟨rfl, rfl⟩

theorem get_o4 (b off len cap : Nat) (x0 x1 x2 x3 : Int) (w : World) (hlen : len ≤ maxLen) (hl : 3 < len) (c0 : w.cell? ⟨b, off, none⟩ = some (.int .u8 x0)) (r0 : 0 ≤ x0 ∧ x0 ≤ 255) (c1 : w.cell? ⟨b, off + 1, none⟩ = some (.int .u8 x1)) (r1 : 0 ≤ x1 ∧ x1 ≤ 255) (c2 : w.cell? ⟨b, off + 2, none⟩ = some (.int .u8 x2)) (r2 : 0 ≤ x2 ∧ x2 ≤ 255) (c3 : w.cell? ⟨b, off + 3, none⟩ = some (.int .u8 x3)) (g0 : 128 ≤ x0) (g1 : 128 ≤ x1) (g2 : 128 ≤ x2) (p0 : 1 ≤ x3) (p1 : x3 < 128) :
    Calls Tryd.prog 34 #[.slice (some ⟨b, off, none⟩) len cap] w fun e w' => e = .returned (.tuple #[.int .i64 ((x0 - 128) + (x1 - 128) * 128 + (x2 - 128) * 16384 + x3 * 2097152), .int .i64 4, .nilIface]) ∧ w' = w := by
  have HM := hide (meas_o4 b off len cap x0 x1 x2 x3 w hlen hl c0 r0 c1 r1 c2 r2 c3 g0 g1 g2 p0 p1)
  unfold maxLen at hlen
  have k0 := and127_hi x0 g0 r0.2
  have k1 := and127_hi x1 g1 r1.2
  have k2 := and127_hi x2 g2 r2.2
  have k3 := and127_lo x3 (by omega) p1
  go_enter Tryd.func34, Tryd.ntmps34
  go_wp2_with (go_at_call 49; refine (unhide HM).mono ?_; rintro e w' ⟨rfl, rfl⟩)
  go_ret3
  refine ⟨congrArg (fun z : Int => Ending.returned (.tuple #[.int .i64 z, .int .i64 4, .nilIface])) ?_, rfl⟩
  rw [or_zero (x3 * 2097152) (by omega) (by omega), or_hi 21 (x3 * 2097152) ((x2 - 128) * 16384) (by omega) (by omega) (by omega) (by omega) (by omega) (by omega), or_hi 14 (x3 * 2097152 + (x2 - 128) * 16384) ((x1 - 128) * 128) (by omega) (by omega) (by omega) (by omega) (by omega) (by omega), or_hi 7 (x3 * 2097152 + (x2 - 128) * 16384 + (x1 - 128) * 128) ((x0 - 128)) (by omega) (by omega) (by omega) (by omega) (by omega) (by omega)]
  omega

theorem get_l4 (b off len cap : Nat) (x0 x1 x2 x3 : Int) (w : World) (hlen : len ≤ maxLen) (hl : 3 < len) (c0 : w.cell? ⟨b, off, none⟩ = some (.int .u8 x0)) (r0 : 0 ≤ x0 ∧ x0 ≤ 255) (c1 : w.cell? ⟨b, off + 1, none⟩ = some (.int .u8 x1)) (r1 : 0 ≤ x1 ∧ x1 ≤ 255) (c2 : w.cell? ⟨b, off + 2, none⟩ = some (.int .u8 x2)) (r2 : 0 ≤ x2 ∧ x2 ≤ 255) (c3 : w.cell? ⟨b, off + 3, none⟩ = some (.int .u8 x3)) (r3 : 0 ≤ x3 ∧ x3 ≤ 255) (g0 : 128 ≤ x0) (g1 : 128 ≤ x1) (g2 : 128 ≤ x2) (g3 : 128 ≤ x3) :
    Calls Tryd.prog 34 #[.slice (some ⟨b, off, none⟩) len cap] w fun e w' => e = .returned (.tuple #[.int .i64 0, .int .i64 0, .iface 79 (.pointer (some ⟨w.heap.size, 0, none⟩))]) ∧ w' = w.alloc (.cells #[.string ⟨#[118, 97, 114, 105, 110, 116]⟩, .iface 65 (.int .i64 1)] 81) := by
  have HM := hide (meas_l4 b off len cap x0 x1 x2 x3 w hlen hl c0 r0 c1 r1 c2 r2 c3 r3 g0 g1 g2 g3)
  unfold maxLen at hlen
  go_enter Tryd.func34, Tryd.ntmps34
  go_wp2_with (go_at_call 49; refine (unhide HM).mono ?_; rintro e w' ⟨rfl, rfl⟩)
  go_ret3
  exact ⟨rfl, rfl⟩

theorem sz1 (n : Int) (h : n < 128) : sz n = 1 := by simp [sz, h]
theorem sz2 (n : Int) (h0 : 128 ≤ n) (h : n < 16384) : sz n = 2 := by unfold sz; rw [if_neg (by omega), if_pos h]
theorem sz3 (n : Int) (h0 : 16384 ≤ n) (h : n < 2097152) : sz n = 3 := by unfold sz; rw [if_neg (by omega), if_neg (by omega), if_pos h]
theorem sz4 (n : Int) (h0 : 2097152 ≤ n) : sz n = 4 := by unfold sz; rw [if_neg (by omega), if_neg (by omega), if_neg (by omega)]
theorem szle1 (n : Int) (h : n < 128) : sz n ≤ 1 := by unfold sz; rw [if_pos h]; omega
theorem szle2 (n : Int) (h : n < 16384) : sz n ≤ 2 := by unfold sz; split <;> (try split) <;> omega
theorem szle3 (n : Int) (h : n < 2097152) : sz n ≤ 3 := by unfold sz; split <;> (try split) <;> (try split) <;> omega
theorem put_length (n : Int) : ((put n).length : Int) = sz n := by
  unfold put sz
  split <;> (try split) <;> (try split) <;> simp

theorem rput_len (n : Int) (w : World) (h0 : 0 ≤ n) (h1 : n ≤ 268435455) :
    Calls Tryd.prog 28 #[.int .i64 n] w fun e w' => ∃ (ao : Option Addr) (L cap : Nat), Hid ((L : Int) = sz n) ∧ e = .returned (.slice ao L cap) ∧ Below w.heap.size w w' := by
  refine (rput_any n w h0 h1).mono ?_
  rintro e w' ⟨v, rfl, hown, hb⟩
  rcases hown.2 with ⟨rfl, hn⟩ | ⟨g, cap, cur, rfl, _⟩
  · have := put_len n; omega
  · exact ⟨_, _, _, put_length n, rfl, hb⟩

set_option maxHeartbeats 1000000 in
theorem rget_s0 (ao : Option Addr) (cap : Nat) (w : World) :
    Calls Tryd.prog 37 #[.slice ao 0 cap] w fun e w' => e = .returned (.tuple #[.int .i64 0, .int .i64 0, .int .i64 3]) ∧ Below w.heap.size w w' := by
  go_enter Tryd.func37, Tryd.ntmps37
  go_wp2
  refine wp_loop_rounds 1 ?_
  rw [rounds_succ]
  go_wp2
  go_ret3
  exact ⟨rfl, Below.refl _ _⟩

set_option maxHeartbeats 1000000 in
theorem rget_o1 (b off len cap : Nat) (x0 : Int) (w : World) (hlen : len ≤ maxLen) (hl : 0 < len) (c0 : w.cell? ⟨b, off, none⟩ = some (.int .u8 x0)) (p0 : 0 ≤ x0) (p1 : x0 < 128) :
    Calls Tryd.prog 37 #[.slice (some ⟨b, off, none⟩) len cap] w fun e w' => e = .returned (.tuple #[.int .i64 (x0), .int .i64 1, .int .i64 0]) ∧ Below w.heap.size w w' := by
  unfold maxLen at hlen
  have m0 : x0 % 128 = x0 := by omega
  have q0 : bits .or .i64 0 (x0) = x0 := or_zero _ (by omega) (by omega)
  go_enter Tryd.func37, Tryd.ntmps37
  go_wp2
  refine wp_loop_rounds 1 ?_
  rw [rounds_succ]
  go_wp2_with fail
  refine (rput_len (x0) _ (by omega) (by omega)).mono ?_
  rintro e w1 ⟨ao, L, cap', hL, rfl, hb⟩
  obtain rfl : L = 1 := by have h1 := unhide hL; rw [sz1 _ (by omega)] at h1; omega
  go_wp2
  go_ret3
  exact ⟨rfl, hb⟩

set_option maxHeartbeats 1000000 in
theorem rget_s1 (b off len cap : Nat) (x0 : Int) (w : World) (hlen : len ≤ maxLen) (hl : len = 1) (c0 : w.cell? ⟨b, off, none⟩ = some (.int .u8 x0)) (r0 : 0 ≤ x0 ∧ x0 ≤ 255) (g0 : 128 ≤ x0) :
    Calls Tryd.prog 37 #[.slice (some ⟨b, off, none⟩) len cap] w fun e w' => e = .returned (.tuple #[.int .i64 0, .int .i64 0, .int .i64 3]) ∧ Below w.heap.size w w' := by
  unfold maxLen at hlen
  subst hl
  have m0 : x0 % 128 = (x0 - 128) := by omega
  have q0 : bits .or .i64 0 ((x0 - 128)) = (x0 - 128) := or_zero _ (by omega) (by omega)
  go_enter Tryd.func37, Tryd.ntmps37
  go_wp2
  refine wp_loop_rounds 2 ?_
  rw [rounds_succ]
  go_wp2
  rw [rounds_succ]
  go_wp2
  go_ret3
  exact ⟨rfl, Below.refl _ _⟩

set_option maxHeartbeats 1000000 in
theorem rget_z2 (b off len cap : Nat) (x0 x1 : Int) (w : World) (hlen : len ≤ maxLen) (hl : 1 < len) (c0 : w.cell? ⟨b, off, none⟩ = some (.int .u8 x0)) (r0 : 0 ≤ x0 ∧ x0 ≤ 255) (c1 : w.cell? ⟨b, off + 1, none⟩ = some (.int .u8 x1)) (g0 : 128 ≤ x0) (p0 : x1 = 0) :
    Calls Tryd.prog 37 #[.slice (some ⟨b, off, none⟩) len cap] w fun e w' => e = .returned (.tuple #[.int .i64 0, .int .i64 0, .int .i64 1]) ∧ Below w.heap.size w w' := by
  unfold maxLen at hlen
  subst p0
  have m0 : x0 % 128 = (x0 - 128) := by omega
  have q0 : bits .or .i64 0 ((x0 - 128)) = (x0 - 128) := or_zero _ (by omega) (by omega)

  have q1 : bits .or .i64 ((x0 - 128)) 0 = (x0 - 128) := by rw [or_lo 7 ((x0 - 128)) 0 (by omega) (by omega) (by omega) (by omega) (by omega) (by omega)]; omega
  go_enter Tryd.func37, Tryd.ntmps37
  go_wp2
  refine wp_loop_rounds 2 ?_
  rw [rounds_succ]
  go_wp2
  rw [rounds_succ]
  go_wp2_with fail
  refine (rput_len ((x0 - 128)) _ (by omega) (by omega)).mono ?_
  rintro e w1 ⟨ao, L, cap', hL, rfl, hb⟩
  have hLL : L ≤ 1 := by have h1 := unhide hL; have h2 := szle1 ((x0 - 128)) (by omega); omega
  go_wp2
  go_ret3
  exact ⟨rfl, hb⟩

set_option maxHeartbeats 1000000 in
theorem rget_o2 (b off len cap : Nat) (x0 x1 : Int) (w : World) (hlen : len ≤ maxLen) (hl : 1 < len) (c0 : w.cell? ⟨b, off, none⟩ = some (.int .u8 x0)) (r0 : 0 ≤ x0 ∧ x0 ≤ 255) (c1 : w.cell? ⟨b, off + 1, none⟩ = some (.int .u8 x1)) (g0 : 128 ≤ x0) (p0 : 1 ≤ x1) (p1 : x1 < 128) :
    Calls Tryd.prog 37 #[.slice (some ⟨b, off, none⟩) len cap] w fun e w' => e = .returned (.tuple #[.int .i64 ((x0 - 128) + x1 * 128), .int .i64 2, .int .i64 0]) ∧ Below w.heap.size w w' := by
  unfold maxLen at hlen
  have m0 : x0 % 128 = (x0 - 128) := by omega
  have q0 : bits .or .i64 0 ((x0 - 128)) = (x0 - 128) := or_zero _ (by omega) (by omega)
  have m1 : x1 % 128 = x1 := by omega
  have q1 : bits .or .i64 ((x0 - 128)) (x1 * 128) = (x0 - 128) + x1 * 128 := or_lo 7 _ _ (by omega) (by omega) (by omega) (by omega) (by omega) (by omega)
  go_enter Tryd.func37, Tryd.ntmps37
  go_wp2
  refine wp_loop_rounds 2 ?_
  rw [rounds_succ]
  go_wp2
  rw [rounds_succ]
  go_wp2_with fail
  refine (rput_len ((x0 - 128) + x1 * 128) _ (by omega) (by omega)).mono ?_
  rintro e w1 ⟨ao, L, cap', hL, rfl, hb⟩
  obtain rfl : L = 2 := by have h1 := unhide hL; rw [sz2 _ (by omega) (by omega)] at h1; omega
  go_wp2
  go_ret3
  exact ⟨rfl, hb⟩

set_option maxHeartbeats 1000000 in
theorem rget_s2 (b off len cap : Nat) (x0 x1 : Int) (w : World) (hlen : len ≤ maxLen) (hl : len = 2) (c0 : w.cell? ⟨b, off, none⟩ = some (.int .u8 x0)) (r0 : 0 ≤ x0 ∧ x0 ≤ 255) (c1 : w.cell? ⟨b, off + 1, none⟩ = some (.int .u8 x1)) (r1 : 0 ≤ x1 ∧ x1 ≤ 255) (g0 : 128 ≤ x0) (g1 : 128 ≤ x1) :
    Calls Tryd.prog 37 #[.slice (some ⟨b, off, none⟩) len cap] w fun e w' => e = .returned (.tuple #[.int .i64 0, .int .i64 0, .int .i64 3]) ∧ Below w.heap.size w w' := by
  unfold maxLen at hlen
  subst hl
  have m0 : x0 % 128 = (x0 - 128) := by omega
  have q0 : bits .or .i64 0 ((x0 - 128)) = (x0 - 128) := or_zero _ (by omega) (by omega)
  have m1 : x1 % 128 = (x1 - 128) := by omega
  have q1 : bits .or .i64 ((x0 - 128)) ((x1 - 128) * 128) = (x0 - 128) + (x1 - 128) * 128 := or_lo 7 _ _ (by omega) (by omega) (by omega) (by omega) (by omega) (by omega)
  go_enter Tryd.func37, Tryd.ntmps37
  go_wp2
  refine wp_loop_rounds 3 ?_
  rw [rounds_succ]
  go_wp2
  rw [rounds_succ]
  go_wp2
  rw [rounds_succ]
  go_wp2
  go_ret3
  exact ⟨rfl, Below.refl _ _⟩

set_option maxHeartbeats 1000000 in
theorem rget_z3 (b off len cap : Nat) (x0 x1 x2 : Int) (w : World) (hlen : len ≤ maxLen) (hl : 2 < len) (c0 : w.cell? ⟨b, off, none⟩ = some (.int .u8 x0)) (r0 : 0 ≤ x0 ∧ x0 ≤ 255) (c1 : w.cell? ⟨b, off + 1, none⟩ = some (.int .u8 x1)) (r1 : 0 ≤ x1 ∧ x1 ≤ 255) (c2 : w.cell? ⟨b, off + 2, none⟩ = some (.int .u8 x2)) (g0 : 128 ≤ x0) (g1 : 128 ≤ x1) (p0 : x2 = 0) :
    Calls Tryd.prog 37 #[.slice (some ⟨b, off, none⟩) len cap] w fun e w' => e = .returned (.tuple #[.int .i64 0, .int .i64 0, .int .i64 1]) ∧ Below w.heap.size w w' := by
  unfold maxLen at hlen
  subst p0
  have m0 : x0 % 128 = (x0 - 128) := by omega
  have q0 : bits .or .i64 0 ((x0 - 128)) = (x0 - 128) := or_zero _ (by omega) (by omega)
  have m1 : x1 % 128 = (x1 - 128) := by omega
  have q1 : bits .or .i64 ((x0 - 128)) ((x1 - 128) * 128) = (x0 - 128) + (x1 - 128) * 128 := or_lo 7 _ _ (by omega) (by omega) (by omega) (by omega) (by omega) (by omega)

  have q2 : bits .or .i64 ((x0 - 128) + (x1 - 128) * 128) 0 = (x0 - 128) + (x1 - 128) * 128 := by rw [or_lo 14 ((x0 - 128) + (x1 - 128) * 128) 0 (by omega) (by omega) (by omega) (by omega) (by omega) (by omega)]; omega
  go_enter Tryd.func37, Tryd.ntmps37
  go_wp2
  refine wp_loop_rounds 3 ?_
  rw [rounds_succ]
  go_wp2
  rw [rounds_succ]
  go_wp2
  rw [rounds_succ]
  go_wp2_with fail
  refine (rput_len ((x0 - 128) + (x1 - 128) * 128) _ (by omega) (by omega)).mono ?_
  rintro e w1 ⟨ao, L, cap', hL, rfl, hb⟩
  have hLL : L ≤ 2 := by have h1 := unhide hL; have h2 := szle2 ((x0 - 128) + (x1 - 128) * 128) (by omega); omega
  go_wp2
  go_ret3
  exact ⟨rfl, hb⟩

set_option maxHeartbeats 1000000 in
theorem rget_o3 (b off len cap : Nat) (x0 x1 x2 : Int) (w : World) (hlen : len ≤ maxLen) (hl : 2 < len) (c0 : w.cell? ⟨b, off, none⟩ = some (.int .u8 x0)) (r0 : 0 ≤ x0 ∧ x0 ≤ 255) (c1 : w.cell? ⟨b, off + 1, none⟩ = some (.int .u8 x1)) (r1 : 0 ≤ x1 ∧ x1 ≤ 255) (c2 : w.cell? ⟨b, off + 2, none⟩ = some (.int .u8 x2)) (g0 : 128 ≤ x0) (g1 : 128 ≤ x1) (p0 : 1 ≤ x2) (p1 : x2 < 128) :
    Calls Tryd.prog 37 #[.slice (some ⟨b, off, none⟩) len cap] w fun e w' => e = .returned (.tuple #[.int .i64 ((x0 - 128) + (x1 - 128) * 128 + x2 * 16384), .int .i64 3, .int .i64 0]) ∧ Below w.heap.size w w' := by
  unfold maxLen at hlen
  have m0 : x0 % 128 = (x0 - 128) := by omega
  have q0 : bits .or .i64 0 ((x0 - 128)) = (x0 - 128) := or_zero _ (by omega) (by omega)
  have m1 : x1 % 128 = (x1 - 128) := by omega
  have q1 : bits .or .i64 ((x0 - 128)) ((x1 - 128) * 128) = (x0 - 128) + (x1 - 128) * 128 := or_lo 7 _ _ (by omega) (by omega) (by omega) (by omega) (by omega) (by omega)
  have m2 : x2 % 128 = x2 := by omega
  have q2 : bits .or .i64 ((x0 - 128) + (x1 - 128) * 128) (x2 * 16384) = (x0 - 128) + (x1 - 128) * 128 + x2 * 16384 := or_lo 14 _ _ (by omega) (by omega) (by omega) (by omega) (by omega) (by omega)
  go_enter Tryd.func37, Tryd.ntmps37
  go_wp2
  refine wp_loop_rounds 3 ?_
  rw [rounds_succ]
  go_wp2
  rw [rounds_succ]
  go_wp2
  rw [rounds_succ]
  go_wp2_with fail
  refine (rput_len ((x0 - 128) + (x1 - 128) * 128 + x2 * 16384) _ (by omega) (by omega)).mono ?_
  rintro e w1 ⟨ao, L, cap', hL, rfl, hb⟩
  obtain rfl : L = 3 := by have h1 := unhide hL; rw [sz3 _ (by omega) (by omega)] at h1; omega
  go_wp2
  go_ret3
  exact ⟨rfl, hb⟩

set_option maxHeartbeats 1000000 in
theorem rget_s3 (b off len cap : Nat) (x0 x1 x2 : Int) (w : World) (hlen : len ≤ maxLen) (hl : len = 3) (c0 : w.cell? ⟨b, off, none⟩ = some (.int .u8 x0)) (r0 : 0 ≤ x0 ∧ x0 ≤ 255) (c1 : w.cell? ⟨b, off + 1, none⟩ = some (.int .u8 x1)) (r1 : 0 ≤ x1 ∧ x1 ≤ 255) (c2 : w.cell? ⟨b, off + 2, none⟩ = some (.int .u8 x2)) (r2 : 0 ≤ x2 ∧ x2 ≤ 255) (g0 : 128 ≤ x0) (g1 : 128 ≤ x1) (g2 : 128 ≤ x2) :
    Calls Tryd.prog 37 #[.slice (some ⟨b, off, none⟩) len cap] w fun e w' => e = .returned (.tuple #[.int .i64 0, .int .i64 0, .int .i64 3]) ∧ Below w.heap.size w w' := by
  unfold maxLen at hlen
  subst hl
  have m0 : x0 % 128 = (x0 - 128) := by omega
  have q0 : bits .or .i64 0 ((x0 - 128)) = (x0 - 128) := or_zero _ (by omega) (by omega)
  have m1 : x1 % 128 = (x1 - 128) := by omega
  have q1 : bits .or .i64 ((x0 - 128)) ((x1 - 128) * 128) = (x0 - 128) + (x1 - 128) * 128 := or_lo 7 _ _ (by omega) (by omega) (by omega) (by omega) (by omega) (by omega)
  have m2 : x2 % 128 = (x2 - 128) := by omega
  have q2 : bits .or .i64 ((x0 - 128) + (x1 - 128) * 128) ((x2 - 128) * 16384) = (x0 - 128) + (x1 - 128) * 128 + (x2 - 128) * 16384 := or_lo 14 _ _ (by omega) (by omega) (by omega) (by omega) (by omega) (by omega)
  go_enter Tryd.func37, Tryd.ntmps37
  go_wp2
  refine wp_loop_rounds 4 ?_
  rw [rounds_succ]
  go_wp2
  rw [rounds_succ]
  go_wp2
  rw [rounds_succ]
  go_wp2
  rw [rounds_succ]
  go_wp2
  go_ret3
  exact ⟨rfl, Below.refl _ _⟩

set_option maxHeartbeats 1000000 in
theorem rget_z4 (b off len cap : Nat) (x0 x1 x2 x3 : Int) (w : World) (hlen : len ≤ maxLen) (hl : 3 < len) (c0 : w.cell? ⟨b, off, none⟩ = some (.int .u8 x0)) (r0 : 0 ≤ x0 ∧ x0 ≤ 255) (c1 : w.cell? ⟨b, off + 1, none⟩ = some (.int .u8 x1)) (r1 : 0 ≤ x1 ∧ x1 ≤ 255) (c2 : w.cell? ⟨b, off + 2, none⟩ = some (.int .u8 x2)) (r2 : 0 ≤ x2 ∧ x2 ≤ 255) (c3 : w.cell? ⟨b, off + 3, none⟩ = some (.int .u8 x3)) (g0 : 128 ≤ x0) (g1 : 128 ≤ x1) (g2 : 128 ≤ x2) (p0 : x3 = 0) :
    Calls Tryd.prog 37 #[.slice (some ⟨b, off, none⟩) len cap] w fun e w' => e = .returned (.tuple #[.int .i64 0, .int .i64 0, .int .i64 1]) ∧ Below w.heap.size w w' := by
  unfold maxLen at hlen
  subst p0
  have m0 : x0 % 128 = (x0 - 128) := by omega
  have q0 : bits .or .i64 0 ((x0 - 128)) = (x0 - 128) := or_zero _ (by omega) (by omega)
  have m1 : x1 % 128 = (x1 - 128) := by omega
  have q1 : bits .or .i64 ((x0 - 128)) ((x1 - 128) * 128) = (x0 - 128) + (x1 - 128) * 128 := or_lo 7 _ _ (by omega) (by omega) (by omega) (by omega) (by omega) (by omega)
  have m2 : x2 % 128 = (x2 - 128) := by omega
  have q2 : bits .or .i64 ((x0 - 128) + (x1 - 128) * 128) ((x2 - 128) * 16384) = (x0 - 128) + (x1 - 128) * 128 + (x2 - 128) * 16384 := or_lo 14 _ _ (by omega) (by omega) (by omega) (by omega) (by omega) (by omega)

  have q3 : bits .or .i64 ((x0 - 128) + (x1 - 128) * 128 + (x2 - 128) * 16384) 0 = (x0 - 128) + (x1 - 128) * 128 + (x2 - 128) * 16384 := by rw [or_lo 21 ((x0 - 128) + (x1 - 128) * 128 + (x2 - 128) * 16384) 0 (by omega) (by omega) (by omega) (by omega) (by omega) (by omega)]; omega
  go_enter Tryd.func37, Tryd.ntmps37
  go_wp2
  refine wp_loop_rounds 4 ?_
  rw [rounds_succ]
  go_wp2
  rw [rounds_succ]
  go_wp2
  rw [rounds_succ]
  go_wp2
  rw [rounds_succ]
  go_wp2_with fail
  refine (rput_len ((x0 - 128) + (x1 - 128) * 128 + (x2 - 128) * 16384) _ (by omega) (by omega)).mono ?_
  rintro e w1 ⟨ao, L, cap', hL, rfl, hb⟩
  have hLL : L ≤ 3 := by have h1 := unhide hL; have h2 := szle3 ((x0 - 128) + (x1 - 128) * 128 + (x2 - 128) * 16384) (by omega); omega
  go_wp2
  go_ret3
  exact ⟨rfl, hb⟩

set_option maxHeartbeats 1000000 in
theorem rget_o4 (b off len cap : Nat) (x0 x1 x2 x3 : Int) (w : World) (hlen : len ≤ maxLen) (hl : 3 < len) (c0 : w.cell? ⟨b, off, none⟩ = some (.int .u8 x0)) (r0 : 0 ≤ x0 ∧ x0 ≤ 255) (c1 : w.cell? ⟨b, off + 1, none⟩ = some (.int .u8 x1)) (r1 : 0 ≤ x1 ∧ x1 ≤ 255) (c2 : w.cell? ⟨b, off + 2, none⟩ = some (.int .u8 x2)) (r2 : 0 ≤ x2 ∧ x2 ≤ 255) (c3 : w.cell? ⟨b, off + 3, none⟩ = some (.int .u8 x3)) (g0 : 128 ≤ x0) (g1 : 128 ≤ x1) (g2 : 128 ≤ x2) (p0 : 1 ≤ x3) (p1 : x3 < 128) :
    Calls Tryd.prog 37 #[.slice (some ⟨b, off, none⟩) len cap] w fun e w' => e = .returned (.tuple #[.int .i64 ((x0 - 128) + (x1 - 128) * 128 + (x2 - 128) * 16384 + x3 * 2097152), .int .i64 4, .int .i64 0]) ∧ Below w.heap.size w w' := by
  unfold maxLen at hlen
  have m0 : x0 % 128 = (x0 - 128) := by omega
  have q0 : bits .or .i64 0 ((x0 - 128)) = (x0 - 128) := or_zero _ (by omega) (by omega)
  have m1 : x1 % 128 = (x1 - 128) := by omega
  have q1 : bits .or .i64 ((x0 - 128)) ((x1 - 128) * 128) = (x0 - 128) + (x1 - 128) * 128 := or_lo 7 _ _ (by omega) (by omega) (by omega) (by omega) (by omega) (by omega)
  have m2 : x2 % 128 = (x2 - 128) := by omega
  have q2 : bits .or .i64 ((x0 - 128) + (x1 - 128) * 128) ((x2 - 128) * 16384) = (x0 - 128) + (x1 - 128) * 128 + (x2 - 128) * 16384 := or_lo 14 _ _ (by omega) (by omega) (by omega) (by omega) (by omega) (by omega)
  have m3 : x3 % 128 = x3 := by omega
  have q3 : bits .or .i64 ((x0 - 128) + (x1 - 128) * 128 + (x2 - 128) * 16384) (x3 * 2097152) = (x0 - 128) + (x1 - 128) * 128 + (x2 - 128) * 16384 + x3 * 2097152 := or_lo 21 _ _ (by omega) (by omega) (by omega) (by omega) (by omega) (by omega)
  go_enter Tryd.func37, Tryd.ntmps37
  go_wp2
  refine wp_loop_rounds 4 ?_
  rw [rounds_succ]
  go_wp2
  rw [rounds_succ]
  go_wp2
  rw [rounds_succ]
  go_wp2
  rw [rounds_succ]
  go_wp2_with fail
  refine (rput_len ((x0 - 128) + (x1 - 128) * 128 + (x2 - 128) * 16384 + x3 * 2097152) _ (by omega) (by omega)).mono ?_
  rintro e w1 ⟨ao, L, cap', hL, rfl, hb⟩
  obtain rfl : L = 4 := by have h1 := unhide hL; rw [sz4 _ (by omega)] at h1; omega
  go_wp2
  go_ret3
  exact ⟨rfl, hb⟩

set_option maxHeartbeats 1000000 in
theorem rget_l4 (b off len cap : Nat) (x0 x1 x2 x3 : Int) (w : World) (hlen : len ≤ maxLen) (hl : 3 < len) (c0 : w.cell? ⟨b, off, none⟩ = some (.int .u8 x0)) (r0 : 0 ≤ x0 ∧ x0 ≤ 255) (c1 : w.cell? ⟨b, off + 1, none⟩ = some (.int .u8 x1)) (r1 : 0 ≤ x1 ∧ x1 ≤ 255) (c2 : w.cell? ⟨b, off + 2, none⟩ = some (.int .u8 x2)) (r2 : 0 ≤ x2 ∧ x2 ≤ 255) (c3 : w.cell? ⟨b, off + 3, none⟩ = some (.int .u8 x3)) (r3 : 0 ≤ x3 ∧ x3 ≤ 255) (g0 : 128 ≤ x0) (g1 : 128 ≤ x1) (g2 : 128 ≤ x2) (g3 : 128 ≤ x3) :
    Calls Tryd.prog 37 #[.slice (some ⟨b, off, none⟩) len cap] w fun e w' => e = .returned (.tuple #[.int .i64 0, .int .i64 0, .int .i64 1]) ∧ Below w.heap.size w w' := by
  unfold maxLen at hlen
  have m0 : x0 % 128 = (x0 - 128) := by omega
  have q0 : bits .or .i64 0 ((x0 - 128)) = (x0 - 128) := or_zero _ (by omega) (by omega)
  have m1 : x1 % 128 = (x1 - 128) := by omega
  have q1 : bits .or .i64 ((x0 - 128)) ((x1 - 128) * 128) = (x0 - 128) + (x1 - 128) * 128 := or_lo 7 _ _ (by omega) (by omega) (by omega) (by omega) (by omega) (by omega)
  have m2 : x2 % 128 = (x2 - 128) := by omega
  have q2 : bits .or .i64 ((x0 - 128) + (x1 - 128) * 128) ((x2 - 128) * 16384) = (x0 - 128) + (x1 - 128) * 128 + (x2 - 128) * 16384 := or_lo 14 _ _ (by omega) (by omega) (by omega) (by omega) (by omega) (by omega)
  have m3 : x3 % 128 = (x3 - 128) := by omega
  have q3 : bits .or .i64 ((x0 - 128) + (x1 - 128) * 128 + (x2 - 128) * 16384) ((x3 - 128) * 2097152) = (x0 - 128) + (x1 - 128) * 128 + (x2 - 128) * 16384 + (x3 - 128) * 2097152 := or_lo 21 _ _ (by omega) (by omega) (by omega) (by omega) (by omega) (by omega)
  go_enter Tryd.func37, Tryd.ntmps37
  go_wp2
  refine wp_loop_rounds 5 ?_
  rw [rounds_succ]
  go_wp2
  rw [rounds_succ]
  go_wp2
  rw [rounds_succ]
  go_wp2
  rw [rounds_succ]
  go_wp2
  rw [rounds_succ]
  go_wp2
  go_ret3
  exact ⟨rfl, Below.refl _ _⟩

end Go.Proofs.YtpfpollejhdbgaaDoor.V
