/- Proved here: what and, or of small numbers are, as the model reckons them. Helpers; no program is named. -/
import Derived.Test.YtmmhdhpocjnlbaaGreatDoorZTPlain
import Derived.Laws.BitsAllLaws
namespace Go.Proofs.YtmmhdhpocjnlbaaGreatDoor
open Go.RowKit

theorem ofInt_64 (a : Nat) (ha : a < 18446744073709551616) : (BitVec.ofInt 64 (a : Int)).toNat = a := by
  rw [BitVec.ofInt_natCast, BitVec.toNat_ofNat]; exact Nat.mod_eq_of_lt (by omega)
theorem ofInt_32 (a : Nat) (ha : a < 4294967296) : (BitVec.ofInt 32 (a : Int)).toNat = a := by
  rw [BitVec.ofInt_natCast, BitVec.toNat_ofNat]; exact Nat.mod_eq_of_lt (by omega)
theorem i64_or_nat (a b : Nat) (ha : a < 4611686018427387904) (hb : b < 4611686018427387904) : bits .or .i64 (a : Int) (b : Int) = ((a ||| b : Nat) : Int) := by
  have hx : a ||| b < 2 ^ 62 := Nat.or_lt_two_pow (by omega) (by omega)
  show IntKind.i64.wrap ((BitVec.ofInt 64 (a : Int) ||| BitVec.ofInt 64 (b : Int)).toNat : Int) = _
  rw [BitVec.toNat_or, ofInt_64 a (by omega), ofInt_64 b (by omega), IntKind.wrap_i64]
  omega
theorem i32_or_nat (a b : Nat) (ha : a < 1073741824) (hb : b < 1073741824) : bits .or .i32 (a : Int) (b : Int) = ((a ||| b : Nat) : Int) := by
  have hx : a ||| b < 2 ^ 30 := Nat.or_lt_two_pow (by omega) (by omega)
  show IntKind.i32.wrap ((BitVec.ofInt 32 (a : Int) ||| BitVec.ofInt 32 (b : Int)).toNat : Int) = _
  rw [BitVec.toNat_or, ofInt_32 a (by omega), ofInt_32 b (by omega)]
  have h32 : (2 : Int) ^ IntKind.i32.bits = 4294967296 := rfl
  have h31 : (2 : Int) ^ (IntKind.i32.bits - 1) = 2147483648 := rfl
  have hsg : IntKind.i32.signed = true := rfl
  simp only [IntKind.wrap, h32, h31, hsg, Bool.true_and, decide_eq_true_eq]
  rw [if_neg (by omega)]
  omega
theorem or_i64 (x y : Int) (i : Nat) (hx0 : 0 ≤ x) (hx1 : x < 4611686018427387904) (hy0 : 0 ≤ y) (hy1 : y < 4611686018427387904) (hm : x.toNat % 2 ^ i = 0) (hy : y.toNat < 2 ^ i) : bits .or .i64 x y = x + y := by
  obtain ⟨a, rfl⟩ := Int.eq_ofNat_of_zero_le hx0
  obtain ⟨b, rfl⟩ := Int.eq_ofNat_of_zero_le hy0
  rw [i64_or_nat a b (by omega) (by omega), nat_join i a b (by simpa using hm) (by simpa using hy)]
  omega
theorem or_i32 (x y : Int) (i : Nat) (hx0 : 0 ≤ x) (hx1 : x < 1073741824) (hy0 : 0 ≤ y) (hy1 : y < 1073741824) (hm : x.toNat % 2 ^ i = 0) (hy : y.toNat < 2 ^ i) : bits .or .i32 x y = x + y := by
  obtain ⟨a, rfl⟩ := Int.eq_ofNat_of_zero_le hx0
  obtain ⟨b, rfl⟩ := Int.eq_ofNat_of_zero_le hy0
  rw [i32_or_nat a b (by omega) (by omega), nat_join i a b (by simpa using hm) (by simpa using hy)]
  omega
theorem a63_all : ∀ x : Fin 256, bits .and .u8 (x.val : Int) 63 = (x.val : Int) % 64 := by decide +kernel
theorem a192_all : ∀ x : Fin 256, (bits .and .u8 (x.val : Int) 192 == 128) = cont (x.val : Int) := by decide +kernel
theorem a7_all : ∀ x : Fin 256, bits .and .i64 (x.val : Int) 7 = (x.val : Int) % 8 := by decide +kernel
theorem a15_all : ∀ x : Fin 256, bits .and .i64 (x.val : Int) 15 = (x.val : Int) % 16 := by decide +kernel
theorem a31_all : ∀ x : Fin 256, bits .and .i64 (x.val : Int) 31 = (x.val : Int) % 32 := by decide +kernel
theorem b7_all : ∀ x : Fin 256, bits .and .i32 (x.val : Int) 7 = (x.val : Int) % 8 := by decide +kernel
theorem b15_all : ∀ x : Fin 256, bits .and .i32 (x.val : Int) 15 = (x.val : Int) % 16 := by decide +kernel
theorem b31_all : ∀ x : Fin 256, bits .and .i32 (x.val : Int) 31 = (x.val : Int) % 32 := by decide +kernel
theorem of_fin {p : Int → Prop} (h : ∀ x : Fin 256, p (x.val : Int)) (x : Int) (h0 : 0 ≤ x) (h1 : x ≤ 255) : p x := by
  have := h ⟨x.toNat, by omega⟩
  simpa only [Int.toNat_of_nonneg h0] using this
theorem a63 (x : Int) (h0 : 0 ≤ x) (h1 : x ≤ 255) : bits .and .u8 x 63 = x % 64 := of_fin (p := fun x => bits .and .u8 x 63 = x % 64) a63_all x h0 h1
theorem a192 (x : Int) (h0 : 0 ≤ x) (h1 : x ≤ 255) : (bits .and .u8 x 192 == 128) = cont x := of_fin (p := fun x => (bits .and .u8 x 192 == 128) = cont x) a192_all x h0 h1
theorem a7 (x : Int) (h0 : 0 ≤ x) (h1 : x ≤ 255) : bits .and .i64 x 7 = x % 8 := of_fin (p := fun x => bits .and .i64 x 7 = x % 8) a7_all x h0 h1
theorem a15 (x : Int) (h0 : 0 ≤ x) (h1 : x ≤ 255) : bits .and .i64 x 15 = x % 16 := of_fin (p := fun x => bits .and .i64 x 15 = x % 16) a15_all x h0 h1
theorem a31 (x : Int) (h0 : 0 ≤ x) (h1 : x ≤ 255) : bits .and .i64 x 31 = x % 32 := of_fin (p := fun x => bits .and .i64 x 31 = x % 32) a31_all x h0 h1
theorem b7 (x : Int) (h0 : 0 ≤ x) (h1 : x ≤ 255) : bits .and .i32 x 7 = x % 8 := of_fin (p := fun x => bits .and .i32 x 7 = x % 8) b7_all x h0 h1
theorem b15 (x : Int) (h0 : 0 ≤ x) (h1 : x ≤ 255) : bits .and .i32 x 15 = x % 16 := of_fin (p := fun x => bits .and .i32 x 15 = x % 16) b15_all x h0 h1
theorem b31 (x : Int) (h0 : 0 ≤ x) (h1 : x ≤ 255) : bits .and .i32 x 31 = x % 32 := of_fin (p := fun x => bits .and .i32 x 31 = x % 32) b31_all x h0 h1
end Go.Proofs.YtmmhdhpocjnlbaaGreatDoor
