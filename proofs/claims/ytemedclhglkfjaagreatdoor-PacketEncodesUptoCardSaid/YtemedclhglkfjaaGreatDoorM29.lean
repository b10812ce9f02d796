/- Proved here: helpers, one text behind the other. -/
import Derived.Test.YtemedclhglkfjaaGreatDoorM11
import Derived.Test.YtemedclhglkfjaaGreatDoorZErrNum
import Derived.Laws.BitsAllLaws
namespace Go.Proofs.YtemedclhglkfjaaGreatDoor.V
open Go.RowKit
set_option maxRecDepth 100000
theorem ofInt_64 (a : Nat) (ha : a < 18446744073709551616) : (BitVec.ofInt 64 (a : Int)).toNat = a := by
 rw [BitVec.ofInt_natCast,BitVec.toNat_ofNat]; exact Nat.mod_eq_of_lt (by omega)
theorem i64_or_nat (a b : Nat) (ha : a < 4611686018427387904) (hb : b < 4611686018427387904) : bits .or .i64 (a : Int) (b : Int) = ((a ||| b : Nat) : Int) := by
 have hx : a ||| b < 2 ^ 62 := Nat.or_lt_two_pow (by omega) (by omega)
 show IntKind.i64.wrap ((BitVec.ofInt 64 (a : Int) ||| BitVec.ofInt 64 (b : Int)).toNat : Int) = _
 rw [BitVec.toNat_or,ofInt_64 a (by omega),ofInt_64 b (by omega),IntKind.wrap_i64]
 omega
theorem or_lo (i : Nat) (x y : Int) (hx0 : 0 <= x) (hx1 : x < 4611686018427387904) (hy0 : 0 <= y) (hy1 : y < 4611686018427387904) (hm : y.toNat % 2 ^ i = 0) (hx : x.toNat < 2 ^ i) : bits .or .i64 x y = x + y := by
 obtain ⟨a,rfl⟩ := Int.eq_ofNat_of_zero_le hx0
 obtain ⟨b,rfl⟩ := Int.eq_ofNat_of_zero_le hy0
 rw [i64_or_nat a b (by omega) (by omega),Nat.or_comm,nat_join i b a (by simpa using hm) (by simpa using hx)]
 omega
theorem or_zero (y : Int) (hy0 : 0 <= y) (hy1 : y < 4611686018427387904) : bits .or .i64 0 y = y := by
 rw [or_lo 0 0 y (by omega) (by omega) hy0 hy1 (by omega) (by decide)]; omega
end Go.Proofs.YtemedclhglkfjaaGreatDoor.V
namespace Go.Proofs.YtemedclhglkfjaaGreatDoor.V
end Go.Proofs.YtemedclhglkfjaaGreatDoor.V
