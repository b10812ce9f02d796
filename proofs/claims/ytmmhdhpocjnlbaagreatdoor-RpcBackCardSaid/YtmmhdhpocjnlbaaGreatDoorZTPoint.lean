/- Proved here: what text.sizeByFirst, least, mayBe and point tell. Helper contracts. -/
import Derived.Test.YtmmhdhpocjnlbaaGreatDoorProg
import Derived.Test.YtmmhdhpocjnlbaaGreatDoorZTBits
namespace Go.Proofs.YtmmhdhpocjnlbaaGreatDoor
open Go.RowKit

def szf (c : Int) : Int := if c < 128 then 1 else if c < 192 then 0 else if c < 224 then 2 else if c < 240 then 3 else if c < 248 then 4 else 0
theorem ret_int {k : IntKind} {a b : Int} (h : a = b) : Ending.returned (.int k a) = .returned (.int k b) := by rw [h]
theorem ret_bool {a b : Bool} (h : a = b) : Ending.returned (.bool a) = .returned (.bool b) := by rw [h]
theorem w32 (x : Int) (h0 : 0 ≤ x) (h1 : x < 2147483648) : wrap32 x = x := by unfold wrap32; omega
theorem p2_eq (a b : Int) (a0 : 0 ≤ a) (a1 : a ≤ 255) (b0 : 0 ≤ b) (b1 : b ≤ 255) : bits .or .i32 (wrap32 (bits .and .i32 (wrap32 a) 31 * 64)) (wrap32 (bits .and .u8 b 63)) = pv2 a b := by
  rw [w32 a (by omega) (by omega), b31 a a0 a1, a63 b b0 b1, w32 (a % 32 * 64) (by omega) (by omega), w32 (b % 64) (by omega) (by omega), or_i32 _ _ 6 (by omega) (by omega) (by omega) (by omega) (by omega) (by omega)]
  rfl
theorem p3_eq (a b c : Int) (a0 : 0 ≤ a) (a1 : a ≤ 255) (b0 : 0 ≤ b) (b1 : b ≤ 255) (c0 : 0 ≤ c) (c1 : c ≤ 255) : bits .or .i32 (wrap32 (bits .or .i32 (wrap32 (bits .and .i32 (wrap32 a) 15 * 64)) (wrap32 (bits .and .u8 b 63)) * 64)) (wrap32 (bits .and .u8 c 63)) = pv3 a b c := by
  rw [w32 a (by omega) (by omega), b15 a a0 a1, a63 b b0 b1, a63 c c0 c1, w32 (a % 16 * 64) (by omega) (by omega), w32 (b % 64) (by omega) (by omega), w32 (c % 64) (by omega) (by omega),
    or_i32 (a % 16 * 64) (b % 64) 6 (by omega) (by omega) (by omega) (by omega) (by omega) (by omega), w32 ((a % 16 * 64 + b % 64) * 64) (by omega) (by omega), or_i32 _ (c % 64) 6 (by omega) (by omega) (by omega) (by omega) (by omega) (by omega)]
  rfl
theorem p4_eq (a b c d : Int) (a0 : 0 ≤ a) (a1 : a ≤ 255) (b0 : 0 ≤ b) (b1 : b ≤ 255) (c0 : 0 ≤ c) (c1 : c ≤ 255) (d0 : 0 ≤ d) (d1 : d ≤ 255) : bits .or .i32 (wrap32 (bits .or .i32 (wrap32 (bits .or .i32 (wrap32 (bits .and .i32 (wrap32 a) 7 * 64)) (wrap32 (bits .and .u8 b 63)) * 64)) (wrap32 (bits .and .u8 c 63)) * 64)) (wrap32 (bits .and .u8 d 63)) = pv4 a b c d := by
  rw [w32 a (by omega) (by omega), b7 a a0 a1, a63 b b0 b1, a63 c c0 c1, a63 d d0 d1, w32 (a % 8 * 64) (by omega) (by omega), w32 (b % 64) (by omega) (by omega), w32 (c % 64) (by omega) (by omega), w32 (d % 64) (by omega) (by omega),
    or_i32 (a % 8 * 64) (b % 64) 6 (by omega) (by omega) (by omega) (by omega) (by omega) (by omega), w32 ((a % 8 * 64 + b % 64) * 64) (by omega) (by omega), or_i32 _ (c % 64) 6 (by omega) (by omega) (by omega) (by omega) (by omega) (by omega),
    w32 (((a % 8 * 64 + b % 64) * 64 + c % 64) * 64) (by omega) (by omega), or_i32 _ (d % 64) 6 (by omega) (by omega) (by omega) (by omega) (by omega) (by omega)]
  rfl
theorem u8_le (b : UInt8) : 0 ≤ (b.toNat : Int) ∧ (b.toNat : Int) ≤ 255 := ⟨by omega, by have := b.toNat_lt; omega⟩
end Go.Proofs.YtmmhdhpocjnlbaaGreatDoor
