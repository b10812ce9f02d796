/- Proved here: varint.sizeOf tells how many groups of seven bits a number from 0 to 268435455 takes. Helper contracts. -/
import Derived.Test.YtpfpollejhdbgaaDoorProg
import Derived.Test.YtpfpollejhdbgaaDoorBase
import Derived.Lib.BitFns
import Derived.Lib.Walk
namespace Go.Proofs.YtpfpollejhdbgaaDoor.V
open Go.RowKit
set_option maxRecDepth 100000

/-- how many groups -/
def sz (n : Int) : Int := if n < 128 then 1 else if n < 16384 then 2 else if n < 2097152 then 3 else 4

theorem bitLen_ge (k x : Nat) (h : 2 ^ k ≤ x) (hx : x < 2 ^ 64) : k + 1 ≤ Lib.bitLen x := by
  rw [Lib.bitLen_shift k x h hx]
  have h1 : x / 2 ^ k ≠ 0 := by
    have := Nat.div_pos h (Nat.two_pow_pos k); omega
  rw [Lib.bitLen_half _ h1 (Nat.lt_of_le_of_lt (Nat.div_le_self _ _) hx)]
  omega

theorem sz_of (n : Int) (h0 : 0 ≤ n) (h1 : n ≤ 268435455) : max 1 ((Lib.bitLen n.toNat + 6 : Int) / 7) = sz n := by
  unfold sz
  obtain ⟨m, rfl⟩ := Int.eq_ofNat_of_zero_le h0
  rw [Int.toNat_natCast]
  have hx : m < 2 ^ 64 := by omega
  by_cases a : m < 128
  · have := Lib.bitLen_le m 7 (by omega) a
    rw [if_pos (show (m : Int) < 128 by omega)]
    omega
  · by_cases b : m < 16384
    · have l := bitLen_ge 7 m (by omega) hx
      have u := Lib.bitLen_le m 14 (by omega) b
      rw [if_neg (show ¬ (m : Int) < 128 by omega), if_pos (show (m : Int) < 16384 by omega)]
      omega
    · by_cases c : m < 2097152
      · have l := bitLen_ge 14 m (by omega) hx
        have u := Lib.bitLen_le m 21 (by omega) c
        rw [if_neg (show ¬ (m : Int) < 128 by omega), if_neg (show ¬ (m : Int) < 16384 by omega), if_pos (show (m : Int) < 2097152 by omega)]
        omega
      · have l := bitLen_ge 21 m (by omega) hx
        have u := Lib.bitLen_le m 28 (by omega) (by omega)
        rw [if_neg (show ¬ (m : Int) < 128 by omega), if_neg (show ¬ (m : Int) < 16384 by omega), if_neg (show ¬ (m : Int) < 2097152 by omega)]
        omega

set_option maxHeartbeats 4000000 in
set_option maxRecDepth 100000 in
theorem len64_any (x : Int) (w : World) (h0 : 0 ≤ x) (h1 : x ≤ 268435455) :
    Calls Tryd.prog 75 #[.int .u64 x] w fun e w' => e = .returned (.int .i64 (Lib.bitLen x.toNat)) ∧ w' = w := by
  have t9 := Tryd.underlying9
  by_cases a : x ≤ 255
  · have l := Lib.bitLen_le8' x h0 a
    go_enter Tryd.func75, Tryd.ntmps75
    go_wp2
    go_ret
    refine ⟨congrArg Ending.returned (congrArg (Value.int IntKind.i64) ?_), rfl⟩
    rw [Lib.len8_of x h0 a]
    simp only [wrap64]
    omega
  · by_cases b : x ≤ 65535
    · have c0 : 0 ≤ x / 256 := by omega
      have c1 : x / 256 ≤ 255 := by omega
      have l := Lib.bitLen_le8' (x / 256) c0 c1
      have s := Lib.bitLen_shift8 x.toNat (by omega) (by omega)
      have S := hide s
      clear s
      go_enter Tryd.func75, Tryd.ntmps75
      go_wp2
      go_ret
      refine ⟨congrArg Ending.returned (congrArg (Value.int IntKind.i64) ?_), rfl⟩
      rw [Lib.len8_of (x / 256) c0 c1, unhide S, show (x / 256).toNat = x.toNat / 256 from by omega]
      rw [show (x / 256).toNat = x.toNat / 256 from by omega] at l
      simp only [wrap64]
      omega
    · by_cases c : x ≤ 16777215
      · have c0 : 0 ≤ x / 65536 := by omega
        have c1 : x / 65536 ≤ 255 := by omega
        have l := Lib.bitLen_le8' (x / 65536) c0 c1
        have s := Lib.bitLen_shift16 x.toNat (by omega) (by omega)
        have S := hide s
        clear s
        go_enter Tryd.func75, Tryd.ntmps75
        go_wp2
        go_ret
        refine ⟨congrArg Ending.returned (congrArg (Value.int IntKind.i64) ?_), rfl⟩
        rw [Lib.len8_of (x / 65536) c0 c1, unhide S, show (x / 65536).toNat = x.toNat / 65536 from by omega]
        rw [show (x / 65536).toNat = x.toNat / 65536 from by omega] at l
        simp only [wrap64]
        omega
      · have c0 : 0 ≤ x / 65536 / 256 := by omega
        have c1 : x / 65536 / 256 ≤ 255 := by omega
        have l := Lib.bitLen_le8' (x / 65536 / 256) c0 c1
        have s := Lib.bitLen_shift24 x.toNat (by omega) (by omega)
        have S := hide s
        clear s
        go_enter Tryd.func75, Tryd.ntmps75
        go_wp2
        go_ret
        refine ⟨congrArg Ending.returned (congrArg (Value.int IntKind.i64) ?_), rfl⟩
        rw [Lib.len8_of (x / 65536 / 256) c0 c1, unhide S, show (x / 65536 / 256).toNat = x.toNat / 16777216 from by omega]
        rw [show (x / 65536 / 256).toNat = x.toNat / 16777216 from by omega] at l
        simp only [wrap64]
        omega

theorem len_any (x : Int) (w : World) (h0 : 0 ≤ x) (h1 : x ≤ 268435455) :
    Calls Tryd.prog 60 #[.int .u64 x] w fun e w' => e = .returned (.int .i64 (Lib.bitLen x.toNat)) ∧ w' = w := by
  go_enter Tryd.func60, Tryd.ntmps60
  go_wp2_with (go_at_call 75; refine (len64_any _ _ h0 h1).mono ?_; rintro e w' ⟨rfl, rfl⟩)
  go_ret
  exact ⟨rfl, rfl⟩

theorem sizeOf_any (n : Int) (w : World) (h0 : 0 ≤ n) (h1 : n ≤ 268435455) :
    Calls Tryd.prog 47 #[.int .i64 n] w fun e w' => e = .returned (.int .i64 (sz n)) ∧ w' = w := by
  have hs := hide (sz_of n h0 h1)
  have hl := Lib.bitLen_le n.toNat 28 (by omega) (by omega)
  go_enter Tryd.func47, Tryd.ntmps47
  go_wp2_with (go_at_call 60; refine (len_any _ _ h0 h1).mono ?_; rintro e w' ⟨rfl, rfl⟩)
  go_ret
  exact ⟨congrArg Ending.returned (congrArg (Value.int IntKind.i64) (unhide hs)), rfl⟩
end Go.Proofs.YtpfpollejhdbgaaDoor.V
