/- Proved here: dovecotelaw1.num is dovecotelaw0.Num; dovecotelaw1.wakes tells true. Helper contracts. -/
import Derived.Test.YtecapdonfilkpaaDoorSpoil
import Derived.Test.YtecapdonfilkpaaDoorEq
import Derived.Test.YtecapdonfilkpaaDoorErrNum
namespace Go.Proofs.YtecapdonfilkpaaDoor
open Go.RowKit

theorem numl_any (v : Value) (n : Int) (w : World) (hg : Laid w) (hv : ErrIs w v n) :
    Calls Tryd.prog 7 #[v] w fun e w' => e = .returned (.int .i64 n) ∧ Below w.heap.size w w' := by
  go_enter Tryd.func7, Tryd.ntmps7
  go_wp2_with (go_at_call 17; refine (num_any v n _ hg hv).mono ?_; rintro e w' ⟨rfl, hb⟩)
  go_ret
  exact ⟨rfl, hb⟩
theorem numl_nil (w : World) : Calls Tryd.prog 7 #[.nilIface] w fun e w' => e = .returned (.int .i64 0) ∧ w' = w := by
  go_enter Tryd.func7, Tryd.ntmps7
  go_wp2_with (go_at_call 17; refine (num_nil _).mono ?_; rintro e w' ⟨rfl, rfl⟩)
  go_ret
  exact ⟨rfl, rfl⟩

theorem put_128 (w : World) : Calls Tryd.prog 6 #[.int .i64 128] w fun e w' => e = .returned (.tuple #[.slice (some ⟨w.heap.size, 0, none⟩) 2 2, .nilIface]) ∧ w' = w.alloc (.cells #[.int .u8 128, .int .u8 1] 5) := by
  have h := put_good 128 w (by omega) (by omega)
  have hp : put 128 = [128, 1] := by decide
  unfold PutPost at h
  rw [hp] at h
  exact h

theorem wakes_any (w : World) : Calls Tryd.prog 11 #[] w fun e w' => e = .returned (.bool true) ∧ Below w.heap.size w w' := by
  have ha : Byt ((w.alloc (.cells #[.int .u8 128, .int .u8 1] 5)).alloc (.cells #[.int .u8 128, .int .u8 1] 5)) (.slice (some ⟨w.heap.size, 0, none⟩) 2 2) [128, 1] := by
    refine ⟨_, _, rfl, ⟨by simp, by unfold maxLen; simp⟩, ?_, .inr ⟨_, _, rfl, ?_⟩⟩
    · intro j; rcases j with _ | _ | j <;> simp
    · intro j hj; rcases j with _ | _ | j
      · simp
      · simp
      · simp at hj; omega
  have hb : Byt ((w.alloc (.cells #[.int .u8 128, .int .u8 1] 5)).alloc (.cells #[.int .u8 128, .int .u8 1] 5)) (.slice (some ⟨w.heap.size + 1, 0, none⟩) 2 2) [128, 1] := by
    refine ⟨_, _, rfl, ⟨by simp, by unfold maxLen; simp⟩, ?_, .inr ⟨_, _, rfl, ?_⟩⟩
    · intro j; rcases j with _ | _ | j <;> simp
    · intro j hj; rcases j with _ | _ | j
      · simp
      · simp
      · simp at hj; omega
  have HA := hide ha
  have HB := hide hb
  clear ha hb
  go_enter Tryd.func11, Tryd.ntmps11
  go_wp2_with (first | (go_at_call 6; refine (put_128 _).mono ?_; rintro e w' ⟨rfl, rfl⟩) | (go_at_call 7; refine (numl_nil _).mono ?_; rintro e w' ⟨rfl, rfl⟩) | (go_at_call 8; refine (eq_any _ _ [128, 1] [128, 1] _ (unhide HA) (unhide HB)).mono ?_; rintro e w' ⟨rfl, q, rfl⟩))
  go_ret
  exact ⟨rfl, below_drewN (((Below.refl _ _).alloc (Nat.le_refl _) _).alloc (by simp) _) _⟩
end Go.Proofs.YtecapdonfilkpaaDoor
