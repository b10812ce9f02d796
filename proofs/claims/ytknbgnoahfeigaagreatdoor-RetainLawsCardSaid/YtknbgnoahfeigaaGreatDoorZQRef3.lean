/- Proved here: the contract of the page's Match. Helper contract. -/
import Derived.Test.YtknbgnoahfeigaaGreatDoorZQRef2
namespace Go.Proofs.YtknbgnoahfeigaaGreatDoor
open Go.RowKit

theorem pre36 (l : List UInt8) (h : l ≠ []) : Lib.hasPrefix ((lvl l).headD []) [36] = decide (l.getD 0 0 = 36) := by
  cases l with
  | nil => exact absurd rfl h
  | cons c r =>
    unfold lvl
    by_cases hc : c = 47
    · rw [if_pos hc, hc]; rfl
    · rw [if_neg hc]
      have : ∀ x : List UInt8, Lib.hasPrefix (c :: x) [36] = decide (c = 36) := fun x => by
        unfold Lib.hasPrefix
        simp only [List.isPrefixOf, Bool.and_true]
        rw [Bool.eq_iff_iff, beq_iff_eq, decide_eq_true_eq]; exact ⟨fun e => e.symm, fun e => e.symm⟩
      split
      · exact this _
      · exact this _
end Go.Proofs.YtknbgnoahfeigaaGreatDoor
