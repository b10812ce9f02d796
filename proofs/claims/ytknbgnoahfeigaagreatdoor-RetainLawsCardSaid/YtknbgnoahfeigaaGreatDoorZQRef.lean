/- Proved here: contracts of the page's has and Levels. Helper contracts. -/
import Derived.Test.YtknbgnoahfeigaaGreatDoorZQTop3
import Derived.Test.YtknbgnoahfeigaaGreatDoorZTRefText
import Derived.Laws.AppendOwnNone
namespace Go.Proofs.YtknbgnoahfeigaaGreatDoor
open Go.RowKit

/-- how the page's loop over the levels goes -/
def LvInv (D : List UInt8) (sz k fr : Nat) (done : List (List UInt8)) : Prop :=
  (k ≤ sz ∧ fr ≤ k ∧ lvl D = done ++ lvl (D.drop fr) ∧ 47 ∉ (D.drop fr).take (k - fr)) ∨ (k = sz + 1 ∧ lvl D = done)
theorem drop_cut (D : List UInt8) (fr k : Nat) (h1 : fr ≤ k) (h2 : k < D.length) : D.drop fr = (D.drop fr).take (k - fr) ++ D[k] :: D.drop (k + 1) := by
  have e : (D.drop fr).drop (k - fr) = D.drop k := by rw [List.drop_drop]; congr 1; omega
  have e2 : D.drop k = D[k] :: D.drop (k + 1) := List.drop_eq_getElem_cons h2
  rw [← e2, ← e, List.take_append_drop]
theorem LvInv.cut {D : List UInt8} {k fr : Nat} {done : List (List UInt8)} (h : LvInv D D.length k fr done) (hk : k < D.length) (he : D[k] = 47) : LvInv D D.length (k + 1) (k + 1) (done ++ [(D.drop fr).take (k - fr)]) := by
  rcases h with ⟨h1, h2, h3, h4⟩ | ⟨h1, _⟩
  · refine .inl ⟨by omega, by omega, ?_, by simp⟩
    rw [h3]
    have e := drop_cut D fr k h2 hk
    rw [he] at e
    rw [e, lvl_cut _ _ h4]
    have e2 : k - fr = ((D.drop fr).take (k - fr)).length := by rw [List.length_take, List.length_drop]; omega
    rw [List.take_append_of_le_length (by omega), List.take_take, Nat.min_self, List.append_assoc]
    rfl
  · omega
theorem LvInv.last {D : List UInt8} {fr : Nat} {done : List (List UInt8)} (h : LvInv D D.length D.length fr done) : LvInv D D.length (D.length + 1) (D.length + 1) (done ++ [(D.drop fr).take (D.length - fr)]) := by
  rcases h with ⟨h1, h2, h3, h4⟩ | ⟨h1, _⟩
  · refine .inr ⟨rfl, ?_⟩
    have e : (D.drop fr).take (D.length - fr) = D.drop fr := List.take_of_length_le (by rw [List.length_drop]; exact Nat.le_refl _)
    rw [e] at h4 ⊢
    rw [h3, lvl_none _ h4]
  · omega
end Go.Proofs.YtknbgnoahfeigaaGreatDoor
