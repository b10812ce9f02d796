/- Proved here: lists of messages that may be, by all pairs; what is filtered out of one may be; topics. Helpers that name no program's function. -/
import Derived.Test.YtknbgnoahfeigaaGreatDoorZMSrch
namespace Go.Proofs.YtknbgnoahfeigaaGreatDoor.M
open Go.RowKit

abbrev PW (l : List Mg) : Prop := l.Pairwise (fun a b => cmpB a.topic b.topic < 0)
theorem getD_get (l : List Mg) (i : Nat) (h : i < l.length) : l.getD i mg0 = l[i] := by rw [List.getD_eq_getElem?_getD, List.getElem?_eq_getElem h]; rfl
theorem may_nm {l : List Mg} (h : mayL l) : ∀ m ∈ l, nm m = true := by
  intro m hm
  obtain ⟨i, hi, rfl⟩ := List.getElem_of_mem hm
  have := h i hi
  unfold okAt at this
  simp only [Bool.and_eq_true] at this
  rw [getD_get l i hi] at this
  exact this.1
theorem may_pw {l : List Mg} (h : mayL l) : PW l := by
  show List.Pairwise _ _
  rw [List.pairwise_iff_getElem]
  intro i j hi hj hij
  have := may_lt h (j - i - 1) i (by omega)
  rw [show i + (j - i - 1) + 1 = j from by omega, getD_get l i hi, getD_get l j hj] at this
  exact this
theorem may_of {l : List Mg} (h1 : ∀ m ∈ l, nm m = true) (h2 : PW l) : mayL l := by
  intro i hi
  unfold okAt
  simp only [Bool.and_eq_true, Bool.or_eq_true, decide_eq_true_eq]
  refine ⟨?_, ?_⟩
  · rw [getD_get l i hi]
    exact h1 _ (List.getElem_mem hi)
  · by_cases h0 : i = 0
    · exact .inl h0
    · right
      rw [getD_get l i hi, getD_get l (i - 1) (by omega)]
      exact List.pairwise_iff_getElem.1 h2 (i - 1) i (by omega) hi (by omega)
theorem may_filter {l : List Mg} (h : mayL l) (p : Mg → Bool) : mayL (l.filter p) :=
  may_of (fun m hm => may_nm h m (List.mem_filter.1 hm).1) ((may_pw h).filter p)
theorem len_filter (l : List Mg) (p : Mg → Bool) : (l.filter p).length ≤ l.length := List.length_filter_le p l
end Go.Proofs.YtknbgnoahfeigaaGreatDoor.M
