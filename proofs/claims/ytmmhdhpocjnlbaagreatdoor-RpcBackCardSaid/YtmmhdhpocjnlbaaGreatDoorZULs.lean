/- Proved here: contracts of slices.Index, Contains, IndexFunc, ContainsFunc at numbers, of the page's In, Rising and Members, of quorum's most, below, within, apart. Helper contracts. -/
import Derived.Test.YtmmhdhpocjnlbaaGreatDoorZUPl
import Derived.Test.YtmmhdhpocjnlbaaGreatDoorZNFr
namespace Go.Proofs.YtmmhdhpocjnlbaaGreatDoor.Qu
open Go.RowKit Nt
set_option maxRecDepth 100000

/-- a list of numbers in memory, as a slice of n that may hold cap -/
def Ls (w : World) (ao : Option Addr) (n cap : Nat) (l : List Int) : Prop := l.length = n ∧ n ≤ cap ∧ (cap ≤ maxLen ∧ (ao = none → cap = 0)) ∧ n ≤ 17592186043904 ∧ (n = 0 ∨ ∃ b off, ao = some ⟨b, off, none⟩ ∧ ∀ j, j < l.length → w.cell? ⟨b, off + j, none⟩ = some (.int .i64 (l.getD j 0)))
theorem Ls.below {w w' : World} {ao : Option Addr} {n cap : Nat} {l : List Int} (h : Ls w ao n cap l) (hb : Below w.heap.size w w') : Ls w' ao n cap l := by
  obtain ⟨h1, h2, h3, h4, h5⟩ := h
  refine ⟨h1, h2, h3, h4, ?_⟩
  rcases h5 with h5 | ⟨b, off, e, hc⟩
  · exact .inl h5
  · exact .inr ⟨b, off, e, fun j hj => (hb.cell (p := ⟨b, off + j, none⟩) (cell_lt (hc j hj))).trans (hc j hj)⟩
theorem Ls.drewN {w : World} {ao : Option Addr} {n cap : Nat} {l : List Int} (h : Ls w ao n cap l) (q : Nat) : Ls (w.drewN q) ao n cap l := h
theorem Ls.nil (w : World) : Ls w none 0 0 [] := ⟨rfl, Nat.le_refl _, ⟨by decide, fun _ => rfl⟩, by decide, .inl rfl⟩
theorem Ls.at {w : World} {ao : Option Addr} {n cap : Nat} {l : List Int} (h : Ls w ao n cap l) {k : Nat} (hk : k < n) : ∃ b off, ao = some ⟨b, off, none⟩ ∧ w.cell? ⟨b, off + k, none⟩ = some (.int .i64 (l.getD k 0)) := by
  obtain ⟨h1, _, _, _, h5⟩ := h
  rcases h5 with h5 | ⟨b, off, e, hc⟩
  · omega
  · exact ⟨b, off, e, hc k (by omega)⟩
theorem Ls.zero {w w' : World} {ao : Option Addr} {n cap : Nat} {l : List Int} (h : Ls w ao n cap l) (h0 : n = 0) : Ls w' ao n cap l := ⟨h.1, h.2.1, h.2.2.1, h.2.2.2.1, .inl h0⟩
theorem ret_bool {a b : Bool} (h : a = b) : Ending.returned (.bool a) = .returned (.bool b) := by rw [h]
theorem not_mem_upto {l : List Int} {x : Int} (h : ∀ j, j < l.length → l.getD j 0 ≠ x) : x ∉ l := by
  intro hx
  obtain ⟨k, hk, rfl⟩ := List.mem_iff_getElem.1 hx
  refine h k hk ?_
  rw [List.getD_eq_getElem?_getD, List.getElem?_eq_getElem hk]; rfl
theorem mem_getD {l : List Int} {k : Nat} (h : k < l.length) : l.getD k 0 ∈ l := by
  rw [List.getD_eq_getElem?_getD, List.getElem?_eq_getElem h]
  exact List.getElem_mem h
/-- where x stands in l, or -1 -/
def AtL (l : List Int) (x z : Int) : Prop := (x ∈ l ∧ 0 ≤ z ∧ z ≤ 17592186043904) ∨ (x ∉ l ∧ z = -1)
theorem upto_step {l : List Int} {x : Int} {k : Nat} (h : ∀ j, j < k → l.getD j 0 ≠ x) (h2 : l.getD k 0 ≠ x) : ∀ j, j < k + 1 → l.getD j 0 ≠ x := fun j hj => by
  rcases Nat.lt_succ_iff_lt_or_eq.1 hj with h3 | h3
  · exact h j h3
  · rw [h3]; exact h2
/-- the last one ahead is what the loop remembers -/
theorem ahd_succ (m : List Int) (k : Nat) : ahd m (k + 1) = m.getD k 0 := by unfold ahd; rw [if_neg (by omega), Nat.add_sub_cancel]
theorem ahd_zero (m : List Int) : ahd m 0 = 0 := rfl
theorem upto_all {l : List Int} {p : Int → Prop} (h : ∀ j, j < l.length → p (l.getD j 0)) : ∀ x ∈ l, p x := by
  intro x hx
  obtain ⟨k, hk, rfl⟩ := List.mem_iff_getElem.1 hx
  have := h k hk
  rw [List.getD_eq_getElem?_getD, List.getElem?_eq_getElem hk] at this
  exact this
theorem upto_snoc {l : List Int} {p : Int → Prop} {k : Nat} (h : ∀ j, j < k → p (l.getD j 0)) (h2 : p (l.getD k 0)) : ∀ j, j < k + 1 → p (l.getD j 0) := fun j hj => by
  rcases Nat.lt_succ_iff_lt_or_eq.1 hj with h3 | h3
  · exact h j h3
  · rw [h3]; exact h2
/-- what apart tells -/
def aptB (a b : List Int) : Bool := (decide (b.length = a.length + 1) && allIn a b) || (decide (a.length = b.length + 1) && allIn b a)
end Go.Proofs.YtmmhdhpocjnlbaaGreatDoor.Qu
