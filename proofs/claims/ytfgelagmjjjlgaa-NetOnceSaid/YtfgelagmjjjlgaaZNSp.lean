/- Proved here: dovecotelaw0's Entries and Numbers, handed a row of the caller's own, write into that alone. Helper contracts. -/
import Derived.Test.YtfgelagmjjjlgaaZNCl
namespace Go.Proofs.Ytfgelagmjjjlgaa.Nt
open Go.RowKit
set_option maxRecDepth 100000

/-- blocks of which T says so may hold other cells, as many as before; all other blocks are as they were -/
structure SF (T : Nat → Prop) (w w' : World) : Prop where
  fr : Fr T w w'
  shp : ∀ (k : Nat) (cur : Array Value) (e : TypeId), w.heap[k]? = some (Obj.cells cur e (0, 0)) → ∃ cur', w'.heap[k]? = some (Obj.cells cur' e (0, 0)) ∧ cur'.size = cur.size
theorem SF.refl (T : Nat → Prop) (w : World) : SF T w w := ⟨Fr.refl _ _, fun _ cur _ h => ⟨cur, h, rfl⟩⟩
theorem SF.trans {T : Nat → Prop} {a b c : World} (h : SF T a b) (k : SF T b c) : SF T a c :=
  ⟨h.fr.trans k.fr, fun i cur e h1 => by
    obtain ⟨cur1, h2, h3⟩ := h.shp i cur e h1
    obtain ⟨cur2, h4, h5⟩ := k.shp i cur1 e h2
    exact ⟨cur2, h4, h5.trans h3⟩⟩
theorem SF.weak {T T' : Nat → Prop} {a b : World} (h : SF T a b) (ht : ∀ k, T k → T' k) : SF T' a b := ⟨h.fr.weak ht, h.shp⟩
theorem SF.bel {T : Nat → Prop} {a b : World} (h : Below a.heap.size a b) : SF T a b := ⟨Fr.of_below h, fun k cur _ hk => ⟨cur, (h.block k (Array.getElem?_eq_some_iff.1 hk).1).trans hk, rfl⟩⟩
theorem SF.set {T : Nat → Prop} {a b : World} (h : SF T a b) (g j : Nat) (u : Value) (ht : T g) : SF T a (b.setCell ⟨g, j, none⟩ u) :=
  h.trans ⟨set_fr ht, fun k cur' e' h1 => by
    by_cases hk : k = g
    · subst hk
      refine ⟨cur'.setIfInBounds j u, ?_, by simp⟩
      unfold World.setCell
      simp [Array.getElem?_modify, h1]
    · exact ⟨cur', (Below.heap_setCell _ _ _ _ hk).trans h1, rfl⟩⟩
/-- a row of one's own, whatever it holds -/
def OwnE (w : World) (B : Nat) (e : TypeId) (s : Nat) (v : Value) (n : Nat) : Prop := ∃ xs, w.ownsRow B e s v n xs
theorem OwnE.cell {w : World} {B : Nat} {e : TypeId} {s g n cap : Nat} (h : OwnE w B e s (.slice (some ⟨g, 0, none⟩) n cap) n) (i : Nat) (hi : i < n * s) : (∃ v, w.cell? ⟨g, i, none⟩ = some v) ∧ w.frozen? ⟨g, i, none⟩ = false := by
  obtain ⟨xs, h⟩ := h
  have hl : xs.length = n * s := h.1
  exact ⟨⟨_, by rw [h.cellAt i (by omega), List.getElem?_eq_getElem (by omega)]⟩, h.frozenAt i⟩
theorem OwnE.blk {w : World} {B : Nat} {e : TypeId} {s g n cap : Nat} (h : OwnE w B e s (.slice (some ⟨g, 0, none⟩) n cap) n) : B ≤ g ∧ ∃ cur, w.heap[g]? = some (Obj.cells cur e (0, 0)) := by
  obtain ⟨xs, h1, h2⟩ := h
  rcases h2 with ⟨h2, _⟩ | ⟨g', cap', cur, e', hB, hg, _⟩
  · cases h2
  · cases e'
    exact ⟨hB, cur, hg⟩
end Go.Proofs.Ytfgelagmjjjlgaa.Nt
