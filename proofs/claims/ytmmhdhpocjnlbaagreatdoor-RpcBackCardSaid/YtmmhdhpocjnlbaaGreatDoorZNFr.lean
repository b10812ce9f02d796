/- Proved here: frames: nothing that was there has turned but the blocks that are named; rows of one's own behind a frame. Helper laws. -/
import Derived.Test.YtmmhdhpocjnlbaaGreatDoorZBase
import Derived.Test.YtmmhdhpocjnlbaaGreatDoorProg
import Derived.Laws.AppendOwnNone
import Derived.Deep.RegionHeld3
import Derived.Deep.AppendLies
import Derived.Laws.StructEq
import Derived.Handy
namespace Go.Proofs.YtmmhdhpocjnlbaaGreatDoor.Nt
open Go.RowKit
set_option maxRecDepth 100000

/-- nothing that was there has turned but what F names -/
structure Fr (F : Nat → Prop) (w w' : World) : Prop where
  os : w'.os = w.os
  tape : w'.tape = w.tape
  output : w'.output = w.output
  size : w.heap.size ≤ w'.heap.size
  block : ∀ k, k < w.heap.size → ¬ F k → w'.heap[k]? = w.heap[k]?
theorem Fr.refl (F : Nat → Prop) (w : World) : Fr F w w := ⟨rfl, rfl, rfl, Nat.le_refl _, fun _ _ _ => rfl⟩
theorem Fr.trans {F : Nat → Prop} {a b c : World} (h : Fr F a b) (k : Fr F b c) : Fr F a c :=
  ⟨k.os.trans h.os, k.tape.trans h.tape, k.output.trans h.output, Nat.le_trans h.size k.size, fun i hi hF => (k.block i (Nat.lt_of_lt_of_le hi h.size) hF).trans (h.block i hi hF)⟩
/-- .. the second one may turn what is new -/
theorem Fr.trans' {F G : Nat → Prop} {a b c : World} (h : Fr F a b) (k : Fr G b c) (hG : ∀ i, i < a.heap.size → G i → F i) : Fr F a c :=
  ⟨k.os.trans h.os, k.tape.trans h.tape, k.output.trans h.output, Nat.le_trans h.size k.size, fun i hi hF => (k.block i (Nat.lt_of_lt_of_le hi h.size) (fun e => hF (hG i hi e))).trans (h.block i hi hF)⟩
theorem Fr.of_below {F : Nat → Prop} {a b : World} (h : Below a.heap.size a b) : Fr F a b := ⟨h.os, h.tape, h.output, h.size, fun k hk _ => h.block k hk⟩
theorem Fr.of_grown {F : Nat → Prop} {a b : World} {row : Option Nat} (h : a.grownBy b row) (hF : ∀ g, row = some g → F g) : Fr F a b := ⟨h.os, h.tape, h.output, h.size, fun k hk hn => h.block k hk (fun e => hn (hF k e.symm))⟩
theorem Fr.mono {F G : Nat → Prop} {a b : World} (h : Fr F a b) (hFG : ∀ k, k < a.heap.size → F k → G k) : Fr G a b := ⟨h.os, h.tape, h.output, h.size, fun k hk hn => h.block k hk (fun e => hn (hFG k hk e))⟩
theorem Fr.alloc (F : Nat → Prop) (w : World) (o : Obj) : Fr F w (w.alloc o) := Fr.of_below ((Below.refl _ _).alloc (Nat.le_refl _) _)
theorem Fr.drewN (F : Nat → Prop) (w : World) (n : Nat) : Fr F w (w.drewN n) := ⟨rfl, rfl, rfl, Nat.le_refl _, fun _ _ _ => rfl⟩
/-- where nothing that was there may turn -/
theorem Fr.below {F : Nat → Prop} {B : Nat} {a b : World} (h : Fr F a b) (hF : ∀ k, F k → B ≤ k) (hB : B ≤ a.heap.size) : Below B a b := ⟨h.os, h.tape, h.output, h.size, fun k hk => h.block k (Nat.lt_of_lt_of_le hk hB) (fun e => by have := hF k e; omega)⟩
theorem Fr.cell {F : Nat → Prop} {a b : World} (h : Fr F a b) {d : Nat} (hd : ¬ F d) {j : Nat} {v : Value} (hc : a.cell? ⟨d, j, none⟩ = some v) : b.cell? ⟨d, j, none⟩ = some v := by
  have e := h.block d (cell_lt hc) hd
  rw [← hc]
  simp only [World.cell?, e]
theorem cell_of {w : World} {d : Nat} {cs : Array Value} {t : TypeId} (h : w.heap[d]? = some (.cells cs t (0, 0))) (j : Nat) : w.cell? ⟨d, j, none⟩ = cs[j]? := by
  simp [World.cell?, h]
theorem frozen_of {w : World} {d : Nat} {cs : Array Value} {t : TypeId} (h : w.heap[d]? = some (.cells cs t (0, 0))) (j : Nat) : w.frozen? ⟨d, j, none⟩ = false := by
  simp [World.frozen?, h]
theorem set_heap {w : World} {d : Nat} {cs : Array Value} {t : TypeId} (h : w.heap[d]? = some (.cells cs t (0, 0))) (j : Nat) (v : Value) (hj : j < cs.size) : (w.setCell ⟨d, j, none⟩ v).heap[d]? = some (.cells (cs.set j v hj) t (0, 0)) := by
  show (w.heap.modify d _)[d]? = _
  rw [Array.getElem?_modify]
  simp [h, Array.setIfInBounds, hj]
theorem set_fr {w : World} {d j : Nat} {v : Value} {F : Nat → Prop} (hF : F d) : Fr F w (w.setCell ⟨d, j, none⟩ v) := by
  refine ⟨rfl, rfl, rfl, by simp [World.setCell], fun k hk hn => ?_⟩
  have : d ≠ k := fun e => hn (e ▸ hF)
  simp [World.setCell, Array.getElem?_modify, this]

theorem owns_fr {w w' : World} {B : Nat} {e : TypeId} {s : Nat} {v : Value} {n : Nat} {xs : List Value} {F : Nat → Prop} (h : w.ownsRow B e s v n xs) (hf : Fr F w w') (hs : ∀ g, v.ownBlock = some g → ¬ F g) : w'.ownsRow B e s v n xs := by
  refine ⟨h.1, ?_⟩
  rcases h.2 with h1 | ⟨g, cap, cur, hv, hB, hg, rest⟩
  · exact .inl h1
  · exact .inr ⟨g, cap, cur, hv, hB, by rw [hf.block g (Array.getElem?_eq_some_iff.1 hg).1 (hs g (by rw [hv]; rfl))]; exact hg, rest⟩
theorem Fr.bel {F : Nat → Prop} {B : Nat} {z a b : World} (h : Below B z a) (k : Fr F a b) (hF : ∀ i, F i → B ≤ i) (hB : B ≤ a.heap.size) : Below B z b := h.trans (k.below hF hB)
theorem Fr.weak {F G : Nat → Prop} {a b : World} (h : Fr F a b) (hFG : ∀ k, F k → G k) : Fr G a b := h.mono (fun k _ => hFG k)
theorem bnx {w a b : World} (h : Below w.heap.size w a) (h2 : Below a.heap.size a b) : Below w.heap.size w b := h.trans (h2.mono h.size)
theorem owns_blk {w : World} {B : Nat} {e : TypeId} {s : Nat} {v : Value} {n : Nat} {xs : List Value} (h : w.ownsRow B e s v n xs) : ∀ g, v.ownBlock = some g → B ≤ g ∧ g < w.heap.size := fun g hg => by
  rcases h.2 with ⟨e, _⟩ | ⟨g', cap, cur, e, hB, hgg, _⟩
  · rw [e] at hg; cases hg
  · have e' : g' = g := by rw [e] at hg; exact Option.some.inj hg
    subst e'; exact ⟨hB, (Array.getElem?_eq_some_iff.1 hgg).1⟩
theorem owns_slice {w : World} {B : Nat} {e : TypeId} {s : Nat} {v : Value} {n : Nat} {xs : List Value} (h : w.ownsRow B e s v n xs) : ∃ ao cap, v = .slice ao n cap := by
  rcases h.2 with ⟨h1, h2⟩ | ⟨g, cap, cur, hv, rest⟩
  · exact ⟨none, 0, by rw [h1, h2]⟩
  · exact ⟨_, cap, hv⟩
theorem cell_new (w : World) (cs : Array Value) (t : TypeId) (k j : Nat) (v : Value) (h : cs[j]? = some v) (e : k = w.heap.size) : (w.alloc (.cells cs t)).cell? ⟨k, j, none⟩ = some v := by
  subst e
  simp [h]
theorem frz_new (w : World) (cs : Array Value) (t : TypeId) (k j : Nat) (e : k = w.heap.size) : (w.alloc (.cells cs t)).frozen? ⟨k, j, none⟩ = false := by
  subst e
  simp
theorem frz_old (w : World) (o : Obj) (k j : Nat) (e : k < w.heap.size) (h : w.frozen? ⟨k, j, none⟩ = false) : (w.alloc o).frozen? ⟨k, j, none⟩ = false := (World.frozen?_alloc_old _ _ _ (Nat.ne_of_lt e)).trans h
end Go.Proofs.YtmmhdhpocjnlbaaGreatDoor.Nt
