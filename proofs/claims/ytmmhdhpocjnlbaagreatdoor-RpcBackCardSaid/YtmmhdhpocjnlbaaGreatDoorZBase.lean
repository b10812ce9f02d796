/- Proved here: small laws on worlds that change nothing below a block (Below), on draws, and on byte slices read from memory; helpers that name no program. -/
import Derived.WalkKit
import Derived.Deep.Draws
import Derived.Deep.QuietTactic
import Derived.BigQuiet
namespace Go.Proofs.YtmmhdhpocjnlbaaGreatDoor
open Go.RowKit

theorem hide {p : Prop} (h : p) : Hid p := h
theorem unhide {p : Prop} (h : Hid p) : p := h
theorem cell_lt {w : World} {a : Addr} {v : Value} (h : w.cell? a = some v) : a.block < w.heap.size := by
  rcases Nat.lt_or_ge a.block w.heap.size with h1 | h1
  · exact h1
  · simp [World.cell?, Array.getElem?_eq_none h1] at h
theorem below_drewN {B : Nat} {a w : World} (h : Below B a w) (n : Nat) : Below B a (w.drewN n) := ⟨h.os, h.tape, h.output, h.size, h.block⟩

theorem drewN_drewN (w : World) (m n : Nat) : (w.drewN m).drewN n = w.drewN (m + n) := by simp [World.drewN, Nat.add_assoc]

/-- what append's law asks of its one new element -/
theorem one_cell (w : World) (z : Value) (t : TypeId) : ∀ j u, [z][j]? = some u → (w.alloc (.cells #[z] t)).cell? ((⟨w.heap.size, 0, none⟩ : Addr).add j) = some u := by
  intro j u hj
  match j, hj with
  | 0, hj => simp at hj; subst hj; simp [Addr.add]
theorem one_one (k : IntKind) (z : Int) : ∀ u ∈ [Value.int k z], u.oneCell' = true := by
  intro u hu; simp at hu; subst hu; rfl

/-- what is a slice of bytes: the value v reads in the world w as the bytes bs (as numbers) -/
def Byt (w : World) (v : Value) (bs : List Int) : Prop :=
  ∃ ao cap, v = .slice ao bs.length cap ∧ (bs.length ≤ cap ∧ cap ≤ maxLen) ∧ (∀ j, 0 ≤ bs.getD j 0 ∧ bs.getD j 0 ≤ 255) ∧ (bs = [] ∨ ∃ b off, ao = some ⟨b, off, none⟩ ∧ ∀ j, j < bs.length → w.cell? ⟨b, off + j, none⟩ = some (.int .u8 (bs.getD j 0)))
theorem Byt.below {w w' : World} {v : Value} {bs : List Int} (h : Byt w v bs) (hb : Below w.heap.size w w') : Byt w' v bs := by
  obtain ⟨ao, cap, h1, h2, h3, h4⟩ := h
  refine ⟨ao, cap, h1, h2, h3, ?_⟩
  rcases h4 with h4 | ⟨b, off, e, hc⟩
  · exact .inl h4
  · exact .inr ⟨b, off, e, fun j hj => by rw [hb.cell (p := ⟨b, off + j, none⟩) (cell_lt (hc j hj))]; exact hc j hj⟩
/-- a row that the call owns stays where nothing below the heap's end turns -/
theorem owns_below {w w' : World} {B : Nat} {e : TypeId} {s : Nat} {v : Value} {n : Nat} {xs : List Value} (h : w.ownsRow B e s v n xs) (hb : Below w.heap.size w w') : w'.ownsRow B e s v n xs := by
  refine ⟨h.1, ?_⟩
  rcases h.2 with h1 | ⟨g, cap, cur, hv, hB, hg, rest⟩
  · exact .inl h1
  · exact .inr ⟨g, cap, cur, hv, hB, by rw [hb.block g (Array.getElem?_eq_some_iff.1 hg).1]; exact hg, rest⟩
theorem owns_mono {w : World} {B B' : Nat} {e : TypeId} {s : Nat} {v : Value} {n : Nat} {xs : List Value} (h : w.ownsRow B e s v n xs) (hB : B' ≤ B) : w.ownsRow B' e s v n xs := by
  refine ⟨h.1, ?_⟩
  rcases h.2 with h1 | ⟨g, cap, cur, hv, hBg, rest⟩
  · exact .inl h1
  · exact .inr ⟨g, cap, cur, hv, Nat.le_trans hB hBg, rest⟩
theorem owns_drewN {w : World} {B : Nat} {e : TypeId} {s : Nat} {v : Value} {n : Nat} {xs : List Value} (h : w.ownsRow B e s v n xs) (q : Nat) : (w.drewN q).ownsRow B e s v n xs := h
theorem byt_of_owns {w : World} {B : Nat} {e : TypeId} {v : Value} {n : Nat} {xs : List Int} (h : w.ownsRow B e 1 v n (xs.map (Value.int .u8))) (hr : ∀ j, 0 ≤ xs.getD j 0 ∧ xs.getD j 0 ≤ 255) : Byt w v xs := by
  have hl : xs.length = n := by simpa using h.1
  rcases h.2 with ⟨rfl, h1⟩ | ⟨g, cap, cur, rfl, hB, hg, hnc, hcm, hcs, htake⟩
  · have : xs = [] := List.length_eq_zero_iff.1 (by omega)
    subst this
    exact ⟨none, 0, rfl, ⟨by simp, by simp⟩, hr, .inl rfl⟩
  · subst hl
    refine ⟨_, cap, rfl, ⟨hnc, hcm⟩, hr, .inr ⟨g, 0, rfl, fun j hj => ?_⟩⟩
    rw [Nat.zero_add, h.cellAt j (by omega), List.getElem?_map, List.getElem?_eq_getElem hj, List.getD_eq_getElem?_getD, List.getElem?_eq_getElem hj]
    rfl
/-- a beginning of bytes -/
theorem Byt.take {w : World} {ao : Option Addr} {n cap : Nat} {bs : List Int} (h : Byt w (.slice ao n cap) bs) (K : Nat) (hK : K ≤ n) : Byt w (.slice ao K cap) (bs.take K) := by
  obtain ⟨ao', cap', e, ⟨h1, h2⟩, hr, hcase⟩ := h
  simp only [Value.slice.injEq] at e
  obtain ⟨rfl, rfl, rfl⟩ := e
  have hl : (bs.take K).length = K := by rw [List.length_take]; omega
  refine ⟨ao, cap, by rw [hl], ⟨by rw [hl]; omega, h2⟩, ?_, ?_⟩
  · intro j
    have := hr j
    by_cases hj : j < K
    · rw [List.getD_eq_getElem?_getD, List.getElem?_take, if_pos hj, ← List.getD_eq_getElem?_getD]; exact this
    · rw [List.getD_eq_getElem?_getD, List.getElem?_take, if_neg hj]; simp
  · rcases hcase with rfl | ⟨b, off, rfl, hc⟩
    · exact .inl (by simp)
    · refine .inr ⟨b, off, rfl, fun j hj => ?_⟩
      rw [hl] at hj
      rw [hc j (by omega), List.getD_eq_getElem?_getD, List.getD_eq_getElem?_getD, List.getElem?_take, if_pos hj]
theorem Byt.range {w : World} {v : Value} {bs : List Int} (h : Byt w v bs) : ∀ j, 0 ≤ bs.getD j 0 ∧ bs.getD j 0 ≤ 255 := by
  obtain ⟨_, _, _, _, hr, _⟩ := h
  exact hr
theorem Byt.form {w : World} {v : Value} {bs : List Int} (h : Byt w v bs) : ∃ ao cap, v = .slice ao bs.length cap ∧ bs.length ≤ cap ∧ cap ≤ maxLen := by
  obtain ⟨ao, cap, e, ⟨h1, h2⟩, _⟩ := h
  exact ⟨ao, cap, e, h1, h2⟩
theorem Byt.form1 {w : World} {v : Value} {bs : List Int} (h : Byt w v bs) (hn : 1 ≤ bs.length) : ∃ b off cap, v = .slice (some ⟨b, off, none⟩) bs.length cap ∧ bs.length ≤ cap ∧ cap ≤ maxLen := by
  obtain ⟨ao, cap, e, ⟨h1, h2⟩, _, hcase⟩ := h
  rcases hcase with rfl | ⟨b, off, rfl, _⟩
  · simp at hn
  · exact ⟨b, off, cap, e, h1, h2⟩
theorem Byt.drop {w : World} {b off n cap : Nat} {l : List Int} (h : Byt w (.slice (some ⟨b, off, none⟩) n cap) l) (p : Nat) (hp : p ≤ n) : Byt w (.slice (some ⟨b, off + p, none⟩) (n - p) (cap - p)) (l.drop p) := by
  obtain ⟨ao', cap', e, ⟨h1, h2⟩, hr, hcase⟩ := h
  simp only [Value.slice.injEq] at e
  obtain ⟨rfl, rfl, rfl⟩ := e
  have hl : (l.drop p).length = l.length - p := List.length_drop
  refine ⟨_, _, by rw [hl], ⟨by rw [hl]; omega, by omega⟩, ?_, ?_⟩
  · intro j
    rw [List.getD_eq_getElem?_getD, List.getElem?_drop, ← List.getD_eq_getElem?_getD]
    exact hr _
  · rcases hcase with rfl | ⟨b', off', e, hc⟩
    · exact .inl (by simp)
    · simp only [Option.some.injEq, Addr.mk.injEq] at e
      obtain ⟨rfl, rfl, _⟩ := e
      refine .inr ⟨b, off + p, rfl, fun j hj => ?_⟩
      rw [Nat.add_assoc, hc (p + j) (by omega), List.getD_eq_getElem?_getD, List.getD_eq_getElem?_getD, List.getElem?_drop]
theorem Byt.drop' {w : World} {b off n cap : Nat} {l : List Int} (h : Byt w (.slice (some ⟨b, off, none⟩) n cap) l) (p : Nat) (hp : p ≤ n) : Byt w (.slice (if cap = p then some ⟨b, off, none⟩ else some ⟨b, off + p, none⟩) (n - p) (cap - p)) (l.drop p) := by
  by_cases hc : cap = p
  · rw [if_pos hc]
    obtain ⟨ao', cap', e, ⟨h1, h2⟩, hr, hcase⟩ := h
    simp only [Value.slice.injEq] at e
    obtain ⟨rfl, rfl, rfl⟩ := e
    have hl : l.drop p = [] := List.drop_of_length_le (by omega)
    rw [hl]
    refine ⟨_, _, by rw [show l.length - p = ([] : List Int).length from by simp; omega], ⟨by simp, by omega⟩, by intro j; simp, .inl rfl⟩
  · rw [if_neg hc]
    exact h.drop p hp
end Go.Proofs.YtmmhdhpocjnlbaaGreatDoor
