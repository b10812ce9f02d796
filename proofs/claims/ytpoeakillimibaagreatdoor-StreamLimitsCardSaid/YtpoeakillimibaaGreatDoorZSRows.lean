/- Proved here: packets in a row (Pks), and what stream's whole reads (SRun). Helpers. -/
import Derived.Test.YtpoeakillimibaaGreatDoorM30
namespace Go.Proofs.YtpoeakillimibaaGreatDoor.K
open Go.RowKit
set_option maxRecDepth 100000

theorem owns_ty {w w' : World} {B : Nat} {e t : TypeId} {s : Nat} {v : Value} {n : Nat} {xs : List Value} {row : Option Nat} (h : w.ownsRow B e s v n xs) (hg : w.grownBy w' row) (ht : ∀ g, row = some g → ∃ cur fz, w.heap[g]? = some (.cells cur t fz)) (hne : e ≠ t) : w'.ownsRow B e s v n xs := by
  refine ⟨h.1, ?_⟩
  rcases h.2 with h1 | ⟨g, cap, cur, hv, hB, hgg, rest⟩
  · exact .inl h1
  · refine .inr ⟨g, cap, cur, hv, hB, ?_, rest⟩
    rw [hg.block g (Array.getElem?_eq_some_iff.1 hgg).1 (fun er => by
      obtain ⟨cur', fz, k⟩ := ht g er.symm
      rw [hgg] at k
      simp only [Option.some.injEq, Obj.cells.injEq] at k
      exact hne k.2.1)]
    exact hgg
theorem Mean.ty {w w' : World} {B : Nat} {p : Pkv} {P : Pa} {row : Option Nat} (h : Mean w B p P) (hg : w.grownBy w' row) (ht : ∀ g, row = some g → ∃ cur fz, w.heap[g]? = some (.cells cur 30 fz)) : Mean w' B p P :=
  ⟨h.sc, owns_ty h.props hg ht (by decide), by
    obtain ⟨ws, h1, h2, h3⟩ := h.wills
    exact ⟨ws, owns_ty h1 hg ht (by decide), h2, fun i a b ha hb => by
      obtain ⟨k1, k2, k3, k4, k5⟩ := h3 i a b ha hb
      exact ⟨k1, k2, k3, k4, owns_ty k5 hg ht (by decide)⟩⟩, owns_ty h.user hg ht (by decide), owns_ty h.pass hg ht (by decide), owns_ty h.subs hg ht (by decide), owns_ty h.filters hg ht (by decide), owns_ty h.codes hg ht (by decide)⟩
theorem Mean.below {w w' : World} {B : Nat} {p : Pkv} {P : Pa} (h : Mean w B p P) (hb : Below w.heap.size w w') : Mean w' B p P :=
  ⟨h.sc, owns_below h.props hb, by
    obtain ⟨ws, h1, h2, h3⟩ := h.wills
    exact ⟨ws, owns_below h1 hb, h2, fun i a b ha hb' => by
      obtain ⟨k1, k2, k3, k4, k5⟩ := h3 i a b ha hb'
      exact ⟨k1, k2, k3, k4, owns_below k5 hb⟩⟩, owns_below h.user hb, owns_below h.pass hb, owns_below h.subs hb, owns_below h.filters hb, owns_below h.codes hb⟩
/-- packets in a row of one's own -/
structure Pks (w : World) (B : Nat) (v : Value) (qs : List Pkv) (Ps : List Pa) : Prop where
  row : w.ownsRow B 30 19 v qs.length (qs.flatMap Pkv.cells)
  len : qs.length = Ps.length
  mean : ∀ (i : Nat) (q : Pkv) (P : Pa), qs[i]? = some q → Ps[i]? = some P → Mean w B q P
theorem Pks.nil (w : World) (B : Nat) : Pks w B (.slice none 0 0) [] [] := ⟨World.ownsRow_nil _ _ _ _, rfl, fun i q P h => by simp at h⟩
theorem Pks.below {w w' : World} {B : Nat} {v : Value} {qs : List Pkv} {Ps : List Pa} (h : Pks w B v qs Ps) (hb : Below w.heap.size w w') : Pks w' B v qs Ps :=
  ⟨owns_below h.row hb, h.len, fun i q P h1 h2 => (h.mean i q P h1 h2).below hb⟩
theorem Pks.blk {w : World} {B : Nat} {v : Value} {qs : List Pkv} {Ps : List Pa} (h : Pks w B v qs Ps) : ∀ g, v.ownBlock = some g → B ≤ g ∧ ∃ cur fz, w.heap[g]? = some (.cells cur 30 fz) := by
  intro g hg
  rcases h.row.2 with ⟨rfl, _⟩ | ⟨g', cap, cur, rfl, hB, hgg, _⟩
  · cases hg
  · cases hg
    exact ⟨hB, cur, _, hgg⟩
theorem Pks.app {w w' : World} {B : Nat} {v v' : Value} {qs : List Pkv} {Ps : List Pa} {q : Pkv} {P : Pa} (h : Pks w B v qs Ps) (hm : Mean w B q P) (hg : w.grownBy w' v.ownBlock) (ho : w'.ownsRow B 30 19 v' (qs.length + 1) (qs.flatMap Pkv.cells ++ q.cells)) : Pks w' B v' (qs ++ [q]) (Ps ++ [P]) := by
  have ht : ∀ g, v.ownBlock = some g → ∃ cur fz, w.heap[g]? = some (.cells cur 30 fz) := fun g e => (h.blk g e).2
  refine ⟨?_, by simp [h.len], fun i x X h1 h2 => ?_⟩
  · rw [List.length_append, List.flatMap_append]
    simpa using ho
  · by_cases hi : i < qs.length
    · rw [List.getElem?_append_left hi] at h1
      rw [List.getElem?_append_left (by rw [← h.len]; exact hi)] at h2
      exact (h.mean i x X h1 h2).ty hg ht
    · rw [List.getElem?_append_right (by omega)] at h1
      rw [List.getElem?_append_right (by rw [← h.len]; omega), ← h.len] at h2
      by_cases h0 : i - qs.length = 0
      · rw [h0] at h1 h2
        simp at h1 h2
        subst h1 h2
        exact hm.ty hg ht
      · rw [List.getElem?_eq_none (by simp; omega)] at h1
        cases h1
/-- the packets with which bytes begin, how many bytes they have, and the number of the error why there are no more -/
inductive SRun (lim : Int) : List Int → List Pa → Nat → Int → Prop
  | stop (l : List Int) : snum lim l ≠ 0 → SRun lim l [] 0 (snum lim l)
  | step (l : List Int) (P : Pa) (r : List Int) (Ps : List Pa) (n : Nat) (e : Int) : snum lim l = 0 → dbody l = some (P, r) → SRun lim (l.drop (meas l).2.1) Ps n e → SRun lim l (P :: Ps) ((meas l).2.1 + n) e
theorem snum_zero {lim : Int} {l : List Int} (h : snum lim l = 0) : dnum l = 0 := by
  unfold snum at h
  split at h
  · exact h
  · split at h <;> omega
theorem snum_meas {lim : Int} {l : List Int} (h : snum lim l = 0) : 1 ≤ (meas l).2.1 ∧ (meas l).2.1 ≤ l.length := by
  have k := snum_zero h
  have h2 : (meas l).2.2 = 0 := by
    unfold dnum at k
    split at k
    · omega
    · split at k
      · omega
      · split at k
        · omega
        · rename_i k2; simpa using k2
  unfold meas at h2 ⊢
  split
  · rename_i k1; rw [if_pos k1] at h2; exact absurd h2 k1
  · rename_i k1
    rw [if_neg k1] at h2
    split
    · rename_i k2; rw [if_pos k2] at h2; simp at h2
    · rename_i k2
      rw [if_neg k2] at h2
      split
      · rename_i k3; rw [if_pos k3] at h2; simp at h2
      · simp only; omega
end Go.Proofs.YtpoeakillimibaaGreatDoor.K
