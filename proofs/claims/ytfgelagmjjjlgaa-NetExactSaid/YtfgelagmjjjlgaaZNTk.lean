/- Proved here: the contract of net's Take: what has come, by its time, among the same in the order in which it was put in; the rest is on its way. Helper contract. -/
import Derived.Test.YtfgelagmjjjlgaaZNSo
namespace Go.Proofs.Ytfgelagmjjjlgaa.Nt
open Go.RowKit
set_option maxRecDepth 100000

def has (now : Int) (p : Pc) : Bool := decide (p.put + p.delay ≤ now)
/-- a list told in order: by the time, among the same by the place -/
def Told (C a : List It) : Prop := ∃ T : List (It × Nat), T.map (·.1) = a ∧ T.Perm C.zipIdx ∧ T.Pairwise (fun x y => x.1.2 < y.1.2 ∨ (x.1.2 = y.1.2 ∧ x.2 < y.2))
theorem told_one {C a b : List It} (h : Told C a) (k : Told C b) : a = b := by
  obtain ⟨T, rfl, h1, h2⟩ := h
  obtain ⟨U, rfl, k1, k2⟩ := k
  have e : T = U := List.Perm.eq_of_pairwise (fun x y _ _ h3 h4 => by omega) h2 k2 (h1.trans k1.symm)
  rw [e]
theorem told_of {now : Int} {ps : List Pc} {T : List Tc} (hok : ∀ p ∈ ps, Pok p) (hp : T.Perm (ps.filter (has now)).zipIdx) (hs : T.Pairwise (rr tkey ttag)) : Told ((ps.map it).filter (fun x => decide (x.2 ≤ now))) ((T.map (·.1)).map it) := by
  have hC : (ps.map it).filter (fun x => decide (x.2 ≤ now)) = (ps.filter (has now)).map it := by rw [List.filter_map]; rfl
  refine ⟨T.map (fun x => (it x.1, x.2)), by simp, ?_, ?_⟩
  · rw [hC, List.zipIdx_map]
    exact hp.map _
  · rw [List.pairwise_map]
    refine hs.imp_of_mem (fun {x y} hx hy h => ?_)
    have ok : ∀ z ∈ T, tkey z = (it z.1).2 := fun z hz => by
      have hz1 : z ∈ (ps.filter (has now)).zipIdx := hp.mem_iff.1 hz
      have hz2 : z.1 ∈ ps.filter (has now) := by
        have := List.mem_map_of_mem (f := Prod.fst) hz1
        simpa using this
      exact tm_ok (hok _ (List.mem_filter.1 hz2).1)
    have e1 := ok x hx
    have e2 := ok y hy
    rcases h with h | ⟨h, h'⟩
    · exact .inl (by rw [← e1, ← e2]; exact h)
    · exact .inr ⟨by rw [← e1, ← e2]; exact h, h'⟩
/-- what Take leaves -/
structure Taken (w : World) (B n : Nat) (v : Value) (ps : List Pc) (now : Int) (w' : World) (vt : Value) (ts : List Pc) (v' : Value) (rs : List Pc) : Prop where
  net : NS w' B n v' rs
  row : w'.ownsRow B 33 11 vt ts.length (mrow (ts.map (·.q)))
  own : ∀ p ∈ ts, MqOwn w' B p.q
  fr : Fr (fun k => k ∈ fp n v ps) w w'
  ext : Ext (fp n v ps) (bl vt ++ (ts.flatMap pb ++ fp n v' rs)) w
  nd : (bl vt ++ (ts.flatMap pb ++ fp n v' rs)).Nodup
  told : Told ((ps.map it).filter (fun x => decide (x.2 ≤ now))) (ts.map it)
  rest : rs.map it = (ps.map it).filter (fun x => !decide (x.2 ≤ now))
theorem bl_nodup (v : Value) : (bl v).Nodup := by unfold bl; cases v.ownBlock <;> simp
theorem filter_snoc (ps : List Pc) (f : Pc → Bool) (k : Nat) (h : k < ps.length) : (ps.take (k + 1)).filter f = (ps.take k).filter f ++ (if f (ps.getD k default) = true then [ps.getD k default] else []) := by
  rw [List.take_succ_eq_append_getElem h, List.filter_append, List.getD_eq_getElem?_getD, List.getElem?_eq_getElem h]
  congr 1
  by_cases hf : f ps[k] = true
  · rw [List.filter_cons_of_pos hf]; simp [hf]
  · rw [List.filter_cons_of_neg hf]; simp [hf]
theorem pc_head {w : World} {b : Nat} {p : Pc} {t : TypeId} (h : Bx w b (pcs p) t) : w.rangeAt b 0 (mcs p.q) := fun j v hv => by
  have hj : j < 11 := (List.getElem?_eq_some_iff.1 hv).1
  refine h.range j v ?_
  unfold pcs
  rw [List.getElem?_append_left (by rw [mcs_len]; exact hj)]
  exact hv
/-- two rows that are new, apart -/
structure Two (w wr : World) (vc vr : Value) (cs rs : List Pc) : Prop where
  c : wr.ownsRow w.heap.size 53 13 vc cs.length (prow cs)
  r : wr.ownsRow w.heap.size 53 13 vr rs.length (prow rs)
  sep : ∀ g ∈ bl vc, g ∉ bl vr
  bel : Below w.heap.size w wr
theorem Two.below {w wr w2 : World} {vc vr : Value} {cs rs : List Pc} (h : Two w wr vc vr cs rs) (hb : Below wr.heap.size wr w2) : Two w w2 vc vr cs rs := ⟨owns_below h.c hb, owns_below h.r hb, h.sep, bnx h.bel hb⟩
theorem Two.swap {w wr : World} {vc vr : Value} {cs rs : List Pc} (h : Two w wr vc vr cs rs) : Two w wr vr vc rs cs := ⟨h.r, h.c, fun g h1 h2 => h.sep g h2 h1, h.bel⟩
theorem Two.more {w wr w2 : World} {vc vr v' : Value} {cs rs : List Pc} {p : Pc} (h : Two w wr vc vr cs rs) (ho : w2.ownsRow w.heap.size 53 13 v' (cs.length + 1) (prow cs ++ pcs p)) (hg : wr.grownBy w2 vc.ownBlock) (ha : v'.ownBlock = vc.ownBlock ∨ v'.ownBlock = some wr.heap.size) : Two w w2 v' vr (cs ++ [p]) rs := by
  have f : Fr (fun k => k ∈ bl vc) wr w2 := Fr.of_grown hg (fun g e => mem_bl.2 e)
  refine ⟨by rw [prow_app, List.length_append]; simpa [prow] using ho, owns_fr h.r f (fun g hg' e => h.sep g e (mem_bl.2 hg')), fun g h1 h2 => ?_, Fr.bel h.bel f (fun i hi => (owns_blk h.c i (mem_bl.1 hi)).1) h.bel.size⟩
  rw [mem_bl] at h1
  rcases ha with e | e
  · rw [e] at h1; exact h.sep g (mem_bl.2 h1) h2
  · rw [e] at h1
    have := Option.some.inj h1
    have := (owns_blk h.r g (mem_bl.1 h2)).2
    omega
theorem pcs_range {w : World} {B : Nat} {g n cap : Nat} {cs : List Pc} (h : w.ownsRow B 53 13 (.slice (some ⟨g, 0, none⟩) n cap) n (prow cs)) (k : Nat) (hk : k < cs.length) (hn : cs.length = n) : w.rangeAt g (k * 13) (pcs (cs.getD k default)) := fun j u hu => by
  have hj : j < 13 := (List.getElem?_eq_some_iff.1 hu).1
  have hq : cs[k]? = some (cs.getD k default) := by rw [List.getD_eq_getElem?_getD, List.getElem?_eq_getElem hk]; rfl
  rw [h.cellAt (k * 13 + j) (by omega), prow_get cs k _ hq j hj]
  exact hu
end Go.Proofs.Ytfgelagmjjjlgaa.Nt
