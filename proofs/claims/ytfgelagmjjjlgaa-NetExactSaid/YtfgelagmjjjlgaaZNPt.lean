/- Proved here: plain laws of the page's Take: a list in order with one more at its place; four rows of its own. Helper laws. -/
import Derived.Test.YtfgelagmjjjlgaaZNPb
namespace Go.Proofs.Ytfgelagmjjjlgaa.Nt
open Go.RowKit
set_option maxRecDepth 100000

/-- a message, when it comes, and its place -/
abbrev Tp := (Mq × Int) × Nat
def tlt (x y : Tp) : Prop := x.1.2 < y.1.2 ∨ (x.1.2 = y.1.2 ∧ x.2 < y.2)
theorem tlt_le {x y : Tp} (h : tlt x y) : x.1.2 ≤ y.1.2 := by unfold tlt at h; omega
theorem ins_sorted {T : List Tp} {x : Mq × Int} {n j : Nat} (hs : T.Pairwise tlt) (hb : ∀ t ∈ T, t.2 < n) (hj : j ≤ T.length) (hlo : j = 0 ∨ (T.getD (j - 1) default).1.2 ≤ x.2) (hhi : ∀ m, j ≤ m → m < T.length → x.2 < (T.getD m default).1.2) : (T.take j ++ [(x, n)] ++ T.drop j).Pairwise tlt := by
  have hs' := List.pairwise_iff_getElem.1 hs
  have gd : ∀ m (hm : m < T.length), T.getD m default = T[m] := fun m hm => by rw [List.getD_eq_getElem?_getD, List.getElem?_eq_getElem hm]; rfl
  have lo : ∀ t ∈ T.take j, t.1.2 ≤ x.2 := fun t ht => by
    obtain ⟨i, hi, e⟩ := List.mem_take_iff_getElem.1 ht
    have hij : i < j := by omega
    have hiT : i < T.length := by omega
    rcases hlo with h0 | h0
    · omega
    · rw [gd (j - 1) (by omega)] at h0
      rw [← e]
      by_cases c : i = j - 1
      · subst c; exact h0
      · have := tlt_le (hs' i (j - 1) hiT (by omega) (by omega))
        omega
  have hi : ∀ t ∈ T.drop j, x.2 < t.1.2 := fun t ht => by
    obtain ⟨i, hi, e⟩ := List.mem_drop_iff_getElem.1 ht
    have := hhi (i + j) (by omega) (by omega)
    rw [gd (i + j) (by omega)] at this
    rw [← e]
    have e2 : T[i + j] = T[j + i] := by congr 1; omega
    first | exact this | (rw [← e2]; exact this)
  rw [List.append_assoc]
  refine List.pairwise_append.2 ⟨hs.sublist (List.take_sublist _ _), ?_, fun a ha b hb' => ?_⟩
  · rw [List.singleton_append]
    exact List.pairwise_cons.2 ⟨fun b hb' => .inl (hi b hb'), hs.sublist (List.drop_sublist _ _)⟩
  · rcases List.mem_append.1 hb' with h | h
    · rw [List.mem_singleton.1 h]
      have h1 := lo a ha
      have h2 := hb a (List.mem_of_mem_take ha)
      unfold tlt
      dsimp only
      omega
    · have h1 := lo a ha
      have h2 := hi b h
      exact .inl (by omega)
theorem ins_perm {T : List Tp} {C : List (Mq × Int)} {x : Mq × Int} {j : Nat} (hp : T.Perm C.zipIdx) : (T.take j ++ [(x, C.length)] ++ T.drop j).Perm (C ++ [x]).zipIdx := by
  rw [List.zipIdx_append]
  have h1 : (T.take j ++ [(x, C.length)] ++ T.drop j).Perm (T.take j ++ T.drop j ++ [(x, C.length)]) := by
    rw [List.append_assoc, List.append_assoc]
    exact List.Perm.append_left _ List.perm_append_comm
  rw [List.take_append_drop] at h1
  refine h1.trans ?_
  have : [x].zipIdx (0 + C.length) = [(x, C.length)] := by simp
  first
    | (rw [this]; exact hp.append_right _)
    | (simp; exact hp.append_right _)
theorem tag_lt {T : List Tp} {C : List (Mq × Int)} (hp : T.Perm C.zipIdx) : ∀ t ∈ T, t.2 < C.length := fun t ht => by
  have h := hp.mem_iff.1 ht
  have := List.snd_lt_of_mem_zipIdx (x := t) (by simpa using h)
  simpa using this
theorem told_of_tp {C : List (Mq × Int)} {T : List Tp} (hp : T.Perm C.zipIdx) (hs : T.Pairwise tlt) : Told (C.map (fun x => (x.1.r, x.2))) (T.map (fun t => (t.1.1.r, t.1.2))) := by
  refine ⟨T.map (fun t => ((t.1.1.r, t.1.2), t.2)), by simp, ?_, ?_⟩
  · rw [List.zipIdx_map]
    exact hp.map _
  · rw [List.pairwise_map]
    exact hs.imp (fun h => h)
/-- four rows of one's own, apart where they may turn -/
structure Four (w wr : World) (vo vl vt va : Value) (T : List Tp) (R : List (Mq × Int)) : Prop where
  o : wr.ownsRow w.heap.size 33 11 vo T.length (mrow (T.map (·.1.1)))
  t : wr.ownsRow w.heap.size 3 1 vt T.length ((T.map (·.1.2)).map (Value.int .i64))
  l : wr.ownsRow w.heap.size 33 11 vl R.length (mrow (R.map (·.1)))
  a : wr.ownsRow w.heap.size 3 1 va R.length ((R.map (·.2)).map (Value.int .i64))
  dl : ∀ g ∈ bl vl, g ∉ bl vo ∧ g ∉ bl vt ∧ g ∉ bl va
  da : ∀ g ∈ bl va, g ∉ bl vo ∧ g ∉ bl vt
  bel : Below w.heap.size w wr
theorem Four.below {w wr w2 : World} {vo vl vt va : Value} {T : List Tp} {R : List (Mq × Int)} (h : Four w wr vo vl vt va T R) (hb : Below wr.heap.size wr w2) : Four w w2 vo vl vt va T R := ⟨owns_below h.o hb, owns_below h.t hb, owns_below h.l hb, owns_below h.a hb, h.dl, h.da, bnx h.bel hb⟩
/-- out and times anew -/
theorem Four.out {w wr w2 : World} {vo vl vt va vo' vt' : Value} {T T' : List Tp} {R : List (Mq × Int)} (h : Four w wr vo vl vt va T R) (hb : Below wr.heap.size wr w2) (ho : w2.ownsRow wr.heap.size 33 11 vo' T'.length (mrow (T'.map (·.1.1)))) (ht : w2.ownsRow wr.heap.size 3 1 vt' T'.length ((T'.map (·.1.2)).map (Value.int .i64))) : Four w w2 vo' vl vt' va T' R := by
  have ll := fun g hg => (owns_blk h.l g (mem_bl.1 hg)).2
  have la := fun g hg => (owns_blk h.a g (mem_bl.1 hg)).2
  have lo := fun g hg => (owns_blk ho g (mem_bl.1 hg)).1
  have lt := fun g hg => (owns_blk ht g (mem_bl.1 hg)).1
  refine ⟨owns_mono ho h.bel.size, owns_mono ht h.bel.size, owns_below h.l hb, owns_below h.a hb, fun g hg => ⟨fun e => ?_, fun e => ?_, (h.dl g hg).2.2⟩, fun g hg => ⟨fun e => ?_, fun e => ?_⟩, bnx h.bel hb⟩
  · have := ll g hg; have := lo g e; omega
  · have := ll g hg; have := lt g e; omega
  · have := la g hg; have := lo g e; omega
  · have := la g hg; have := lt g e; omega
/-- one more that is left -/
theorem Four.rest {w wr w2 w3 : World} {vo vl vt va vl' va' : Value} {T : List Tp} {R : List (Mq × Int)} {x : Mq × Int} (h : Four w wr vo vl vt va T R) (f1 : Fr (fun k => k ∈ bl vl) wr w2) (ho1 : w2.ownsRow w.heap.size 33 11 vl' (R.length + 1) (mrow (R.map (·.1)) ++ mcs x.1)) (hv1 : ∀ g ∈ bl vl', g ∈ bl vl ∨ wr.heap.size ≤ g) (f2 : Fr (fun k => k ∈ bl va) w2 w3) (ho2 : w3.ownsRow w.heap.size 3 1 va' (R.length + 1) ((R.map (·.2)).map (Value.int .i64) ++ [.int .i64 x.2])) (hv2 : ∀ g ∈ bl va', g ∈ bl va ∨ w2.heap.size ≤ g) : Four w w3 vo vl' vt va' T (R ++ [x]) := by
  have lo := fun g hg => (owns_blk h.o g (mem_bl.1 hg)).2
  have lt := fun g hg => (owns_blk h.t g (mem_bl.1 hg)).2
  have la := fun g hg => (owns_blk h.a g (mem_bl.1 hg)).2
  have ll' := fun g hg => (owns_blk ho1 g (mem_bl.1 hg)).2
  have hlva : ∀ g ∈ bl vl', g ∉ bl va := fun g hg e => by
    rcases hv1 g hg with k | k
    · exact (h.dl g k).2.2 e
    · have := la g e; omega
  have f1s := f1.size
  refine ⟨owns_fr (owns_fr h.o f1 (fun g hg e => (h.dl g e).1 (mem_bl.2 hg))) f2 (fun g hg e => (h.da g e).1 (mem_bl.2 hg)), owns_fr (owns_fr h.t f1 (fun g hg e => (h.dl g e).2.1 (mem_bl.2 hg))) f2 (fun g hg e => (h.da g e).2 (mem_bl.2 hg)), ?_, ?_, fun g hg => ⟨fun e => ?_, fun e => ?_, fun e => ?_⟩, fun g hg => ⟨fun e => ?_, fun e => ?_⟩, Fr.bel (Fr.bel h.bel f1 (fun i hi => (owns_blk h.l i (mem_bl.1 hi)).1) h.bel.size) f2 (fun i hi => (owns_blk h.a i (mem_bl.1 hi)).1) (Nat.le_trans h.bel.size f1.size)⟩
  · rw [List.map_append, mrow_app, List.length_append]
    exact owns_fr (by simpa [mrow] using ho1) f2 (fun g hg e => hlva g (mem_bl.2 hg) e)
  · rw [List.map_append, List.map_append, List.length_append]
    simpa using ho2
  · rcases hv1 g hg with k | k
    · exact (h.dl g k).1 e
    · have := lo g e; omega
  · rcases hv1 g hg with k | k
    · exact (h.dl g k).2.1 e
    · have := lt g e; omega
  · rcases hv2 g e with k | k
    · exact hlva g hg k
    · have := ll' g hg; omega
  · rcases hv2 g hg with k | k
    · exact (h.da g k).1 e
    · have := lo g e; omega
  · rcases hv2 g hg with k | k
    · exact (h.da g k).2 e
    · have := lt g e; omega
/-- what the page's Take leaves -/
structure PTaken (w : World) (B r : Nat) (vL vA : Value) (qs : List Mq) (ats : List Int) (now : Int) (w' : World) (vo : Value) (T : List Tp) (vL' vA' : Value) (R : List (Mq × Int)) : Prop where
  net : PSx w' B r vL' vA' (R.map (·.1)) (R.map (·.2))
  rps : Rps w' vo (T.map (·.1.1))
  fr : Fr (fun k => k ∈ gp r vL vA qs) w w'
  ext : Ext (gp r vL vA qs) (gp r vL' vA' (R.map (·.1))) w
  told : Told (((qs.map (·.r)).zip ats).filter (fun x => decide (x.2 ≤ now))) (T.map (fun t => (t.1.1.r, t.1.2)))
  rest : R.map (fun x => (x.1.r, x.2)) = ((qs.map (·.r)).zip ats).filter (fun x => !decide (x.2 ≤ now))
end Go.Proofs.Ytfgelagmjjjlgaa.Nt
