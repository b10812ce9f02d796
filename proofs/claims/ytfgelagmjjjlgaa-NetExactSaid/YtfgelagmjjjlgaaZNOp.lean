/- Proved here: plain laws of dovecotelaw14.NetOnce: what its puts leave on its way, how often each message is among it; the two rows of numbers beside a net in memory. Helper laws. -/
import Derived.Test.YtfgelagmjjjlgaaZNLg
import Derived.Laws.OwnMore
namespace Go.Proofs.Ytfgelagmjjjlgaa.Nt
open Go.RowKit
set_option maxRecDepth 100000

/-- what the k-th put adds, by its pick -/
def el (pick : Int) (k : Nat) : List It :=
  if dr pick 4 = 0 then [((qk 4 (k : Nat)).r, 101)] else if dr pick 4 = 2 then [((qk 4 (k : Nat)).r, 100 + (2 + dr (dq pick 4) 8))] else if dr pick 4 = 3 then [((qk 4 (k : Nat)).r, 101), ((qk 4 (k : Nat)).r, 100 + (2 + dr (dq pick 4) 8))] else []
theorem el_mem {pick : Int} {k : Nat} {x : It} (h : x ∈ el pick k) : x.1 = (qk 4 (k : Nat)).r ∧ 101 ≤ x.2 ∧ x.2 ≤ 109 := by
  have hr : 0 ≤ dr (dq pick 4) 8 ∧ dr (dq pick 4) 8 < 8 := dr_range (by decide)
  unfold el at h
  split at h
  · simp at h; subst h; exact ⟨rfl, by simp, by simp⟩
  · split at h
    · simp at h; subst h; exact ⟨rfl, by simp; omega, by simp; omega⟩
    · split at h
      · simp at h
        rcases h with rfl | rfl
        · exact ⟨rfl, by simp, by simp⟩
        · exact ⟨rfl, by simp; omega, by simp; omega⟩
      · simp at h
/-- what the statement wants of a pick -/
def wt (pick : Int) : Int := if dr pick 4 = 0 then 1 else if dr pick 4 = 2 then 1 else if dr pick 4 = 3 then 2 else 0
theorem el_wt (pick : Int) (k : Nat) : ((el pick k).length : Int) = wt pick := by
  unfold el wt
  by_cases h0 : dr pick 4 = 0
  · rw [if_pos h0, if_pos h0]; rfl
  · rw [if_neg h0, if_neg h0]
    by_cases h2 : dr pick 4 = 2
    · rw [if_pos h2, if_pos h2]; rfl
    · rw [if_neg h2, if_neg h2]
      by_cases h3 : dr pick 4 = 3
      · rw [if_pos h3, if_pos h3]; rfl
      · rw [if_neg h3, if_neg h3]; rfl
/-- behind n puts -/
def onI (f : Nat → Int) : Nat → List It
  | 0 => []
  | k + 1 => onI f k ++ el (f k) k
theorem onI_mem {f : Nat → Int} : ∀ {n : Nat} {x : It}, x ∈ onI f n → (∃ j, j < n ∧ x.1 = (qk 4 (j : Nat)).r) ∧ 101 ≤ x.2 ∧ x.2 ≤ 109
  | 0, x, h => by cases h
  | k + 1, x, h => by
    rcases List.mem_append.1 h with h | h
    · obtain ⟨⟨j, hj, e⟩, h2⟩ := onI_mem h
      exact ⟨⟨j, by omega, e⟩, h2⟩
    · obtain ⟨e, h2⟩ := el_mem h
      exact ⟨⟨k, by omega, e⟩, h2⟩
/-- how often a message is among these -/
def cn (I : List It) (j : Nat) : Nat := (I.filter (fun x => decide (x.1.term = (j : Int)))).length
theorem cn_app (I K : List It) (j : Nat) : cn (I ++ K) j = cn I j + cn K j := by unfold cn; rw [List.filter_append, List.length_append]
theorem cn_el (pick : Int) (k j : Nat) : cn (el pick k) j = if j = k then (el pick k).length else 0 := by
  by_cases h : j = k
  · subst h
    rw [if_pos rfl]
    unfold cn
    rw [List.filter_eq_self.2]
    intro x hx
    rw [(el_mem hx).1]
    exact decide_eq_true rfl
  · rw [if_neg h]
    unfold cn
    rw [List.filter_eq_nil_iff.2]
    · rfl
    · intro x hx
      rw [(el_mem hx).1]
      simp only [decide_eq_true_eq]
      show ¬ ((k : Int) = (j : Int))
      omega
theorem cn_onI (f : Nat → Int) (j : Nat) : ∀ n, (cn (onI f n) j : Int) = if j < n then wt (f j) else 0
  | 0 => by simp [onI, cn]
  | k + 1 => by
    have := cn_onI f j k
    unfold onI
    rw [cn_app, cn_el]
    by_cases h : j = k
    · subst h
      rw [if_pos rfl, if_pos (by omega)]
      rw [if_neg (by omega)] at this
      have e := el_wt (f j) j
      omega
    · rw [if_neg h]
      by_cases h2 : j < k
      · rw [if_pos h2] at this
        rw [if_pos (by omega)]
        omega
      · rw [if_neg h2] at this
        rw [if_neg (by omega)]
        omega
theorem told_perm {C a : List It} (h : Told C a) : a.Perm C := by
  obtain ⟨T, rfl, h1, _⟩ := h
  have := h1.map Prod.fst
  rwa [show C.zipIdx.map Prod.fst = C from by simp] at this
/-- two rows of numbers beside a net -/
structure OnW (w wr : World) (g5 g6 c5 c6 count : Nat) (Wl Gl : List Int) (v : Value) (ps : List Pc) : Prop where
  net : NS wr w.heap.size w.heap.size v ps
  want : wr.ownsRow w.heap.size 3 1 (.slice (some ⟨g5, 0, none⟩) count c5) count (Wl.map (Value.int .i64))
  got : wr.ownsRow w.heap.size 3 1 (.slice (some ⟨g6, 0, none⟩) count c6) count (Gl.map (Value.int .i64))
  s5 : g5 ∉ fp w.heap.size v ps
  s6 : g6 ∉ fp w.heap.size v ps
  ne : g5 ≠ g6
  bel : Below w.heap.size w wr
theorem OnW.step {w wr w2 : World} {g5 g6 c5 c6 count : Nat} {Wl Gl : List Int} {v v2 : Value} {ps ps2 : List Pc} (h : OnW w wr g5 g6 c5 c6 count Wl Gl v ps) (hn : NS w2 w.heap.size w.heap.size v2 ps2) (hf : Fr (fun k => k ∈ fp w.heap.size v ps) wr w2) (he : Ext (fp w.heap.size v ps) (fp w.heap.size v2 ps2) wr) : OnW w w2 g5 g6 c5 c6 count Wl Gl v2 ps2 := by
  have l5 := (owns_blk h.want g5 rfl).2
  have l6 := (owns_blk h.got g6 rfl).2
  refine ⟨hn, owns_fr h.want hf (fun g hg e => ?_), owns_fr h.got hf (fun g hg e => ?_), fun e => ?_, fun e => ?_, h.ne, Fr.bel h.bel hf (fun i hi => (h.net.lt i hi).1) h.bel.size⟩
  · cases hg; exact h.s5 e
  · cases hg; exact h.s6 e
  · rcases he g5 e with k | k
    · exact h.s5 k
    · omega
  · rcases he g6 e with k | k
    · exact h.s6 k
    · omega
/-- what has been got and what is on its way, together, are what is wanted -/
structure OnSt (pf : Nat → Int) (count : Nat) (G : Nat → Int) (I : List It) (t : Int) : Prop where
  sum : ∀ j, j < count → 0 ≤ G j ∧ G j + (cn I j : Int) = wt (pf j)
  mem : ∀ x ∈ I, (∃ j, j < count ∧ x.1 = (qk 4 (j : Nat)).r) ∧ t ≤ x.2 ∧ x.2 ≤ 109
theorem OnSt.start (pf : Nat → Int) (count : Nat) : OnSt pf count (fun _ => 0) (onI pf count) 101 :=
  ⟨fun j hj => ⟨Int.le_refl _, by rw [cn_onI, if_pos hj]; omega⟩, fun x hx => onI_mem hx⟩
end Go.Proofs.Ytfgelagmjjjlgaa.Nt
