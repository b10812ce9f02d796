/- Proved here: plain laws of dovecotelaw14.NetOnce: what its puts leave on its way, how often each message is among it; the two rows of numbers beside a net in memory. Helper laws. -/
import Derived.Test.YtfgelagmjjjlgaaZNLg
import Derived.Laws.OwnMore
namespace Go.Proofs.Ytfgelagmjjjlgaa.Nt
open Go.RowKit
set_option maxRecDepth 100000

/-- what the k-th put adds, by its pick -/
def el (pick : Int) (k : Nat) : List It :=
  if dr pick 4 = 0 then [((qk 4 (k : Nat)).r, 101)] else if dr pick 4 = 2 then [((qk 4 (k : Nat)).r, 100 + (2 + dr (dq pick 4) 8))] else if dr pick 4 = 3 then [((qk 4 (k : Nat)).r, 101), ((qk 4 (k : Nat)).r, 100 + (2 + dr (dq pick 4) 8))] else []
theorem addI_room {I : List It} {x : It} (h : I.length < 4096) : addI I x = I ++ [x] := by unfold addI; rw [if_pos h]
theorem putI_el (I : List It) (pick : Int) (k : Nat) (h : I.length + 2 ≤ 4096) : putI I (qk 4 (k : Nat)).r 100 pick = I ++ el pick k := by
  unfold putI el
  by_cases h0 : dr pick 4 = 0
  · rw [if_pos h0, if_pos h0, addI_room (by omega)]; rfl
  · rw [if_neg h0, if_neg h0]
    by_cases h2 : dr pick 4 = 2
    · rw [if_pos h2, if_pos h2, addI_room (by omega)]
    · rw [if_neg h2, if_neg h2]
      by_cases h3 : dr pick 4 = 3
      · rw [if_pos h3, if_pos h3, addI_room (I := I) (by omega), addI_room (by rw [List.length_append]; simp; omega), List.append_assoc]; rfl
      · rw [if_neg h3, if_neg h3, List.append_nil]
theorem el_len (pick : Int) (k : Nat) : (el pick k).length ≤ 2 := by
  unfold el
  split
  · simp
  · split
    · simp
    · split <;> simp
theorem el_mem {pick : Int} {k : Nat} {x : It} (h : x ∈ el pick k) : x.1 = (qk 4 (k : Nat)).r ∧ 101 ≤ x.2 ∧ x.2 ≤ 109 := by
  have hr : 0 ≤ dr (dq pick 4) 8 ∧ dr (dq pick 4) 8 < 8 := dr_range (by decide)
  unfold el at h
  split at h
  · simp at h; subst h; exact ⟨rfl, by simp, by simp⟩
  · split at h
    · simp at h; subst h; exact ⟨rfl, by simp; omega, by simp; omega⟩
    · split at h
      · simp at h
        rcases h with rfl | rfl
        · exact ⟨rfl, by simp, by simp⟩
        · exact ⟨rfl, by simp; omega, by simp; omega⟩
      · simp at h
/-- what the statement wants of a pick -/
def wt (pick : Int) : Int := if dr pick 4 = 0 then 1 else if dr pick 4 = 2 then 1 else if dr pick 4 = 3 then 2 else 0
theorem el_wt (pick : Int) (k : Nat) : ((el pick k).length : Int) = wt pick := by
  unfold el wt
  by_cases h0 : dr pick 4 = 0
  · rw [if_pos h0, if_pos h0]; rfl
  · rw [if_neg h0, if_neg h0]
    by_cases h2 : dr pick 4 = 2
    · rw [if_pos h2, if_pos h2]; rfl
    · rw [if_neg h2, if_neg h2]
      by_cases h3 : dr pick 4 = 3
      · rw [if_pos h3, if_pos h3]; rfl
      · rw [if_neg h3, if_neg h3]; rfl
/-- behind n puts -/
def onI (f : Nat → Int) : Nat → List It
  | 0 => []
  | k + 1 => onI f k ++ el (f k) k
theorem onI_len (f : Nat → Int) : ∀ n, (onI f n).length ≤ 2 * n
  | 0 => Nat.le_refl _
  | k + 1 => by
    have := onI_len f k
    have := el_len (f k) k
    unfold onI
    rw [List.length_append]
    omega
theorem onI_put (f : Nat → Int) (k : Nat) (h : k ≤ 60) : putI (onI f k) (qk 4 (k : Nat)).r 100 (f k) = onI f (k + 1) := by
  have := onI_len f k
  rw [putI_el _ _ _ (by omega)]
  rfl
theorem onI_mem {f : Nat → Int} : ∀ {n : Nat} {x : It}, x ∈ onI f n → (∃ j, j < n ∧ x.1 = (qk 4 (j : Nat)).r) ∧ 101 ≤ x.2 ∧ x.2 ≤ 109
  | 0, x, h => by cases h
  | k + 1, x, h => by
    rcases List.mem_append.1 h with h | h
    · obtain ⟨⟨j, hj, e⟩, h2⟩ := onI_mem h
      exact ⟨⟨j, by omega, e⟩, h2⟩
    · obtain ⟨e, h2⟩ := el_mem h
      exact ⟨⟨k, by omega, e⟩, h2⟩
/-- how often a message is among these -/
def cn (I : List It) (j : Nat) : Nat := (I.filter (fun x => decide (x.1.term = (j : Int)))).length
theorem cn_app (I K : List It) (j : Nat) : cn (I ++ K) j = cn I j + cn K j := by unfold cn; rw [List.filter_append, List.length_append]
theorem cn_perm {I K : List It} (h : I.Perm K) (j : Nat) : cn I j = cn K j := (h.filter _).length_eq
theorem cn_split (I : List It) (p : It → Bool) (j : Nat) : cn (I.filter p) j + cn (I.filter (fun x => !p x)) j = cn I j := by
  rw [← cn_app]
  exact cn_perm (List.filter_append_perm p I) j
theorem cn_el (pick : Int) (k j : Nat) : cn (el pick k) j = if j = k then (el pick k).length else 0 := by
  by_cases h : j = k
  · subst h
    rw [if_pos rfl]
    unfold cn
    rw [List.filter_eq_self.2]
    intro x hx
    rw [(el_mem hx).1]
    exact decide_eq_true rfl
  · rw [if_neg h]
    unfold cn
    rw [List.filter_eq_nil_iff.2]
    · rfl
    · intro x hx
      rw [(el_mem hx).1]
      simp only [decide_eq_true_eq]
      show ¬ ((k : Int) = (j : Int))
      omega
theorem cn_onI (f : Nat → Int) (j : Nat) : ∀ n, (cn (onI f n) j : Int) = if j < n then wt (f j) else 0
  | 0 => by simp [onI, cn]
  | k + 1 => by
    have := cn_onI f j k
    unfold onI
    rw [cn_app, cn_el]
    by_cases h : j = k
    · subst h
      rw [if_pos rfl, if_pos (by omega)]
      rw [if_neg (by omega)] at this
      have e := el_wt (f j) j
      omega
    · rw [if_neg h]
      by_cases h2 : j < k
      · rw [if_pos h2] at this
        rw [if_pos (by omega)]
        omega
      · rw [if_neg h2] at this
        rw [if_neg (by omega)]
        omega
theorem told_perm {C a : List It} (h : Told C a) : a.Perm C := by
  obtain ⟨T, rfl, h1, _⟩ := h
  have := h1.map Prod.fst
  rwa [show C.zipIdx.map Prod.fst = C from by simp] at this
theorem told_nil' {a : List It} (h : Told [] a) : a = [] := by have := told_perm h; simpa using this
/-- the want of the first k -/
def wl (f : Nat → Int) (count k : Nat) : List Int := (List.range count).map (fun j => if j < k then wt (f j) else 0)
theorem wl_len (f : Nat → Int) (count k : Nat) : (wl f count k).length = count := by simp [wl]
theorem wl_zero (f : Nat → Int) (count : Nat) : wl f count 0 = List.replicate count 0 := by
  unfold wl
  apply List.ext_getElem (by simp)
  intro i h1 h2
  simp
theorem wl_set (f : Nat → Int) (count k : Nat) : (wl f count k).set k (wt (f k)) = wl f count (k + 1) := by
  unfold wl
  apply List.ext_getElem (by simp)
  intro i h1 h2
  rw [List.getElem_set]
  simp only [List.getElem_map, List.getElem_range]
  by_cases e : k = i
  · subst e; rw [if_pos rfl, if_pos (by omega)]
  · rw [if_neg e]
    by_cases h : i < k
    · rw [if_pos h, if_pos (by omega)]
    · rw [if_neg h, if_neg (by omega)]
theorem wl_same (f : Nat → Int) (count k : Nat) (h : wt (f k) = 0) : wl f count k = wl f count (k + 1) := by
  unfold wl
  apply List.ext_getElem (by simp)
  intro i h1 h2
  simp only [List.getElem_map, List.getElem_range]
  by_cases hi : i < k
  · rw [if_pos hi, if_pos (by omega)]
  · rw [if_neg hi]
    by_cases e : i = k
    · subst e; rw [if_pos (by omega), h]
    · rw [if_neg (by omega)]
/-- got, by a function -/
def gl (count : Nat) (G : Nat → Int) : List Int := (List.range count).map G
theorem gl_len (count : Nat) (G : Nat → Int) : (gl count G).length = count := by simp [gl]
theorem gl_zero (count : Nat) : gl count (fun _ => 0) = List.replicate count 0 := by
  unfold gl
  apply List.ext_getElem (by simp)
  intro i h1 h2
  simp
theorem gl_set (count : Nat) (G G' : Nat → Int) (k : Nat) (u : Int) (hG : ∀ j, j < count → G' j = if j = k then u else G j) : (gl count G).set k u = gl count G' := by
  unfold gl
  apply List.ext_getElem (by simp)
  intro i h1 h2
  have hi : i < count := by simpa using h2
  rw [List.getElem_set]
  simp only [List.getElem_map, List.getElem_range]
  rw [hG i hi]
  by_cases e : k = i
  · subst e; rw [if_pos rfl]
  · rw [if_neg e, if_neg (fun h => e h.symm)]
theorem gl_get (count : Nat) (G : Nat → Int) (k : Nat) (hk : k < count) : ((gl count G).map (Value.int .i64))[k]? = some (.int .i64 (G k)) := by
  unfold gl
  simp [hk]
theorem gl_ext (count : Nat) (G G' : Nat → Int) (h : ∀ j, j < count → G j = G' j) : gl count G = gl count G' := by
  unfold gl
  apply List.map_congr_left
  intro j hj
  exact h j (List.mem_range.1 hj)
theorem wl_gl (f : Nat → Int) (count : Nat) : wl f count count = gl count (fun j => wt (f j)) := by
  unfold wl gl
  apply List.map_congr_left
  intro j hj
  rw [if_pos (List.mem_range.1 hj)]
/-- two rows of numbers beside a net -/
structure OnW (w wr : World) (g5 g6 c5 c6 count : Nat) (Wl Gl : List Int) (v : Value) (ps : List Pc) : Prop where
  net : NS wr w.heap.size w.heap.size v ps
  want : wr.ownsRow w.heap.size 3 1 (.slice (some ⟨g5, 0, none⟩) count c5) count (Wl.map (Value.int .i64))
  got : wr.ownsRow w.heap.size 3 1 (.slice (some ⟨g6, 0, none⟩) count c6) count (Gl.map (Value.int .i64))
  s5 : g5 ∉ fp w.heap.size v ps
  s6 : g6 ∉ fp w.heap.size v ps
  ne : g5 ≠ g6
  bel : Below w.heap.size w wr
theorem OnW.step {w wr w2 : World} {g5 g6 c5 c6 count : Nat} {Wl Gl : List Int} {v v2 : Value} {ps ps2 : List Pc} (h : OnW w wr g5 g6 c5 c6 count Wl Gl v ps) (hn : NS w2 w.heap.size w.heap.size v2 ps2) (hf : Fr (fun k => k ∈ fp w.heap.size v ps) wr w2) (he : Ext (fp w.heap.size v ps) (fp w.heap.size v2 ps2) wr) : OnW w w2 g5 g6 c5 c6 count Wl Gl v2 ps2 := by
  have l5 := (owns_blk h.want g5 rfl).2
  have l6 := (owns_blk h.got g6 rfl).2
  refine ⟨hn, owns_fr h.want hf (fun g hg e => ?_), owns_fr h.got hf (fun g hg e => ?_), fun e => ?_, fun e => ?_, h.ne, Fr.bel h.bel hf (fun i hi => (h.net.lt i hi).1) h.bel.size⟩
  · cases hg; exact h.s5 e
  · cases hg; exact h.s6 e
  · rcases he g5 e with k | k
    · exact h.s5 k
    · omega
  · rcases he g6 e with k | k
    · exact h.s6 k
    · omega
theorem OnW.setW {w wr : World} {g5 g6 c5 c6 count : Nat} {Wl Gl : List Int} {v : Value} {ps : List Pc} (h : OnW w wr g5 g6 c5 c6 count Wl Gl v ps) (k : Nat) (u : Int) : OnW w (wr.setCell ⟨g5, k, none⟩ (.int .i64 u)) g5 g6 c5 c6 count (Wl.set k u) Gl v ps := by
  have hf : Fr (fun x => x = g5) wr (wr.setCell ⟨g5, k, none⟩ (.int .i64 u)) := set_fr rfl
  refine ⟨h.net.fr hf (fun g hg e => h.s5 (e ▸ hg)), by rw [List.map_set]; exact (h.want.stored k _).1, owns_fr h.got hf (fun g hg e => ?_), h.s5, h.s6, h.ne, Fr.bel h.bel hf (fun i hi => by rw [hi]; exact (owns_blk h.want g5 rfl).1) h.bel.size⟩
  cases hg; exact h.ne e.symm
theorem OnW.setG {w wr : World} {g5 g6 c5 c6 count : Nat} {Wl Gl : List Int} {v : Value} {ps : List Pc} (h : OnW w wr g5 g6 c5 c6 count Wl Gl v ps) (k : Nat) (u : Int) : OnW w (wr.setCell ⟨g6, k, none⟩ (.int .i64 u)) g5 g6 c5 c6 count Wl (Gl.set k u) v ps := by
  have hf : Fr (fun x => x = g6) wr (wr.setCell ⟨g6, k, none⟩ (.int .i64 u)) := set_fr rfl
  refine ⟨h.net.fr hf (fun g hg e => h.s6 (e ▸ hg)), owns_fr h.want hf (fun g hg e => ?_), by rw [List.map_set]; exact (h.got.stored k _).1, h.s5, h.s6, h.ne, Fr.bel h.bel hf (fun i hi => by rw [hi]; exact (owns_blk h.got g6 rfl).1) h.bel.size⟩
  cases hg; exact h.ne e
/-- what has been got and what is on its way, together, are what is wanted -/
structure OnSt (pf : Nat → Int) (count : Nat) (G : Nat → Int) (I : List It) (t : Int) : Prop where
  sum : ∀ j, j < count → 0 ≤ G j ∧ G j + (cn I j : Int) = wt (pf j)
  mem : ∀ x ∈ I, (∃ j, j < count ∧ x.1 = (qk 4 (j : Nat)).r) ∧ t ≤ x.2 ∧ x.2 ≤ 109
theorem wt_le (p : Int) : wt p ≤ 2 := by
  unfold wt
  split
  · omega
  · split
    · omega
    · split <;> omega
theorem OnSt.start (pf : Nat → Int) (count : Nat) : OnSt pf count (fun _ => 0) (onI pf count) 101 :=
  ⟨fun j hj => ⟨Int.le_refl _, by rw [cn_onI, if_pos hj]; omega⟩, fun x hx => onI_mem hx⟩
theorem OnSt.next {pf : Nat → Int} {count : Nat} {G G' : Nat → Int} {I a K : List It} {t : Int} (h : OnSt pf count G I t) (ha : a.Perm (I.filter (fun x => decide (x.2 ≤ t)))) (hK : K = I.filter (fun x => !decide (x.2 ≤ t))) (hG : ∀ j, j < count → G' j = G j + (cn a j : Int)) : OnSt pf count G' K (t + 1) := by
  subst hK
  refine ⟨fun j hj => ?_, fun x hx => ?_⟩
  · obtain ⟨h1, h2⟩ := h.sum j hj
    have e1 := cn_perm ha j
    have e2 := cn_split I (fun x => decide (x.2 ≤ t)) j
    have e3 := hG j hj
    omega
  · obtain ⟨hx1, hx2⟩ := List.mem_filter.1 hx
    obtain ⟨h1, h2, h3⟩ := h.mem x hx1
    have : ¬ x.2 ≤ t := by simpa using hx2
    exact ⟨h1, by omega, h3⟩
theorem cn_le (a b : List It) (h : a.Sublist b) (j : Nat) : cn a j ≤ cn b j := (h.filter _).length_le
theorem cn_take (a : List It) (k : Nat) (hk : k < a.length) (i j : Nat) (h : a[k].1 = (qk 4 (i : Nat)).r) : cn (a.take (k + 1)) j = cn (a.take k) j + (if j = i then 1 else 0) := by
  rw [List.take_succ_eq_append_getElem hk, cn_app]
  congr 1
  unfold cn
  by_cases e : j = i
  · subst e
    rw [if_pos rfl, List.filter_cons_of_pos]
    · rfl
    · rw [h]; exact decide_eq_true rfl
  · rw [if_neg e, List.filter_cons_of_neg]
    · rfl
    · rw [h]
      simp only [decide_eq_true_eq]
      show ¬ ((i : Int) = (j : Int))
      omega
end Go.Proofs.Ytfgelagmjjjlgaa.Nt
