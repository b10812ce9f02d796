/- Proved here: plain laws on lists of members, votes, quorums and changes. Helper laws that name no program. -/
import Derived.Test.YtmmhdhpocjnlbaaGreatDoorZBase
import Derived.Laws.BitsAllLaws
namespace Go.Proofs.YtmmhdhpocjnlbaaGreatDoor.Qu

/-- the one ahead of place k, or 0 -/
def ahd (m : List Int) (k : Nat) : Int := if k = 0 then 0 else m.getD (k - 1) 0
/-- members: a rising list of numbers from 1 to 7 -/
def Mem (m : List Int) : Prop := ∀ k, k < m.length → ahd m k < m.getD k 0 ∧ m.getD k 0 ≤ 7
instance (m : List Int) : Decidable (Mem m) := inferInstanceAs (Decidable (∀ k, k < m.length → _))
theorem Mem.pos {m : List Int} (h : Mem m) : ∀ k, k < m.length → 1 ≤ m.getD k 0 := by
  intro k hk
  induction k with
  | zero =>
    have h1 := (h 0 hk).1
    unfold ahd at h1
    rw [if_pos rfl] at h1
    omega
  | succ n ih =>
    have h1 := (h (n + 1) hk).1
    have h2 := ih (by omega)
    unfold ahd at h1
    rw [if_neg (by omega), Nat.add_sub_cancel] at h1
    omega
theorem mem_of_page {m : List Int} (h1 : ∀ k, k < m.length → 1 ≤ m.getD k 0 ∧ m.getD k 0 ≤ 7) (h2 : ∀ k, 1 ≤ k → k < m.length → m.getD (k - 1) 0 < m.getD k 0) : Mem m := by
  intro k hk
  refine ⟨?_, (h1 k hk).2⟩
  unfold ahd
  by_cases h0 : k = 0
  · rw [if_pos h0]; have := (h1 k hk).1; omega
  · rw [if_neg h0]; exact h2 k (by omega) hk
theorem Mem.rise {m : List Int} (h : Mem m) : ∀ k, 1 ≤ k → k < m.length → m.getD (k - 1) 0 < m.getD k 0 := by
  intro k h1 hk
  have := (h k hk).1
  unfold ahd at this
  rwa [if_neg (by omega)] at this
theorem getD_cons_s (x : Int) (r : List Int) (k : Nat) : (x :: r).getD (k + 1) 0 = r.getD k 0 := rfl
theorem mem_tail {x : Int} {r : List Int} (h : Mem (x :: r)) : (∀ k, k < r.length → 1 ≤ r.getD k 0 ∧ r.getD k 0 ≤ 7) ∧ (∀ k, 1 ≤ k → k < r.length → r.getD (k - 1) 0 < r.getD k 0) := by
  refine ⟨fun k hk => ⟨?_, ?_⟩, fun k h1 hk => ?_⟩
  · have := h.pos (k + 1) (by simpa using hk); rwa [getD_cons_s] at this
  · have := (h (k + 1) (by simpa using hk)).2; rwa [getD_cons_s] at this
  · have := h.rise (k + 1) (by omega) (by simpa using hk)
    rw [getD_cons_s] at this
    have e : k + 1 - 1 = (k - 1) + 1 := by omega
    rw [e, getD_cons_s] at this
    exact this
theorem Mem.tail {x : Int} {r : List Int} (h : Mem (x :: r)) : Mem r := mem_of_page (mem_tail h).1 (mem_tail h).2
theorem Mem.head {x : Int} {r : List Int} (h : Mem (x :: r)) : (1 ≤ x ∧ x ≤ 7) ∧ ∀ y ∈ r, x < y := by
  have h1 := h.pos 0 (by simp)
  have h2 := (h 0 (by simp)).2
  refine ⟨⟨h1, h2⟩, ?_⟩
  intro y hy
  obtain ⟨k, hk, rfl⟩ := List.mem_iff_getElem.1 hy
  induction k with
  | zero =>
    have := h.rise 1 (by omega) (by simp; omega)
    simp at this
    simpa [List.getD_eq_getElem?_getD, hk] using this
  | succ n ih =>
    have h3 := ih (by omega) (List.getElem_mem _)
    have h4 := h.rise (n + 2) (by omega) (by simp; omega)
    have e1 : (x :: r).getD (n + 2) 0 = r[n + 1] := by simp [List.getD_eq_getElem?_getD, hk]
    have e2 : (x :: r).getD (n + 2 - 1) 0 = r[n] := by
      have : n < r.length := by omega
      simp [List.getD_eq_getElem?_getD, this]
    rw [e1, e2] at h4
    omega
theorem Mem.ge {m : List Int} (h : Mem m) : ∀ x ∈ m, 1 ≤ x ∧ x ≤ 7 := by
  intro x hx
  obtain ⟨k, hk, rfl⟩ := List.mem_iff_getElem.1 hx
  have h1 := h.pos k hk
  have h2 := (h k hk).2
  simp [List.getD_eq_getElem?_getD, hk] at h1 h2
  exact ⟨h1, h2⟩
/-- all that may be members -/
def U7 : List Int := [1, 2, 3, 4, 5, 6, 7]
/-- a rising list is what of a rising list it holds -/
theorem filter_of_rising : ∀ (u m : List Int), u.Pairwise (· < ·) → m.Pairwise (· < ·) → (∀ x ∈ m, x ∈ u) → u.filter (fun x => decide (x ∈ m)) = m
  | [], m, _, _, h => by
    cases m with
    | nil => rfl
    | cons x r => exact absurd (h x List.mem_cons_self) List.not_mem_nil
  | a :: u, m, hu, hm, h => by
    rw [List.pairwise_cons] at hu
    by_cases ha : a ∈ m
    · cases m with
      | nil => cases ha
      | cons x r =>
        rw [List.pairwise_cons] at hm
        have hax : a = x := by
          rcases List.mem_cons.1 (h x List.mem_cons_self) with e | e
          · exact e.symm
          · rcases List.mem_cons.1 ha with e2 | e2
            · exact e2
            · have := hu.1 x e; have := hm.1 a e2; omega
        subst hax
        rw [List.filter_cons_of_pos (by simp)]
        congr 1
        have hr : ∀ y ∈ r, y ∈ u := by
          intro y hy
          rcases List.mem_cons.1 (h y (List.mem_cons_of_mem _ hy)) with e | e
          · have := hm.1 y hy; omega
          · exact e
        rw [← filter_of_rising u r hu.2 hm.2 hr]
        rw [filter_of_rising u r hu.2 hm.2 hr]
        have : ∀ y ∈ u, decide (y ∈ a :: r) = decide (y ∈ r) := by
          intro y hy
          have := hu.1 y hy
          have hya : ¬ y = a := by omega
          simp [List.mem_cons, hya]
        rw [List.filter_congr this, filter_of_rising u r hu.2 hm.2 hr]
    · rw [List.filter_cons_of_neg (by simpa using ha)]
      refine filter_of_rising u m hu.2 hm ?_
      intro y hy
      rcases List.mem_cons.1 (h y hy) with e | e
      · exact absurd (e ▸ hy) ha
      · exact e
theorem Mem.pairwise : ∀ {m : List Int}, Mem m → m.Pairwise (· < ·)
  | [], _ => List.Pairwise.nil
  | _ :: _, h => List.Pairwise.cons h.head.2 (Mem.pairwise h.tail)
theorem Mem.u7 {m : List Int} (h : Mem m) : ∀ x ∈ m, x ∈ U7 := by
  intro x hx
  have := h.ge x hx
  unfold U7
  simp
  omega
theorem u7_pw : U7.Pairwise (· < ·) := by decide
theorem Mem.eq {m : List Int} (h : Mem m) : U7.filter (fun x => decide (x ∈ m)) = m := filter_of_rising U7 m u7_pw h.pairwise h.u7
theorem Mem.count {m : List Int} (h : Mem m) (p : Int → Bool) : m.countP p = U7.countP (fun x => decide (x ∈ m) && p x) := by
  conv => lhs; rw [← h.eq]
  rw [List.countP_filter]
  refine List.countP_congr (fun x _ => ?_)
  rw [Bool.and_comm]
theorem Mem.len {m : List Int} (h : Mem m) : m.length = U7.countP (fun x => decide (x ∈ m)) := by
  conv => lhs; rw [← h.eq]
  rw [List.countP_eq_length_filter]
theorem Mem.len7 {m : List Int} (h : Mem m) : m.length ≤ 7 := by
  rw [h.len]
  exact List.countP_le_length
/-- pointwise: as many, at most -/
theorem countP_two {α : Type} (u : List α) (p q r : α → Bool) (h : ∀ x ∈ u, (if p x then 1 else 0) + (if q x then 1 else 0) ≤ (if r x then 1 else (0 : Nat))) : u.countP p + u.countP q ≤ u.countP r := by
  induction u with
  | nil => simp
  | cons x t ih =>
    have h1 := h x List.mem_cons_self
    have h2 := ih (fun y hy => h y (List.mem_cons_of_mem _ hy))
    rw [List.countP_cons, List.countP_cons, List.countP_cons]
    omega
theorem countP_sum {α : Type} (u : List α) (p q r s : α → Bool) (h : ∀ x ∈ u, (if p x then 1 else 0) + (if q x then 1 else 0) = (if r x then 1 else 0) + (if s x then 1 else (0 : Nat))) : u.countP p + u.countP q = u.countP r + u.countP s := by
  induction u with
  | nil => simp
  | cons x t ih =>
    have h1 := h x List.mem_cons_self
    have h2 := ih (fun y hy => h y (List.mem_cons_of_mem _ hy))
    rw [List.countP_cons, List.countP_cons, List.countP_cons, List.countP_cons]
    omega
/-- how many of m are among the votes -/
def cnt (m v : List Int) : Nat := m.countP (fun x => decide (x ∈ v))
def enoB (m v : List Int) : Bool := decide (m.length < 2 * cnt m v)
/-- all of a are in b -/
def allIn (a b : List Int) : Bool := a.all (fun x => decide (x ∈ b))
/-- b is a with one more, or one less, and not empty -/
def chgB (a b : List Int) : Bool := decide (b ≠ []) && ((decide (b.length = a.length + 1) && allIn a b) || (decide (a.length = b.length + 1) && allIn b a))
theorem chg_iff {a b : List Int} : chgB a b = true ↔ b ≠ [] ∧ ((b.length = a.length + 1 ∧ ∀ x ∈ a, x ∈ b) ∨ (a.length = b.length + 1 ∧ ∀ x ∈ b, x ∈ a)) := by
  unfold chgB allIn
  simp
/-- how many are in one of two and not in the other -/
def unl (a b : List Int) : Nat := U7.countP (fun x => decide (x ∈ a) != decide (x ∈ b))
theorem chg_unl {a b : List Int} (ha : Mem a) (hb : Mem b) : chgB a b = true ↔ b ≠ [] ∧ unl b a = 1 := by
  rw [chg_iff]
  have e : U7.countP (fun x => decide (x ∈ a)) + U7.countP (fun x => decide (x ∈ b) && !decide (x ∈ a)) = U7.countP (fun x => decide (x ∈ b)) + U7.countP (fun x => decide (x ∈ a) && !decide (x ∈ b)) := by
    refine countP_sum _ _ _ _ _ (fun x _ => ?_)
    by_cases h1 : x ∈ a <;> by_cases h2 : x ∈ b <;> simp [h1, h2]
  have e2 : U7.countP (fun x => decide (x ∈ b) && !decide (x ∈ a)) + U7.countP (fun x => decide (x ∈ a) && !decide (x ∈ b)) = unl b a + U7.countP (fun _ => false) := by
    refine countP_sum _ _ _ _ _ (fun x _ => ?_)
    by_cases h1 : x ∈ a <;> by_cases h2 : x ∈ b <;> simp [h1, h2]
  have e0 : U7.countP (fun _ => false) = 0 := by simp
  rw [e0] at e2
  rw [← ha.len, ← hb.len] at e
  have sub : ∀ {p q : List Int}, Mem p → ((∀ x ∈ p, x ∈ q) ↔ U7.countP (fun x => decide (x ∈ p) && !decide (x ∈ q)) = 0) := by
    intro p q hp
    rw [List.countP_eq_zero]
    constructor
    · intro h x _ hx
      simp at hx
      exact hx.2 (h x hx.1)
    · intro h x hx
      have := h x (hp.u7 x hx)
      simp at this
      exact this hx
  rw [sub ha, sub hb]
  constructor
  · rintro ⟨h0, h | h⟩ <;> exact ⟨h0, by omega⟩
  · rintro ⟨h0, h⟩
    refine ⟨h0, ?_⟩
    omega
/-- two that are enough, of a and of a changed, have one in common -/
theorem chg_meet {a b x y : List Int} (ha : Mem a) (hb : Mem b) (hc : chgB a b = true) (hd : ∀ k, k ∈ x → k ∈ y → False) (h1 : enoB a x = true) (h2 : enoB b y = true) : False := by
  obtain ⟨_, h⟩ := chg_iff.1 hc
  unfold enoB cnt at h1 h2
  have h1 := of_decide_eq_true h1
  have h2 := of_decide_eq_true h2
  rw [ha.count] at h1
  rw [hb.count] at h2
  rcases h with ⟨hl, hs⟩ | ⟨hl, hs⟩
  · have := countP_two U7 (fun k => decide (k ∈ a) && decide (k ∈ x)) (fun k => decide (k ∈ b) && decide (k ∈ y)) (fun k => decide (k ∈ b)) (fun k _ => by
      by_cases p1 : k ∈ a <;> by_cases p2 : k ∈ b <;> by_cases p3 : k ∈ x <;> by_cases p4 : k ∈ y <;> simp [p1, p2, p3, p4] <;> first | exact hd k p3 p4 | exact p2 (hs k p1))
    rw [← hb.len] at this
    omega
  · have := countP_two U7 (fun k => decide (k ∈ a) && decide (k ∈ x)) (fun k => decide (k ∈ b) && decide (k ∈ y)) (fun k => decide (k ∈ a)) (fun k _ => by
      by_cases p1 : k ∈ a <;> by_cases p2 : k ∈ b <;> by_cases p3 : k ∈ x <;> by_cases p4 : k ∈ y <;> simp [p1, p2, p3, p4] <;> first | exact hd k p3 p4 | exact p1 (hs k p2))
    rw [← ha.len] at this
    omega
/-- how many of l are v or more -/
def geC (l : List Int) (v : Int) : Nat := l.countP (fun x => decide (v ≤ x))
def gtC (l : List Int) (v : Int) : Nat := l.countP (fun x => decide (v < x))
def srt (l : List Int) : List Int := l.mergeSort (fun x y => decide (x ≤ y))
/-- the greatest that more than half have -/
def idxQ (l : List Int) : Int := (srt l).getD (l.length - (l.length / 2 + 1)) 0
theorem srt_perm (l : List Int) : (srt l).Perm l := List.mergeSort_perm l _
theorem srt_len (l : List Int) : (srt l).length = l.length := (srt_perm l).length_eq
theorem srt_pw (l : List Int) : (srt l).Pairwise (· ≤ ·) := by
  have := List.pairwise_mergeSort (le := fun x y : Int => decide (x ≤ y)) (fun a b c h1 h2 => by simp at h1 h2 ⊢; omega) (fun a b => by simp; omega) l
  exact this.imp (fun h => by simpa using h)
theorem pw_get {s : List Int} (h : s.Pairwise (· ≤ ·)) {i j : Nat} (hij : i ≤ j) (hj : j < s.length) : s.getD i 0 ≤ s.getD j 0 := by
  rcases Nat.lt_or_eq_of_le hij with h1 | h1
  · have := List.pairwise_iff_getElem.1 h i j (by omega) hj h1
    rw [List.getD_eq_getElem?_getD, List.getD_eq_getElem?_getD, List.getElem?_eq_getElem hj, List.getElem?_eq_getElem (show i < s.length by omega)]
    exact this
  · subst h1; exact Int.le_refl _
/-- of a sorted list at least those from place j on have what stands there -/
theorem ge_from {s : List Int} (h : s.Pairwise (· ≤ ·)) {j : Nat} (hj : j < s.length) : s.length - j ≤ geC s (s.getD j 0) := by
  unfold geC
  have e : s = s.take j ++ s.drop j := (List.take_append_drop j s).symm
  have h2 : (s.drop j).countP (fun x => decide (s.getD j 0 ≤ x)) = (s.drop j).length := by
    rw [List.countP_eq_length]
    intro x hx
    obtain ⟨k, hk, rfl⟩ := List.mem_iff_getElem.1 hx
    rw [List.length_drop] at hk
    have := pw_get h (show j ≤ j + k by omega) (show j + k < s.length by omega)
    rw [List.getElem_drop]
    simp only [decide_eq_true_eq]
    have e2 : s.getD (j + k) 0 = s[j + k] := by rw [List.getD_eq_getElem?_getD, List.getElem?_eq_getElem (show j + k < s.length by omega)]; rfl
    rw [← e2]; exact this
  have h3 : s.countP (fun x => decide (s.getD j 0 ≤ x)) = (s.take j).countP (fun x => decide (s.getD j 0 ≤ x)) + (s.drop j).countP (fun x => decide (s.getD j 0 ≤ x)) := by
    generalize s.getD j 0 = v
    conv => lhs; rw [e]
    rw [List.countP_append]
  rw [h3, h2, List.length_drop]
  omega
/-- and at most those behind it have more -/
theorem gt_from {s : List Int} (h : s.Pairwise (· ≤ ·)) {j : Nat} (hj : j < s.length) : gtC s (s.getD j 0) ≤ s.length - j - 1 := by
  unfold gtC
  have e : s = s.take (j + 1) ++ s.drop (j + 1) := (List.take_append_drop (j + 1) s).symm
  have h2 : (s.take (j + 1)).countP (fun x => decide (s.getD j 0 < x)) = 0 := by
    rw [List.countP_eq_zero]
    intro x hx
    obtain ⟨k, hk, rfl⟩ := List.mem_iff_getElem.1 hx
    rw [List.length_take] at hk
    have := pw_get h (show k ≤ j by omega) hj
    rw [List.getElem_take]
    simp only [decide_eq_true_eq]
    have e2 : s.getD k 0 = s[k] := by rw [List.getD_eq_getElem?_getD, List.getElem?_eq_getElem (show k < s.length by omega)]; rfl
    rw [← e2]; omega
  have h3 : s.countP (fun x => decide (s.getD j 0 < x)) = (s.take (j + 1)).countP (fun x => decide (s.getD j 0 < x)) + (s.drop (j + 1)).countP (fun x => decide (s.getD j 0 < x)) := by
    generalize s.getD j 0 = v
    conv => lhs; rw [e]
    rw [List.countP_append]
  rw [h3, h2]
  have := List.countP_le_length (p := fun x => decide (s.getD j 0 < x)) (l := s.drop (j + 1))
  rw [List.length_drop] at this
  omega
theorem geC_perm {l l' : List Int} (h : l.Perm l') (v : Int) : geC l v = geC l' v := h.countP_eq _
theorem gtC_perm {l l' : List Int} (h : l.Perm l') (v : Int) : gtC l v = gtC l' v := h.countP_eq _
theorem idx_laws {l : List Int} (h : l ≠ []) : l.length < 2 * geC l (idxQ l) ∧ 2 * gtC l (idxQ l) ≤ l.length ∧ idxQ l ∈ l := by
  have hl : 0 < l.length := List.length_pos_iff.2 h
  have hj : l.length - (l.length / 2 + 1) < (srt l).length := by rw [srt_len]; omega
  have h1 := ge_from (srt_pw l) hj
  have h2 := gt_from (srt_pw l) hj
  rw [geC_perm (srt_perm l), srt_len] at h1
  rw [gtC_perm (srt_perm l), srt_len] at h2
  change _ ≤ geC l (idxQ l) at h1
  change gtC l (idxQ l) ≤ _ at h2
  refine ⟨by omega, by omega, (srt_perm l).mem_iff.1 ?_⟩
  unfold idxQ
  rw [List.getD_eq_getElem?_getD, List.getElem?_eq_getElem hj]
  exact List.getElem_mem _
/-- the page's: the greatest of those that more than half have, from 0 on -/
def bst (l : List Int) : List Int → Int → Int
  | [], b => b
  | x :: r, b => bst l r (if l.length < 2 * geC l x then max b x else b)
theorem bst_le (l : List Int) (v : Int) (hv : ∀ x, l.length < 2 * geC l x → x ≤ v) : ∀ (r : List Int) (b : Int), b ≤ v → bst l r b ≤ v
  | [], b, h => h
  | x :: r, b, h => by
    unfold bst
    refine bst_le l v hv r _ ?_
    by_cases h1 : l.length < 2 * geC l x
    · rw [if_pos h1]; have := hv x h1; omega
    · rw [if_neg h1]; exact h
theorem bst_ge (l : List Int) : ∀ (r : List Int) (b : Int), b ≤ bst l r b ∧ ∀ x ∈ r, l.length < 2 * geC l x → x ≤ bst l r b
  | [], b => ⟨Int.le_refl _, fun x hx => absurd hx List.not_mem_nil⟩
  | y :: r, b => by
    unfold bst
    obtain ⟨h1, h2⟩ := bst_ge l r (if l.length < 2 * geC l y then max b y else b)
    refine ⟨?_, ?_⟩
    · by_cases h3 : l.length < 2 * geC l y
      · rw [if_pos h3] at h1 ⊢; omega
      · rw [if_neg h3] at h1 ⊢; exact h1
    · intro x hx hg
      rcases List.mem_cons.1 hx with rfl | hx
      · rw [if_pos hg] at h1 ⊢; omega
      · exact h2 x hx hg
theorem idx_bst {l : List Int} (h0 : ∀ x ∈ l, 0 ≤ x) : bst l l 0 = idxQ l := by
  by_cases h : l = []
  · subst h; simp [bst, idxQ, srt]
  · obtain ⟨h1, h2, h3⟩ := idx_laws h
    apply Int.le_antisymm
    · refine bst_le l _ (fun x hx => ?_) l 0 (h0 _ h3)
      rcases Int.lt_or_le (idxQ l) x with h4 | h4
      · have : geC l x ≤ gtC l (idxQ l) := by
          unfold geC gtC
          refine List.countP_mono_left (fun y _ hy => ?_)
          simp at hy ⊢; omega
        omega
      · exact h4
    · exact (bst_ge l l 0).2 _ h3 h1
theorem bst_snoc (l : List Int) : ∀ (r : List Int) (b x : Int), bst l (r ++ [x]) b = (if l.length < 2 * geC l x then max (bst l r b) x else bst l r b)
  | [], b, x => rfl
  | y :: r, b, x => by
    show bst l (r ++ [x]) _ = _
    rw [bst_snoc l r]
    rfl
end Go.Proofs.YtmmhdhpocjnlbaaGreatDoor.Qu
