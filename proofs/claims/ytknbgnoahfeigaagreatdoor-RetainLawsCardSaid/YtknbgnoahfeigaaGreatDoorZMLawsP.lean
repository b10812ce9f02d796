/- Proved here: what a list is with a message more, put once, twice, and with an empty payload; what # finds. Helpers on plain lists. -/
import Derived.Test.YtknbgnoahfeigaaGreatDoorZMAk
import Derived.Test.YtknbgnoahfeigaaGreatDoorZMMat
namespace Go.Proofs.YtknbgnoahfeigaaGreatDoor.M
open Go.RowKit

theorem cb_neg : ∀ (x y : List UInt8), Lib.compareBytes x y = -Lib.compareBytes y x
  | [], [] => rfl
  | [], _ :: _ => rfl
  | _ :: _, [] => rfl
  | a :: x, b :: y => by
    rw [Lib.compareBytes, Lib.compareBytes]
    simp only [UInt8.lt_iff_toNat_lt]
    by_cases h1 : a.toNat < b.toNat
    · rw [if_pos h1, if_neg (by omega), if_pos h1]
    · by_cases h2 : b.toNat < a.toNat
      · rw [if_neg h1, if_pos h2, if_pos h2]; rfl
      · rw [if_neg h1, if_neg h2, if_neg h2, if_neg h1]
        exact cb_neg x y
theorem cmp_neg (a b : ByteArray) : cmpB a b = -cmpB b a := cb_neg _ _
/-- a list around the place of a topic -/
structure Frm (t : ByteArray) (T R : List Mg) : Prop where
  lo : ∀ x ∈ T, cmpB x.topic t < 0
  hi : ∀ x ∈ R, cmpB t x.topic < 0
theorem frm_at {t : ByteArray} {T R W : List Mg} (h : Frm t T R) (hw : ∀ x ∈ W, x.topic = t) : At (T ++ (W ++ R)) t T.length := by
  refine ⟨by simp, fun j hj => ?_, fun j h1 h2 => ?_⟩
  · rw [getD_get _ j (by simp; omega), List.getElem_append_left hj]
    exact h.lo _ (List.getElem_mem hj)
  · rw [getD_get _ j h2, List.getElem_append_right h1]
    have hm : (W ++ R)[j - T.length]'(by simp at h2 ⊢; omega) ∈ W ++ R := List.getElem_mem _
    rcases List.mem_append.1 hm with hm | hm
    · rw [hw _ hm, (cmpB_zero t t).2 rfl]; exact Int.le_refl _
    · have := h.hi _ hm
      rw [cmp_neg] at this
      omega
theorem thr_one {t : ByteArray} {T R : List Mg} {x : Mg} (hx : x.topic = t) : thr (T ++ ([x] ++ R)) t T.length = true := by
  unfold thr
  have hl : T.length < (T ++ ([x] ++ R)).length := by simp
  rw [decide_eq_true hl, getD_get _ _ hl, List.getElem_append_right (Nat.le_refl _)]
  simp only [Nat.sub_self, List.singleton_append, List.getElem_cons_zero, hx]
  rw [decide_eq_true ((cmpB_zero t t).2 rfl)]; rfl
theorem thr_none {t : ByteArray} {T R : List Mg} (h : Frm t T R) : thr (T ++ ([] ++ R)) t T.length = false := by
  unfold thr
  by_cases hl : T.length < (T ++ ([] ++ R)).length
  · rw [decide_eq_true hl, getD_get _ _ hl, List.getElem_append_right (Nat.le_refl _)]
    have hm : ∀ x ∈ ([] ++ R : List Mg), 0 < cmpB x.topic t := fun x hx => by
      have := h.hi x hx
      rw [cmp_neg] at this
      omega
    have h2 := hm _ (List.getElem_mem (l := [] ++ R) (n := T.length - T.length) (by simp at hl ⊢; omega))
    rw [decide_eq_false (by omega)]; rfl
  · rw [decide_eq_false hl]; rfl
/-- a message put at its place -/
theorem put_frm {t : ByteArray} {T R W : List Mg} {e : Mg} (h : Frm t T R) (hw : W = [] ∨ ∃ x : Mg, W = [x] ∧ x.topic = t) (he : e.topic = t) : putL (T ++ (W ++ R)) e T.length = T ++ (wrt e ++ R) := by
  unfold putL
  rw [he, List.take_left]
  rcases hw with rfl | ⟨x, rfl, hx⟩
  · rw [thr_none h, if_neg (by simp), List.drop_left]; rfl
  · rw [thr_one hx, if_pos rfl, ← List.drop_drop, List.drop_left]; rfl
/-- a list that may be is of this form -/
theorem frm_of {l : List Mg} {t : ByteArray} {k : Nat} (hm : mayL l) (ha : At l t k) : ∃ T W R, l = T ++ (W ++ R) ∧ T.length = k ∧ Frm t T R ∧ (W = [] ∨ ∃ x : Mg, W = [x] ∧ x.topic = t) := by
  have hT : (l.take k).length = k := by rw [List.length_take]; have := ha.1; omega
  have hlo : ∀ x ∈ l.take k, cmpB x.topic t < 0 := by
    intro x hx
    obtain ⟨j, hj, rfl⟩ := List.getElem_of_mem hx
    rw [hT] at hj
    have := ha.2.1 j hj
    rw [getD_get l j (by have := ha.1; omega)] at this
    simpa using this
  have hmem : ∀ n, ∀ x ∈ l.drop n, ∃ j, n ≤ j ∧ ∃ hj : j < l.length, x = l[j] := by
    intro n x hx
    obtain ⟨i, hi, rfl⟩ := List.getElem_of_mem hx
    rw [List.length_drop] at hi
    exact ⟨n + i, by omega, by omega, by rw [List.getElem_drop]⟩
  cases hth : thr l t k
  · refine ⟨l.take k, [], l.drop k, by simp, hT, ⟨hlo, ?_⟩, .inl rfl⟩
    intro x hx
    obtain ⟨j, hkj, hj, rfl⟩ := hmem k x hx
    have hkl : k < l.length := by omega
    have h1 := ha.2.2 k (Nat.le_refl _) hkl
    have h2 : cmpB (l.getD k mg0).topic t ≠ 0 := by
      intro e
      unfold thr at hth
      rw [decide_eq_true hkl, decide_eq_true e] at hth
      cases hth
    have h3 : cmpB t (l.getD k mg0).topic < 0 := by rw [cmp_neg]; omega
    rcases Nat.eq_or_lt_of_le hkj with e | e
    · subst e
      rw [getD_get l k hkl] at h3
      exact h3
    · have h4 := may_lt hm (j - k - 1) k (by omega)
      rw [show k + (j - k - 1) + 1 = j from by omega] at h4
      rw [getD_get l j hj] at h4
      exact cb_trans _ _ _ h3 h4
  · unfold thr at hth
    simp only [Bool.and_eq_true, decide_eq_true_eq] at hth
    obtain ⟨hkl, h0⟩ := hth
    have ht := (cmpB_zero _ _).1 h0
    rw [getD_get l k hkl] at ht
    refine ⟨l.take k, [l[k]], l.drop (k + 1), by simp, hT, ⟨hlo, ?_⟩, .inr ⟨l[k], rfl, ht⟩⟩
    intro x hx
    obtain ⟨j, hkj, hj, rfl⟩ := hmem (k + 1) x hx
    have h4 := may_lt hm (j - k - 1) k (by omega)
    rw [show k + (j - k - 1) + 1 = j from by omega, getD_get l j hj, getD_get l k hkl, ht] at h4
    exact h4
theorem frm_may {t : ByteArray} {T R W V : List Mg} (h : Frm t T R) (hm : mayL (T ++ (W ++ R))) (hv : V = [] ∨ ∃ x : Mg, V = [x] ∧ x.topic = t ∧ nm x = true) : mayL (T ++ (V ++ R)) := by
  have hn := may_nm hm
  have hp := may_pw hm
  rw [PW, List.pairwise_append] at hp
  have hp2 := hp.2.1
  rw [List.pairwise_append] at hp2
  have hTR : ∀ a ∈ T, ∀ b ∈ R, cmpB a.topic b.topic < 0 := fun a ha b hb => cb_trans _ _ _ (h.lo a ha) (h.hi b hb)
  refine may_of (fun m hm => ?_) ?_
  · rcases List.mem_append.1 hm with hm | hm
    · exact hn m (by simp [hm])
    · rcases List.mem_append.1 hm with hm | hm
      · rcases hv with rfl | ⟨x, rfl, _, hx⟩
        · cases hm
        · obtain rfl := List.mem_singleton.1 hm; exact hx
      · exact hn m (by simp [hm])
  · show List.Pairwise _ _
    rw [List.pairwise_append]
    refine ⟨hp.1, ?_, fun a ha b hb => ?_⟩
    · rw [List.pairwise_append]
      refine ⟨?_, hp2.2.1, fun a ha b hb => ?_⟩
      · rcases hv with rfl | ⟨x, rfl, _⟩
        · exact List.Pairwise.nil
        · exact List.pairwise_singleton _ _
      · rcases hv with rfl | ⟨x, rfl, hx, _⟩
        · cases ha
        · obtain rfl := List.mem_singleton.1 ha; rw [hx]; exact h.hi b hb
    · rcases List.mem_append.1 hb with hb | hb
      · rcases hv with rfl | ⟨x, rfl, hx, _⟩
        · cases hb
        · obtain rfl := List.mem_singleton.1 hb; rw [hx]; exact h.lo a ha
      · exact hTR a ha b hb
theorem wrt_cases (m : Mg) (h : nm m = true) : wrt m = [] ∨ ∃ x : Mg, wrt m = [x] ∧ x.topic = m.topic ∧ nm x = true := by
  unfold wrt
  split
  · exact .inl rfl
  · exact .inr ⟨m, rfl, rfl, h⟩
theorem putN_nm {l : List Mg} {m : Mg} {k : Nat} (h : putN l m k = 0) : nm m = true := by
  unfold putN at h
  split at h
  · assumption
  · cases h
/-- the message without its payload -/
abbrev bare (m : Mg) : Mg := { m with payload := ⟨#[]⟩ }
theorem bare_emp (m : Mg) : (bare m).payload.toList.isEmpty = true := by
  show (⟨#[]⟩ : ByteArray).toList.isEmpty = true
  rw [Lib.toList_data]; rfl
/-- all that the statement asks of putting twice -/
theorem put_all {l : List Mg} {m : Mg} {k : Nat} (hm : mayL l) (ha : At l m.topic k) (h0 : putN l m k = 0) :
    mayL (putL l m k) ∧ At (putL l m k) m.topic k ∧ putN (putL l m k) m k = 0 ∧ putL (putL l m k) m k = putL l m k ∧ putN (putL l m k) (bare m) k = 0 ∧ putN l (bare m) k = 0 ∧ putL (putL l m k) (bare m) k = putL l (bare m) k := by
  have hn := putN_nm h0
  obtain ⟨T, W, R, rfl, rfl, hf, hw⟩ := frm_of hm ha
  have hA := put_frm (e := m) hf hw rfl
  have hwc := wrt_cases m hn
  have hw2 : wrt m = [] ∨ ∃ x : Mg, wrt m = [x] ∧ x.topic = m.topic := by
    rcases hwc with h | ⟨x, h1, h2, _⟩
    · exact .inl h
    · exact .inr ⟨x, h1, h2⟩
  have hnb : nm (bare m) = true := hn
  have hB : ∀ l' : List Mg, putN l' (bare m) T.length = 0 := fun l' => by unfold putN; rw [if_pos hnb, if_pos (.inr (.inl (bare_emp m)))]
  refine ⟨?_, ?_, ?_, ?_, hB _, hB _, ?_⟩
  · rw [hA]; exact frm_may hf hm hwc
  · rw [hA]
    refine frm_at hf fun x hx => ?_
    rcases hw2 with h | ⟨y, h, hy⟩
    · rw [h] at hx; cases hx
    · rw [h] at hx; obtain rfl := List.mem_singleton.1 hx; exact hy
  · rw [hA]
    unfold putN
    rw [if_pos hn]
    rcases hw2 with h | ⟨y, h, hy⟩
    · have : m.payload.toList.isEmpty = true := by
        unfold wrt at h
        split at h
        · assumption
        · cases h
      rw [if_pos (.inr (.inl this))]
    · rw [h, if_pos (.inl (thr_one hy))]
  · rw [hA, put_frm (e := m) hf hw2 rfl]
  · rw [hA, put_frm (e := bare m) hf hw2 rfl, put_frm (e := bare m) hf hw rfl]
theorem top_put {l : List Mg} {m : Mg} {k : Nat} (h : TopOk l) (ht : m.topic.size ≤ 140737488351232) : TopOk (putL l m k) := by
  have hl : ∀ x ∈ l, x.topic.size ≤ 140737488351232 := fun x hx => by
    obtain ⟨j, hj, rfl⟩ := List.getElem_of_mem hx
    have := h j hj
    rw [getD_get l j hj] at this
    exact this
  intro i hi
  rw [getD_get _ i hi]
  have hx : (putL l m k)[i] ∈ putL l m k := List.getElem_mem hi
  generalize (putL l m k)[i] = x at hx
  unfold putL at hx
  rcases List.mem_append.1 hx with hx | hx
  · exact hl x (List.mem_of_mem_take hx)
  · rcases List.mem_append.1 hx with hx | hx
    · unfold wrt at hx
      split at hx
      · cases hx
      · obtain rfl := List.mem_singleton.1 hx; exact ht
    · split at hx
      · exact hl x (List.mem_of_mem_drop hx)
      · exact hl x (List.mem_of_mem_drop hx)
/-- a name that does not begin with $ -/
def noD (m : Mg) : Bool := !decide (m.topic.data.toList.getD 0 0 = 36)
abbrev hsh : ByteArray := ⟨#[35]⟩
set_option maxRecDepth 100000 in
theorem hsh_may : mayF hsh = true := by decide
theorem hsh_mtc (l : List UInt8) (h : l ≠ []) : mtc [35] l = !decide (l.getD 0 0 = 36) := by
  rw [← pre36 l h]
  unfold mtc hid
  have h1 : lvl [35] = [[35]] := by decide
  have h2 : mat (lvl [35]) (lvl l) = true := by
    rw [h1]
    have := mat_hash [[35]] (lvl l) 0 (by simp) (by simp)
    simpa using this
  rw [h2]
  simp [h1]
theorem fnd_hsh {l : List Mg} (hm : mayL l) (now : Int) : l.filter (fnd hsh now) = (l.filter (liv now)).filter noD := by
  rw [List.filter_filter]
  apply List.filter_congr
  intro m hmem
  have hn := may_nm hm m hmem
  have hne : m.topic.data.toList ≠ [] := by
    intro e
    have h1 := name_pos hn
    have h2 := size_len m.topic
    rw [e] at h2
    simp at h2
    omega
  unfold fnd
  rw [show hsh.data.toList = [35] from rfl, hsh_mtc _ hne]
  rfl
end Go.Proofs.YtknbgnoahfeigaaGreatDoor.M
