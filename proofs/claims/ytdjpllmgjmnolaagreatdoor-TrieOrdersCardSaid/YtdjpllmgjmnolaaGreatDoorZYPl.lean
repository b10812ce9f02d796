/- Proved here: plain facts on subscriptions in rows: their order, which of them a name matches level by level, and lists of them that are sorted. No program is named. -/
import Derived.Test.YtdjpllmgjmnolaaGreatDoorZQPlain
import Derived.Lib.Bytealg
namespace Go.Proofs.YtdjpllmgjmnolaaGreatDoor.Y
open Go.RowKit

/-- a subscription -/
structure Sb where
  f : ByteArray
  q : Int
  nl : Bool
  ap : Bool
  h : Int
/-- a client's subscription -/
structure Rw where
  c : ByteArray
  s : Sb
instance : Inhabited Sb := ⟨⟨⟨#[]⟩, 0, false, false, 0⟩⟩
instance : Inhabited Rw := ⟨⟨⟨#[]⟩, default⟩⟩
abbrev Path := List (List UInt8)
/-- the levels of a filter, without its group -/
def lv (f : ByteArray) : Path := match flt f.data.toList with
  | some (_, p) => lvl p
  | none => []
def okF (f : ByteArray) : Bool := (flt f.data.toList).isSome

/-- does what is left of a filter match what is left of a name? z: + and # match nothing here -/
def mt : Bool → Path → Path → Bool
  | _, [], n => n.isEmpty
  | z, f :: fs, n => if f = [35] then !z && mt false fs [] else match n with
    | [] => false
    | x :: xs => (decide (f = x) || (decide (f = [43]) && !z)) && mt false fs xs
/-- q goes on from p, and what is left of it matches the name from its m-th level on -/
def hitp (N : Path) (dol : Bool) (p : Path) (m : Nat) (q : Path) : Prop := ∃ r, q = p ++ r ∧ mt (decide (m = 0) && dol) r (N.drop m) = true
/-- .. by the level l -/
def blk (dol : Bool) (l : List UInt8) (m : Nat) : Bool := (decide (l = [35]) || decide (l = [43])) && (decide (m = 0) && dol)
def nowm (N : Path) (l : List UInt8) (m : Nat) : Nat := if l = [35] then N.length else m + 1
def folp (N : Path) (dol : Bool) (p : Path) (l : List UInt8) (m : Nat) (q : Path) : Prop := blk dol l m = false ∧ hitp N dol (p ++ [l]) (nowm N l m) q
/-- levels of a name -/
def NmOk (N : Path) : Prop := N ≠ [] ∧ ∀ x ∈ N, x ≠ [35] ∧ x ≠ [43]

theorem drop_get (N : Path) (m : Nat) (h : m < N.length) : N.drop m = N.getD m [] :: N.drop (m + 1) := by
  rw [List.drop_eq_getElem_cons h, List.getD_eq_getElem?_getD, List.getElem?_eq_getElem h]; rfl
theorem mem_getD (N : Path) (m : Nat) (h : m < N.length) : N.getD m [] ∈ N := by
  rw [List.getD_eq_getElem?_getD, List.getElem?_eq_getElem h]; exact List.getElem_mem h
theorem fol_hash {N : Path} {dol : Bool} {p : Path} {m : Nat} {q : Path} (hN : N ≠ []) : folp N dol p [35] m q ↔ ∃ r, q = p ++ [35] :: r ∧ (decide (m = 0) && dol) = false ∧ mt false r [] = true := by
  have hl : N.length ≠ 0 := fun e => hN (List.length_eq_zero_iff.1 e)
  unfold folp hitp blk nowm
  simp only [if_true, decide_true, Bool.true_or, Bool.true_and, List.drop_length, hl, decide_false, Bool.false_and]
  constructor
  · rintro ⟨h1, r, h2, h3⟩
    exact ⟨r, by rw [h2]; simp, h1, h3⟩
  · rintro ⟨r, h2, h1, h3⟩
    exact ⟨h1, r, by rw [h2]; simp, h3⟩
theorem fol_lvl {N : Path} {dol : Bool} {p : Path} {l : List UInt8} {m : Nat} {q : Path} (hl : l ≠ [35]) : folp N dol p l m q ↔ ∃ r, q = p ++ l :: r ∧ (decide (l = [43]) && (decide (m = 0) && dol)) = false ∧ mt false r (N.drop (m + 1)) = true := by
  unfold folp hitp blk nowm
  simp only [hl, decide_false, Bool.false_or, Nat.add_one_ne_zero, Bool.false_and, if_false]
  constructor
  · rintro ⟨h1, r, h2, h3⟩
    exact ⟨r, by rw [h2]; simp, h1, h3⟩
  · rintro ⟨r, h2, h1, h3⟩
    exact ⟨h1, r, by rw [h2]; simp, h3⟩
theorem hit_mid {N : Path} {dol : Bool} {p : Path} {m : Nat} {q : Path} (hN : NmOk N) (hm : m < N.length) : hitp N dol p m q ↔ (folp N dol p (N.getD m []) m q ∨ folp N dol p [43] m q ∨ folp N dol p [35] m q) := by
  obtain ⟨h35, h43⟩ := hN.2 _ (mem_getD N m hm)
  rw [fol_lvl h35, fol_lvl (by decide), fol_hash hN.1]
  unfold hitp
  rw [drop_get N m hm]
  generalize N.getD m [] = x at h35 h43
  generalize (decide (m = 0) && dol) = z
  constructor
  · rintro ⟨r, rfl, h⟩
    cases r with
    | nil => simp [mt] at h
    | cons f fs =>
      unfold mt at h
      by_cases hf : f = [35]
      · rw [if_pos hf] at h
        simp only [Bool.and_eq_true, Bool.not_eq_true'] at h
        exact .inr (.inr ⟨fs, by rw [hf], h.1, h.2⟩)
      · rw [if_neg hf] at h
        simp only [Bool.and_eq_true, Bool.or_eq_true, decide_eq_true_eq, Bool.not_eq_true'] at h
        rcases h with ⟨h1 | ⟨h1, h2⟩, h3⟩
        · exact .inl ⟨fs, by rw [h1], by simp [h43], h3⟩
        · exact .inr (.inl ⟨fs, by rw [h1], by rw [h2]; simp, h3⟩)
  · rintro (⟨r, rfl, h1, h2⟩ | ⟨r, rfl, h1, h2⟩ | ⟨r, rfl, h1, h2⟩)
    · exact ⟨_, rfl, by unfold mt; rw [if_neg h35]; simp [h2]⟩
    · exact ⟨_, rfl, by unfold mt; rw [if_neg (by decide)]; simp at h1; simp [h1, h2]⟩
    · exact ⟨_, rfl, by unfold mt; rw [if_pos rfl]; simp [h1, h2]⟩
theorem hit_end {N : Path} {dol : Bool} {p : Path} {m : Nat} {q : Path} (hN : NmOk N) (hm : m = N.length) : hitp N dol p m q ↔ (q = p ∨ folp N dol p [35] m q) := by
  rw [fol_hash hN.1]
  unfold hitp
  rw [hm, List.drop_length]
  generalize (decide (N.length = 0) && dol) = z
  constructor
  · rintro ⟨r, rfl, h⟩
    cases r with
    | nil => exact .inl (by simp)
    | cons f fs =>
      unfold mt at h
      by_cases hf : f = [35]
      · rw [if_pos hf] at h
        simp only [Bool.and_eq_true, Bool.not_eq_true'] at h
        exact .inr ⟨fs, by rw [hf], h.1, h.2⟩
      · rw [if_neg hf] at h
        cases h
  · rintro (rfl | ⟨r, rfl, h1, h2⟩)
    · exact ⟨[], by simp, rfl⟩
    · exact ⟨_, rfl, by unfold mt; rw [if_pos rfl]; simp [h1, h2]⟩
/-- no path goes on by two levels -/
theorem fol_ne {N : Path} {dol : Bool} {p : Path} {l l' : List UInt8} {m m' : Nat} {q : Path} (h : folp N dol p l m q) (h' : folp N dol p l' m' q) : l = l' := by
  obtain ⟨_, r, e, _⟩ := h
  obtain ⟨_, r', e', _⟩ := h'
  rw [e] at e'
  simp only [List.append_assoc, List.append_cancel_left_eq, List.cons_append, List.nil_append, List.cons.injEq] at e'
  exact e'.1
theorem fol_self {N : Path} {dol : Bool} {p : Path} {l : List UInt8} {m : Nat} : ¬ folp N dol p l m p := by
  rintro ⟨_, r, e, _⟩
  have := congrArg List.length e
  simp at this
theorem fol_pre {N : Path} {dol : Bool} {p : Path} {l : List UInt8} {m : Nat} {q : Path} (h : folp N dol p l m q) : ∃ r, q = p ++ [l] ++ r := by
  obtain ⟨_, r, e, _⟩ := h
  exact ⟨r, e⟩

/-- a filter's levels: the program's way and the page's say the same -/
theorem mt_mat : ∀ (F N : Path), okLs F = true → mt false F N = mat F N
  | [], N, _ => by cases N <;> rfl
  | f :: fs, N, h => by
    unfold mt mat
    have h2 : okLs fs = true := by unfold okLs at h; simp at h; exact h.2
    by_cases hf : f = [35]
    · rw [if_pos hf, if_pos hf]
      have h1 : okL f fs.isEmpty = true := by unfold okLs at h; simp at h; exact h.1
      unfold okL at h1
      rw [if_pos hf] at h1
      rw [List.isEmpty_iff.1 h1]; rfl
    · rw [if_neg hf, if_neg hf]
      cases N with
      | nil => rfl
      | cons x xs =>
        simp only [Bool.not_false, Bool.and_true]
        rw [mt_mat fs xs h2, Bool.or_comm]
theorem mt_mres (F N : Path) (h : okLs F = true) (hN : NmOk N) (hF : F ≠ []) : mt (Lib.hasPrefix (N.headD []) [36]) F N = (!hid F N && mat F N) := by
  cases F with
  | nil => exact absurd rfl hF
  | cons f fs =>
    have h0 := mt_mat (f :: fs) N h
    unfold hid
    rw [← h0]
    generalize Lib.hasPrefix (N.headD []) [36] = d
    cases d
    · simp
    · unfold mt
      by_cases hf : f = [35]
      · simp [hf]
      · rw [if_neg hf, if_neg hf]
        cases N with
        | nil => simp
        | cons x xs =>
          have hx := hN.2 x (by simp)
          by_cases h43 : f = [43]
          · have : ¬ f = x := fun e => hx.2 (by rw [← e]; exact h43)
            have h43' : ¬ ([43] : List UInt8) = x := fun e => hx.2 e.symm
            simp [h43, h43']
          · simp [h43, hf]
theorem flt_ok {l g p : List UInt8} (h : flt l = some (g, p)) : okLs (lvl p) = true ∧ (lvl p).length ≤ 32 ∧ lvl p ≠ [] := by
  unfold flt at h
  split at h
  · split at h
    · rename_i h2
      simp only [Option.some.injEq, Prod.mk.injEq] at h
      rw [← h.2]
      have h3 := h2.2
      unfold isF at h3
      simp only [Bool.and_eq_true] at h3
      refine ⟨h3.1, ?_, lvl_ne _⟩
      have h4 := h3.2
      unfold cnt at h4
      simp only [Bool.and_eq_true, decide_eq_true_eq] at h4
      rw [lvl_len]; omega
    · cases h
  · cases h
theorem lv_ok {f : ByteArray} (h : okF f = true) : okLs (lv f) = true ∧ (lv f).length ≤ 32 ∧ lv f ≠ [] := by
  unfold okF at h
  unfold lv
  cases he : flt f.data.toList with
  | none => rw [he] at h; cases h
  | some x => obtain ⟨g, p⟩ := x; exact flt_ok he
/-- names have no + and no # -/
theorem sg_lvl : ∀ (l : List UInt8), sg l = false → ∀ x ∈ lvl l, sg x = false
  | [], _, x, hx => by simp [lvl] at hx; rw [hx]; rfl
  | c :: r, h, x, hx => by
    have hc : (c == 43 || c == 35) = false ∧ sg r = false := by unfold sg at h ⊢; simpa [List.any_cons] using h
    have ih := sg_lvl r hc.2
    unfold lvl at hx
    split at hx
    · rcases List.mem_cons.1 hx with rfl | hx
      · rfl
      · exact ih x hx
    · split at hx
      · rename_i hd t e
        rw [e] at ih
        rcases List.mem_cons.1 hx with rfl | hx
        · have := ih hd (by simp)
          unfold sg at this ⊢
          rw [List.any_cons, hc.1, this]; rfl
        · exact ih x (by simp [hx])
      · rename_i e; exact absurd e (lvl_ne r)
theorem nm_ok {l : List UInt8} (h : isName l = true) : NmOk (lvl l) := by
  unfold isName at h
  simp only [Bool.and_eq_true, Bool.not_eq_true'] at h
  refine ⟨lvl_ne l, fun x hx => ?_⟩
  have := sg_lvl l h.2.2 x hx
  refine ⟨fun e => ?_, fun e => ?_⟩ <;> · rw [e] at this; revert this; decide

/-- does a name match a subscription? -/
def hits (f s : List UInt8) : Bool := match flt f with
  | some (_, p) => mtc p s
  | none => false
theorem hits_mt {f s : ByteArray} (hf : okF f = true) (hs : isName s.data.toList = true) : hits f.data.toList s.data.toList = mt (Lib.hasPrefix ((lvl s.data.toList).headD []) [36]) (lv f) (lvl s.data.toList) := by
  have h3 := lv_ok hf
  rw [mt_mres _ _ h3.1 (nm_ok hs) h3.2.2]
  unfold okF at hf
  unfold hits lv
  cases he : flt f.data.toList with
  | none => rw [he] at hf; cases hf
  | some x => obtain ⟨g, p⟩ := x; rfl

/-! the order -/
abbrev cmpB (a b : ByteArray) : Int := Lib.compareBytes a.data.toList b.data.toList
theorem cmp_zero : ∀ a b : List UInt8, Lib.compareBytes a b = 0 ↔ a = b
  | [], [] => by simp [Lib.compareBytes]
  | [], _ :: _ => by simp [Lib.compareBytes]
  | _ :: _, [] => by simp [Lib.compareBytes]
  | a :: as, b :: bs => by
    unfold Lib.compareBytes
    by_cases h1 : a < b
    · rw [if_pos h1]; simp; intro e; subst e; exact absurd h1 (UInt8.lt_irrefl a)
    · rw [if_neg h1]
      by_cases h2 : b < a
      · rw [if_pos h2]; simp; intro e; subst e; exact absurd h2 (UInt8.lt_irrefl a)
      · rw [if_neg h2, cmp_zero as bs]
        have : a = b := UInt8.le_antisymm (UInt8.not_lt.1 h2) (UInt8.not_lt.1 h1)
        simp [this]
theorem cmp_flip : ∀ a b : List UInt8, Lib.compareBytes b a = - Lib.compareBytes a b
  | [], [] => by simp [Lib.compareBytes]
  | [], _ :: _ => by simp [Lib.compareBytes]
  | _ :: _, [] => by simp [Lib.compareBytes]
  | a :: as, b :: bs => by
    unfold Lib.compareBytes
    by_cases h1 : a < b
    · have h2 : ¬ b < a := fun h => absurd (UInt8.lt_trans h1 h) (UInt8.lt_irrefl a)
      rw [if_neg h2, if_pos h1, if_pos h1]; rfl
    · rw [if_neg h1]
      by_cases h2 : b < a
      · rw [if_pos h2, if_neg h1, if_pos h2]
      · rw [if_neg h2, if_neg h1, if_neg h2, cmp_flip as bs]
theorem cmp_trans : ∀ a b c : List UInt8, Lib.compareBytes a b < 0 → Lib.compareBytes b c < 0 → Lib.compareBytes a c < 0
  | a, [], c, h1, h2 => by cases a <;> cases c <;> simp [Lib.compareBytes] at h1 h2 ⊢
  | [], _ :: _, [], h1, h2 => by simp [Lib.compareBytes] at h2
  | [], _ :: _, _ :: _, h1, h2 => by simp [Lib.compareBytes]
  | _ :: _, _ :: _, [], h1, h2 => by simp [Lib.compareBytes] at h2
  | a :: as, b :: bs, c :: cs, h1, h2 => by
    have key : ∀ (x y : UInt8) (xs ys : List UInt8), Lib.compareBytes (x :: xs) (y :: ys) < 0 ↔ x < y ∨ (x = y ∧ Lib.compareBytes xs ys < 0) := fun x y xs ys => by
      rw [Lib.compareBytes]
      by_cases h1 : x < y
      · simp [h1]
      · rw [if_neg h1]
        by_cases h2 : y < x
        · have : x ≠ y := fun e => absurd (e ▸ h2) (UInt8.lt_irrefl _)
          rw [if_pos h2]; simp [h1, this]
        · have : x = y := UInt8.le_antisymm (UInt8.not_lt.1 h2) (UInt8.not_lt.1 h1)
          rw [if_neg h2]; simp [this]
    rw [key] at h1 h2 ⊢
    rcases h1 with h1 | ⟨rfl, h1⟩ <;> rcases h2 with h2 | ⟨rfl, h2⟩
    · exact .inl (UInt8.lt_trans h1 h2)
    · exact .inl h1
    · exact .inl h2
    · exact .inr ⟨rfl, cmp_trans as bs cs h1 h2⟩
theorem cmpB_zero (a b : ByteArray) : cmpB a b = 0 ↔ a = b := by
  rw [cmp_zero]
  constructor
  · intro h; rw [← bt_of a, ← bt_of b, h]
  · rintro rfl; rfl
/-- which comes first: by client, then by filter -/
def cf (a b : Rw) : Int := if cmpB a.c b.c = 0 then cmpB a.s.f b.s.f else cmpB a.c b.c
def lt (a b : Rw) : Prop := cf a b < 0
instance (a b : Rw) : Decidable (lt a b) := inferInstanceAs (Decidable (_ < _))
theorem cf_flip (a b : Rw) : cf b a = - cf a b := by
  unfold cf
  have h1 := cmp_flip a.c.data.toList b.c.data.toList
  have h2 := cmp_flip a.s.f.data.toList b.s.f.data.toList
  unfold cmpB
  rw [h1, h2]
  by_cases h : Lib.compareBytes a.c.data.toList b.c.data.toList = 0
  · simp [h]
  · rw [if_neg h, if_neg (by omega)]
theorem cf_zero (a b : Rw) : cf a b = 0 ↔ a.c = b.c ∧ a.s.f = b.s.f := by
  unfold cf
  by_cases h : cmpB a.c b.c = 0
  · rw [if_pos h, cmpB_zero]; rw [cmpB_zero] at h; simp [h]
  · rw [if_neg h]; constructor
    · intro e; exact absurd e h
    · rintro ⟨e, _⟩; exact absurd ((cmpB_zero _ _).2 e) h
theorem lt_trans {a b c : Rw} (h1 : lt a b) (h2 : lt b c) : lt a c := by
  unfold lt cf at *
  by_cases e1 : cmpB a.c b.c = 0
  · rw [if_pos e1] at h1
    rw [cmpB_zero] at e1
    rw [e1]
    by_cases e2 : cmpB b.c c.c = 0
    · rw [if_pos e2] at h2 ⊢; exact cmp_trans _ _ _ h1 h2
    · rw [if_neg e2] at h2 ⊢; exact h2
  · rw [if_neg e1] at h1
    by_cases e2 : cmpB b.c c.c = 0
    · rw [if_pos e2] at h2
      rw [cmpB_zero] at e2
      rw [← e2, if_neg e1]; exact h1
    · rw [if_neg e2] at h2
      have h3 := cmp_trans _ _ _ h1 h2
      rw [if_neg (by unfold cmpB; omega)]; exact h3
theorem lt_irrefl (a : Rw) : ¬ lt a a := by
  have := cf_flip a a
  unfold lt; omega
theorem not_lt_zero {a b : Rw} (h1 : ¬ lt a b) (h2 : ¬ lt b a) : a.c = b.c ∧ a.s.f = b.s.f := by
  have := cf_flip a b
  unfold lt at h1 h2
  exact (cf_zero a b).1 (by omega)
/-- one list in order -/
abbrev Srt (l : List Rw) : Prop := l.Pairwise lt
theorem srt_nodup {l : List Rw} (h : Srt l) : l.Nodup := List.Pairwise.imp (S := fun a b => a ≠ b) (fun {a b} (hab : lt a b) (e : a = b) => lt_irrefl a (by rw [← e] at hab; exact hab)) h
/-- what is the same, in order, is one list -/
theorem srt_eq : ∀ {l r : List Rw}, Srt l → Srt r → (∀ x, x ∈ l ↔ x ∈ r) → l = r
  | [], [], _, _, _ => rfl
  | [], b :: r, _, _, h => absurd ((h b).2 (by simp)) (by simp)
  | a :: l, [], _, _, h => absurd ((h a).1 (by simp)) (by simp)
  | a :: l, b :: r, h1, h2, h => by
    have p1 := List.pairwise_cons.1 h1
    have p2 := List.pairwise_cons.1 h2
    have e : a = b := by
      rcases List.mem_cons.1 ((h a).1 (by simp)) with e | ha
      · exact e
      · rcases List.mem_cons.1 ((h b).2 (by simp)) with e | hb
        · exact e.symm
        · exact absurd (lt_trans (p1.1 b hb) (p2.1 a ha)) (lt_irrefl a)
    subst e
    rw [srt_eq p1.2 p2.2 (fun x => ?_)]
    constructor
    · intro hx
      rcases List.mem_cons.1 ((h x).1 (by simp [hx])) with e | hx'
      · subst e; exact absurd (p1.1 x hx) (lt_irrefl x)
      · exact hx'
    · intro hx
      rcases List.mem_cons.1 ((h x).2 (by simp [hx])) with e | hx'
      · subst e; exact absurd (p2.1 x hx) (lt_irrefl x)
      · exact hx'
end Go.Proofs.YtdjpllmgjmnolaaGreatDoor.Y
