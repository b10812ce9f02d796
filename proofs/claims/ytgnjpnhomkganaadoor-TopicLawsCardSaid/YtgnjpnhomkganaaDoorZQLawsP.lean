/- Proved here: plain facts on names and filters that the statements TopicShares and TopicLaws lean on. No program is named. -/
import Derived.Test.YtgnjpnhomkganaaDoorZQLaw0
namespace Go.Proofs.YtgnjpnhomkganaaDoor
open Go.RowKit

theorem index_app : ∀ (a b : List UInt8), 47 ∉ a → Lib.index (a ++ 47 :: b) [47] = a.length
  | [], b, _ => by rw [List.nil_append, Lib.index]; simp [List.isPrefixOf]
  | c :: a, b, h => by
    have hc : ¬ c = 47 := fun e => h (by simp [e])
    have hp : ([47] : List UInt8).isPrefixOf (c :: (a ++ 47 :: b)) = false := by simp [List.isPrefixOf, Ne.symm hc]
    rw [List.cons_append, Lib.index, hp, index_app a b (fun e => h (by simp [e]))]
    have : ((a.length : Int) == -1) = false := by rw [beq_eq_false_iff_ne]; omega
    simp [this]
theorem shr_pre (r : List UInt8) : shr.isPrefixOf (shr ++ r) = true := by rw [shr_take]; rfl
theorem shr_drop (r : List UInt8) : (shr ++ r).drop 7 = r := rfl
/-- a text with a group ahead -/
theorem flt_group (a b : List UInt8) (ha : 47 ∉ a) :
    flt (shr ++ (a ++ 47 :: b)) = if (a ≠ [] ∧ sg a = false ∧ ck (shr ++ (a ++ 47 :: b)) = 0) ∧ (shr.isPrefixOf b = false ∧ plF b = true) then some (a, b) else none :=
  flt_cut (shr_pre _) rfl (index_app a b ha)
theorem flt_self {l : List UInt8} (h : flt l = some ([], l)) : shr.isPrefixOf l = false ∧ plF l = true := by
  cases hp : shr.isPrefixOf l
  · rw [flt_not hp] at h
    refine ⟨rfl, ?_⟩
    cases hq : plF l
    · rw [hq] at h; cases h
    · rfl
  · exfalso
    unfold flt prt at h
    rw [if_pos hp] at h
    dsimp only at h
    split at h
    · split at h
      · rename_i hc
        simp only [Option.some.injEq, Prod.mk.injEq] at h
        rw [h.1] at hc
        simp at hc
      · cases h
    · cases h
theorem plF_ck {l : List UInt8} (h : plF l = true) : ck l = 0 ∧ isF l = true := by
  unfold plF at h
  simpa using h
theorem share1 {l : List UInt8} (h : flt l = some ([], l)) (hl : l.length ≤ 3000) : flt ([36, 115, 104, 97, 114, 101, 47, 103, 47] ++ l) = some ([103], l) := by
  obtain ⟨h1, h2⟩ := flt_self h
  have hc : ck (shr ++ ([103] ++ 47 :: l)) = 0 := ck_app [36, 115, 104, 97, 114, 101, 47, 103, 47] l (by decide) (plF_ck h2).1 (by simp; omega)
  have := flt_group [103] l (by decide)
  rw [if_pos ⟨⟨by simp, by decide, hc⟩, h1, h2⟩] at this
  exact this
theorem share2 (l : List UInt8) : flt ([36, 115, 104, 97, 114, 101, 47, 47] ++ l) = none := by
  have := flt_group [] l (by simp)
  rw [if_neg (fun hh => hh.1.1 rfl)] at this
  exact this
theorem share3 (l : List UInt8) : flt ([36, 115, 104, 97, 114, 101, 47, 103, 43, 47] ++ l) = none := by
  have := flt_group [103, 43] l (by decide)
  rw [if_neg (fun hh => absurd hh.1.2.1 (by decide))] at this
  exact this
theorem share4 (l : List UInt8) : flt ([36, 115, 104, 97, 114, 101, 47, 103, 47, 36, 115, 104, 97, 114, 101, 47, 103, 47] ++ l) = none := by
  have := flt_group [103] (shr ++ ([103, 47] ++ l)) (by decide)
  rw [if_neg (fun hh => absurd hh.2.1 (by rw [shr_pre]; simp))] at this
  exact this

/-- what a name is -/
theorem name_facts {l : List UInt8} (h : isName l = true) : ck l = 0 ∧ l ≠ [] ∧ l.count 47 < 32 ∧ sg l = false := by
  unfold isName cnt at h
  simp only [Bool.and_eq_true, decide_eq_true_eq, Bool.not_eq_true'] at h
  exact ⟨h.1, h.2.1.1, h.2.1.2, h.2.2⟩
theorem sg_lvl : ∀ (l : List UInt8), sg l = false → ∀ x ∈ lvl l, sg x = false
  | [], _, x, h => by simp [lvl] at h; simp [h, sg]
  | c :: r, hs, x, h => by
    have hc : (c == 43 || c == 35) = false ∧ sg r = false := by
      have : sg (c :: r) = ((c == 43 || c == 35) || sg r) := rfl
      rw [this] at hs
      simpa using hs
    have ih := sg_lvl r hc.2
    unfold lvl at h
    split at h
    · rcases List.mem_cons.1 h with rfl | h
      · rfl
      · exact ih x h
    · split at h
      · rename_i a t e
        rw [e] at ih
        rcases List.mem_cons.1 h with rfl | h
        · show ((c == 43 || c == 35) || sg a) = false
          rw [hc.1, ih a (by simp)]; rfl
        · exact ih x (by simp [h])
      · simp at h
        subst h
        show ((c == 43 || c == 35) || false) = false
        rw [hc.1]; rfl
theorem okL_plain {x : List UInt8} (h : sg x = false) (b : Bool) : okL x b = true := by
  unfold okL
  rw [if_neg (by rintro rfl; exact absurd h (by decide)), if_neg (by rintro rfl; exact absurd h (by decide)), h]; rfl
theorem okLs_plain : ∀ (L : List (List UInt8)), (∀ x ∈ L, sg x = false) → okLs L = true
  | [], _ => rfl
  | x :: r, h => by
    rw [okLs, okL_plain (h x (by simp)), okLs_plain r (fun y hy => h y (by simp [hy]))]; rfl
theorem flt_name {l : List UInt8} (h : isName l = true) (hp : shr.isPrefixOf l = false) : flt l = some ([], l) := by
  obtain ⟨h1, h2, h3, h4⟩ := name_facts h
  rw [flt_not hp, if_pos]
  unfold plF isF cnt
  rw [decide_eq_true h1, decide_eq_true h2, decide_eq_true h3, okLs_plain _ (sg_lvl l h4)]; rfl
theorem mat_self : ∀ (L : List (List UInt8)), (∀ x ∈ L, sg x = false) → mat L L = true
  | [], _ => rfl
  | x :: r, h => by
    have hx : x ≠ [35] := by rintro rfl; exact absurd (h [35] (by simp)) (by decide)
    rw [mat_cons1 _ _ _ _ hx, mat_self r (fun y hy => h y (by simp [hy]))]; simp
theorem mat_more : ∀ (L M : List (List UInt8)), (∀ x ∈ L, sg x = false) → mat (L ++ [[35]]) (L ++ M) = true
  | [], M, _ => mat_hash1 _ _
  | x :: r, M, h => by
    have hx : x ≠ [35] := by rintro rfl; exact absurd (h [35] (by simp)) (by decide)
    rw [List.cons_append, List.cons_append, mat_cons1 _ _ _ _ hx, mat_more r M (fun y hy => h y (by simp [hy]))]; simp
/-- a name's first level is no sign -/
theorem hid_plain (F N : List (List UInt8)) (h : sg (F.headD []) = false) : hid F N = false := by
  unfold hid
  rw [decide_eq_false (by intro e; rw [e] at h; exact absurd h (by decide)), decide_eq_false (by intro e; rw [e] at h; exact absurd h (by decide))]
  simp
theorem head_sg {l : List UInt8} (h : sg l = false) : sg ((lvl l).headD []) = false := by
  have := sg_lvl l h
  cases e : lvl l with
  | nil => rfl
  | cons x r => rw [e] at this; exact this x (by simp)
theorem match_self {l : List UInt8} (h : isName l = true) : mtc l l = true := by
  obtain ⟨_, _, _, h4⟩ := name_facts h
  unfold mtc
  rw [hid_plain _ _ (head_sg h4), mat_self _ (sg_lvl l h4)]; rfl
theorem match_all {l : List UInt8} (h : l ≠ []) : mtc [35] l = !decide (l.getD 0 0 = 36) := by
  unfold mtc hid
  rw [pre36 l h]
  have e1 : lvl [35] = [[35]] := by decide
  rw [e1, mat_hash1]
  simp
theorem may_self {l : List UInt8} (h : isName l = true) (hp : shr.isPrefixOf l = false) : mayM l l = true := by
  unfold mayM
  rw [flt_name h hp, h]; simp
theorem may_all {l : List UInt8} (h : isName l = true) : mayM [35] l = true := by
  unfold mayM
  rw [h, decide_eq_true (show flt [35] = some ([], [35]) by decide)]; rfl
/-- slashes behind -/
theorem lvl_cons1 (b : List UInt8) : lvl (47 :: b) = [] :: lvl b := lvl_cut [] b (by simp)
theorem lvl_cons2 (c : UInt8) (r : List UInt8) (h : List UInt8) (t : List (List UInt8)) (hc : ¬ c = 47) (e : lvl r = h :: t) : lvl (c :: r) = (c :: h) :: t := by
  rw [lvl, if_neg hc, e]
theorem lvl_app : ∀ (l b : List UInt8), lvl (l ++ 47 :: b) = lvl l ++ lvl b
  | [], b => by rw [List.nil_append, lvl_cons1]; rfl
  | c :: r, b => by
    have ih := lvl_app r b
    rw [List.cons_append]
    by_cases hc : c = 47
    · subst hc
      rw [lvl_cons1, lvl_cons1, ih]; rfl
    · cases e : lvl r with
      | nil => exact absurd e (lvl_ne r)
      | cons h t =>
        rw [e] at ih
        rw [lvl_cons2 c r h t hc e, lvl_cons2 c _ h (t ++ lvl b) hc ih]; rfl
theorem headD_app (L M : List (List UInt8)) (h : L ≠ []) : (L ++ M).headD [] = L.headD [] := by
  cases L with
  | nil => exact absurd rfl h
  | cons x r => rfl
theorem match_rest {l m : List UInt8} (h : sg l = false) (hm : ∃ M, lvl m = lvl l ++ M) : mtc (l ++ [47, 35]) m = true := by
  obtain ⟨M, hM⟩ := hm
  have e : lvl (l ++ [47, 35]) = lvl l ++ [[35]] := by rw [lvl_app l [35]]; rfl
  unfold mtc
  rw [e, hM, mat_more _ _ (sg_lvl l h), hid_plain _ _ (by rw [headD_app _ _ (lvl_ne l)]; exact head_sg h)]; rfl
theorem match_rest1 {l : List UInt8} (h : sg l = false) : mtc (l ++ [47, 35]) l = true := match_rest h ⟨[], by simp⟩
theorem match_rest2 {l : List UInt8} (h : sg l = false) : mtc (l ++ [47, 35]) (l ++ [47, 120, 47, 121]) = true := match_rest h ⟨lvl [120, 47, 121], by rw [lvl_app l [120, 47, 121]]⟩
/-- the first level as a plus -/
theorem plus_facts {l : List UInt8} {n : Nat} (h : isName l = true) (hl : l.length ≤ 3000) (hc : n = l.length ∧ 47 ∉ l ∨ ∃ a b, l = a ++ 47 :: b ∧ 47 ∉ a ∧ n = a.length) :
    mayM (43 :: l.drop n) l = true ∧ mtc (43 :: l.drop n) l = !decide (l.getD 0 0 = 36) := by
  obtain ⟨h1, h2, h3, h4⟩ := name_facts h
  have hpre := pre36 l h2
  rcases hc with ⟨rfl, hno⟩ | ⟨a, b, hab, hno, rfl⟩
  · rw [List.drop_length]
    have e1 : lvl l = [l] := lvl_none l hno
    have e2 : lvl [43] = [[43]] := by decide
    constructor
    · unfold mayM
      rw [h, decide_eq_true (show flt [43] = some ([], [43]) by decide)]; rfl
    · unfold mtc hid
      rw [hpre, e2, e1, mat_cons1 _ _ _ _ (by decide)]
      simp [mat]
  · have ed : l.drop a.length = 47 :: b := by rw [hab]; simp
    rw [ed]
    have e1 : lvl l = a :: lvl b := by rw [hab]; exact lvl_cut a b hno
    have e2 : lvl (43 :: 47 :: b) = [43] :: lvl b := lvl_cut [43] b (by decide)
    have hsb : sg b = false := by
      rw [hab, sg_app] at h4
      simp only [Bool.or_eq_false_iff] at h4
      have : sg (47 :: b) = ((47 == 43 || 47 == 35) || sg b) := rfl
      rw [this] at h4
      simpa using h4.2
    have hckb : ck b = 0 := by rw [hab] at h1; exact (ck_slash a b h1).2
    have hlen : b.length ≤ 3000 := by rw [hab] at hl; simp at hl; omega
    constructor
    · unfold mayM
      rw [h, Bool.and_true]
      apply decide_eq_true
      have hp : shr.isPrefixOf (43 :: 47 :: b) = false := by
        show (36 == (43 : UInt8) && _) = false
        rfl
      rw [flt_not hp, if_pos]
      unfold plF isF cnt
      have hck : ck (43 :: 47 :: b) = 0 := ck_app [43, 47] b (by decide) hckb (by simp; omega)
      have hcount : (43 :: 47 :: b).count 47 < 32 := by
        have : l.count 47 = b.count 47 + 1 := by rw [hab, List.count_append, List.count_eq_zero.2 hno, List.count_cons_self]; omega
        rw [List.count_cons_of_ne (by decide), List.count_cons_self]; omega
      rw [decide_eq_true hck, decide_eq_true hcount, e2, okLs, okLs_plain _ (sg_lvl b hsb)]
      have : okL [43] (lvl b).isEmpty = true := by unfold okL; rw [if_neg (by decide), if_pos rfl]
      rw [this]; simp
    · unfold mtc hid
      rw [hpre, e2, e1, mat_cons1 _ _ _ _ (by decide), mat_self _ (sg_lvl b hsb)]
      simp
/-- Match, as the statements use it where it may be refused -/
theorem match_use (f s : ByteArray) (w : World) (hf : f.size ≤ 70000) (hs : s.size ≤ 70000) (hm : Len w) :
    Calls Tryd.prog 15 #[.string f, .string s] w fun e w' => ∃ E, e = .returned (.tuple #[.bool (mayM f.data.toList s.data.toList && mtc f.data.toList s.data.toList), E]) ∧ Hid (ErrIs w' E (nN (mayM f.data.toList s.data.toList))) ∧ Below w.heap.size w w' := by
  cases h : mayM f.data.toList s.data.toList
  · refine (match_no f s w hf hs hm h).mono ?_
    rintro e w' ⟨x, rfl, hx, hb⟩
    exact ⟨_, rfl, hx, hb⟩
  · refine (match_yes f s w hf hs hm h).mono ?_
    rintro e w' ⟨rfl, hb⟩
    exact ⟨_, rfl, .inl ⟨rfl, rfl⟩, hb⟩
end Go.Proofs.YtgnjpnhomkganaaDoor
