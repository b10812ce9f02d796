/- Proved here: plain facts on lists of bytes: a text's levels, what a name and a filter are, when a name matches; that a text cut at a slash is two texts. No program is named. -/
import Derived.Test.YtdjpllmgjmnolaaGreatDoorZTPlain
import Derived.Lib.SplitLaws
import Derived.Lib.IndexAny
import Derived.Lib.Strings
namespace Go.Proofs.YtdjpllmgjmnolaaGreatDoor
open Go.RowKit

/-- the levels of a text: what stands between slashes -/
def lvl : List UInt8 → List (List UInt8)
  | [] => [[]]
  | c :: r => if c = 47 then [] :: lvl r else match lvl r with
    | h :: t => (c :: h) :: t
    | [] => [[c]]
theorem lvl_ne : ∀ l, lvl l ≠ []
  | [] => by simp [lvl]
  | c :: r => by
    unfold lvl
    split
    · simp
    · split <;> simp
theorem lvl_none : ∀ l : List UInt8, 47 ∉ l → lvl l = [l]
  | [], _ => rfl
  | c :: r, h => by
    have hc : ¬ c = 47 := fun e => h (by simp [e])
    rw [lvl, if_neg hc, lvl_none r (fun e => h (by simp [e]))]
theorem lvl_cut : ∀ (a b : List UInt8), 47 ∉ a → lvl (a ++ 47 :: b) = a :: lvl b
  | [], b, _ => by rw [List.nil_append, lvl, if_pos rfl]
  | c :: a, b, h => by
    have hc : ¬ c = 47 := fun e => h (by simp [e])
    rw [List.cons_append, lvl, if_neg hc, lvl_cut a b (fun e => h (by simp [e]))]
theorem lvl_len : ∀ l, (lvl l).length = l.count 47 + 1
  | [] => rfl
  | c :: r => by
    have ih := lvl_len r
    unfold lvl
    by_cases hc : c = 47
    · rw [if_pos hc, List.length_cons, ih, hc, List.count_cons_self]
    · rw [if_neg hc, List.count_cons_of_ne (by simpa using hc)]
      split
      · rename_i h t e; rw [e] at ih; simpa using ih
      · rename_i e; exact absurd e (lvl_ne r)
/-- the first slash -/
theorem first_slash : ∀ l : List UInt8, (47 ∉ l ∧ Lib.index l [47] = -1) ∨ ∃ a b, l = a ++ 47 :: b ∧ 47 ∉ a ∧ Lib.index l [47] = a.length
  | [] => .inl ⟨by simp, by simp [Lib.index]⟩
  | c :: r => by
    by_cases hc : c = 47
    · exact .inr ⟨[], r, by simp [hc], by simp, by rw [Lib.index]; simp [hc, List.isPrefixOf]⟩
    · have hp : ([47] : List UInt8).isPrefixOf (c :: r) = false := by simp [List.isPrefixOf, Ne.symm hc]
      rcases first_slash r with ⟨h1, h2⟩ | ⟨a, b, h1, h2, h3⟩
      · exact .inl ⟨by simp [h1, Ne.symm hc], by rw [Lib.index, hp, h2]; simp⟩
      · refine .inr ⟨c :: a, b, by simp [h1], by simp [h2, Ne.symm hc], ?_⟩
        rw [Lib.index, hp, h3]
        have : ((a.length : Int) == -1) = false := by rw [beq_eq_false_iff_ne]; omega
        simp [this]
theorem split_lvl (n : Nat) : ∀ l : List UInt8, l.length ≤ n → Lib.splitK [47] 0 (l.count 47) l = lvl l := by
  induction n with
  | zero =>
    intro l h
    obtain rfl : l = [] := List.length_eq_zero_iff.1 (by omega)
    rfl
  | succ n ih =>
    intro l h
    rcases first_slash l with ⟨h1, h2⟩ | ⟨a, b, rfl, h2, h3⟩
    · rw [lvl_none l h1, List.count_eq_zero.2 h1]; rfl
    · have hc : (a ++ 47 :: b).count 47 = b.count 47 + 1 := by rw [List.count_append, List.count_eq_zero.2 h2, List.count_cons_self]; omega
      rw [hc, Lib.splitK, h3, if_neg (by rw [beq_iff_eq]; omega), lvl_cut a b h2]
      have e1 : (a ++ 47 :: b).take ((a.length : Int).toNat + 0) = a := by simp
      have e2 : (a ++ 47 :: b).drop ((a.length : Int).toNat + ([47] : List UInt8).length) = b := by simp
      rw [e1, e2, ih b (by simp at h; omega)]
/-- a text of bytes -/
def bt (l : List UInt8) : ByteArray := ⟨l.toArray⟩
theorem bt_data (l : List UInt8) : (bt l).data.toList = l := rfl
theorem bt_of (s : ByteArray) : bt s.data.toList = s := rfl
theorem bt_inj {a b : List UInt8} (h : bt a = bt b) : a = b := by rw [← bt_data a, h, bt_data]
theorem bt_size (l : List UInt8) : (bt l).size = l.length := by simp [bt, ByteArray.size]
theorem size_len (s : ByteArray) : s.data.toList.length = s.size := by rw [Array.length_toList]; rfl
/-- the levels as texts -/
def lvB (s : ByteArray) : List ByteArray := (lvl s.data.toList).map bt
theorem lvB_len (s : ByteArray) : (lvB s).length = s.data.toList.count 47 + 1 := by rw [lvB, List.length_map, lvl_len]
theorem map_bt : ∀ l : List ByteArray, (l.map (·.data.toList)).map bt = l
  | [] => rfl
  | a :: r => by rw [List.map_cons, List.map_cons, map_bt r, bt_of]
theorem splitB_lvB (s : ByteArray) : Lib.splitB ⟨#[47]⟩ 0 (Lib.countB s ⟨#[47]⟩) s = lvB s := by
  have h := Lib.splitB_data ⟨#[47]⟩ 0 (Lib.countB s ⟨#[47]⟩) s
  have hc : Lib.countB s ⟨#[47]⟩ = s.data.toList.count 47 := Lib.count_one 47 _
  rw [← map_bt (Lib.splitB _ _ _ _), h, hc]
  unfold lvB
  congr 1
  exact split_lvl _ s.data.toList (Nat.le_refl _)
theorem countB_slash (s : ByteArray) : Lib.countB s ⟨#[47]⟩ = s.data.toList.count 47 := Lib.count_one 47 _

/-- a plus or a hash within -/
def sg (l : List UInt8) : Bool := l.any fun b => b == 43 || b == 35
theorem sg_contains (l : List UInt8) : Lib.containsAny l [43, 35] = sg l := by
  induction l with
  | nil => rfl
  | cons b r ih =>
    have hge := Lib.indexAny_ge [43, 35] r
    unfold Lib.containsAny at ih ⊢
    rw [Lib.indexAny, sg, List.any_cons]
    have hb : ([43, 35] : List UInt8).contains b = (b == 43 || b == 35) := by simp only [List.contains_cons, List.contains_nil, Bool.or_false]
    rw [hb]
    cases h : (b == 43 || b == 35)
    · rw [if_neg (by simp), Bool.false_or]
      show _ = sg r
      rw [← ih]
      split
      · rename_i e; have e := beq_iff_eq.1 e; rw [e]
      · rename_i e; have e : Lib.indexAny r [43, 35] ≠ -1 := fun x => e (beq_iff_eq.2 x)
        rw [decide_eq_true (by omega), decide_eq_true (by omega)]
    · rw [if_pos rfl]; rfl
theorem sg_app (a b : List UInt8) : sg (a ++ b) = (sg a || sg b) := by simp [sg]

/-- Check's number of a text's bytes -/
def ck (l : List UInt8) : Int := chk (l.map fun b => (b.toNat : Int))
theorem ck_sb (s : ByteArray) : chk (sb s) = ck s.data.toList := rfl

/-- a text that begins with the sign of a group -/
def shr : List UInt8 := [36, 115, 104, 97, 114, 101, 47]

/-- may a filter have that level, as its last one or not? -/
def okL (x : List UInt8) (last : Bool) : Bool := if x = [35] then last else if x = [43] then true else !sg x
def okLs : List (List UInt8) → Bool
  | [] => true
  | x :: r => okL x r.isEmpty && okLs r
def cnt (l : List UInt8) : Bool := decide (l ≠ []) && decide (l.count 47 < 32)
def isName (l : List UInt8) : Bool := decide (ck l = 0) && (cnt l && !sg l)
/-- a filter without a group, but for being a text -/
def isF (l : List UInt8) : Bool := okLs (lvl l) && cnt l
/-- group, filter, may they be? -/
def prt (l : List UInt8) : List UInt8 × List UInt8 × Bool :=
  if shr.isPrefixOf l then
    ((Lib.cut (l.drop 7) [47]).1, (Lib.cut (l.drop 7) [47]).2.1, decide ((Lib.cut (l.drop 7) [47]).1 ≠ []) && (!sg (Lib.cut (l.drop 7) [47]).1 && !shr.isPrefixOf (Lib.cut (l.drop 7) [47]).2.1))
  else ([], l, true)
/-- the filter that a text is: its group and itself; none -/
def flt (l : List UInt8) : Option (List UInt8 × List UInt8) :=
  if ck l = 0 then (if (prt l).2.2 = true ∧ isF (prt l).2.1 = true then some ((prt l).1, (prt l).2.1) else none) else none

/-- level by level -/
def mat : List (List UInt8) → List (List UInt8) → Bool
  | [], ns => ns.isEmpty
  | f :: fs, ns => if f = [35] then true else match ns with
    | [] => false
    | n :: ns => (decide (f = [43]) || decide (f = n)) && mat fs ns
def hid (f n : List (List UInt8)) : Bool := Lib.hasPrefix (n.headD []) [36] && (decide (f.headD [] = [43]) || decide (f.headD [] = [35]))
def mtc (f n : List UInt8) : Bool := !hid (lvl f) (lvl n) && mat (lvl f) (lvl n)

/-- a text cut at a slash is two texts -/
theorem pt_slash (b : List Int) : pt (47 :: b) = 1 := by simp [pt]
theorem cont_slash : cont 47 = false := by decide
theorem getD_mid (a b : List Int) : (a ++ 47 :: b).getD a.length 0 = 47 := by simp [List.getD_eq_getElem?_getD]
theorem ok2_c {x y : Int} (h : ok2 x y = true) : cont y = true := by unfold ok2 at h; simp at h; exact h.1
theorem ok3_c {x y z : Int} (h : ok3 x y z = true) : cont y = true ∧ cont z = true := by unfold ok3 at h; simp at h; exact ⟨h.1.1.1, h.1.1.2⟩
theorem ok4_c {x y z u : Int} (h : ok4 x y z u = true) : cont y = true ∧ cont z = true ∧ cont u = true := by unfold ok4 at h; simp at h; exact ⟨h.1.1.1.1, h.1.1.1.2, h.1.1.2⟩
/-- a code point does not pass a slash -/
theorem pt_before (a b : List Int) (ha : 0 < a.length) : pt (a ++ 47 :: b) = pt a := by
  by_cases h0 : pt a = 0
  · rw [h0]
    have e0 := getD_app a (47 :: b) 0 ha
    have hcs := cont_slash
    have hmid := getD_mid a b
    unfold pt at h0 ⊢
    rw [e0]
    by_cases a1 : a.getD 0 0 < 128
    · simp only [a1, if_true] at h0 ⊢; exact h0
    · simp only [a1, if_false] at h0 ⊢
      by_cases a2 : a.getD 0 0 < 192
      · simp only [a2, if_true]
      · simp only [a2, if_false] at h0 ⊢
        by_cases a3 : a.getD 0 0 < 224
        · simp only [a3, if_true] at h0 ⊢
          rw [if_neg]
          rintro ⟨_, h⟩
          by_cases hl : 2 ≤ a.length
          · rw [getD_app a _ 1 (by omega)] at h; rw [if_pos ⟨hl, h⟩] at h0; simp at h0
          · have hl1 : a.length = 1 := by omega
            rw [hl1] at hmid; rw [hmid] at h; have := ok2_c h; rw [hcs] at this; simp at this
        · simp only [a3, if_false] at h0 ⊢
          by_cases a4 : a.getD 0 0 < 240
          · simp only [a4, if_true] at h0 ⊢
            rw [if_neg]
            rintro ⟨_, h⟩
            by_cases hl : 3 ≤ a.length
            · rw [getD_app a _ 1 (by omega), getD_app a _ 2 (by omega)] at h; rw [if_pos ⟨hl, h⟩] at h0; simp at h0
            · obtain ⟨c1, c2⟩ := ok3_c h
              have hl1 : a.length = 1 ∨ a.length = 2 := by omega
              rcases hl1 with hl1 | hl1 <;> rw [hl1] at hmid
              · rw [hmid, hcs] at c1; simp at c1
              · rw [hmid, hcs] at c2; simp at c2
          · simp only [a4, if_false] at h0 ⊢
            by_cases a5 : a.getD 0 0 < 248
            · simp only [a5, if_true] at h0 ⊢
              rw [if_neg]
              rintro ⟨_, h⟩
              by_cases hl : 4 ≤ a.length
              · rw [getD_app a _ 1 (by omega), getD_app a _ 2 (by omega), getD_app a _ 3 (by omega)] at h; rw [if_pos ⟨hl, h⟩] at h0; simp at h0
              · obtain ⟨c1, c2, c3⟩ := ok4_c h
                have hl1 : a.length = 1 ∨ a.length = 2 ∨ a.length = 3 := by omega
                rcases hl1 with hl1 | hl1 | hl1 <;> rw [hl1] at hmid
                · rw [hmid, hcs] at c1; simp at c1
                · rw [hmid, hcs] at c2; simp at c2
                · rw [hmid, hcs] at c3; simp at c3
            · simp only [a5, if_false]
  · exact pt_app a _ h0
theorem utf_slash (n : Nat) : ∀ (a b : List Int), a.length ≤ n → utf (a ++ 47 :: b) = (utf a && utf b) := by
  induction n with
  | zero =>
    intro a b h
    obtain rfl : a = [] := List.length_eq_zero_iff.1 (by omega)
    rw [List.nil_append, utf_step _ (by simp), pt_slash]
    simp [utf_nil]
  | succ n ih =>
    intro a b h
    by_cases h0 : a.length = 0
    · obtain rfl : a = [] := List.length_eq_zero_iff.1 h0
      rw [List.nil_append, utf_step _ (by simp), pt_slash]
      simp [utf_nil]
    · rw [utf_step (a ++ 47 :: b) (by simp; omega), utf_step a (by omega), pt_before a b (by omega)]
      by_cases hp : pt a = 0
      · simp [hp]
      · rw [List.drop_append_of_le_length (pt_le a), ih (a.drop (pt a)) b (by rw [List.length_drop]; omega), Bool.and_assoc]
theorem ck_slash (a b : List UInt8) (h : ck (a ++ 47 :: b) = 0) : ck a = 0 ∧ ck b = 0 := by
  unfold ck chk at *
  rw [List.map_append, List.map_cons] at h
  have e : (((47 : UInt8)).toNat : Int) = 47 := by decide
  rw [e, utf_slash _ _ _ (Nat.le_refl _)] at h
  by_cases u : (utf (a.map fun b => (b.toNat : Int)) && utf (b.map fun b => (b.toNat : Int))) = true
  · rw [if_pos u] at h
    simp only [Bool.and_eq_true] at u
    by_cases hl : (a.map (fun b => (b.toNat : Int)) ++ 47 :: b.map fun b => (b.toNat : Int)).length ≤ 65535
    · simp at hl
      rw [if_pos u.1, if_pos u.2, if_pos (by simp; omega), if_pos (by simp; omega)]
      exact ⟨rfl, rfl⟩
    · rw [if_neg hl] at h; simp at h
  · rw [if_neg u] at h; simp at h
theorem ck_app (a b : List UInt8) (ha : ck a = 0) (hb : ck b = 0) (h : a.length + b.length ≤ 65535) : ck (a ++ b) = 0 := by
  unfold ck at *
  rw [List.map_append]
  exact chk_app _ _ ha hb (by simpa using h)
end Go.Proofs.YtdjpllmgjmnolaaGreatDoor
