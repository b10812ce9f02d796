/- Proved here: plain facts on lists of numbers: how many bytes the code point has with which bytes begin, when bytes are UTF-8 as the chapter says, and that two such lists side by side are one. No program is named. -/
import Derived.Test.YtmmhdhpocjnlbaaGreatDoorZBase
namespace Go.Proofs.YtmmhdhpocjnlbaaGreatDoor

/-- a byte that goes on with a code point -/
def cont (x : Int) : Bool := decide (128 ≤ x) && decide (x < 192)
def pv2 (a b : Int) : Int := a % 32 * 64 + b % 64
def pv3 (a b c : Int) : Int := (a % 16 * 64 + b % 64) * 64 + c % 64
def pv4 (a b c d : Int) : Int := ((a % 8 * 64 + b % 64) * 64 + c % 64) * 64 + d % 64
def ok2 (a b : Int) : Bool := cont b && decide (128 ≤ pv2 a b)
def ok3 (a b c : Int) : Bool := cont b && cont c && decide (2048 ≤ pv3 a b c) && !(decide (55296 ≤ pv3 a b c) && decide (pv3 a b c ≤ 57343))
def ok4 (a b c d : Int) : Bool := cont b && cont c && cont d && decide (65536 ≤ pv4 a b c d) && decide (pv4 a b c d ≤ 1114111)
/-- how many bytes the code point has with which l begins; 0: none that may be -/
def pt (l : List Int) : Nat :=
  if l.getD 0 0 < 128 then (if 0 < l.getD 0 0 then 1 else 0)
  else if l.getD 0 0 < 192 then 0
  else if l.getD 0 0 < 224 then (if 2 ≤ l.length ∧ ok2 (l.getD 0 0) (l.getD 1 0) = true then 2 else 0)
  else if l.getD 0 0 < 240 then (if 3 ≤ l.length ∧ ok3 (l.getD 0 0) (l.getD 1 0) (l.getD 2 0) = true then 3 else 0)
  else if l.getD 0 0 < 248 then (if 4 ≤ l.length ∧ ok4 (l.getD 0 0) (l.getD 1 0) (l.getD 2 0) (l.getD 3 0) = true then 4 else 0)
  else 0

theorem pt_nil : pt [] = 0 := by simp [pt]
theorem pt_le (l : List Int) : pt l ≤ l.length := by
  cases l with
  | nil => simp [pt_nil]
  | cons a r =>
    unfold pt
    have : 1 ≤ (a :: r).length := by simp
    generalize (a :: r) = l at *
    repeat' split
    all_goals omega
theorem pt_le4 (l : List Int) : pt l ≤ 4 := by
  unfold pt
  repeat' split
  all_goals omega
theorem getD_app (l m : List Int) (j : Nat) (h : j < l.length) : (l ++ m).getD j 0 = l.getD j 0 := by
  rw [List.getD_eq_getElem?_getD, List.getElem?_append_left h, ← List.getD_eq_getElem?_getD]
theorem pt_app (l m : List Int) (h : pt l ≠ 0) : pt (l ++ m) = pt l := by
  have hl : 1 ≤ l.length := by
    rcases l with _ | ⟨a, r⟩
    · simp [pt_nil] at h
    · simp
  have e0 := getD_app l m 0 (by omega)
  have hlen : (l ++ m).length = l.length + m.length := List.length_append
  unfold pt at h ⊢
  rw [e0, hlen]
  by_cases a1 : l.getD 0 0 < 128
  · simp only [a1, if_true]
  · simp only [a1, if_false] at h ⊢
    by_cases a2 : l.getD 0 0 < 192
    · simp only [a2, if_true]
    · simp only [a2, if_false] at h ⊢
      by_cases a3 : l.getD 0 0 < 224
      · simp only [a3, if_true] at h ⊢
        by_cases b : 2 ≤ l.length ∧ ok2 (l.getD 0 0) (l.getD 1 0) = true
        · rw [if_pos b, getD_app l m 1 (by omega), if_pos ⟨by omega, b.2⟩]
        · rw [if_neg b] at h; exact absurd rfl h
      · simp only [a3, if_false] at h ⊢
        by_cases a4 : l.getD 0 0 < 240
        · simp only [a4, if_true] at h ⊢
          by_cases b : 3 ≤ l.length ∧ ok3 (l.getD 0 0) (l.getD 1 0) (l.getD 2 0) = true
          · rw [if_pos b, getD_app l m 1 (by omega), getD_app l m 2 (by omega), if_pos ⟨by omega, b.2⟩]
          · rw [if_neg b] at h; exact absurd rfl h
        · simp only [a4, if_false] at h ⊢
          by_cases a5 : l.getD 0 0 < 248
          · simp only [a5, if_true] at h ⊢
            by_cases b : 4 ≤ l.length ∧ ok4 (l.getD 0 0) (l.getD 1 0) (l.getD 2 0) (l.getD 3 0) = true
            · rw [if_pos b, getD_app l m 1 (by omega), getD_app l m 2 (by omega), getD_app l m 3 (by omega), if_pos ⟨by omega, b.2⟩]
            · rw [if_neg b] at h; exact absurd rfl h
          · simp only [a5, if_false] at h; exact absurd rfl h

/-- UTF-8, as the chapter has it (by a bound that its length gives) -/
def utfF : Nat → List Int → Bool
  | 0, l => l.isEmpty
  | f + 1, l => l.isEmpty || (decide (pt l ≠ 0) && utfF f (l.drop (pt l)))
def utf (l : List Int) : Bool := utfF l.length l
theorem utfF_nil : ∀ f, utfF f [] = true
  | 0 => rfl
  | _ + 1 => rfl
theorem not_nil {l : List Int} (h : 0 < l.length) : l.isEmpty = false := by
  rcases l with _ | ⟨a, r⟩
  · simp at h
  · rfl
theorem utfF_more (f : Nat) : ∀ (g : Nat) (l : List Int), l.length ≤ f → l.length ≤ g → utfF f l = utfF g l := by
  induction f with
  | zero =>
    intro g l h _
    obtain rfl : l = [] := List.length_eq_zero_iff.1 (by omega)
    rw [utfF_nil, utfF_nil]
  | succ f ih =>
    intro g l hf hg
    by_cases h0 : l.length = 0
    · obtain rfl : l = [] := List.length_eq_zero_iff.1 h0
      rw [utfF_nil, utfF_nil]
    · cases g with
      | zero => omega
      | succ g =>
        simp only [utfF]
        by_cases h1 : pt l = 0
        · simp [h1]
        · rw [ih g (l.drop (pt l)) (by rw [List.length_drop]; omega) (by rw [List.length_drop]; omega)]
theorem utf_nil : utf [] = true := rfl
theorem utf_step (l : List Int) (h : 0 < l.length) : utf l = (decide (pt l ≠ 0) && utf (l.drop (pt l))) := by
  obtain ⟨n, hn⟩ : ∃ n, l.length = n + 1 := ⟨l.length - 1, by omega⟩
  unfold utf
  rw [hn]
  simp only [utfF, not_nil h, Bool.false_or]
  by_cases h1 : pt l = 0
  · simp [h1]
  · rw [utfF_more n (l.drop (pt l)).length (l.drop (pt l)) (by rw [List.length_drop]; omega) (Nat.le_refl _)]
/-- how a loop over the code points goes -/
theorem utf_drop (l : List Int) (k : Nat) (hk : k < l.length) (h0 : pt (l.drop k) ≠ 0) : utf (l.drop k) = utf (l.drop (k + pt (l.drop k))) := by
  rw [utf_step (l.drop k) (by rw [List.length_drop]; omega), List.drop_drop]
  simp [h0]
theorem utf_not (l : List Int) (k : Nat) (hk : k < l.length) (h0 : pt (l.drop k) = 0) : utf (l.drop k) = false := by
  rw [utf_step (l.drop k) (by rw [List.length_drop]; omega)]
  simp [h0]
theorem utf_append (n : Nat) : ∀ (l m : List Int), l.length ≤ n → utf l = true → utf m = true → utf (l ++ m) = true := by
  induction n with
  | zero =>
    intro l m h _ hm
    obtain rfl : l = [] := List.length_eq_zero_iff.1 (by omega)
    exact hm
  | succ n ih =>
    intro l m h hl hm
    by_cases h0 : l.length = 0
    · obtain rfl : l = [] := List.length_eq_zero_iff.1 h0
      exact hm
    · rw [utf_step l (by omega)] at hl
      simp only [Bool.and_eq_true, decide_eq_true_eq] at hl
      obtain ⟨h1, h2⟩ := hl
      rw [utf_step (l ++ m) (by rw [List.length_append]; omega), pt_app l m h1, List.drop_append_of_le_length (pt_le l), ih (l.drop (pt l)) m (by rw [List.length_drop]; omega) h2 hm]
      simp [h1]

/-- Check's number -/
def chk (l : List Int) : Int := if utf l = true then (if l.length ≤ 65535 then 0 else 2) else 1
theorem chk_app (l m : List Int) (hl : chk l = 0) (hm : chk m = 0) (h : l.length + m.length ≤ 65535) : chk (l ++ m) = 0 := by
  unfold chk at *
  have ul : utf l = true := by by_cases u : utf l = true; exact u; rw [if_neg u] at hl; simp at hl
  have um : utf m = true := by by_cases u : utf m = true; exact u; rw [if_neg u] at hm; simp at hm
  rw [if_pos (utf_append l.length l m (Nat.le_refl _) ul um), if_pos (by rw [List.length_append]; exact h)]

/-- a text's bytes as numbers, and back -/
def sb (s : ByteArray) : List Int := s.data.toList.map fun b => (b.toNat : Int)
def bs (l : List Int) : ByteArray := ⟨(l.map fun n => UInt8.ofNat n.toNat).toArray⟩
theorem sb_length (s : ByteArray) : (sb s).length = s.size := by
  rw [sb, List.length_map, Array.length_toList]; rfl
theorem bs_sb (s : ByteArray) : bs (sb s) = s := by
  unfold bs sb
  rw [List.map_map]
  have : ((fun n : Int => UInt8.ofNat n.toNat) ∘ fun b : UInt8 => (b.toNat : Int)) = id := by
    funext b; simp
  rw [this, List.map_id]
theorem sb_range (s : ByteArray) : ∀ j, 0 ≤ (sb s).getD j 0 ∧ (sb s).getD j 0 ≤ 255 := by
  intro j
  unfold sb
  rw [List.getD_eq_getElem?_getD, List.getElem?_map]
  cases s.data.toList[j]? with
  | none => simp
  | some b => simp; have := b.toNat_lt; omega
theorem sb_bs (l : List Int) (h : ∀ j, 0 ≤ l.getD j 0 ∧ l.getD j 0 ≤ 255) : sb (bs l) = l := by
  unfold sb bs
  rw [List.map_map]
  apply List.ext_getElem (by simp)
  intro i h1 h2
  have := h i
  rw [List.getD_eq_getElem?_getD, List.getElem?_eq_getElem h2] at this
  simp only [Option.getD_some] at this
  simp only [List.getElem_map, Function.comp, UInt8.toNat_ofNat']
  omega
theorem sb_append (s t : ByteArray) : sb (s ++ t) = sb s ++ sb t := by
  unfold sb
  rw [← List.map_append]
  simp [ByteArray.data_append]
theorem sb_get (s : ByteArray) (k : Nat) (h : k < s.size) : (s[k].toNat : Int) = (sb s).getD k 0 := by
  unfold sb
  rw [List.getD_eq_getElem?_getD, List.getElem?_map, List.getElem?_eq_getElem (by simpa using h)]
  rfl
theorem sb_drop (s : ByteArray) (k : Nat) : sb (s.extract k s.size) = (sb s).drop k := by
  unfold sb
  rw [← List.map_drop]
  congr 1
  simp only [ByteArray.data_extract, Array.toList_extract, List.extract_eq_take_drop]
  rw [List.take_of_length_le (by rw [List.length_drop, Array.length_toList]; exact Nat.le_refl _)]
theorem sb_take (s : ByteArray) (k : Nat) : sb (s.extract 0 k) = (sb s).take k := by
  unfold sb
  rw [← List.map_take]
  congr 1
  simp [ByteArray.data_extract]
end Go.Proofs.YtmmhdhpocjnlbaaGreatDoor
