/- Proved here: what (prop.shape).fits and prop.mayRepeat tell. Helper contracts. -/
import Derived.Test.YtpfpollejhdbgaaDoorPShape
namespace Go.Proofs.YtpfpollejhdbgaaDoor
open Go.RowKit
set_option maxRecDepth 100000

def fitB (f lo hi n : Int) (s t : ByteArray) : Bool := decide (lo ≤ n) && decide (n ≤ hi) && (if f = 5 then true else if f = 3 ∨ f = 4 then emp t else emp s && emp t)
theorem kd_cases (id : Int) : kd id = 0 ∨ kd id = 1 ∨ kd id = 2 ∨ kd id = 4 ∨ kd id = 5 ∨ kd id = 6 ∨ kd id = 7 ∨ kd id = 8 := by
  unfold kd
  repeat' split
  all_goals omega
theorem fit_eq (id n : Int) (s t : ByteArray) : fit (id, n, s, t) = fitB (frm id) (lst id) (mx id) n s t := by
  unfold fit fitB frm
  rcases kd_cases id with h | h | h | h | h | h | h | h <;> simp [h]
abbrev FitPost (f lo hi n : Int) (s t : ByteArray) (w : World) (e : Ending) (w' : World) : Prop := e = .returned (.bool (fitB f lo hi n s t)) ∧ Below w.heap.size w w'
theorem fits_any (f wd lo hi id n : Int) (s t : ByteArray) (w : World) :
    Calls Tryd.prog 56 #[.agg #[.int .i64 f, .int .i64 wd, .int .i64 lo, .int .i64 hi], .agg #[.int .i64 id, .int .i64 n, .string s, .string t]] w (FitPost f lo hi n s t w) := by
  unfold FitPost
  by_cases h1 : n < lo
  · have hm : Hid (false = fitB f lo hi n s t) := by show _ = _; unfold fitB; rw [decide_eq_false (by omega : ¬ lo ≤ n)]; rfl
    go_enter Tryd.func56, Tryd.ntmps56
    go_wp2
    go_ret
    exact ⟨ret_bool (unhide hm), by go_grown⟩
  by_cases h2 : hi < n
  · have hm : Hid (false = fitB f lo hi n s t) := by show _ = _; unfold fitB; rw [decide_eq_false (by omega : ¬ n ≤ hi), Bool.and_false]; rfl
    go_enter Tryd.func56, Tryd.ntmps56
    go_wp2
    go_ret
    exact ⟨ret_bool (unhide hm), by go_grown⟩
  have hg : Hid (fitB f lo hi n s t = (if f = 5 then true else if f = 3 ∨ f = 4 then emp t else emp s && emp t)) := by
    show _ = _; unfold fitB; rw [decide_eq_true (by omega : lo ≤ n), decide_eq_true (by omega : n ≤ hi)]; rfl
  by_cases f5 : f = 5
  · have hm : Hid (true = fitB f lo hi n s t) := by show _ = _; rw [unhide hg, if_pos f5]
    subst f5
    go_enter Tryd.func56, Tryd.ntmps56
    go_wp2
    go_ret
    exact ⟨ret_bool (unhide hm), by go_grown⟩
  by_cases f3 : f = 3
  · have hm : Hid (fitB f lo hi n s t = emp t) := by show _ = _; rw [unhide hg, if_neg f5, if_pos (.inl f3)]
    subst f3
    clear hg f5
    go_enter Tryd.func56, Tryd.ntmps56
    go_wp2
    go_ret
    exact ⟨ret_bool (unhide hm).symm, by go_grown⟩
  by_cases f4 : f = 4
  · have hm : Hid (fitB f lo hi n s t = emp t) := by show _ = _; rw [unhide hg, if_neg f5, if_pos (.inr f4)]
    subst f4
    clear hg f5 f3
    go_enter Tryd.func56, Tryd.ntmps56
    go_wp2
    go_ret
    exact ⟨ret_bool (unhide hm).symm, by go_grown⟩
  have hm : Hid (fitB f lo hi n s t = (emp s && emp t)) := by show _ = _; rw [unhide hg, if_neg f5, if_neg (by omega)]
  have b5 : (f == 5) = false := beq_eq_false_iff_ne.2 f5
  have b4 : (f == 4) = false := beq_eq_false_iff_ne.2 f4
  have b3 : (f == 3) = false := beq_eq_false_iff_ne.2 f3
  clear hg f5 f4 f3
  by_cases hs : s.toList.isEmpty = true
  · have hm' : Hid (fitB f lo hi n s t = emp t) := by show _ = _; rw [unhide hm]; show (s.toList.isEmpty && _) = _; rw [hs]; rfl
    clear hm
    go_enter Tryd.func56, Tryd.ntmps56
    go_wp2
    go_ret
    exact ⟨ret_bool (unhide hm').symm, by go_grown⟩
  · have hs' : s.toList.isEmpty = false := by simpa using hs
    have hm' : Hid (false = fitB f lo hi n s t) := by show _ = _; rw [unhide hm]; show _ = (s.toList.isEmpty && _); rw [hs']; rfl
    clear hm hs
    go_enter Tryd.func56, Tryd.ntmps56
    go_wp2
    go_ret
    exact ⟨ret_bool (unhide hm'), by go_grown⟩
theorem repeat_any (id place : Int) (w : World) : Calls Tryd.prog 57 #[.int .i64 id, .int .i64 place] w fun e w' => e = .returned (.bool (rep id place)) ∧ w' = w := by
  by_cases h1 : id = 38
  · subst h1
    go_enter Tryd.func57, Tryd.ntmps57
    go_wp2
    go_ret
    exact ⟨rfl, rfl⟩
  by_cases h2 : id = 11
  · subst h2
    go_enter Tryd.func57, Tryd.ntmps57
    go_wp2
    go_ret
    exact ⟨rfl, rfl⟩
  · have hm : Hid (false = rep id place) := by show _ = _; unfold rep; simp [h1, h2]
    have b1 : (id == 38) = false := beq_eq_false_iff_ne.2 h1
    have b2 : (id == 11) = false := beq_eq_false_iff_ne.2 h2
    go_enter Tryd.func57, Tryd.ntmps57
    go_wp2
    go_ret
    exact ⟨ret_bool (unhide hm), rfl⟩
theorem fits_use (f wd lo hi id n : Int) (s t : ByteArray) (w : World) :
    Calls Tryd.prog 56 #[.agg #[.int .i64 f, .int .i64 wd, .int .i64 lo, .int .i64 hi], .agg #[.int .i64 id, .int .i64 n, .string s, .string t]] w fun e w' => (∃ b : Bool, e = .returned (.bool b) ∧ Hid (b = fitB f lo hi n s t)) ∧ Below w.heap.size w w' := by
  refine (fits_any f wd lo hi id n s t w).mono ?_
  rintro e w' ⟨rfl, hb⟩
  exact ⟨⟨_, rfl, rfl⟩, hb⟩
end Go.Proofs.YtpfpollejhdbgaaDoor
