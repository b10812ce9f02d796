/- Proved here: contracts of topic.Name, topic.Filter and topic.Match: what they tell of any texts of up to 70000 bytes. Helper contracts. -/
import Derived.Test.YtknbgnoahfeigaaDoorZQTop2
namespace Go.Proofs.YtknbgnoahfeigaaDoor
open Go.RowKit

theorem chk_cases (l : List Int) : chk l = 0 ∨ chk l = 1 ∨ chk l = 2 := by
  unfold chk
  repeat' split
  all_goals simp
/-- Check's answer where a text is none, as fault takes it -/
theorem check_no (s : ByteArray) (w : World) (hs : s.size ≤ 70000) (h : ck s.data.toList ≠ 0) :
    Calls Tryd.prog 32 #[.string s] w fun e w' => ∃ b n, e = .returned (.iface 61 (.pointer (some ⟨b, 0, none⟩))) ∧ Hid (Er w' 1 (.iface 61 (.pointer (some ⟨b, 0, none⟩))) n ∧ (n = 1 ∨ n = 2)) ∧ Below w.heap.size w w' := by
  refine (check_bad s (chk (sb s)) w (by omega) rfl h).mono ?_
  rintro e w' ⟨rfl, rfl⟩
  refine ⟨_, chk (sb s), rfl, ⟨⟨_, _, rfl, by simp, rfl⟩, ?_⟩, fault_below _ w⟩
  rcases chk_cases (sb s) with h0 | h0
  · exact absurd h0 h
  · exact h0
theorem check_yes (s : ByteArray) (w : World) (hs : s.size ≤ 70000) (h : ck s.data.toList = 0) :
    Calls Tryd.prog 32 #[.string s] w fun e w' => e = .returned .nilIface ∧ w' = w := check_ok s w (by omega) h

set_option maxRecDepth 100000 in
set_option maxHeartbeats 1000000 in
theorem name_yes (s : ByteArray) (w : World) (hs : s.size ≤ 70000) (h : isName s.data.toList = true) :
    Calls Tryd.prog 16 #[.string s] w fun e w' => e = .returned .nilIface ∧ Below w.heap.size w w' := by
  unfold isName at h
  simp only [Bool.and_eq_true, decide_eq_true_eq, Bool.not_eq_true'] at h
  obtain ⟨h1, h2, h3⟩ := h
  have HC := hide (fun w => check_yes s w hs h1)
  clear h1
  go_enter Tryd.func16, Tryd.ntmps16
  go_wp2_with (first
    | (go_at_call 32; refine ((unhide HC) _).mono ?_; rintro e w' ⟨rfl, rfl⟩)
    | (go_at_call 34; refine (mayCount_any s _).mono ?_; rintro e w1 ⟨rfl, rfl⟩; rw [h2])
    | (go_at_call 35; refine (containsAny_any s _ (by omega)).mono ?_; rintro e w2 ⟨rfl, hb2⟩; rw [h3]))
  go_ret
  exact ⟨rfl, hb2⟩
set_option maxRecDepth 100000 in
set_option maxHeartbeats 1000000 in
theorem name_no (s : ByteArray) (w : World) (hs : s.size ≤ 70000) (h : isName s.data.toList = false) :
    Calls Tryd.prog 16 #[.string s] w fun e w' => ∃ x, e = .returned (.iface 61 x) ∧ Hid (ErrIs w' (.iface 61 x) 5) ∧ Below w.heap.size w w' := by
  unfold isName at h
  by_cases h1 : ck s.data.toList = 0
  · have HC := hide (fun w => check_yes s w hs h1)
    rw [decide_eq_true h1, Bool.true_and] at h
    clear h1
    cases h2 : cnt s.data.toList
    · clear h
      go_enter Tryd.func16, Tryd.ntmps16
      go_wp2_with (first
        | (go_at_call 32; refine ((unhide HC) _).mono ?_; rintro e w' ⟨rfl, rfl⟩)
        | (go_at_call 34; refine (mayCount_any s _).mono ?_; rintro e w1 ⟨rfl, rfl⟩; rw [h2])
        | (go_at_call 33; refine (tfault5 _).mono ?_; rintro e w3 ⟨x, rfl, hx, hb3⟩))
      go_ret
      exact ⟨_, rfl, hx, hb3⟩
    · have h3 : sg s.data.toList = true := by rw [h2] at h; simpa using h
      clear h
      go_enter Tryd.func16, Tryd.ntmps16
      go_wp2_with (first
        | (go_at_call 32; refine ((unhide HC) _).mono ?_; rintro e w' ⟨rfl, rfl⟩)
        | (go_at_call 34; refine (mayCount_any s _).mono ?_; rintro e w1 ⟨rfl, rfl⟩; rw [h2])
        | (go_at_call 35; refine (containsAny_any s _ (by omega)).mono ?_; rintro e w2 ⟨rfl, hb2⟩; rw [h3])
        | (go_at_call 33; refine (tfault5 _).mono ?_; rintro e w3 ⟨x, rfl, hx, hb3⟩))
      go_ret
      exact ⟨_, rfl, hx, hb2.trans (hb3.mono hb2.size)⟩
  · clear h
    have HC := hide (fun w => check_no s w hs h1)
    clear h1
    go_enter Tryd.func16, Tryd.ntmps16
    go_wp2_with (first
      | (go_at_call 32; refine ((unhide HC) _).mono ?_; rintro e w1 ⟨b, n, rfl, her, hb1⟩)
      | (go_at_call 33; refine (tfault 1 (by decide) _ n _ (unhide her).1 (unhide her).2).mono ?_; rintro e w3 ⟨x, rfl, hx, hb3⟩))
    go_ret
    exact ⟨_, rfl, hx, hb1.trans (hb3.mono hb1.size)⟩

end Go.Proofs.YtknbgnoahfeigaaDoor
