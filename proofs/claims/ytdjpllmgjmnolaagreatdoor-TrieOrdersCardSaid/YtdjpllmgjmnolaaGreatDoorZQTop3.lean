/- Proved here: contracts of topic.Name, topic.Filter and topic.Match: what they tell of any texts of up to 70000 bytes. Helper contracts. -/
import Derived.Test.YtdjpllmgjmnolaaGreatDoorZQTop2
namespace Go.Proofs.YtdjpllmgjmnolaaGreatDoor
open Go.RowKit

theorem chk_cases (l : List Int) : chk l = 0 ∨ chk l = 1 ∨ chk l = 2 := by
  unfold chk
  repeat' split
  all_goals simp
/-- Check's answer where a text is none, as fault takes it -/
theorem check_no (s : ByteArray) (w : World) (hs : s.size ≤ 70000) (h : ck s.data.toList ≠ 0) :
    Calls Tryz.prog 39 #[.string s] w fun e w' => ∃ b n, e = .returned (.iface 86 (.pointer (some ⟨b, 0, none⟩))) ∧ Hid (Er w' 1 (.iface 86 (.pointer (some ⟨b, 0, none⟩))) n ∧ (n = 1 ∨ n = 2)) ∧ Below w.heap.size w w' := by
  refine (check_bad s (chk (sb s)) w (by omega) rfl h).mono ?_
  rintro e w' ⟨rfl, rfl⟩
  refine ⟨_, chk (sb s), rfl, ⟨⟨_, _, rfl, by simp, rfl⟩, ?_⟩, fault_below _ w⟩
  rcases chk_cases (sb s) with h0 | h0
  · exact absurd h0 h
  · exact h0
theorem check_yes (s : ByteArray) (w : World) (hs : s.size ≤ 70000) (h : ck s.data.toList = 0) :
    Calls Tryz.prog 39 #[.string s] w fun e w' => e = .returned .nilIface ∧ w' = w := check_ok s w (by omega) h

set_option maxRecDepth 100000 in
set_option maxHeartbeats 1000000 in
theorem name_yes (s : ByteArray) (w : World) (hs : s.size ≤ 70000) (h : isName s.data.toList = true) :
    Calls Tryz.prog 28 #[.string s] w fun e w' => e = .returned .nilIface ∧ Below w.heap.size w w' := by
  unfold isName at h
  simp only [Bool.and_eq_true, decide_eq_true_eq, Bool.not_eq_true'] at h
  obtain ⟨h1, h2, h3⟩ := h
  have HC := hide (fun w => check_yes s w hs h1)
  clear h1
  go_enter Tryz.func28, Tryz.ntmps28
  go_wp2_with (first
    | (go_at_call 39; refine ((unhide HC) _).mono ?_; rintro e w' ⟨rfl, rfl⟩)
    | (go_at_call 46; refine (mayCount_any s _).mono ?_; rintro e w1 ⟨rfl, rfl⟩; rw [h2])
    | (go_at_call 47; refine (containsAny_any s _ (by omega)).mono ?_; rintro e w2 ⟨rfl, hb2⟩; rw [h3]))
  go_ret
  exact ⟨rfl, hb2⟩
set_option maxRecDepth 100000 in
set_option maxHeartbeats 1000000 in
theorem name_no (s : ByteArray) (w : World) (hs : s.size ≤ 70000) (h : isName s.data.toList = false) :
    Calls Tryz.prog 28 #[.string s] w fun e w' => ∃ x, e = .returned (.iface 86 x) ∧ Hid (ErrIs w' (.iface 86 x) 5) ∧ Below w.heap.size w w' := by
  unfold isName at h
  by_cases h1 : ck s.data.toList = 0
  · have HC := hide (fun w => check_yes s w hs h1)
    rw [decide_eq_true h1, Bool.true_and] at h
    clear h1
    cases h2 : cnt s.data.toList
    · clear h
      go_enter Tryz.func28, Tryz.ntmps28
      go_wp2_with (first
        | (go_at_call 39; refine ((unhide HC) _).mono ?_; rintro e w' ⟨rfl, rfl⟩)
        | (go_at_call 46; refine (mayCount_any s _).mono ?_; rintro e w1 ⟨rfl, rfl⟩; rw [h2])
        | (go_at_call 40; refine (tfault5 _).mono ?_; rintro e w3 ⟨x, rfl, hx, hb3⟩))
      go_ret
      exact ⟨_, rfl, hx, hb3⟩
    · have h3 : sg s.data.toList = true := by rw [h2] at h; simpa using h
      clear h
      go_enter Tryz.func28, Tryz.ntmps28
      go_wp2_with (first
        | (go_at_call 39; refine ((unhide HC) _).mono ?_; rintro e w' ⟨rfl, rfl⟩)
        | (go_at_call 46; refine (mayCount_any s _).mono ?_; rintro e w1 ⟨rfl, rfl⟩; rw [h2])
        | (go_at_call 47; refine (containsAny_any s _ (by omega)).mono ?_; rintro e w2 ⟨rfl, hb2⟩; rw [h3])
        | (go_at_call 40; refine (tfault5 _).mono ?_; rintro e w3 ⟨x, rfl, hx, hb3⟩))
      go_ret
      exact ⟨_, rfl, hx, hb2.trans (hb3.mono hb2.size)⟩
  · clear h
    have HC := hide (fun w => check_no s w hs h1)
    clear h1
    go_enter Tryz.func28, Tryz.ntmps28
    go_wp2_with (first
      | (go_at_call 39; refine ((unhide HC) _).mono ?_; rintro e w1 ⟨b, n, rfl, her, hb1⟩)
      | (go_at_call 40; refine (tfault 1 (by decide) _ n _ (unhide her).1 (unhide her).2).mono ?_; rintro e w3 ⟨x, rfl, hx, hb3⟩))
    go_ret
    exact ⟨_, rfl, hx, hb1.trans (hb3.mono hb1.size)⟩

theorem prt_len (l : List UInt8) : (prt l).2.1.length ≤ l.length := by
  unfold prt
  split
  · have := (cut_le (l.drop 7)).2; simp at this; simp; omega
  · simp
/-- the parts of a text, as a caller uses them -/
theorem parts_use (s : ByteArray) (g f : List UInt8) (ok : Bool) (w : World) (hs : s.size ≤ 70000) (hm : Len w) (h : prt s.data.toList = (g, f, ok)) :
    Calls Tryz.prog 41 #[.string s] w fun e w' => e = .returned (.tuple #[.string (bt g), .string (bt f), .bool ok]) ∧ Below w.heap.size w w' := by
  have := parts_any s w hs hm
  unfold prtV at this
  rw [h] at this
  exact this
set_option maxRecDepth 100000 in
set_option maxHeartbeats 1000000 in
theorem filter_yes (s : ByteArray) (g f : List UInt8) (w : World) (hs : s.size ≤ 70000) (hm : Len w) (h : flt s.data.toList = some (g, f)) :
    Calls Tryz.prog 19 #[.string s] w fun e w' => e = .returned (.tuple #[.string (bt g), .string (bt f), .nilIface]) ∧ Below w.heap.size w w' := by
  unfold flt at h
  by_cases h1 : ck s.data.toList = 0
  · rw [if_pos h1] at h
    have HC := hide (fun w => check_yes s w hs h1)
    clear h1
    have hl := prt_len s.data.toList
    rw [size_len] at hl
    obtain ⟨⟨g', f', ok⟩, hp⟩ : ∃ q, prt s.data.toList = q := ⟨_, rfl⟩
    rw [hp] at h hl
    have HPT := hide (parts_use s g' f' ok w hs hm hp)
    clear hp
    dsimp only at h hl
    by_cases h2 : ok = true ∧ isF f' = true
    · rw [if_pos h2] at h
      simp only [Option.some.injEq, Prod.mk.injEq] at h
      obtain ⟨rfl, rfl⟩ := h
      obtain ⟨rfl, h3⟩ := h2
      have hfs : (bt f').size ≤ 70000 := by rw [bt_size]; omega
      have HM := hide hm
      clear hm
      go_enter Tryz.func19, Tryz.ntmps19
      go_wp2_with (first
        | (go_at_call 39; refine ((unhide HC) _).mono ?_; rintro e w1 ⟨rfl, rfl⟩)
        | (go_at_call 41; refine (unhide HPT).mono ?_; rintro e w2 ⟨rfl, hb2⟩)
        | (go_at_call 42; refine (mayFilter_any (bt f') _ hfs ((unhide HM).up hb2)).mono ?_; rintro e w3 ⟨rfl, hb3⟩; rw [bt_data, h3]))
      go_returns
      exact ⟨rfl, hb2.trans (hb3.mono hb2.size)⟩
    · rw [if_neg h2] at h; cases h
  · rw [if_neg h1] at h; cases h
set_option maxRecDepth 100000 in
set_option maxHeartbeats 1000000 in
theorem filter_no (s : ByteArray) (w : World) (hs : s.size ≤ 70000) (hm : Len w) (h : flt s.data.toList = none) :
    Calls Tryz.prog 19 #[.string s] w fun e w' => ∃ x, e = .returned (.tuple #[.string ByteArray.empty, .string ByteArray.empty, .iface 86 x]) ∧ Hid (ErrIs w' (.iface 86 x) 5) ∧ Below w.heap.size w w' := by
  unfold flt at h
  by_cases h1 : ck s.data.toList = 0
  · rw [if_pos h1] at h
    have HC := hide (fun w => check_yes s w hs h1)
    clear h1
    have hl := prt_len s.data.toList
    rw [size_len] at hl
    obtain ⟨⟨g', f', ok⟩, hp⟩ : ∃ q, prt s.data.toList = q := ⟨_, rfl⟩
    rw [hp] at h hl
    have HPT := hide (parts_use s g' f' ok w hs hm hp)
    clear hp
    dsimp only at h hl
    have hfs : (bt f').size ≤ 70000 := by rw [bt_size]; omega
    have HM := hide hm
    clear hm
    cases ok
    · clear h
      go_enter Tryz.func19, Tryz.ntmps19
      go_wp2_with (first
        | (go_at_call 39; refine ((unhide HC) _).mono ?_; rintro e w1 ⟨rfl, rfl⟩)
        | (go_at_call 41; refine (unhide HPT).mono ?_; rintro e w2 ⟨rfl, hb2⟩)
        | (go_at_call 40; refine (tfault5 _).mono ?_; rintro e w4 ⟨x, rfl, hx, hb4⟩))
      go_returns
      exact ⟨_, rfl, hx, hb2.trans (hb4.mono hb2.size)⟩
    · have h3 : isF f' = false := by
        cases h4 : isF f'
        · rfl
        · rw [if_pos ⟨rfl, h4⟩] at h; cases h
      clear h
      go_enter Tryz.func19, Tryz.ntmps19
      go_wp2_with (first
        | (go_at_call 39; refine ((unhide HC) _).mono ?_; rintro e w1 ⟨rfl, rfl⟩)
        | (go_at_call 41; refine (unhide HPT).mono ?_; rintro e w2 ⟨rfl, hb2⟩)
        | (go_at_call 42; refine (mayFilter_any (bt f') _ hfs ((unhide HM).up hb2)).mono ?_; rintro e w3 ⟨rfl, hb3⟩; rw [bt_data, h3])
        | (go_at_call 40; refine (tfault5 _).mono ?_; rintro e w4 ⟨x, rfl, hx, hb4⟩))
      go_returns
      exact ⟨_, rfl, hx, (hb2.trans (hb3.mono hb2.size)).trans (hb4.mono (Nat.le_trans hb2.size hb3.size))⟩
  · clear h
    have HC := hide (fun w => check_no s w hs h1)
    clear h1
    go_enter Tryz.func19, Tryz.ntmps19
    go_wp2_with (first
      | (go_at_call 39; refine ((unhide HC) _).mono ?_; rintro e w1 ⟨b, n, rfl, her, hb1⟩)
      | (go_at_call 40; refine (tfault 1 (by decide) _ n _ (unhide her).1 (unhide her).2).mono ?_; rintro e w3 ⟨x, rfl, hx, hb3⟩))
    go_returns
    exact ⟨_, rfl, hx, hb1.trans (hb3.mono hb1.size)⟩

/-- a filter without a group is the text itself -/
theorem flt_plain {l f : List UInt8} (h : flt l = some ([], f)) : f = l := by
  unfold flt prt at h
  by_cases h1 : ck l = 0
  · rw [if_pos h1] at h
    by_cases hp : shr.isPrefixOf l = true
    · rw [if_pos hp] at h
      dsimp only at h
      split at h
      · rename_i hc
        simp only [Option.some.injEq, Prod.mk.injEq] at h
        rw [h.1] at hc
        simp at hc
      · cases h
    · rw [if_neg hp] at h
      dsimp only at h
      split at h
      · simp only [Option.some.injEq, Prod.mk.injEq] at h; exact h.2.symm
      · cases h
  · rw [if_neg h1] at h; cases h
/-- may a name be held against a filter? -/
def mayM (f s : List UInt8) : Bool := decide (flt f = some ([], f)) && isName s
theorem strs_open {w : World} {v : Value} {xs : List ByteArray} (h : Strs w v xs) : ∃ b off cap, v = .slice (some ⟨b, off, none⟩) xs.length cap ∧ xs.length ≤ cap ∧ xs.length ≤ 70001 ∧ ∀ j, j < xs.length → w.cell? ⟨b, off + j, none⟩ = some (.string (xs.getD j ByteArray.empty)) := h
theorem matches_any (vf vn : Value) (F N : List ByteArray) (w : World) (hF : Strs w vf F) (hN : Strs w vn N) (h1 : 1 ≤ F.length) (h2 : 1 ≤ N.length) :
    Calls Tryz.prog 43 #[vf, vn] w fun e w' => e = .returned (.bool (mres (bys F) (bys N))) ∧ w' = w := by
  obtain ⟨b1, o1, c1, rfl, a1, a2, a3⟩ := hF
  obtain ⟨b2, o2, c2, rfl, d1, d2, d3⟩ := hN
  exact mloop b1 o1 c1 b2 o2 c2 _ _ F N w rfl rfl h1 h2 a1 d1 a2 d2 a3 d3
set_option maxRecDepth 100000 in
set_option maxHeartbeats 1000000 in
theorem match_yes (f s : ByteArray) (w : World) (hf : f.size ≤ 70000) (hs : s.size ≤ 70000) (hm : Len w) (h : mayM f.data.toList s.data.toList = true) :
    Calls Tryz.prog 20 #[.string f, .string s] w fun e w' => e = .returned (.tuple #[.bool (mtc f.data.toList s.data.toList), .nilIface]) ∧ Below w.heap.size w w' := by
  unfold mayM at h
  simp only [Bool.and_eq_true, decide_eq_true_eq] at h
  obtain ⟨h1, h2⟩ := h
  have HF := hide (filter_yes f [] f.data.toList w hf hm h1)
  have HN := hide (fun w => name_yes s w hs h2)
  have HR : Hid (mres (bys (lvB f)) (bys (lvB s)) = mtc f.data.toList s.data.toList) := by show _ = _; rw [bys_lvB, bys_lvB]; rfl
  have HL1 : Hid (1 ≤ (lvB f).length) := by show _ ≤ _; rw [lvB_len]; omega
  have HL2 : Hid (1 ≤ (lvB s).length) := by show _ ≤ _; rw [lvB_len]; omega
  have HM := hide hm
  have hbe : bt [] = ByteArray.empty := rfl
  rw [hbe] at HF
  clear hbe h1 h2 hm
  generalize mtc f.data.toList s.data.toList = res at HR ⊢
  go_enter Tryz.func20, Tryz.ntmps20
  go_wp2_with (first
    | (go_at_call 19; refine (unhide HF).mono ?_; rintro e w1 ⟨rfl, hb1⟩)
    | (go_at_call 28; refine ((unhide HN) _).mono ?_; rintro e w2 ⟨rfl, hb2⟩; have hm2 : Hid (Len w2) := ((unhide HM).up hb1).up hb2)
    | (go_at_call 30; refine (split_any f _ hf (unhide hm2)).mono ?_; rintro e w3 ⟨v3, rfl, hst3, hb3⟩; have hm3 : Hid (Len w3) := (unhide hm2).up hb3; clear hm2)
    | (go_at_call 30; refine (split_any s _ hs (unhide hm3)).mono ?_; rintro e w4 ⟨v4, rfl, hst4, hb4⟩)
    | (go_at_call 43; refine (matches_any _ _ _ _ _ ((unhide hst3).below hb4) (unhide hst4) (unhide HL1) (unhide HL2)).mono ?_; rintro e w5 ⟨rfl, rfl⟩; rw [unhide HR]))
  go_returns
  exact ⟨rfl, ((hb1.trans (hb2.mono hb1.size)).trans (hb3.mono (Nat.le_trans hb1.size hb2.size))).trans (hb4.mono (Nat.le_trans (Nat.le_trans hb1.size hb2.size) hb3.size))⟩
set_option maxRecDepth 100000 in
set_option maxHeartbeats 1000000 in
theorem match_no (f s : ByteArray) (w : World) (hf : f.size ≤ 70000) (hs : s.size ≤ 70000) (hm : Len w) (h : mayM f.data.toList s.data.toList = false) :
    Calls Tryz.prog 20 #[.string f, .string s] w fun e w' => ∃ x, e = .returned (.tuple #[.bool false, .iface 86 x]) ∧ Hid (ErrIs w' (.iface 86 x) 5) ∧ Below w.heap.size w w' := by
  unfold mayM at h
  cases hfl : flt f.data.toList with
  | none =>
    have HF := hide (filter_no f w hf hm hfl)
    clear h hfl
    go_enter Tryz.func20, Tryz.ntmps20
    go_wp2_with (first
      | (go_at_call 19; refine (unhide HF).mono ?_; rintro e w1 ⟨x, rfl, hx, hb1⟩))
    go_returns
    exact ⟨_, rfl, hx, hb1⟩
  | some q =>
    obtain ⟨g, f'⟩ := q
    have HF := hide (filter_yes f g f' w hf hm hfl)
    cases hg : (bt g).toList.isEmpty
    · clear h hfl
      go_enter Tryz.func20, Tryz.ntmps20
      go_wp2_with (first
        | (go_at_call 19; refine (unhide HF).mono ?_; rintro e w1 ⟨rfl, hb1⟩)
        | (go_at_call 40; refine (tfault5 _).mono ?_; rintro e w4 ⟨x, rfl, hx, hb4⟩))
      go_returns
      exact ⟨_, rfl, hx, hb1.trans (hb4.mono hb1.size)⟩
    · have hg0 : g = [] := empty_of hg
      subst hg0
      obtain rfl := flt_plain hfl
      rw [hfl] at h
      have hn : isName s.data.toList = false := by simpa using h
      have HN := hide (fun w => name_no s w hs hn)
      clear h hfl hn hg
      have hbe : bt [] = ByteArray.empty := rfl
      rw [hbe] at HF
      clear hbe
      go_enter Tryz.func20, Tryz.ntmps20
      go_wp2_with (first
        | (go_at_call 19; refine (unhide HF).mono ?_; rintro e w1 ⟨rfl, hb1⟩)
        | (go_at_call 28; refine ((unhide HN) _).mono ?_; rintro e w2 ⟨x, rfl, hx, hb2⟩))
      go_returns
      exact ⟨_, rfl, hx, hb1.trans (hb2.mono hb1.size)⟩
end Go.Proofs.YtdjpllmgjmnolaaGreatDoor
