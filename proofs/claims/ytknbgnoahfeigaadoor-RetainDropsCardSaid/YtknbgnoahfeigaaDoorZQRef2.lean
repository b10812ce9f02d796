/- Proved here: contracts of the page's Name, plain, shared, Filter and Match. Helper contracts. -/
import Derived.Test.YtknbgnoahfeigaaDoorZQRef
namespace Go.Proofs.YtknbgnoahfeigaaDoor
open Go.RowKit

/-- levels as the page tells them -/
theorem levels_strs (s : ByteArray) (w : World) (hs : s.size ≤ 70000) :
    Calls Tryd.prog 39 #[.string s] w fun e w' => ∃ v, e = .returned v ∧ Hid (Strs w' v (lvB s)) ∧ Below w.heap.size w w' := by
  refine (levels_any s w hs).mono ?_
  rintro e w' ⟨v, rfl, hown, hb⟩
  refine ⟨v, rfl, ?_, hb⟩
  have hc : s.data.toList.count 47 ≤ s.size := by rw [← size_len]; exact List.count_le_length
  have hl := lvB_len s
  rcases hown.2 with ⟨rfl, h1⟩ | ⟨g, cap, cur, rfl, hB, hg, hnc, hcm, hcs, htake⟩
  · omega
  · refine ⟨g, 0, cap, rfl, hnc, by omega, fun j hj => ?_⟩
    rw [Nat.zero_add, hown.cellAt j (by omega), List.getElem?_map, List.getElem?_eq_getElem hj, List.getD_eq_getElem?_getD, List.getElem?_eq_getElem hj]
    rfl
theorem rck (s : ByteArray) (w : World) (hs : s.size ≤ 70000) : Calls Tryd.prog 37 #[.string s] w fun e w' => e = .returned (.int .i64 (ck s.data.toList)) ∧ Below w.heap.size w w' := rcheck_any s w (by omega)
/-- the answers of the page, in order -/
def nmF (e : Bool) (c : Int) (g : Bool) (n : Nat) : Bool := !e && (decide (c = 0) && (!g && decide (n ≤ 32)))
theorem nmF_is (s : ByteArray) : nmF s.toList.isEmpty (ck s.data.toList) (sg s.data.toList) (lvB s).length = isName s.data.toList := by
  rw [lvB_len]
  unfold nmF isName cnt
  have e : decide (s.data.toList ≠ []) = !s.toList.isEmpty := by
    rw [Lib.toList_data]
    cases s.data.toList <;> rfl
  rw [e]
  have e2 : decide (s.data.toList.count 47 + 1 ≤ 32) = decide (s.data.toList.count 47 < 32) := decide_eq_decide.2 (by omega)
  rw [e2]
  generalize s.toList.isEmpty = a
  generalize decide (ck s.data.toList = 0) = b
  generalize sg s.data.toList = c
  generalize decide (s.data.toList.count 47 < 32) = d
  cases a <;> cases b <;> cases c <;> cases d <;> rfl
set_option maxRecDepth 100000 in
set_option maxHeartbeats 1000000 in
theorem rname_any (s : ByteArray) (w : World) (hs : s.size ≤ 70000) :
    Calls Tryd.prog 22 #[.string s] w fun e w' => e = .returned (.bool (isName s.data.toList)) ∧ Below w.heap.size w w' := by
  have HR := hide (nmF_is s)
  have HCK := hide (fun w => rck s w hs)
  have HHS := hide (fun w => has_any s w hs)
  have HLS := hide (fun w => levels_strs s w hs)
  generalize isName s.data.toList = res at HR ⊢
  generalize ck s.data.toList = c at HR HCK
  generalize sg s.data.toList = g at HR HHS
  generalize lvB s = LB at HR HLS
  cases he : s.toList.isEmpty
  · by_cases hc : c = 0
    · subst hc
      cases g
      · rw [he] at HR
        have HR2 : Hid (res = decide ((LB.length : Int) ≤ 32)) := by
          show _ = _
          have e : nmF false 0 false LB.length = decide (LB.length ≤ 32) := by simp [nmF]
          rw [← unhide HR, e]; exact decide_eq_decide.2 (by omega)
        clear HR
        go_enter Tryd.func22, Tryd.ntmps22
        go_wp2_with (first
          | (go_at_call 37; refine ((unhide HCK) _).mono ?_; rintro e w1 ⟨rfl, hb1⟩)
          | (go_at_call 38; refine ((unhide HHS) _).mono ?_; rintro e w2 ⟨rfl, rfl⟩)
          | (go_at_call 39; refine ((unhide HLS) _).mono ?_; rintro e w3 ⟨v, rfl, hst, hb3⟩; obtain ⟨b, off, cap, rfl, hcap, hmx, _⟩ := unhide hst; clear hst))
        go_wp2
        go_ret
        exact ⟨by rw [unhide HR2]; rfl, hb1.trans (hb3.mono hb1.size)⟩
      · rw [he] at HR
        go_enter Tryd.func22, Tryd.ntmps22
        go_wp2_with (first
          | (go_at_call 37; refine ((unhide HCK) _).mono ?_; rintro e w1 ⟨rfl, hb1⟩)
          | (go_at_call 38; refine ((unhide HHS) _).mono ?_; rintro e w2 ⟨rfl, rfl⟩))
        go_ret
        exact ⟨by rw [← unhide HR]; rfl, hb1⟩
    · have hcb : (c == 0) = false := beq_eq_false_iff_ne.2 hc
      rw [he] at HR
      have HR2 : Hid (res = false) := by show _ = _; rw [← unhide HR]; unfold nmF; rw [decide_eq_false hc]; rfl
      clear hc HR
      go_enter Tryd.func22, Tryd.ntmps22
      go_wp2_with (first
        | (go_at_call 37; refine ((unhide HCK) _).mono ?_; rintro e w1 ⟨rfl, hb1⟩))
      go_ret
      exact ⟨by rw [unhide HR2]; rfl, hb1⟩
  · rw [he] at HR
    go_enter Tryd.func22, Tryd.ntmps22
    go_wp2
    go_ret
    exact ⟨by rw [← unhide HR]; rfl, Below.refl _ _⟩
end Go.Proofs.YtknbgnoahfeigaaDoor
