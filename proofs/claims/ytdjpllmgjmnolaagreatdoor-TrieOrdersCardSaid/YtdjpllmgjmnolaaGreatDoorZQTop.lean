/- Proved here: contracts of topic's smaller functions: mayCount, mayLevel, fault; strings.Split at a slash tells a text's levels. Helper contracts. -/
import Derived.Test.YtdjpllmgjmnolaaGreatDoorZQAny
import Derived.Test.YtdjpllmgjmnolaaGreatDoorZTCheck
import Derived.Test.YtdjpllmgjmnolaaGreatDoorZKEr
namespace Go.Proofs.YtdjpllmgjmnolaaGreatDoor
open Go.RowKit

/-- texts in a row in memory -/
def Strs (w : World) (v : Value) (xs : List ByteArray) : Prop :=
  ∃ b off cap, v = .slice (some ⟨b, off, none⟩) xs.length cap ∧ xs.length ≤ cap ∧ xs.length ≤ 70001 ∧ ∀ j, j < xs.length → w.cell? ⟨b, off + j, none⟩ = some (.string (xs.getD j ByteArray.empty))
theorem Strs.below {w w' : World} {v : Value} {xs : List ByteArray} (h : Strs w v xs) (hb : Below w.heap.size w w') : Strs w' v xs := by
  obtain ⟨b, off, cap, h1, h2, h3, h4⟩ := h
  exact ⟨b, off, cap, h1, h2, h3, fun j hj => by rw [hb.cell (p := ⟨b, off + j, none⟩) (cell_lt (h4 j hj))]; exact h4 j hj⟩
/-- what bytealg.MaxLen holds: some number -/
def Len (w : World) : Prop := ∃ m, w.cell? ⟨1, 0, none⟩ = some (.int .i64 m)
theorem Len.below {w w' : World} {B : Nat} (h : Len w) (hb : Below B w w') (hB : 1 < B) : Len w' := by
  obtain ⟨m, h⟩ := h
  exact ⟨m, by rw [hb.cell (p := ⟨1, 0, none⟩) hB]; exact h⟩
theorem Len.lt {w : World} (h : Len w) : 1 < w.heap.size := by
  obtain ⟨m, h⟩ := h
  exact cell_lt h
theorem Len.up {w w' : World} (h : Len w) (hb : Below w.heap.size w w') : Len w' := h.below hb h.lt

theorem getD_mapStr (xs : List ByteArray) (j : Nat) (h : j < xs.length) : (xs.map Value.string).toArray[j]? = some (.string (xs.getD j ByteArray.empty)) := by
  rw [List.getElem?_toArray, List.getElem?_map, List.getElem?_eq_getElem h, List.getD_eq_getElem?_getD, List.getElem?_eq_getElem h]; rfl
theorem split_any (s : ByteArray) (w : World) (hs : s.size ≤ 70000) (hm : Len w) :
    Calls Tryz.prog 30 #[.string s, .string ⟨#[47]⟩] w fun e w' => ∃ v, e = .returned v ∧ Hid (Strs w' v (lvB s)) ∧ Below w.heap.size w w' := by
  obtain ⟨m, hm⟩ := hm
  refine (Tryz.strings_Split s ⟨#[47]⟩ m w (by omega) hm (by decide)).mono ?_
  rintro e w' ⟨rfl, rfl⟩
  have hl : Lib.countB s ⟨#[47]⟩ + 1 = (lvB s).length := by rw [lvB_len, countB_slash]
  have hc : s.data.toList.count 47 ≤ s.size := by rw [← size_len]; exact List.count_le_length
  rw [splitB_lvB, hl]
  refine ⟨_, rfl, ⟨_, 0, _, rfl, Nat.le_refl _, by rw [lvB_len]; omega, fun j hj => ?_⟩, (Below.refl _ _).alloc (Nat.le_refl _) _⟩
  rw [Nat.zero_add, World.cell?_alloc_at _ _ _ _ rfl]
  exact getD_mapStr _ j hj

theorem empty_of {s : ByteArray} (h : s.toList.isEmpty = true) : s.data.toList = [] := by
  rw [Lib.toList_data] at h; exact List.isEmpty_iff.1 h
theorem ne_of {s : ByteArray} (h : s.toList.isEmpty = false) : s.data.toList ≠ [] := by
  rw [Lib.toList_data] at h; intro e; rw [e] at h; cases h
set_option maxHeartbeats 1000000 in
theorem mayCount_any (s : ByteArray) (w : World) :
    Calls Tryz.prog 46 #[.string s] w fun e w' => e = .returned (.bool (cnt s.data.toList)) ∧ w' = w := by
  cases he : s.toList.isEmpty
  · have hc : Hid (cnt s.data.toList = decide (((s.data.toList.count 47 : Nat) : Int) < 32)) := by
      show _ = _
      unfold cnt
      rw [decide_eq_true (ne_of he), Bool.true_and]
      exact decide_eq_decide.2 (by omega)
    have hcc : ∀ w, Calls Tryz.prog 65 #[.string s, .string ⟨#[47]⟩] w fun e w' => e = .returned (.int .i64 ((s.data.toList.count 47 : Nat) : Int)) ∧ w' = w := fun w => Tryz.strings_Count_one s 47 w
    have HCC := hide hcc
    clear hcc
    generalize s.data.toList.count 47 = q at HCC hc
    go_enter Tryz.func46, Tryz.ntmps46
    go_wp2_with (go_at_call 65; refine ((unhide HCC) _).mono ?_; rintro e w' ⟨rfl, rfl⟩)
    go_ret
    exact ⟨by rw [unhide hc]; rfl, rfl⟩
  · have hc : Hid (cnt s.data.toList = false) := by
      show _ = _
      unfold cnt
      rw [empty_of he]; rfl
    go_enter Tryz.func46, Tryz.ntmps46
    go_wp2
    go_ret
    exact ⟨by rw [unhide hc]; rfl, rfl⟩
/-- the walk's words for a text that is a constant -/
theorem is_of {s : ByteArray} {l : List UInt8} (h : (s.toList == l) = true) : s.data.toList = l := by rw [Lib.toList_data] at h; exact beq_iff_eq.1 h
theorem isnt_of {s : ByteArray} {l : List UInt8} (h : (s.toList == l) = false) : s.data.toList ≠ l := by rw [Lib.toList_data] at h; exact beq_eq_false_iff_ne.1 h
theorem of_is {s : ByteArray} {l : List UInt8} (h : s.data.toList = l) : (s.toList == l) = true := by rw [Lib.toList_data]; exact beq_iff_eq.2 h
theorem of_isnt {s : ByteArray} {l : List UInt8} (h : s.data.toList ≠ l) : (s.toList == l) = false := by rw [Lib.toList_data]; exact beq_eq_false_iff_ne.2 h
set_option maxHeartbeats 1000000 in
theorem mayLevel_any (s : ByteArray) (last : Bool) (w : World) (hs : s.size ≤ 70000) :
    Calls Tryz.prog 63 #[.string s, .bool last] w fun e w' => e = .returned (.bool (okL s.data.toList last)) ∧ Below w.heap.size w w' := by
  cases h35 : (s.toList == [35])
  · cases h43 : (s.toList == [43])
    · have hk : Hid (okL s.data.toList last = !sg s.data.toList) := by
        show _ = _
        unfold okL
        rw [if_neg (isnt_of h35), if_neg (isnt_of h43)]
      go_enter Tryz.func63, Tryz.ntmps63
      go_wp2_with (go_at_call 47; refine (containsAny_any _ _ (by omega)).mono ?_; rintro e w' ⟨rfl, hw⟩)
      go_ret
      exact ⟨by rw [unhide hk]; rfl, hw⟩
    · have hk : Hid (okL s.data.toList last = true) := by
        show _ = _
        unfold okL
        rw [if_neg (isnt_of h35), if_pos (is_of h43)]
      go_enter Tryz.func63, Tryz.ntmps63
      go_wp2
      go_ret
      exact ⟨by rw [unhide hk]; rfl, Below.refl _ _⟩
  · have hk : Hid (okL s.data.toList last = last) := by
      show _ = _
      unfold okL
      rw [if_pos (is_of h35)]
    cases last
    all_goals
      go_enter Tryz.func63, Tryz.ntmps63
      go_wp2
      go_ret
      exact ⟨by rw [unhide hk]; rfl, Below.refl _ _⟩

/-- the world behind topic's fault -/
abbrev tfW (w : World) : World := w.alloc (.cells #[.string ⟨#[116, 111, 112, 105, 99]⟩, .iface 81 (.int .i64 5)] 88)
theorem tf_is (w : World) : ErrIs (tfW w) (.iface 86 (.pointer (some ⟨w.heap.size, 0, none⟩))) 5 := .inr ⟨_, rfl, by simp⟩
theorem tf_below (w : World) : Below w.heap.size w (tfW w) := (Below.refl _ _).alloc (Nat.le_refl _) _
set_option maxHeartbeats 1000000 in
theorem tfault (d : Nat) (hd : d ≤ 3) (v : Value) (n : Int) (w : World) (h : Er w d v n) (hn : n = 1 ∨ n = 2) :
    Calls Tryz.prog 40 #[v] w fun e w' => ∃ x, e = .returned (.iface 86 x) ∧ Hid (ErrIs w' (.iface 86 x) 5) ∧ Below w.heap.size w w' := by
  have HI := hide (fun m => er_Is d hd v n m w h)
  obtain ⟨tt, x, rfl⟩ := h.iface
  clear h
  rcases hn with rfl | rfl
  all_goals
    go_enter Tryz.func40, Tryz.ntmps40
    go_wp2_with (go_at_call 59; refine ((unhide HI) _).mono ?_; rintro e w' ⟨rfl, rfl⟩)
    go_ret
    exact ⟨_, rfl, tf_is _, tf_below _⟩
set_option maxHeartbeats 1000000 in
theorem tfault5 (w : World) :
    Calls Tryz.prog 40 #[.iface 81 (.int .i64 5)] w fun e w' => ∃ x, e = .returned (.iface 86 x) ∧ Hid (ErrIs w' (.iface 86 x) 5) ∧ Below w.heap.size w w' := by
  have HI := hide (fun m => er_Is 0 (by decide) (.iface 81 (.int .i64 5)) 5 m w rfl)
  go_enter Tryz.func40, Tryz.ntmps40
  go_wp2_with (go_at_call 59; refine ((unhide HI) _).mono ?_; rintro e w' ⟨rfl, rfl⟩)
  go_ret
  exact ⟨_, rfl, tf_is _, tf_below _⟩

/-- the levels that are left behind k -/
theorem okLs_drop (l : List (List UInt8)) (k : Nat) (h : k < l.length) : okLs (l.drop k) = (okL (l.getD k []) (decide (k + 1 = l.length)) && okLs (l.drop (k + 1))) := by
  rw [List.drop_eq_getElem_cons h, okLs, List.getD_eq_getElem?_getD, List.getElem?_eq_getElem h]
  have : (l.drop (k + 1)).isEmpty = decide (k + 1 = l.length) := by
    rw [Bool.eq_iff_iff, List.isEmpty_iff_length_eq_zero, List.length_drop, decide_eq_true_eq]; omega
  rw [this]; rfl
theorem lvB_get (s : ByteArray) (k : Nat) (h : k < (lvl s.data.toList).length) : ((lvB s).getD k ByteArray.empty).data.toList = (lvl s.data.toList).getD k [] := by
  unfold lvB
  rw [List.getD_eq_getElem?_getD, List.getElem?_map, List.getElem?_eq_getElem h, List.getD_eq_getElem?_getD, List.getElem?_eq_getElem h]; rfl
theorem lvl_size : ∀ (l : List UInt8) (x : List UInt8), x ∈ lvl l → x.length ≤ l.length
  | [], x, h => by simp [lvl] at h; simp [h]
  | c :: r, x, h => by
    have ih := lvl_size r
    unfold lvl at h
    split at h
    · rcases List.mem_cons.1 h with rfl | h
      · simp
      · have := ih x h; simp; omega
    · split at h
      · rename_i a t e
        rw [e] at ih
        rcases List.mem_cons.1 h with rfl | h
        · have := ih a (by simp); simp; omega
        · have := ih x (by simp [h]); simp; omega
      · simp at h; simp [h]
theorem lvB_size (s : ByteArray) (k : Nat) (h : k < (lvl s.data.toList).length) : ((lvB s).getD k ByteArray.empty).size ≤ s.size := by
  rw [← size_len, lvB_get s k h, ← size_len s]
  apply lvl_size
  rw [List.getD_eq_getElem?_getD, List.getElem?_eq_getElem h]
  exact List.getElem_mem h
set_option maxRecDepth 100000 in
set_option maxHeartbeats 1000000 in
theorem mayFilter_any (s : ByteArray) (w : World) (hs : s.size ≤ 70000) (hm : Len w) :
    Calls Tryz.prog 42 #[.string s] w fun e w' => e = .returned (.bool (isF s.data.toList)) ∧ Below w.heap.size w w' := by
  have HSP := hide (split_any s w hs hm)
  have hl : (lvB s).length = (lvl s.data.toList).length := by unfold lvB; rw [List.length_map]
  have hmax : (lvl s.data.toList).length ≤ 70001 := by have h1 : s.data.toList.count 47 ≤ s.data.toList.length := List.count_le_length; rw [lvl_len]; rw [size_len] at h1; omega
  have HG := hide (lvB_get s)
  have HSZ := hide (lvB_size s)
  have HO : Hid (isF s.data.toList = (okLs (lvl s.data.toList) && cnt s.data.toList)) := rfl
  have HMC := hide (mayCount_any s)
  have HDR := hide (okLs_drop (lvl s.data.toList))
  generalize isF s.data.toList = res at HO ⊢
  generalize cnt s.data.toList = c at HO HMC
  generalize lvl s.data.toList = L at hl hmax HG HSZ HO HDR
  generalize lvB s = LB at hl HG HSZ HSP
  go_enter Tryz.func42, Tryz.ntmps42
  go_wp2_with (go_at_call 30; refine (unhide HSP).mono ?_; rintro e w1 ⟨v, rfl, hst, hb1⟩; obtain ⟨b, off, cap, rfl, hcap, _, hcell⟩ := unhide hst; have HC := hide hcell; have HB1 := hide hb1; clear hst hcell hb1 HSP; generalize hn : LB.length = n at hl hcap HC)
  obtain rfl : n = L.length := hl
  generalize hN : L.length = N at hmax hcap HC HG HSZ HDR hn
  have HN := hide hN
  clear hN hn
  go_wp2
  go_loopw [10] (fun i wr => ∃ k : Nat, k ≤ N ∧ i = .int .i64 k ∧ Hid (Below w.heap.size w wr) ∧ Hid (Below w1.heap.size w1 wr) ∧ Hid (okLs L = okLs (L.drop k))) (fun i _ => N - (intOf i).toNat)
  case atStart => exact ⟨0, Nat.zero_le _, rfl, HB1, Below.refl _ _, rfl⟩
  case round =>
    obtain ⟨k, hk, rfl, hbw, hb1, hok⟩ := hrel
    by_cases hlt : k < N
    · have hc0 := (unhide HC) k hlt
      have hcr := ((unhide hb1).cell (p := ⟨b, off + k, none⟩) (cell_lt hc0)).trans hc0
      clear hc0
      have hx := (unhide HG) k hlt
      have hxs := (unhide HSZ) k hlt
      have hdr := (unhide HDR) k hlt
      rw [← hx] at hdr
      generalize LB.getD k ByteArray.empty = x at hcr hx hxs hdr
      have hlast : ((k : Int) == (N : Int) - 1) = decide (k + 1 = N) := by rw [Bool.eq_iff_iff, beq_iff_eq, decide_eq_true_eq]; omega
      generalize hlb : decide (k + 1 = N) = lb at hlast hdr
      clear hlb hx
      have HDK := hide hdr
      clear hdr
      have hsw := (unhide hbw).size
      have hs1 := (unhide hb1).size
      cases hq : okL x.data.toList lb
      · go_wp2_with (go_at_call 63; refine (mayLevel_any x lb _ (by omega)).mono ?_; rintro e w2 ⟨rfl, hb2⟩; rw [hq])
        go_ret
        exact ⟨by rw [unhide HO, unhide hok, unhide HDK, hq]; rfl, (unhide hbw).trans (hb2.mono hsw)⟩
      · go_wp2_with (go_at_call 63; refine (mayLevel_any x lb _ (by omega)).mono ?_; rintro e w2 ⟨rfl, hb2⟩; rw [hq])
        go_roundw
        case rel => exact ⟨k + 1, by omega, by go_num, (unhide hbw).trans (hb2.mono hsw), (unhide hb1).trans (hb2.mono hs1), by show _ = _; rw [unhide hok, unhide HDK, hq]; rfl⟩
        case measure => simp [intOf]; omega
    · obtain rfl : k = N := by omega
      go_wp2_with (go_at_call 46; refine ((unhide HMC) _).mono ?_; rintro e w2 ⟨rfl, rfl⟩)
      go_ret
      refine ⟨?_, unhide hbw⟩
      rw [unhide HO, unhide hok, List.drop_of_length_le (by rw [unhide HN]; exact Nat.le_refl _)]
      rfl
end Go.Proofs.YtdjpllmgjmnolaaGreatDoor
