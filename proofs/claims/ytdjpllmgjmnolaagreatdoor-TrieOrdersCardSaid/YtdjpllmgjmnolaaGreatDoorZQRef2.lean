/- Proved here: contracts of the page's Name, plain, shared, Filter and Match. Helper contracts. -/
import Derived.Test.YtdjpllmgjmnolaaGreatDoorZQRef
namespace Go.Proofs.YtdjpllmgjmnolaaGreatDoor
open Go.RowKit

/-- levels as the page tells them -/
theorem levels_strs (s : ByteArray) (w : World) (hs : s.size ≤ 70000) :
    Calls Tryz.prog 26 #[.string s] w fun e w' => ∃ v, e = .returned v ∧ Hid (Strs w' v (lvB s)) ∧ Below w.heap.size w w' := by
  refine (levels_any s w hs).mono ?_
  rintro e w' ⟨v, rfl, hown, hb⟩
  refine ⟨v, rfl, ?_, hb⟩
  have hc : s.data.toList.count 47 ≤ s.size := by rw [← size_len]; exact List.count_le_length
  have hl := lvB_len s
  rcases hown.2 with ⟨rfl, h1⟩ | ⟨g, cap, cur, rfl, hB, hg, hnc, hcm, hcs, htake⟩
  · omega
  · refine ⟨g, 0, cap, rfl, hnc, by omega, fun j hj => ?_⟩
    rw [Nat.zero_add, hown.cellAt j (by omega), List.getElem?_map, List.getElem?_eq_getElem hj, List.getD_eq_getElem?_getD, List.getElem?_eq_getElem hj]
    rfl
theorem rck (s : ByteArray) (w : World) (hs : s.size ≤ 70000) : Calls Tryz.prog 24 #[.string s] w fun e w' => e = .returned (.int .i64 (ck s.data.toList)) ∧ Below w.heap.size w w' := rcheck_any s w (by omega)
/-- the answers of the page, in order -/
def nmF (e : Bool) (c : Int) (g : Bool) (n : Nat) : Bool := !e && (decide (c = 0) && (!g && decide (n ≤ 32)))
theorem nmF_is (s : ByteArray) : nmF s.toList.isEmpty (ck s.data.toList) (sg s.data.toList) (lvB s).length = isName s.data.toList := by
  rw [lvB_len]
  unfold nmF isName cnt
  have e : decide (s.data.toList ≠ []) = !s.toList.isEmpty := by
    rw [Lib.toList_data]
    cases s.data.toList <;> rfl
  rw [e]
  have e2 : decide (s.data.toList.count 47 + 1 ≤ 32) = decide (s.data.toList.count 47 < 32) := decide_eq_decide.2 (by omega)
  rw [e2]
  generalize s.toList.isEmpty = a
  generalize decide (ck s.data.toList = 0) = b
  generalize sg s.data.toList = c
  generalize decide (s.data.toList.count 47 < 32) = d
  cases a <;> cases b <;> cases c <;> cases d <;> rfl
set_option maxRecDepth 100000 in
set_option maxHeartbeats 1000000 in
theorem rname_any (s : ByteArray) (w : World) (hs : s.size ≤ 70000) :
    Calls Tryz.prog 10 #[.string s] w fun e w' => e = .returned (.bool (isName s.data.toList)) ∧ Below w.heap.size w w' := by
  have HR := hide (nmF_is s)
  have HCK := hide (fun w => rck s w hs)
  have HHS := hide (fun w => has_any s w hs)
  have HLS := hide (fun w => levels_strs s w hs)
  generalize isName s.data.toList = res at HR ⊢
  generalize ck s.data.toList = c at HR HCK
  generalize sg s.data.toList = g at HR HHS
  generalize lvB s = LB at HR HLS
  cases he : s.toList.isEmpty
  · by_cases hc : c = 0
    · subst hc
      cases g
      · rw [he] at HR
        have HR2 : Hid (res = decide ((LB.length : Int) ≤ 32)) := by
          show _ = _
          have e : nmF false 0 false LB.length = decide (LB.length ≤ 32) := by simp [nmF]
          rw [← unhide HR, e]; exact decide_eq_decide.2 (by omega)
        clear HR
        go_enter Tryz.func10, Tryz.ntmps10
        go_wp2_with (first
          | (go_at_call 24; refine ((unhide HCK) _).mono ?_; rintro e w1 ⟨rfl, hb1⟩)
          | (go_at_call 25; refine ((unhide HHS) _).mono ?_; rintro e w2 ⟨rfl, rfl⟩)
          | (go_at_call 26; refine ((unhide HLS) _).mono ?_; rintro e w3 ⟨v, rfl, hst, hb3⟩; obtain ⟨b, off, cap, rfl, hcap, hmx, _⟩ := unhide hst; clear hst))
        go_wp2
        go_ret
        exact ⟨by rw [unhide HR2]; rfl, hb1.trans (hb3.mono hb1.size)⟩
      · rw [he] at HR
        go_enter Tryz.func10, Tryz.ntmps10
        go_wp2_with (first
          | (go_at_call 24; refine ((unhide HCK) _).mono ?_; rintro e w1 ⟨rfl, hb1⟩)
          | (go_at_call 25; refine ((unhide HHS) _).mono ?_; rintro e w2 ⟨rfl, rfl⟩))
        go_ret
        exact ⟨by rw [← unhide HR]; rfl, hb1⟩
    · have hcb : (c == 0) = false := beq_eq_false_iff_ne.2 hc
      rw [he] at HR
      have HR2 : Hid (res = false) := by show _ = _; rw [← unhide HR]; unfold nmF; rw [decide_eq_false hc]; rfl
      clear hc HR
      go_enter Tryz.func10, Tryz.ntmps10
      go_wp2_with (first
        | (go_at_call 24; refine ((unhide HCK) _).mono ?_; rintro e w1 ⟨rfl, hb1⟩))
      go_ret
      exact ⟨by rw [unhide HR2]; rfl, hb1⟩
  · rw [he] at HR
    go_enter Tryz.func10, Tryz.ntmps10
    go_wp2
    go_ret
    exact ⟨by rw [← unhide HR]; rfl, Below.refl _ _⟩
theorem shr_take (l : List UInt8) : shr.isPrefixOf l = decide (l.take 7 = shr) := by
  rw [Bool.eq_iff_iff, List.isPrefixOf_iff_prefix, List.prefix_iff_eq_take, decide_eq_true_eq]
  exact ⟨fun h => h.symm, fun h => h.symm⟩
theorem shr_short (l : List UInt8) (h : l.length < 7) : shr.isPrefixOf l = false := by
  rw [shr_take]
  apply decide_eq_false
  intro e
  have := congrArg List.length e
  rw [List.length_take] at this
  have h7 : shr.length = 7 := rfl
  omega
set_option maxRecDepth 100000 in
set_option maxHeartbeats 1000000 in
theorem shared_any (s : ByteArray) (w : World) (hs : s.size ≤ 70000) :
    Calls Tryz.prog 35 #[.string s] w fun e w' => e = .returned (.bool (shr.isPrefixOf s.data.toList)) ∧ w' = w := by
  rcases Nat.lt_or_ge s.size 7 with h7 | h7
  · have HR := hide (shr_short s.data.toList (by rw [size_len]; exact h7))
    go_enter Tryz.func35, Tryz.ntmps35
    go_wp2
    go_ret
    exact ⟨by rw [unhide HR]; rfl, rfl⟩
  · have HR : Hid (shr.isPrefixOf s.data.toList = ((s.extract 0 7).toList == [36, 115, 104, 97, 114, 101, 47])) := by
      show _ = _
      rw [shr_take, Lib.toList_data, Lib.extract_from_zero, Bool.eq_iff_iff, decide_eq_true_eq, beq_iff_eq]; rfl
    go_enter Tryz.func35, Tryz.ntmps35
    go_wp2
    go_ret
    exact ⟨by rw [unhide HR]; rfl, rfl⟩

/-- a filter without a group, as the page asks it -/
def plF (l : List UInt8) : Bool := decide (ck l = 0) && isF l
theorem okL_walk (x : ByteArray) (last : Bool) : okL x.data.toList last = ((x.toList == [43]) || ((x.toList == [35]) && last) || !sg x.data.toList) := by
  rw [Lib.toList_data]
  unfold okL
  by_cases h : x.data.toList = [35]
  · rw [if_pos h, h]; cases last <;> rfl
  · rw [if_neg h, beq_eq_false_iff_ne.2 h]
    by_cases h2 : x.data.toList = [43]
    · rw [if_pos h2, h2]; rfl
    · rw [if_neg h2, beq_eq_false_iff_ne.2 h2]; rfl
set_option maxRecDepth 100000 in
set_option maxHeartbeats 2000000 in
theorem plain_any (s : ByteArray) (w : World) (hs : s.size ≤ 70000) :
    Calls Tryz.prog 36 #[.string s] w fun e w' => e = .returned (.bool (plF s.data.toList)) ∧ Below w.heap.size w w' := by
  have HCK := hide (fun w => rck s w hs)
  have HLS := hide (fun w => levels_strs s w hs)
  cases he : s.toList.isEmpty
  · by_cases hc : ck s.data.toList = 0
    · have hne := ne_of he
      have HP : Hid (plF s.data.toList = (okLs (lvl s.data.toList) && decide ((lvl s.data.toList).length ≤ 32))) := by
        show _ = _
        unfold plF isF cnt
        rw [decide_eq_true hc, decide_eq_true hne, lvl_len, Bool.true_and, Bool.true_and]
        congr 1
      rw [hc] at HCK
      clear hc hne
      have hl : (lvB s).length = (lvl s.data.toList).length := by unfold lvB; rw [List.length_map]
      have HG := hide (lvB_get s)
      have HSZ := hide (lvB_size s)
      have HDR := hide (okLs_drop (lvl s.data.toList))
      generalize plF s.data.toList = res at HP ⊢
      generalize lvl s.data.toList = L at *
      generalize lvB s = LB at *
      generalize hN : L.length = N at *
      have HN := hide hN
      clear hN
      by_cases h32 : N ≤ 32
      · have h32' : ¬ (32 < (N : Int)) := by omega
        rw [decide_eq_true h32, Bool.and_true] at HP
        go_enter Tryz.func36, Tryz.ntmps36
        go_wp2_with (first
          | (go_at_call 24; refine ((unhide HCK) _).mono ?_; rintro e w1 ⟨rfl, hb1⟩)
          | (go_at_call 26; refine ((unhide HLS) _).mono ?_; rintro e w3 ⟨v, rfl, hst, hb3⟩; obtain ⟨b, off, cap, rfl, hcap, hmx, hcell⟩ := unhide hst; have HC := hide hcell; clear hst hcell; rw [hl] at hcap hmx HC; rw [hl]))
        have HB3 : Hid (Below w.heap.size w w3) := hb1.trans (hb3.mono hb1.size)
        clear hb1 hb3 HCK HLS hl
        go_loop [4] (fun i => ∃ k : Nat, k ≤ N ∧ i = .int .i64 k ∧ Hid (res = okLs (L.drop k))) (fun i => N - (intOf i).toNat)
        case atStart => exact ⟨0, Nat.zero_le _, rfl, unhide HP⟩
        case round =>
          obtain ⟨k, hk, rfl, hok⟩ := hrel
          clear HP
          by_cases hlt : k < N
          · have hcr := (unhide HC) k hlt
            have hx := (unhide HG) k hlt
            have hxs := (unhide HSZ) k hlt
            have hdr := (unhide HDR) k hlt
            rw [← hx] at hdr
            generalize LB.getD k ByteArray.empty = x at hcr hx hxs hdr
            have hlast : ((k : Int) == (N : Int) - 1) = decide (k + 1 = N) := by rw [Bool.eq_iff_iff, beq_iff_eq, decide_eq_true_eq]; omega
            generalize hlb : decide (k + 1 = N) = lb at hlast hdr
            clear hlb hx
            rw [okL_walk, ← unhide hok] at hdr
            have HDK := hide hdr
            clear hdr
            have HHS := hide (has_any x w3 (by omega))
            have hg : (x.toList == [35]) = true → sg x.data.toList = true := fun h => by rw [is_of h]; rfl
            generalize sg x.data.toList = g at HHS HDK hg
            cases h43 : (x.toList == [43])
            · cases h35 : (x.toList == [35])
              · clear hg
                rw [h43, h35] at HDK
                cases g
                · go_wp2_with (go_at_call 25; refine (unhide HHS).mono ?_; rintro e w4 ⟨rfl, rfl⟩)
                  go_round
                  case rel => exact ⟨k + 1, by omega, by go_num, unhide HDK⟩
                  case measure => simp [intOf] <;> omega
                · go_wp2_with (go_at_call 25; refine (unhide HHS).mono ?_; rintro e w4 ⟨rfl, rfl⟩)
                  go_ret
                  exact ⟨by rw [unhide HDK]; rfl, unhide HB3⟩
              · obtain rfl : g = true := hg h35
                clear hg
                rw [h43, h35] at HDK
                cases lb
                · go_wp2_with (go_at_call 25; refine (unhide HHS).mono ?_; rintro e w4 ⟨rfl, rfl⟩)
                  go_ret
                  exact ⟨by rw [unhide HDK]; rfl, unhide HB3⟩
                · go_wp2
                  go_round
                  case rel => exact ⟨k + 1, by omega, by go_num, unhide HDK⟩
                  case measure => simp [intOf] <;> omega
            · clear hg
              rw [h43] at HDK
              go_wp2
              go_round
              case rel => exact ⟨k + 1, by omega, by go_num, unhide HDK⟩
              case measure => simp [intOf] <;> omega
          · obtain rfl : k = N := by omega
            go_wp2
            go_ret
            refine ⟨?_, unhide HB3⟩
            rw [unhide hok, List.drop_of_length_le (by rw [unhide HN]; exact Nat.le_refl _)]
            rfl
      · have h32' : 32 < (N : Int) := by omega
        rw [decide_eq_false h32, Bool.and_false] at HP
        go_enter Tryz.func36, Tryz.ntmps36
        go_wp2_with (first
          | (go_at_call 24; refine ((unhide HCK) _).mono ?_; rintro e w1 ⟨rfl, hb1⟩)
          | (go_at_call 26; refine ((unhide HLS) _).mono ?_; rintro e w3 ⟨v, rfl, hst, hb3⟩; obtain ⟨b, off, cap, rfl, hcap, hmx, hcell⟩ := unhide hst; clear hst hcell; rw [hl] at hcap hmx; rw [hl]))
        all_goals
          go_ret
          exact ⟨by rw [unhide HP]; rfl, hb1.trans (hb3.mono hb1.size)⟩
    · have HP : Hid (plF s.data.toList = false) := by show _ = _; unfold plF; rw [decide_eq_false hc]; rfl
      have hcb : (ck s.data.toList == 0) = false := beq_eq_false_iff_ne.2 hc
      generalize ck s.data.toList = c at hcb HCK
      clear hc
      go_enter Tryz.func36, Tryz.ntmps36
      go_wp2_with (first
        | (go_at_call 24; refine ((unhide HCK) _).mono ?_; rintro e w1 ⟨rfl, hb1⟩))
      go_ret
      exact ⟨by rw [unhide HP]; rfl, hb1⟩
  · have HP : Hid (plF s.data.toList = false) := by
      show _ = _
      unfold plF isF cnt
      rw [empty_of he]; simp
    go_enter Tryz.func36, Tryz.ntmps36
    go_wp2
    go_ret
    exact ⟨by rw [unhide HP]; rfl, Below.refl _ _⟩

set_option maxRecDepth 100000 in
set_option maxHeartbeats 2000000 in
theorem rfilter_plain (s : ByteArray) (w : World) (hs : s.size ≤ 70000) (h : shr.isPrefixOf s.data.toList = false) :
    Calls Tryz.prog 15 #[.string s] w fun e w' => e = .returned (.tuple #[.string ByteArray.empty, .string s, .bool (plF s.data.toList)]) ∧ Below w.heap.size w w' := by
  go_enter Tryz.func15, Tryz.ntmps15
  go_wp2_with (first
    | (go_at_call 35; refine (shared_any s _ hs).mono ?_; rintro e w1 ⟨rfl, rfl⟩; rw [h])
    | (go_at_call 36; refine (plain_any s _ hs).mono ?_; rintro e w2 ⟨rfl, hb2⟩))
  go_returns
  exact ⟨rfl, hb2⟩
theorem flt_not {l : List UInt8} (h : shr.isPrefixOf l = false) : flt l = if plF l = true then some ([], l) else none := by
  have hp : prt l = ([], l, true) := by unfold prt; rw [if_neg (by rw [h]; simp)]
  unfold flt plF
  rw [hp]
  by_cases h1 : ck l = 0
  · rw [if_pos h1, decide_eq_true h1]
    simp
  · rw [if_neg h1, decide_eq_false h1]
    simp
theorem shr_is {l : List UInt8} (h : shr.isPrefixOf l = true) : l = shr ++ l.drop 7 := by
  rw [shr_take, decide_eq_true_eq] at h
  rw [← h, List.take_append_drop]
theorem cut_none {r : List UInt8} (h : Lib.index r [47] = -1) : Lib.cut r [47] = (r, [], false) := by
  unfold Lib.cut; rw [h, if_neg (by decide)]
theorem cut_some {r a b : List UInt8} (h : Lib.index r [47] = a.length) (e : r = a ++ 47 :: b) : Lib.cut r [47] = (a, b, true) := by
  unfold Lib.cut
  rw [h, if_pos (by omega), e]
  simp
theorem flt_no1 {l : List UInt8} (h : shr.isPrefixOf l = true) (hi : Lib.index (l.drop 7) [47] = -1) : flt l = none := by
  have hp : (prt l).2.1 = [] := by unfold prt; rw [if_pos h, cut_none hi]
  have : isF [] = false := by decide
  unfold flt
  rw [hp, this]
  simp
theorem flt_cut {l a b : List UInt8} (h : shr.isPrefixOf l = true) (e : l.drop 7 = a ++ 47 :: b) (hi : Lib.index (l.drop 7) [47] = a.length) :
    flt l = if (a ≠ [] ∧ sg a = false ∧ ck l = 0) ∧ (shr.isPrefixOf b = false ∧ plF b = true) then some (a, b) else none := by
  have hck : ck l = 0 → ck b = 0 := fun h1 => by
    rw [shr_is h, e, ← List.append_assoc] at h1
    exact (ck_slash _ _ h1).2
  have hp : prt l = (a, b, decide (a ≠ []) && (!sg a && !shr.isPrefixOf b)) := by unfold prt; rw [if_pos h, cut_some hi e]
  unfold flt plF
  rw [hp]
  dsimp only
  by_cases h1 : ck l = 0
  · rw [if_pos h1, decide_eq_true (hck h1)]
    simp [h1, and_assoc]
  · rw [if_neg h1, if_neg (fun hh => h1 hh.1.2.2)]
theorem sg_getE (a b : List UInt8) : (a ++ 47 :: b).take a.length = a := by simp
/-- where the page's look for a slash ends -/
theorem slash_at (r : List UInt8) : ∃ n, n ≤ r.length ∧ (∀ j (h : j < r.length), j < n → r[j] ≠ 47) ∧ ((n = r.length ∧ Lib.index r [47] = -1) ∨ ∃ b, r = r.take n ++ 47 :: b ∧ (r.take n).length = n ∧ Lib.index r [47] = (r.take n).length ∧ b = r.drop (n + 1)) := by
  rcases first_slash r with ⟨h1, h2⟩ | ⟨a, b, h1, h2, h3⟩
  · exact ⟨r.length, Nat.le_refl _, fun j h _ e => h1 (by rw [← e]; exact List.getElem_mem h), .inl ⟨rfl, h2⟩⟩
  · have e1 : r.take a.length = a := by rw [h1]; simp
    have e2 : r.drop (a.length + 1) = b := by rw [h1]; simp
    refine ⟨a.length, by rw [h1]; simp, fun j h hj e => h2 ?_, .inr ⟨b, by rw [e1]; exact h1, by rw [e1], by rw [e1]; exact h3, e2.symm⟩⟩
    subst h1
    rw [List.getElem_append_left hj] at e
    rw [← e]; exact List.getElem_mem hj
set_option maxRecDepth 100000 in
set_option maxHeartbeats 2000000 in
theorem rfilter_shared (s : ByteArray) (w : World) (hs : s.size ≤ 70000) (h : shr.isPrefixOf s.data.toList = true) :
    Calls Tryz.prog 15 #[.string s] w fun e w' => ((∃ g f, flt s.data.toList = some (g, f) ∧ e = .returned (.tuple #[.string (bt g), .string (bt f), .bool true])) ∨ (flt s.data.toList = none ∧ e = .returned (.tuple #[.string ByteArray.empty, .string ByteArray.empty, .bool false]))) ∧ Below w.heap.size w w' := by
  have h7 : 7 ≤ s.size := by
    rcases Nat.lt_or_ge s.size 7 with h1 | h1
    · rw [shr_short _ (by rw [size_len]; exact h1)] at h; cases h
    · exact h1
  obtain ⟨R, hR⟩ : ∃ R, s.extract 7 s.size = R := ⟨_, rfl⟩
  have hRd : R.data.toList = s.data.toList.drop 7 := by rw [← hR]; exact Lib.extract_to_end s 7
  have hRs : R.size ≤ 70000 := by rw [← size_len, hRd, List.length_drop, size_len]; omega
  obtain ⟨n, hn, hno, hcase⟩ := slash_at R.data.toList
  rw [size_len] at hn
  have HNO : Hid (∀ j (h : j < R.size), j < n → R[j] ≠ 47) := fun j hj hjn e => hno j (by rw [size_len]; exact hj) hjn (by rw [← e]; simp; rfl)
  clear hno
  have HSH := hide (fun w => shared_any s w hs)
  rw [h] at HSH
  rcases hcase with ⟨hnl, hix⟩ | ⟨bb, hb1, hb2, hb3, hb4⟩
  · rw [size_len] at hnl
    subst hnl
    have HF : Hid (flt s.data.toList = none) := flt_no1 h (by rw [← hRd]; exact hix)
    clear hix hRd h
    go_enter Tryz.func15, Tryz.ntmps15
    go_wp2_with (first
      | (go_at_call 35; refine ((unhide HSH) _).mono ?_; rintro e w1 ⟨rfl, rfl⟩))
    go_loop [6] (fun i => ∃ k : Nat, k ≤ R.size ∧ i = .int .i64 k) (fun i => R.size - (intOf i).toNat)
    case atStart => exact ⟨0, Nat.zero_le _, rfl⟩
    case round =>
      obtain ⟨k, hk, rfl⟩ := hrel
      by_cases hlt : k < R.size
      · have hne : ((R[k].toNat : Int) == 47) = false := by
          rw [beq_eq_false_iff_ne]
          intro e
          exact (unhide HNO) k hlt hlt (by rw [← UInt8.toNat_inj]; simp; omega)
        go_wp2
        go_round
        case rel => exact ⟨k + 1, by omega, by go_num⟩
        case measure => simp [intOf] <;> omega
      · obtain rfl : k = R.size := by omega
        by_cases h0 : R.size = 0
        all_goals
          go_wp2
          go_returns
          exact ⟨.inr ⟨unhide HF, rfl⟩, Below.refl _ _⟩
  · have hnl : n < R.size := by
      have := congrArg List.length hb1
      rw [size_len, List.length_append, hb2] at this
      simp at this
      omega
    have HRn : ((R[n].toNat : Int) == 47) = true := by
      have : R.data.toList[n]? = some 47 := by
        rw [hb1, List.getElem?_append_right (by omega), hb2, Nat.sub_self]; rfl
      have e : R.data.toList[n]? = some R[n] := Lib.data_getElem? R n hnl
      rw [e] at this
      rw [Option.some.inj this]; rfl
    have HF := hide (flt_cut h (by rw [← hRd]; exact hb1) (by rw [← hRd]; exact hb3))
    have ha : (R.extract 0 n).data.toList = R.data.toList.take n := Lib.extract_from_zero R n
    have hb : (R.extract (n + 1) R.size).data.toList = bb := by rw [hb4]; exact Lib.extract_to_end R (n + 1)
    rw [← ha, ← hb] at HF
    have hae : (R.extract 0 n).data.toList ≠ [] ↔ n ≠ 0 := by
      rw [ha]
      constructor
      · rintro h1 rfl; exact h1 (by simp)
      · intro h1 h2
        rw [h2] at hb2
        simp at hb2
        omega
    have hasz : (R.extract 0 n).size ≤ 70000 := by rw [ByteArray.size_extract]; omega
    have hbsz : (R.extract (n + 1) R.size).size ≤ 70000 := by rw [ByteArray.size_extract]; omega
    clear ha hb hb1 hb2 hb3 hb4 h hRd
    have hbt1 : bt (R.extract 0 n).data.toList = R.extract 0 n := rfl
    have hbt2 : bt (R.extract (n + 1) R.size).data.toList = R.extract (n + 1) R.size := rfl
    have HBT := hide hbt1
    have HBT2 := hide hbt2
    clear hbt1 hbt2
    have HHS := hide (fun w => has_any (R.extract 0 n) w hasz)
    have HCK := hide (fun w => rck s w hs)
    have HS2 := hide (fun w => shared_any (R.extract (n + 1) R.size) w hbsz)
    have HPL := hide (fun w => plain_any (R.extract (n + 1) R.size) w hbsz)
    generalize ha0 : (R.extract 0 n).data.toList = a at *
    generalize hb0 : (R.extract (n + 1) R.size).data.toList = b at *
    clear ha0 hb0
    generalize flt s.data.toList = o at HF ⊢
    generalize ck s.data.toList = c at HF HCK
    generalize sg a = g at HF HHS
    generalize shr.isPrefixOf b = p at HF HS2
    generalize plF b = q at HF HPL
    have hbB : ∀ w1 : World, Below w1.heap.size w1 w1 := fun _ => Below.refl _ _
    go_enter Tryz.func15, Tryz.ntmps15
    go_wp2_with (first
      | (go_at_call 35; refine ((unhide HSH) _).mono ?_; rintro e w1 ⟨rfl, rfl⟩))
    go_loop [6] (fun i => ∃ k : Nat, k ≤ n ∧ i = .int .i64 k) (fun i => n - (intOf i).toNat)
    case atStart => exact ⟨0, Nat.zero_le _, rfl⟩
    case round =>
      obtain ⟨k, hk, rfl⟩ := hrel
      by_cases hlt : k < n
      · have hlt2 : k < R.size := by omega
        have hne : ((R[k].toNat : Int) == 47) = false := by
          rw [beq_eq_false_iff_ne]
          intro e
          exact (unhide HNO) k hlt2 hlt (by rw [← UInt8.toNat_inj]; simp; omega)
        go_wp2
        go_round
        case rel => exact ⟨k + 1, by omega, by go_num⟩
        case measure => simp [intOf] <;> omega
      · obtain rfl : k = n := by omega
        by_cases h0 : k = 0
        · have HN : Hid (o = none) := by show _ = _; rw [unhide HF, if_neg (fun hh => (hae.1 hh.1.1) h0)]
          subst h0
          clear hae HF
          go_wp2
          go_returns
          exact ⟨.inr ⟨unhide HN, rfl⟩, Below.refl _ _⟩
        · have hanz := hae.2 h0
          clear hae
          have h0b : ((k : Int) == 0) = false := beq_eq_false_iff_ne.2 (by omega)
          cases g
          · by_cases hc : c = 0
            · subst hc
              cases p
              · cases q
                · have HN : Hid (o = none) := by show _ = _; rw [unhide HF, if_neg (fun hh => by cases hh.2.2)]
                  clear HF hanz
                  go_wp2_with (first
                    | (go_at_call 25; refine ((unhide HHS) _).mono ?_; rintro e w2 ⟨rfl, rfl⟩)
                    | (go_at_call 24; refine ((unhide HCK) _).mono ?_; rintro e w3 ⟨rfl, hb3⟩)
                    | (go_at_call 35; refine ((unhide HS2) _).mono ?_; rintro e w4 ⟨rfl, rfl⟩)
                    | (go_at_call 36; refine ((unhide HPL) _).mono ?_; rintro e w5 ⟨rfl, hb5⟩))
                  go_returns
                  exact ⟨.inr ⟨unhide HN, rfl⟩, hb3.trans (hb5.mono hb3.size)⟩
                · have HN : Hid (o = some (a, b)) := by show _ = _; rw [unhide HF, if_pos ⟨⟨hanz, rfl, rfl⟩, rfl, rfl⟩]
                  clear HF hanz
                  go_wp2_with (first
                    | (go_at_call 25; refine ((unhide HHS) _).mono ?_; rintro e w2 ⟨rfl, rfl⟩)
                    | (go_at_call 24; refine ((unhide HCK) _).mono ?_; rintro e w3 ⟨rfl, hb3⟩)
                    | (go_at_call 35; refine ((unhide HS2) _).mono ?_; rintro e w4 ⟨rfl, rfl⟩)
                    | (go_at_call 36; refine ((unhide HPL) _).mono ?_; rintro e w5 ⟨rfl, hb5⟩))
                  go_returns
                  exact ⟨.inl ⟨a, b, unhide HN, by rw [unhide HBT, unhide HBT2]; rfl⟩, hb3.trans (hb5.mono hb3.size)⟩
              · have HN : Hid (o = none) := by show _ = _; rw [unhide HF, if_neg (fun hh => by cases hh.2.1)]
                clear HF hanz
                go_wp2_with (first
                  | (go_at_call 25; refine ((unhide HHS) _).mono ?_; rintro e w2 ⟨rfl, rfl⟩)
                  | (go_at_call 24; refine ((unhide HCK) _).mono ?_; rintro e w3 ⟨rfl, hb3⟩)
                  | (go_at_call 35; refine ((unhide HS2) _).mono ?_; rintro e w4 ⟨rfl, rfl⟩))
                go_returns
                exact ⟨.inr ⟨unhide HN, rfl⟩, hb3⟩
            · have HN : Hid (o = none) := by show _ = _; rw [unhide HF, if_neg (fun hh => hc hh.1.2.2)]
              have hcb : (c != 0) = true := bne_iff_ne.2 hc
              clear HF hanz hc
              go_wp2_with (first
                | (go_at_call 25; refine ((unhide HHS) _).mono ?_; rintro e w2 ⟨rfl, rfl⟩)
                | (go_at_call 24; refine ((unhide HCK) _).mono ?_; rintro e w3 ⟨rfl, hb3⟩))
              go_returns
              exact ⟨.inr ⟨unhide HN, rfl⟩, hb3⟩
          · have HN : Hid (o = none) := by show _ = _; rw [unhide HF, if_neg (fun hh => by cases hh.1.2.1)]
            clear HF hanz
            go_wp2_with (first
              | (go_at_call 25; refine ((unhide HHS) _).mono ?_; rintro e w2 ⟨rfl, rfl⟩))
            go_returns
            exact ⟨.inr ⟨unhide HN, rfl⟩, Below.refl _ _⟩
/-- the page's Filter -/
theorem rfilter_yes (s : ByteArray) (g f : List UInt8) (w : World) (hs : s.size ≤ 70000) (h : flt s.data.toList = some (g, f)) :
    Calls Tryz.prog 15 #[.string s] w fun e w' => e = .returned (.tuple #[.string (bt g), .string (bt f), .bool true]) ∧ Below w.heap.size w w' := by
  cases hp : shr.isPrefixOf s.data.toList
  · rw [flt_not hp] at h
    split at h
    · rename_i hq
      simp only [Option.some.injEq, Prod.mk.injEq] at h
      obtain ⟨rfl, rfl⟩ := h
      have := rfilter_plain s w hs hp
      rw [hq] at this
      exact this
    · cases h
  · refine (rfilter_shared s w hs hp).mono ?_
    rintro e w' ⟨⟨g', f', h1, rfl⟩ | ⟨h1, rfl⟩, hb⟩
    · rw [h1] at h
      simp only [Option.some.injEq, Prod.mk.injEq] at h
      obtain ⟨rfl, rfl⟩ := h
      exact ⟨rfl, hb⟩
    · rw [h1] at h; cases h
theorem rfilter_no (s : ByteArray) (w : World) (hs : s.size ≤ 70000) (h : flt s.data.toList = none) :
    Calls Tryz.prog 15 #[.string s] w fun e w' => ∃ g f, e = .returned (.tuple #[.string g, .string f, .bool false]) ∧ Below w.heap.size w w' := by
  cases hp : shr.isPrefixOf s.data.toList
  · rw [flt_not hp] at h
    split at h
    · cases h
    · rename_i hq
      have := rfilter_plain s w hs hp
      rw [show plF s.data.toList = false by simpa using hq] at this
      refine this.mono ?_
      rintro e w' ⟨rfl, hb⟩
      exact ⟨_, _, rfl, hb⟩
  · refine (rfilter_shared s w hs hp).mono ?_
    rintro e w' ⟨⟨g', f', h1, rfl⟩ | ⟨h1, rfl⟩, hb⟩
    · rw [h1] at h; cases h
    · exact ⟨_, _, rfl, hb⟩
end Go.Proofs.YtdjpllmgjmnolaaGreatDoor
