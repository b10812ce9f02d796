/- Proved here: the page's Filter at texts of any size. Helper contracts. -/
import Derived.Test.YtknbgnoahfeigaaGreatDoorZMMat
namespace Go.Proofs.YtknbgnoahfeigaaGreatDoor.M
open Go.RowKit
set_option maxRecDepth 100000

set_option maxRecDepth 100000 in
set_option maxHeartbeats 1000000 in
theorem has_all (s : ByteArray) (w : World) (hs : s.size ≤ 140737488351232) :
    Calls Tryz.prog 25 #[.string s, .int .u8 43, .int .u8 35] w fun e w' => e = .returned (.bool (sg s.data.toList)) ∧ w' = w := by
  have HT : Hid (s.data.toList.take s.size = s.data.toList) := by show _ = _; rw [← size_len, List.take_length]
  have HS := hide (sg_take s)
  generalize hD : s.data.toList = D at HT HS ⊢
  clear hD
  go_enter Tryz.func25, Tryz.ntmps25
  go_wp2
  go_loop [7] (fun i => ∃ k : Nat, k ≤ s.size ∧ i = .int .i64 k ∧ Hid (sg (D.take k) = false)) (fun i => s.size - (intOf i).toNat)
  case atStart => exact ⟨0, Nat.zero_le _, rfl, rfl⟩
  case round =>
    obtain ⟨k, hk, rfl, hno⟩ := hrel
    by_cases hlt : k < s.size
    · have hst := (unhide HS) k hlt
      rw [unhide hno, Bool.false_or] at hst
      have HST := hide hst
      clear hst
      by_cases h1 : (s[k].toNat : Int) = 43
      · have HR : Hid (sg D = true) := by
          show _ = _
          have e : sg (D.take (k + 1)) = true := by rw [unhide HST, decide_eq_true h1]; rfl
          rw [← List.take_append_drop (k + 1) D, sg_app, e]; rfl
        go_wp2
        go_ret
        exact ⟨by rw [unhide HR]; rfl, rfl⟩
      · have h1' : ((s[k].toNat : Int) == 43) = false := beq_eq_false_iff_ne.2 h1
        by_cases h2 : (s[k].toNat : Int) = 35
        · have HR : Hid (sg D = true) := by
            show _ = _
            have e : sg (D.take (k + 1)) = true := by rw [unhide HST, decide_eq_true h2]; simp
            rw [← List.take_append_drop (k + 1) D, sg_app, e]; rfl
          go_wp2
          go_ret
          exact ⟨by rw [unhide HR]; rfl, rfl⟩
        · have h2' : ((s[k].toNat : Int) == 35) = false := beq_eq_false_iff_ne.2 h2
          have HR : Hid (sg (D.take (k + 1)) = false) := by show _ = _; rw [unhide HST, decide_eq_false h1, decide_eq_false h2]; rfl
          clear h1 h2
          go_wp2
          go_round
          case rel => exact ⟨k + 1, by omega, by go_num, HR⟩
          case measure => simp [intOf] <;> omega
    · obtain rfl : k = s.size := by omega
      go_wp2
      go_ret
      exact ⟨by rw [← unhide HT, unhide hno]; rfl, rfl⟩

set_option maxRecDepth 100000 in
set_option maxHeartbeats 1000000 in
theorem shared_all (s : ByteArray) (w : World) (hs : s.size ≤ 140737488351232) :
    Calls Tryz.prog 23 #[.string s] w fun e w' => e = .returned (.bool (shr.isPrefixOf s.data.toList)) ∧ w' = w := by
  rcases Nat.lt_or_ge s.size 7 with h7 | h7
  · have HR := hide (shr_short s.data.toList (by rw [size_len]; exact h7))
    go_enter Tryz.func23, Tryz.ntmps23
    go_wp2
    go_ret
    exact ⟨by rw [unhide HR]; rfl, rfl⟩
  · have HR : Hid (shr.isPrefixOf s.data.toList = ((s.extract 0 7).toList == [36, 115, 104, 97, 114, 101, 47])) := by
      show _ = _
      rw [shr_take, Lib.toList_data, Lib.extract_from_zero, Bool.eq_iff_iff, decide_eq_true_eq, beq_iff_eq]; rfl
    go_enter Tryz.func23, Tryz.ntmps23
    go_wp2
    go_ret
    exact ⟨by rw [unhide HR]; rfl, rfl⟩

set_option maxHeartbeats 1000000 in
theorem plain_big (s : ByteArray) (w : World) (hs : s.size ≤ 140737488351232) (h7 : ¬ s.size ≤ 70000) :
    Calls Tryz.prog 24 #[.string s] w fun e w' => e = .returned (.bool false) ∧ Below w.heap.size w w' := by
  have h1 : ck s.data.toList ≠ 0 := fun e => h7 (by have := ck_size e; omega)
  have HC := hide (fun w => rcheck_any s w (by omega))
  have hcb : (chk (sb s) == 0) = false := beq_eq_false_iff_ne.2 h1
  have he : s.toList.isEmpty = false := by
    cases hx : s.toList.isEmpty
    · rfl
    · have h0 := empty_of hx
      have h3 := size_len s
      rw [h0] at h3
      simp at h3
      omega
  generalize chk (sb s) = c at HC hcb
  clear h1
  go_enter Tryz.func24, Tryz.ntmps24
  go_wp2_with (go_at_call 26; refine ((unhide HC) _).mono ?_; rintro e w1 ⟨rfl, hb1⟩)
  go_ret
  exact ⟨rfl, hb1⟩
def RFP (w : World) (e : Ending) (w' : World) : Prop := ∃ g f, e = .returned (.tuple #[.string g, .string f, .bool false]) ∧ Below w.heap.size w w'
set_option maxHeartbeats 4000000 in
theorem rfilter_big (s : ByteArray) (w : World) (hs : s.size ≤ 140737488351232) (h7 : ¬ s.size ≤ 70000) :
    Calls Tryz.prog 9 #[.string s] w (RFP w) := by
  cases hp : shr.isPrefixOf s.data.toList
  · go_enter Tryz.func9, Tryz.ntmps9
    go_wp2_with (first
      | (go_at_call 23; refine (shared_all s _ hs).mono ?_; rintro e w1 ⟨rfl, rfl⟩; rw [hp])
      | (go_at_call 24; refine (plain_big s _ hs h7).mono ?_; rintro e w2 ⟨rfl, hb2⟩))
    go_returns
    exact ⟨_, _, rfl, hb2⟩
  · have h1 : ck s.data.toList ≠ 0 := fun e => h7 (by have := ck_size e; omega)
    have HC := hide (fun w => rcheck_any s w (by omega))
    have hcb : (chk (sb s) == 0) = false := beq_eq_false_iff_ne.2 h1
    generalize chk (sb s) = c at HC hcb
    have h7' : 7 ≤ s.size := by omega
    obtain ⟨R, hR⟩ : ∃ R, s.extract 7 s.size = R := ⟨_, rfl⟩
    have hRs : R.size ≤ 140737488351232 := by
      have hRd : R.data.toList = s.data.toList.drop 7 := by rw [← hR]; exact Lib.extract_to_end s 7
      rw [← size_len, hRd, List.length_drop, size_len]; omega
    clear h1 h7
    go_enter Tryz.func9, Tryz.ntmps9
    go_wp2_with (first
      | (go_at_call 23; refine (shared_all s _ hs).mono ?_; rintro e w1 ⟨rfl, rfl⟩; rw [hp]))
    go_loop [6] (fun i => ∃ k : Nat, k ≤ R.size ∧ i = .int .i64 k) (fun i => R.size - (intOf i).toNat)
    case atStart => exact ⟨0, Nat.zero_le _, rfl⟩
    case round =>
      obtain ⟨k, hk, rfl⟩ := hrel
      by_cases hlt : k < R.size
      · cases h47 : ((R[k].toNat : Int) == 47)
        · go_wp2
          go_round
          case rel => exact ⟨k + 1, by omega, by go_num⟩
          case measure => simp [intOf] <;> omega
        · by_cases h0 : k = 0
          · subst h0
            go_wp2
            go_returns
            exact ⟨_, _, rfl, Below.refl _ _⟩
          · have h0' : ((k : Int) == 0) = false := beq_eq_false_iff_ne.2 (by omega)
            have hge : ¬ R.size ≤ k := by omega
            have hcn : (c != 0) = true := by simp [bne, hcb]
            have HHS := hide (fun W => has_all (R.extract 0 k) W (by rw [← size_len, Lib.extract_from_zero, List.length_take, size_len]; omega))
            generalize sg (R.extract 0 k).data.toList = sgv at HHS
            cases sgv
            · go_wp2_with (first
                | (go_at_call 25; refine ((unhide HHS) _).mono ?_; rintro e w2 ⟨rfl, rfl⟩)
                | (go_at_call 26; refine ((unhide HC) _).mono ?_; rintro e w3 ⟨rfl, hb3⟩))
              go_returns
              exact ⟨_, _, rfl, hb3⟩
            · go_wp2_with (first
                | (go_at_call 25; refine ((unhide HHS) _).mono ?_; rintro e w2 ⟨rfl, rfl⟩))
              go_returns
              exact ⟨_, _, rfl, Below.refl _ _⟩
      · obtain rfl : k = R.size := by omega
        by_cases h0 : R.size = 0
        all_goals
          go_wp2
          go_returns
          exact ⟨_, _, rfl, Below.refl _ _⟩
theorem rfil_yes (f : ByteArray) (w : World) (h : mayF f = true) : Calls Tryz.prog 9 #[.string f] w fun e w' => e = .returned (.tuple #[.string ByteArray.empty, .string f, .bool true]) ∧ Below w.heap.size w w' := by
  have hs := mayF_size h
  unfold mayF at h
  simp only [decide_eq_true_eq] at h
  refine (rfilter_yes f [] f.data.toList w (by omega) h).mono ?_
  rintro e w' ⟨rfl, hb⟩
  exact ⟨rfl, hb⟩
theorem rfil_no (f : ByteArray) (w : World) (hs : f.size ≤ 140737488351232) (h : mayF f = false) : Calls Tryz.prog 9 #[.string f] w fun e w' => ∃ g ff ok, e = .returned (.tuple #[.string g, .string ff, .bool ok]) ∧ (ok = false ∨ g.toList.isEmpty = false) ∧ Below w.heap.size w w' := by
  by_cases h7 : f.size ≤ 70000
  · cases hfl : flt f.data.toList with
    | none =>
      refine (rfilter_no f w h7 hfl).mono ?_
      rintro e w' ⟨g, ff, rfl, hb⟩
      exact ⟨g, ff, false, rfl, .inl rfl, hb⟩
    | some q =>
      obtain ⟨g, f'⟩ := q
      have hg : (bt g).toList.isEmpty = false := by
        cases hg : (bt g).toList.isEmpty
        · rfl
        · have hg0 : g = [] := empty_of hg
          subst hg0
          obtain rfl := flt_plain hfl
          unfold mayF at h
          rw [hfl] at h
          simp at h
      refine (rfilter_yes f g f' w h7 hfl).mono ?_
      rintro e w' ⟨rfl, hb⟩
      exact ⟨_, _, true, rfl, .inr hg, hb⟩
  · refine (rfilter_big f w hs h7).mono ?_
    rintro e w' ⟨g, ff, rfl, hb⟩
    exact ⟨g, ff, false, rfl, .inl rfl, hb⟩
end Go.Proofs.YtknbgnoahfeigaaGreatDoor.M
