/- Proved here: the contract of the page's Match. Helper contract. -/
import Derived.Test.YtdjpllmgjmnolaaGreatDoorZQRef2
namespace Go.Proofs.YtdjpllmgjmnolaaGreatDoor
open Go.RowKit

theorem pre36 (l : List UInt8) (h : l ≠ []) : Lib.hasPrefix ((lvl l).headD []) [36] = decide (l.getD 0 0 = 36) := by
  cases l with
  | nil => exact absurd rfl h
  | cons c r =>
    unfold lvl
    by_cases hc : c = 47
    · rw [if_pos hc, hc]; rfl
    · rw [if_neg hc]
      have : ∀ x : List UInt8, Lib.hasPrefix (c :: x) [36] = decide (c = 36) := fun x => by
        unfold Lib.hasPrefix
        simp only [List.isPrefixOf, Bool.and_true]
        rw [Bool.eq_iff_iff, beq_iff_eq, decide_eq_true_eq]; exact ⟨fun e => e.symm, fun e => e.symm⟩
      split
      · exact this _
      · exact this _
set_option maxRecDepth 100000 in
set_option maxHeartbeats 2000000 in
theorem rmatch_any (f s : ByteArray) (w : World) (hf : f.size ≤ 70000) (hs : s.size ≤ 70000) (h0 : 0 < s.size) :
    Calls Tryz.prog 27 #[.string f, .string s] w fun e w' => e = .returned (.bool (mtc f.data.toList s.data.toList)) ∧ Below w.heap.size w w' := by
  have HLF := hide (fun w => levels_strs f w hf)
  have HLS := hide (fun w => levels_strs s w hs)
  have hsne : s.data.toList ≠ [] := by intro e; have := size_len s; rw [e] at this; simp at this; omega
  have HH : Hid (hid (bys (lvB f)) (bys (lvB s)) = (((s[0]'h0).toNat : Int) == 36 && ((((lvB f).getD 0 ByteArray.empty).toList == [43]) || (((lvB f).getD 0 ByteArray.empty).toList == [35])))) := by
    show _ = _
    unfold hid
    rw [bys_lvB s, pre36 _ hsne, headD_getD, bys_get]
    have e0 : s.data.toList.getD 0 0 = s[0]'h0 := by
      rw [List.getD_eq_getElem?_getD, Lib.data_getElem? s 0 h0]; rfl
    have e1 : decide (s.data.toList.getD 0 0 = 36) = (((s[0]'h0).toNat : Int) == 36) := by
      rw [e0, Bool.eq_iff_iff, decide_eq_true_eq, beq_iff_eq, ← UInt8.toNat_inj]; simp; omega
    rw [e1]
    congr 1
    congr 1
    · rw [Lib.toList_data, Bool.eq_iff_iff, beq_iff_eq, decide_eq_true_eq]
    · rw [Lib.toList_data, Bool.eq_iff_iff, beq_iff_eq, decide_eq_true_eq]
  have HRES : Hid (mtc f.data.toList s.data.toList = (!hid (bys (lvB f)) (bys (lvB s)) && mat (bys (lvB f)) (bys (lvB s)))) := by
    show _ = _
    rw [bys_lvB, bys_lvB]; rfl
  have HL1 : Hid ((bys (lvB f)).length = (lvB f).length) := bys_len _
  have HL2 : Hid ((bys (lvB s)).length = (lvB s).length) := bys_len _
  have HG1 := hide (bys_get (lvB f))
  have HG2 := hide (bys_get (lvB s))
  have h1 : 1 ≤ (lvB f).length := by rw [lvB_len]; omega
  have h2 : 1 ≤ (lvB s).length := by rw [lvB_len]; omega
  clear hsne
  generalize mtc f.data.toList s.data.toList = res at HRES ⊢
  generalize hid (bys (lvB f)) (bys (lvB s)) = H at HH HRES
  generalize bys (lvB f) = FL at HRES HL1 HG1
  generalize bys (lvB s) = NL at HRES HL2 HG2
  generalize lvB f = F at *
  generalize lvB s = N at *
  obtain ⟨x0, hx0⟩ : ∃ x, F.getD 0 ByteArray.empty = x := ⟨_, rfl⟩
  rw [hx0] at HH
  have hh : (H = false ∧ (((s[0]'h0).toNat : Int) == 36) = false) ∨ (H = false ∧ (((s[0]'h0).toNat : Int) == 36) = true ∧ (x0.toList == [43]) = false ∧ (x0.toList == [35]) = false) ∨ (H = true ∧ (((s[0]'h0).toNat : Int) == 36) = true ∧ (x0.toList == [43]) = true) ∨ (H = true ∧ (((s[0]'h0).toNat : Int) == 36) = true ∧ (x0.toList == [43]) = false ∧ (x0.toList == [35]) = true) := by
    rw [unhide HH]
    generalize (((s[0]'h0).toNat : Int) == 36) = a
    generalize (x0.toList == [43]) = x
    generalize (x0.toList == [35]) = y
    cases a <;> cases x <;> cases y <;> simp
  clear HH
  rcases hh with ⟨rfl, h36⟩ | ⟨rfl, h36, h43, h35⟩ | ⟨rfl, h36, h43⟩ | ⟨rfl, h36, h43, h35⟩
  case inr.inr.inl | inr.inr.inr =>
    go_enter Tryz.func27, Tryz.ntmps27
    go_wp2_with (first
      | (go_at_call 26; refine ((unhide HLF) _).mono ?_; rintro e w1 ⟨v1, rfl, hst1, hb1⟩; clear HLF; obtain ⟨b1, o1, c1, rfl, ca1, cb1, hcell1⟩ := unhide hst1; clear hst1)
      | (go_at_call 26; refine ((unhide HLS) _).mono ?_; rintro e w2 ⟨v2, rfl, hst2, hb2⟩; clear hst2; have hx1 := (hb2.cell (p := ⟨b1, o1 + 0, none⟩) (cell_lt (hcell1 0 (by omega)))).trans (hcell1 0 (by omega)); rw [Nat.add_zero, hx0] at hx1))
    all_goals
      go_ret
      exact ⟨by rw [unhide HRES]; rfl, hb1.trans (hb2.mono hb1.size)⟩
  all_goals
    have HM2 : Hid (res = mat FL NL) := unhide HRES
    clear HRES
    go_enter Tryz.func27, Tryz.ntmps27
    go_wp2_with (first
      | (go_at_call 26; refine ((unhide HLF) _).mono ?_; rintro e w1 ⟨v1, rfl, hst1, hb1⟩; clear HLF; obtain ⟨b1, o1, c1, rfl, ca1, cb1, hcell1⟩ := unhide hst1; clear hst1)
      | (go_at_call 26; refine ((unhide HLS) _).mono ?_; rintro e w2 ⟨v2, rfl, hst2, hb2⟩; obtain ⟨b2, o2, c2, rfl, ca2, cb2, hcell2⟩ := unhide hst2; clear hst2; have hx1 := (hb2.cell (p := ⟨b1, o1 + 0, none⟩) (cell_lt (hcell1 0 (by omega)))).trans (hcell1 0 (by omega)); rw [Nat.add_zero, hx0] at hx1))
    have HFC : Hid (∀ j, j < F.length → w2.cell? ⟨b1, o1 + j, none⟩ = some (.string (F.getD j ByteArray.empty))) := fun j hj => (hb2.cell (p := ⟨b1, o1 + j, none⟩) (cell_lt (hcell1 j hj))).trans (hcell1 j hj)
    have HNC := hide hcell2
    have HB2 : Hid (Below w.heap.size w w2) := hb1.trans (hb2.mono hb1.size)
    clear hb1 hb2 hcell1 hcell2 HLS hx1 hx0
    generalize F.length = nf at *
    generalize N.length = nn at *
    clear h36
    go_loopw [7] (fun i wr => ∃ k q : Nat, k ≤ nf ∧ k ≤ nn ∧ i = .int .i64 k ∧ wr = w2.drewN q ∧ Hid (res = mat (FL.drop k) (NL.drop k))) (fun i _ => nf - (intOf i).toNat)
    case atStart => exact ⟨0, 0, by omega, by omega, rfl, rfl, unhide HM2⟩
    case round =>
      obtain ⟨k, q, hk1, hk2, rfl, rfl, hres⟩ := hrel
      clear HM2
      by_cases hlt : k < nf
      · have hfk := (unhide HFC) k hlt
        have hg1 := (unhide HG1) k
        generalize F.getD k ByteArray.empty = x at hfk hg1
        have hL1 := unhide HL1
        have hL2 := unhide HL2
        cases hx : (x.toList == [35])
        · have hne : FL.getD k [] ≠ [35] := by rw [hg1]; exact isnt_of hx
          by_cases hkn : k = nn
          · have hr : Hid (res = false) := by show _ = _; rw [unhide hres]; exact mat_short FL NL k (by omega) hne (by omega)
            subst hkn
            have hge : (k : Int) ≤ (k : Int) := by omega
            clear hL1 hL2 hg1 hne
            go_wp2
            go_quiet (fail)
            go_wp2
            go_ret
            exact ⟨by rw [unhide hr]; rfl, (by first | exact below_drewN (unhide HB2) _ | (rw [drewN_drewN]; exact below_drewN (unhide HB2) _))⟩
          · have hkb : ¬ ((nn : Int) ≤ (k : Int)) := by omega
            have hkb' : ¬ (nn ≤ k) := by omega
            have hkl : k < nn := by omega
            have hnk := (unhide HNC) k hkl
            have hg2 := (unhide HG2) k
            generalize N.getD k ByteArray.empty = y at hnk hg2
            have hst := mat_step FL NL k (by omega) hne (by omega)
            have e1 : decide (FL.getD k [] = [43]) = (x.toList == [43]) := by rw [hg1, Lib.toList_data, Bool.eq_iff_iff, beq_iff_eq, decide_eq_true_eq]
            have e2 : decide (FL.getD k [] = NL.getD k []) = (x.toList == y.toList) := by rw [hg1, hg2, beq_strs]
            rw [e1, e2, ← unhide hres] at hst
            have HST := hide hst
            clear hst e1 e2 hg1 hg2 hL1 hL2 hne hkn
            cases hx2 : (x.toList == [43])
            · cases hxy : (x.toList == y.toList)
              · rw [hx2, hxy] at HST
                go_wp2
                go_quiet (fail)
                go_wp2
                go_ret
                exact ⟨by rw [unhide HST]; rfl, (by first | exact below_drewN (unhide HB2) _ | (rw [drewN_drewN]; exact below_drewN (unhide HB2) _))⟩
              · rw [hx2, hxy] at HST
                go_wp2
                go_quiet (fail)
                go_wp2
                go_roundw
                case rel => exact ⟨k + 1, _, by omega, by omega, by go_num, rfl, unhide HST⟩
                case measure => simp [intOf] <;> omega
            · rw [hx2] at HST
              go_wp2
              go_quiet (fail)
              go_wp2
              go_roundw
              case rel => exact ⟨k + 1, _, by omega, by omega, by go_num, rfl, unhide HST⟩
              case measure => simp [intOf] <;> omega
        · have hr : Hid (res = true) := by show _ = _; rw [unhide hres]; exact mat_hash FL NL k (by omega) (by rw [hg1]; exact is_of hx)
          clear hL1 hL2 hg1
          go_wp2
          go_ret
          exact ⟨by rw [unhide hr]; rfl, below_drewN (unhide HB2) _⟩
      · obtain rfl : k = nf := by omega
        have hr : Hid (res = decide ((k : Int) = (nn : Int))) := by
          show _ = _
          have hL1 := unhide HL1
          have hL2 := unhide HL2
          have := mat_end FL NL (by omega)
          rw [hL1, hL2] at this
          rw [unhide hres, this]
          exact decide_eq_decide.2 (by omega)
        go_wp2
        go_ret
        exact ⟨by rw [unhide hr]; rfl, below_drewN (unhide HB2) _⟩
end Go.Proofs.YtdjpllmgjmnolaaGreatDoor
