/- Proved here: the walk of dovecotelaw16.QuorumExact: whatever lists and texts it is handed, it returns true. Helper contract. -/
import Derived.Test.YtnflgfpicigajaaDoorZUUn
import Derived.Deep.Cut
import Derived.Deep.CutRange
import Derived.Deep.CutBlock
namespace Go.Proofs.YtnflgfpicigajaaDoor.Qu
open Go.RowKit Nt
set_option maxRecDepth 100000

set_option maxHeartbeats 8000000 in
theorem exact16_walk (g off len cap : Nat) (f : Nat → Ak) (w : World) (hg : Laid w) (ha : AksIn w g off f len) :
    Calls Tryd.prog 3 #[.slice (some ⟨g, off, none⟩) len cap] w fun e w' => e = .returned (.bool true) ∧ Below w.heap.size w w' := by
  have HA := hide ha
  have HG := hide hg
  clear ha hg
  go_enter Tryd.func3, Tryd.ntmps3
  go_wp2
  go_loopw [3] (fun ii wr => ∃ k : Nat, k ≤ len ∧ ii = .int .i64 k ∧ Hid (Below w.heap.size w wr)) (fun ii _ => len - (intOf ii).toNat)
  case atStart => exact ⟨0, Nat.zero_le _, rfl, Below.refl _ _⟩
  case round =>
    obtain ⟨k, hk, rfl, HB⟩ := hrel
    by_cases h8 : k < len ∧ k < 20
    · obtain ⟨hlt, h8⟩ := h8
      obtain ⟨⟨q0, q1, q2, q3, q4⟩, ⟨hl1, hl2, hl3, hl4⟩, hs⟩ := (unhide HA) k hlt
      generalize f k = ak at q0 q1 q2 q3 q4 hl1 hl2 hl3 hl4 hs
      obtain ⟨⟨a1, n1, c1⟩, ⟨a2, n2, c2⟩, ⟨a3, n3, c3⟩, ⟨a4, n4, c4⟩, s, lm, lo, lv, lt⟩ := ak
      dsimp only at q0 q1 q2 q3 q4 hl1 hl2 hl3 hl4 hs
      unfold LsS at hl1 hl2 hl3 hl4
      dsimp only at hl1 hl2 hl3 hl4
      have HC : Hid (∀ W, Below w.heap.size w W → W.cell? ⟨g, off + k * 5, none⟩ = some (.slice a1 n1 c1) ∧ W.cell? ⟨g, off + k * 5 + 1, none⟩ = some (.slice a2 n2 c2) ∧ W.cell? ⟨g, off + k * 5 + 2, none⟩ = some (.slice a3 n3 c3) ∧ W.cell? ⟨g, off + k * 5 + 3, none⟩ = some (.slice a4 n4 c4) ∧ W.cell? ⟨g, off + k * 5 + 4, none⟩ = some (.string s)) := fun W hW =>
        ⟨(hW.cell (p := ⟨g, off + k * 5, none⟩) (cell_lt q0)).trans q0, (hW.cell (p := ⟨g, off + k * 5 + 1, none⟩) (cell_lt q1)).trans q1, (hW.cell (p := ⟨g, off + k * 5 + 2, none⟩) (cell_lt q2)).trans q2, (hW.cell (p := ⟨g, off + k * 5 + 3, none⟩) (cell_lt q3)).trans q3, (hW.cell (p := ⟨g, off + k * 5 + 4, none⟩) (cell_lt q4)).trans q4⟩
      have H1 := hide hl1
      have H2 := hide hl2
      have H3 := hide hl3
      have H4 := hide hl4
      have HV := hide (fun W => heavy_any a1 a2 a3 a4 n1 c1 n2 c2 n3 c3 n4 c4 s W hl1.2.2.2.1 hl2.2.2.2.1 hl3.2.2.2.1 hl4.2.2.2.1 hs)
      have hn1 := hl1.2.2.2.1
      clear q0 q1 q2 q3 q4 hl1 hl2 hl3 hl4 hs
      obtain ⟨q0, q1, q2, q3, q4⟩ := (unhide HC) _ (unhide HB)
      have HB1 : Hid (Below w.heap.size w (wr.alloc (.cells #[.slice a1 n1 c1, .slice a2 n2 c2, .slice a3 n3 c3, .slice a4 n4 c4, .string s] 25))) := bnx (unhide HB) ((Below.refl _ _).alloc (Nat.le_refl _) _)
      have HP : Hid (∀ W, Below (wr.alloc (.cells #[.slice a1 n1 c1, .slice a2 n2 c2, .slice a3 n3 c3, .slice a4 n4 c4, .string s] 25)).heap.size (wr.alloc (.cells #[.slice a1 n1 c1, .slice a2 n2 c2, .slice a3 n3 c3, .slice a4 n4 c4, .string s] 25)) W → W.cell? ⟨wr.heap.size, 0, none⟩ = some (.slice a1 n1 c1) ∧ W.cell? ⟨wr.heap.size, 1, none⟩ = some (.slice a2 n2 c2) ∧ W.cell? ⟨wr.heap.size, 2, none⟩ = some (.slice a3 n3 c3) ∧ W.cell? ⟨wr.heap.size, 3, none⟩ = some (.slice a4 n4 c4) ∧ W.cell? ⟨wr.heap.size, 4, none⟩ = some (.string s)) := fun W hW => by
        refine ⟨(hW.cell (by simp)).trans (by simp), (hW.cell (by simp)).trans (by simp), (hW.cell (by simp)).trans (by simp), (hW.cell (by simp)).trans (by simp), (hW.cell (by simp)).trans (by simp)⟩
      go_wp2_with fail
      generalize wr.alloc (.cells #[.slice a1 n1 c1, .slice a2 n2 c2, .slice a3 n3 c3, .slice a4 n4 c4, .string s] 25) = w1 at HB1 HP ⊢
      generalize wr.heap.size = P at HP ⊢
      clear q0 q1 q2 q3 q4 HC
      refine (unhide HV _).mono ?_
      rintro e w2 ⟨⟨d, rfl, HD⟩, hb⟩
      have HQ2 := hide hb
      have HSZ : Hid (d = false → s.size ≤ 17592186043904) := fun h0 => by have := HD h0; omega
      clear hb HV HD
      cases d
      rotate_left
      · go_wp2
        go_ret
        exact ⟨rfl, bnx (unhide HB1) (unhide HQ2)⟩
      have HSS := hide (unhide HSZ rfl)
      clear HSZ
      obtain ⟨dm, hdm⟩ : ∃ dm, dm = decide (Mem lm) := ⟨_, rfl⟩
      have HDM := hide hdm
      obtain ⟨dl, hdl⟩ : ∃ dl, dl = decide (Mem lo) := ⟨_, rfl⟩
      have HDL := hide hdl
      obtain ⟨fb, hfb⟩ : ∃ fb, fb = fitB lm lt := ⟨_, rfl⟩
      have HFB := hide hfb
      obtain ⟨wn, hwn⟩ : ∃ wn : Int, wn = if fb = true then idxQ lt else 0 := ⟨_, rfl⟩
      have HWN := hide hwn
      obtain ⟨pp, hpp⟩ : ∃ pp, pp = decide (Mem (sb s)) := ⟨_, rfl⟩
      have HPP := hide hpp
      have er1 : er true = 0 := rfl
      have er0 : er false = 1 := rfl
      clear hdm hdl hfb hwn hpp
      obtain ⟨p0, p1, p2, p3, p4⟩ := (unhide HP) _ (unhide HQ2)
      go_wp2_with fail
      refine (rmem_any a1 n1 c1 lm _ ((unhide H1).below (bnx (unhide HB1) (unhide HQ2)))).mono ?_
      rw [← unhide HDM]
      rintro e w3 ⟨rfl, q, hw⟩
      have HQ3 : Hid (Below w1.heap.size w1 w3) := by show Below _ _ _; rw [hw]; exact below_drewN (unhide HQ2) _
      clear hw p0 p1 p2 p3 p4
      go_upto_if 43 with fail
      go_cut [6] from 34 to 43 (fun s6 wx => s6 = .int .i64 (er dm) ∧ Hid (Below w1.heap.size w1 wx))
      case first =>
        cases dm
        · go_wp2
          go_meet
          case rel => exact ⟨rfl, HQ3⟩
        · go_wp2
          go_meet
          case rel => exact ⟨rfl, HQ3⟩
      case rest =>
        obtain ⟨hs6, HQ4⟩ := hcut
        subst hs6
        obtain ⟨p0, p1, p2, p3, p4⟩ := (unhide HP) _ (unhide HQ4)
        go_wp2_with fail
        refine (enoU dm a1 a3 n1 c1 n3 c3 lm lv _ (unhide HDM) ((unhide H1).below (bnx (unhide HB1) (unhide HQ4))) ((unhide H3).below (bnx (unhide HB1) (unhide HQ4)))).mono ?_
        rintro e w5 ⟨E, rfl, HE, hb⟩
        have HQ5 : Hid (Below w1.heap.size w1 w5) := bnx (unhide HQ4) (unhide hb)
        clear p0 p1 p2 p3 p4
        have HE5 := HE
        obtain ⟨x1, hx1⟩ : ∃ x1, x1 = (dm && enoB lm lv) := ⟨_, rfl⟩
        have HX1 := hide hx1
        rw [← hx1]
        clear hx1 HE hb
        go_upto_region 12 with fail
        have HR0 : Hid (Below w5.heap.size w5 w5) := Below.refl _ _
        go_cut [75] from 44 to 75 (fun s75 wx => s75 = .bool false ∧ Hid (Below w1.heap.size w1 wx))
        case first =>
          cases dm
          · obtain ⟨p0, p1, p2, p3, p4⟩ := (unhide HP) _ (bnx (unhide HQ5) (unhide HR0))
            go_wp2_with fail
            refine (chkU false a1 n1 c1 lm _ (unhide HDM) ((unhide H1).below (bnx (unhide HB1) (bnx (unhide HQ5) (unhide HR0))))).mono ?_
            rintro e w6 ⟨E, rfl, HE, hb⟩
            have HR1 : Hid (Below w5.heap.size w5 w6) := bnx (unhide HR0) (unhide hb)
            clear p0 p1 p2 p3 p4
            clear hb
            go_wp2_with fail
            refine (num_err _ _ _ ((unhide HG).below (bnx (unhide HB1) (bnx (unhide HQ5) (unhide HR1))) (unhide HG).pos) (unhide HE)).mono ?_
            rintro e w7 ⟨rfl, hb⟩
            have HR2 : Hid (Below w5.heap.size w5 w7) := bnx (unhide HR1) hb
            clear hb
            go_wp2_with fail
            refine (num_err _ _ _ ((unhide HG).below (bnx (unhide HB1) (bnx (unhide HQ5) (unhide HR2))) (unhide HG).pos) ((unhide HE5).below (unhide HR2))).mono ?_
            rintro e w8 ⟨rfl, hb⟩
            have HR3 : Hid (Below w5.heap.size w5 w8) := bnx (unhide HR2) hb
            clear hb
            have hx0 : x1 = false := unhide HX1
            subst hx0
            go_wp2
            go_meet
            case rel => exact ⟨rfl, (bnx (unhide HQ5) (unhide HR3))⟩
          · obtain ⟨p0, p1, p2, p3, p4⟩ := (unhide HP) _ (bnx (unhide HQ5) (unhide HR0))
            go_wp2_with fail
            refine (chkU true a1 n1 c1 lm _ (unhide HDM) ((unhide H1).below (bnx (unhide HB1) (bnx (unhide HQ5) (unhide HR0))))).mono ?_
            rintro e w6 ⟨E, rfl, HE, hb⟩
            have HR1 : Hid (Below w5.heap.size w5 w6) := bnx (unhide HR0) (unhide hb)
            clear p0 p1 p2 p3 p4
            clear hb
            go_wp2_with fail
            refine (num_err _ _ _ ((unhide HG).below (bnx (unhide HB1) (bnx (unhide HQ5) (unhide HR1))) (unhide HG).pos) (unhide HE)).mono ?_
            rintro e w7 ⟨rfl, hb⟩
            have HR2 : Hid (Below w5.heap.size w5 w7) := bnx (unhide HR1) hb
            clear hb
            go_wp2_with fail
            refine (num_err _ _ _ ((unhide HG).below (bnx (unhide HB1) (bnx (unhide HQ5) (unhide HR2))) (unhide HG).pos) ((unhide HE5).below (unhide HR2))).mono ?_
            rintro e w8 ⟨rfl, hb⟩
            have HR3 : Hid (Below w5.heap.size w5 w8) := bnx (unhide HR2) hb
            clear hb
            have HX2 : Hid (x1 = enoB lm lv) := unhide HX1
            obtain ⟨p0, p1, p2, p3, p4⟩ := (unhide HP) _ (bnx (unhide HQ5) (unhide HR3))
            go_wp2_with fail
            refine (reno_any a1 a3 n1 c1 n3 c3 lm lv _ ((unhide H1).below (bnx (unhide HB1) (bnx (unhide HQ5) (unhide HR3)))) ((unhide H3).below (bnx (unhide HB1) (bnx (unhide HQ5) (unhide HR3))))).mono ?_
            rw [← unhide HX2]
            rintro e w9 ⟨rfl, hw⟩
            obtain rfl := hw.symm
            clear hw p0 p1 p2 p3 p4
            go_wp2
            go_meet
            case rel => exact ⟨rfl, (bnx (unhide HQ5) (unhide HR3))⟩
        case rest =>
        obtain ⟨hs75, HQ6⟩ := hcut
        subst hs75
        clear HR0 HE5 HX1
        obtain ⟨p0, p1, p2, p3, p4⟩ := (unhide HP) _ (unhide HQ6)
        go_upto_region 14 with fail
        go_cut [9] from 76 to 85 (fun s9 wx => s9 = .bool (dm && ((n4 : Int) == (n1 : Int))) ∧ Hid (Below w1.heap.size w1 wx))
        case first =>
          cases dm
          · go_wp2
            go_meet
            case rel => exact ⟨rfl, HQ6⟩
          · go_wp2
            go_meet
            case rel => exact ⟨by first | rfl | simp, HQ6⟩
        case rest =>
        obtain ⟨hs9, HQ7⟩ := hcut
        have HF0 := hide (FitR.start (m := lm) (l := lt) (unhide HDM))
        rw [(unhide H1).1, (unhide H4).1] at HF0
        obtain ⟨f0, hf0⟩ : ∃ f0, f0 = (dm && ((n4 : Int) == (n1 : Int))) := ⟨_, rfl⟩
        rw [← hf0] at hs9 HF0
        subst hs9
        clear hf0 p0 p1 p2 p3 p4
        have hn4 : n4 ≤ 17592186043904 := (unhide H4).2.2.2.1
        go_upto_block 2 with fail
        go_cut [9] from 86 to 101 (fun s9 wx => s9 = .bool fb ∧ Hid (Below w1.heap.size w1 wx))
        case first =>
          obtain ⟨p0, p1, p2, p3, p4⟩ := (unhide HP) _ (unhide HQ7)
          generalize hwc : wc = wz at HQ7 p0 p1 p2 p3 p4 ⊢
          clear hwc
          go_wp2
          go_loopw [9, 10] (fun fv i wr => ∃ (j : Nat) (b : Bool), j ≤ n4 ∧ i = .int .i64 j ∧ fv = .bool b ∧ wr = wz ∧ Hid (FitR lm lt j b)) (fun _ i _ => n4 - (intOf i).toNat)
          case atStart => exact ⟨0, f0, Nat.zero_le _, rfl, rfl, rfl, HF0⟩
          case round =>
            obtain ⟨j, b, hj, rfl, rfl, rfl, HF⟩ := hrel
            by_cases hlj : j < n4
            · cases b
              · have HFE : Hid (false = fb) := by show _ = _; rw [unhide HFB]; exact (unhide HF).no
                go_wp2
                go_meet
                case rel => exact ⟨congrArg Value.bool (unhide HFE), HQ7⟩
              · obtain ⟨b4, o4, rfl, hcj⟩ := ((unhide H4).below (bnx (unhide HB1) (unhide HQ7))).at hlj
                have HF2 := hide ((unhide HF).step (by rw [(unhide H4).1]; exact hlj))
                generalize lt.getD j 0 = y at hcj HF2
                go_wp2
                go_roundw
                case rel => exact ⟨j + 1, decide (y ≥ 0), by omega, by go_num, rfl, by first | rfl | trivial, HF2⟩
                case measure => simp [intOf]; omega
            · obtain rfl : n4 = j := by omega
              have HFE : Hid (b = fb) := by
                show _ = _
                rw [unhide HFB]
                have := unhide HF
                rw [← (unhide H4).1] at this
                exact this.all
              cases b
              · go_wp2
                go_meet
                case rel => exact ⟨congrArg Value.bool (unhide HFE), HQ7⟩
              · go_wp2
                go_meet
                case rel => exact ⟨congrArg Value.bool (unhide HFE), HQ7⟩
        case rest =>
        obtain ⟨hs9, HQ8⟩ := hcut
        subst hs9
        clear HF0
        go_upto_if 102 with fail
        go_cut [11, 12] from 102 to 105 (fun s11 s12 wx => s11 = .int .i64 wn ∧ s12 = .int .i64 (er fb) ∧ Hid (Below w1.heap.size w1 wx))
        case first =>
          cases fb
          · have hw0 : wn = 0 := unhide HWN
            subst hw0
            go_wp2
            go_meet
            case rel => exact ⟨rfl, rfl, HQ8⟩
          · obtain ⟨p0, p1, p2, p3, p4⟩ := (unhide HP) _ (unhide HQ8)
            go_wp2_with fail
            refine (rixU wn a4 n4 c4 lm lt _ (unhide HFB).symm (unhide HWN) ((unhide H4).below (bnx (unhide HB1) (unhide HQ8)))).mono ?_
            rintro e w6 ⟨rfl, hb⟩
            have HQ9 : Hid (Below w1.heap.size w1 w6) := bnx (unhide HQ8) (unhide hb)
            clear hb p0 p1 p2 p3 p4
            go_wp2
            go_meet
            case rel => exact ⟨rfl, rfl, HQ9⟩
        case rest =>
        obtain ⟨hs11, hs12, HQ9⟩ := hcut
        subst hs11
        subst hs12
        obtain ⟨p0, p1, p2, p3, p4⟩ := (unhide HP) _ (unhide HQ9)
        go_wp2_with fail
        refine (idxU fb wn a1 a4 n1 c1 n4 c4 lm lt _ (unhide HFB) (unhide HWN) ((unhide H1).below (bnx (unhide HB1) (unhide HQ9))) ((unhide H4).below (bnx (unhide HB1) (unhide HQ9)))).mono ?_
        rintro e w10 ⟨E, rfl, HE, hb⟩
        have HQ10 : Hid (Below w1.heap.size w1 w10) := bnx (unhide HQ9) (unhide hb)
        clear p0 p1 p2 p3 p4
        clear hb
        go_wp2_with fail
        refine (num_err _ _ _ ((unhide HG).below (bnx (unhide HB1) (unhide HQ10)) (unhide HG).pos) (unhide HE)).mono ?_
        rintro e w11 ⟨rfl, hb⟩
        have HQ11 : Hid (Below w1.heap.size w1 w11) := bnx (unhide HQ10) hb
        clear hb
        clear HE
        obtain ⟨p0, p1, p2, p3, p4⟩ := (unhide HP) _ (unhide HQ11)
        go_upto_region 25 with fail
        go_cut [15] from 106 to 128 (fun s15 wx => s15 = .bool (dm && dl) ∧ Hid (Below w1.heap.size w1 wx))
        case first =>
          cases dm
          · go_wp2
            go_meet
            case rel => exact ⟨rfl, HQ11⟩
          · go_wp2_with fail
            refine (rmem_any a2 n2 c2 lo _ ((unhide H2).below (bnx (unhide HB1) (unhide HQ11)))).mono ?_
            rw [← unhide HDL]
            rintro e w12 ⟨rfl, q, hw⟩
            have HQ12 : Hid (Below w1.heap.size w1 w12) := by show Below _ _ _; rw [hw]; exact below_drewN (unhide HQ11) _
            clear hw p0 p1 p2 p3 p4
            go_wp2
            go_meet
            case rel => exact ⟨by first | rfl | simp, HQ12⟩
        case rest =>
        obtain ⟨hs15, HQ12⟩ := hcut
        obtain ⟨bo, hbo⟩ : ∃ bo, bo = (dm && dl) := ⟨_, rfl⟩
        rw [← hbo] at hs15
        subst hs15
        have HBO : Hid (bo = (decide (Mem lm) && decide (Mem lo))) := by show _ = _; rw [hbo, unhide HDM, unhide HDL]
        clear hbo p0 p1 p2 p3 p4
        obtain ⟨p0, p1, p2, p3, p4⟩ := (unhide HP) _ (unhide HQ12)
        go_wp2_with fail
        refine (chgU bo a1 a2 n1 c1 n2 c2 lm lo _ (unhide HBO) ((unhide H1).below (bnx (unhide HB1) (unhide HQ12))) ((unhide H2).below (bnx (unhide HB1) (unhide HQ12)))).mono ?_
        rintro e w13 ⟨E, rfl, HE, hb⟩
        have HQ13 : Hid (Below w1.heap.size w1 w13) := bnx (unhide HQ12) (unhide hb)
        clear p0 p1 p2 p3 p4
        have HE13 := HE
        obtain ⟨x2, hx2⟩ : ∃ x2, x2 = (bo && chgB lm lo) := ⟨_, rfl⟩
        have HX2 := hide hx2
        rw [← hx2]
        clear hx2 HE hb
        go_upto_region 27 with fail
        have HR0 : Hid (Below w13.heap.size w13 w13) := Below.refl _ _
        go_cut [162] from 129 to 162 (fun s162 wx => s162 = .bool false ∧ Hid (Below w1.heap.size w1 wx))
        case first =>
          cases bo
          · go_wp2_with fail
            refine (num_err _ _ _ ((unhide HG).below (bnx (unhide HB1) (bnx (unhide HQ13) (unhide HR0))) (unhide HG).pos) ((unhide HE13).below (unhide HR0))).mono ?_
            rintro e w14 ⟨rfl, hb⟩
            have HR1 : Hid (Below w13.heap.size w13 w14) := bnx (unhide HR0) hb
            clear hb
            go_wp2_with fail
            refine (num_err _ _ _ ((unhide HG).below (bnx (unhide HB1) (bnx (unhide HQ13) (unhide HR1))) (unhide HG).pos) ((unhide HE13).below (unhide HR1))).mono ?_
            rintro e w15 ⟨rfl, hb⟩
            have HR2 : Hid (Below w13.heap.size w13 w15) := bnx (unhide HR1) hb
            clear hb
            have hx0 : x2 = false := unhide HX2
            subst hx0
            go_wp2
            go_meet
            case rel => exact ⟨rfl, (bnx (unhide HQ13) (unhide HR2))⟩
          · go_wp2_with fail
            refine (num_err _ _ _ ((unhide HG).below (bnx (unhide HB1) (bnx (unhide HQ13) (unhide HR0))) (unhide HG).pos) ((unhide HE13).below (unhide HR0))).mono ?_
            rintro e w14 ⟨rfl, hb⟩
            have HR1 : Hid (Below w13.heap.size w13 w14) := bnx (unhide HR0) hb
            clear hb
            have HX3 : Hid (x2 = chgB lm lo) := unhide HX2
            obtain ⟨p0, p1, p2, p3, p4⟩ := (unhide HP) _ (bnx (unhide HQ13) (unhide HR1))
            go_wp2_with fail
            refine (rchg_any a1 a2 n1 c1 n2 c2 lm lo _ ((unhide H1).below (bnx (unhide HB1) (bnx (unhide HQ13) (unhide HR1)))) ((unhide H2).below (bnx (unhide HB1) (bnx (unhide HQ13) (unhide HR1))))).mono ?_
            rw [← unhide HX3]
            rintro e w15 ⟨rfl, hw⟩
            obtain rfl := hw.symm
            clear hw p0 p1 p2 p3 p4
            go_wp2
            go_meet
            case rel => exact ⟨rfl, (bnx (unhide HQ13) (unhide HR1))⟩
        case rest =>
        obtain ⟨hs162, HQ16⟩ := hcut
        subst hs162
        clear HR0 HE13 HX2
        obtain ⟨p0, p1, p2, p3, p4⟩ := (unhide HP) _ (unhide HQ16)
        go_wp2_with fail
        refine (rpar_any s _ (unhide HSS)).mono ?_
        rw [← unhide HPP]
        rintro e w17 ⟨⟨ao, pn, pc, rfl, HO⟩, hb⟩
        have HQ17 : Hid (Below w1.heap.size w1 w17) := bnx (unhide HQ16) (unhide hb)
        clear hb p0 p1 p2 p3 p4
        go_upto_if 170 with fail
        go_cut [18] from 163 to 170 (fun s18 wx => Hid (Nms wx s18 (parL s)) ∧ Hid (Below w1.heap.size w1 wx))
        case first =>
          cases pp
          · have HN : Hid (∀ W, Nms W (.slice none 0 0) (parL s)) := fun W => by unfold parL; rw [← unhide HPP, if_neg (by simp)]; exact (Ls.nil W).nms
            go_wp2
            go_meet
            case rel => exact ⟨unhide HN _, HQ17⟩
          · have HN : Hid (Nms w17 (.slice ao pn pc) (parL s)) := by show Nms _ _ _; unfold parL; rw [← unhide HPP, if_pos rfl]; exact (unhide HO).ls.nms
            go_wp2
            go_meet
            case rel => exact ⟨HN, HQ17⟩
        case rest =>
        obtain ⟨HN18, HQ18⟩ := hcut
        obtain ⟨am, cm, hs18, hr18⟩ := unhide HN18
        subst hs18
        clear hr18 HO
        obtain ⟨p0, p1, p2, p3, p4⟩ := (unhide HP) _ (unhide HQ18)
        have HR0 : Hid (Below wc.heap.size wc wc) := Below.refl _ _
        go_wp2_with fail
        refine (parU pp s _ (unhide HPP) (unhide HSS)).mono ?_
        rintro e w19 ⟨ax, xn, xc, E, rfl, HNX, HE, hb⟩
        have HR1 : Hid (Below wc.heap.size wc w19) := bnx (unhide HR0) (unhide hb)
        clear p0 p1 p2 p3 p4
        clear hb HR0
        have HQ19 : Hid (Below w1.heap.size w1 w19) := bnx (unhide HQ18) (unhide HR1)
        have HNM := hide ((unhide HN18).below (unhide HR1))
        generalize (parL s).length = ml at HNM ⊢
        clear HN18
        go_upto_region 33 with fail
        have HR2 : Hid (Below w19.heap.size w19 w19) := Below.refl _ _
        go_cut [196] from 171 to 196 (fun s196 wx => s196 = .bool false ∧ Hid (Below w1.heap.size w1 wx))
        case first =>
          cases pp
          · go_wp2_with fail
            refine (num_err _ _ _ ((unhide HG).below (bnx (unhide HB1) (bnx (unhide HQ19) (unhide HR2))) (unhide HG).pos) ((unhide HE).below (unhide HR2))).mono ?_
            rintro e w20 ⟨rfl, hb⟩
            have HR3 : Hid (Below w19.heap.size w19 w20) := bnx (unhide HR2) hb
            clear hb
            go_wp2_with fail
            refine (num_err _ _ _ ((unhide HG).below (bnx (unhide HB1) (bnx (unhide HQ19) (unhide HR3))) (unhide HG).pos) ((unhide HE).below (unhide HR3))).mono ?_
            rintro e w21 ⟨rfl, hb⟩
            have HR4 : Hid (Below w19.heap.size w19 w21) := bnx (unhide HR3) hb
            clear hb
            go_wp2_with fail
            refine (eqn_self' _ _ (parL s) _ ((unhide HNX).below (unhide HR4)) ((unhide HNM).below (unhide HR4))).mono ?_
            rintro e w22 ⟨rfl, hb⟩
            have HR9 : Hid (Below w19.heap.size w19 w22) := bnx (unhide HR4) (unhide hb)
            clear hb
            go_wp2
            go_meet
            case rel => exact ⟨rfl, (bnx (unhide HQ19) (unhide HR9))⟩
          · go_wp2_with fail
            refine (num_err _ _ _ ((unhide HG).below (bnx (unhide HB1) (bnx (unhide HQ19) (unhide HR2))) (unhide HG).pos) ((unhide HE).below (unhide HR2))).mono ?_
            rintro e w20 ⟨rfl, hb⟩
            have HR3 : Hid (Below w19.heap.size w19 w20) := bnx (unhide HR2) hb
            clear hb
            go_wp2_with fail
            refine (eqn_self' _ _ (parL s) _ ((unhide HNX).below (unhide HR3)) ((unhide HNM).below (unhide HR3))).mono ?_
            rintro e w22 ⟨rfl, hb⟩
            have HR9 : Hid (Below w19.heap.size w19 w22) := bnx (unhide HR3) (unhide hb)
            clear hb
            go_wp2
            go_meet
            case rel => exact ⟨rfl, (bnx (unhide HQ19) (unhide HR9))⟩
        case rest =>
        obtain ⟨hs196, HQ23⟩ := hcut
        subst hs196
        clear HE HNX HNM
        obtain ⟨p0, p1, p2, p3, p4⟩ := (unhide HP) _ (unhide HQ23)
        go_wp2_with fail
        refine (bytU dm a1 n1 c1 lm _ (unhide HDM) ((unhide H1).below (bnx (unhide HB1) (unhide HQ23)))).mono ?_
        rintro e w24 ⟨E, rfl, HE, hb⟩
        have HQ24 : Hid (Below w1.heap.size w1 w24) := bnx (unhide HQ23) (unhide hb)
        clear p0 p1 p2 p3 p4
        clear hb
        cases dm
        · go_wp2_with fail
          refine (num_err _ _ _ ((unhide HG).below (bnx (unhide HB1) (unhide HQ24)) (unhide HG).pos) (unhide HE)).mono ?_
          rintro e w25 ⟨rfl, hb⟩
          have HQ25 : Hid (Below w1.heap.size w1 w25) := bnx (unhide HQ24) hb
          clear hb
          have hby : bytS false lm = ⟨#[]⟩ := rfl
          go_wp2
          go_roundw
          case rel => exact ⟨k + 1, by omega, by go_num, bnx (unhide HB1) (unhide HQ25)⟩
          case measure => simp [intOf]; omega
        · go_wp2_with fail
          refine (num_err _ _ _ ((unhide HG).below (bnx (unhide HB1) (unhide HQ24)) (unhide HG).pos) (unhide HE)).mono ?_
          rintro e w25 ⟨rfl, hb⟩
          have HQ25 : Hid (Below w1.heap.size w1 w25) := bnx (unhide HQ24) hb
          clear hb
          have HM : Mem lm := of_decide_eq_true (unhide HDM).symm
          obtain ⟨p0, p1, p2, p3, p4⟩ := (unhide HP) _ (unhide HQ25)
          have hby : bytS true lm = bs lm := rfl
          go_wp2_with fail
          refine (rbyt_any a1 n1 c1 lm _ ((unhide H1).below (bnx (unhide HB1) (unhide HQ25))) HM).mono ?_
          rintro e w26 ⟨rfl, hb⟩
          have HQ26 : Hid (Below w1.heap.size w1 w26) := bnx (unhide HQ25) hb
          clear hb p0 p1 p2 p3 p4
          generalize bs lm = bz at hby ⊢
          go_wp2
          go_roundw
          case rel => exact ⟨k + 1, by omega, by go_num, bnx (unhide HB1) (unhide HQ26)⟩
          case measure => simp [intOf]; omega
    · have hend : ¬ (k : Int) < (len : Int) ∨ ¬ (k : Int) < 20 := by omega
      by_cases h9 : (k : Int) < (len : Int)
      · have h9b : ¬ (k : Int) < 20 := by omega
        go_wp2_with fail
        refine (wakes_any _ ((unhide HG).below (unhide HB) (unhide HG).pos)).mono ?_
        rintro e w9 ⟨rfl, hb9⟩
        have HB9 : Hid (Below w.heap.size w w9) := bnx (unhide HB) hb9
        clear hb9
        go_wp2
        go_ret
        exact ⟨rfl, unhide HB9⟩
      · go_wp2_with fail
        refine (wakes_any _ ((unhide HG).below (unhide HB) (unhide HG).pos)).mono ?_
        rintro e w9 ⟨rfl, hb9⟩
        have HB9 : Hid (Below w.heap.size w w9) := bnx (unhide HB) hb9
        clear hb9
        go_wp2
        go_ret
        exact ⟨rfl, unhide HB9⟩
theorem exact16_walk0 (ao : Option Addr) (cap : Nat) (w : World) (hg : Laid w) :
    Calls Tryd.prog 3 #[.slice ao 0 cap] w fun e w' => e = .returned (.bool true) ∧ Below w.heap.size w w' := by
  have HG := hide hg
  have HB : Hid (Below w.heap.size w w) := Below.refl _ _
  clear hg
  go_enter Tryd.func3, Tryd.ntmps3
  go_wp2
  refine wp_loop_rounds 1 ?_
  rw [rounds_succ]
  go_wp2_with fail
  refine (wakes_any _ ((unhide HG).below (unhide HB) (unhide HG).pos)).mono ?_
  rintro e w9 ⟨rfl, hb9⟩
  have HB9 : Hid (Below w.heap.size w w9) := bnx (unhide HB) hb9
  clear hb9
  go_wp2
  go_ret
  exact ⟨rfl, unhide HB9⟩
end Go.Proofs.YtnflgfpicigajaaDoor.Qu
