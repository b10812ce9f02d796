/- Proved here: the walk of dovecotelaw16.QuorumMeet: whatever lists it is handed, it returns true. Helper contract. -/
import Derived.Test.YtnflgfpicigajaaDoorZUCh
import Derived.Test.YtnflgfpicigajaaDoorZULw
import Derived.Test.YtnflgfpicigajaaDoorZUSd
import Derived.Test.YtnflgfpicigajaaDoorZKTk
import Derived.Deep.Cut
import Derived.Deep.CutRange
import Derived.Deep.CutBlock
namespace Go.Proofs.YtnflgfpicigajaaDoor.Qu
open Go.RowKit Nt
set_option maxRecDepth 100000

set_option maxHeartbeats 8000000 in
theorem meet16_walk (g off len cap : Nat) (f : Nat → Ak) (w : World) (hg : Laid w) (ha : AksIn w g off f len) :
    Calls Tryd.prog 4 #[.slice (some ⟨g, off, none⟩) len cap] w fun e w' => e = .returned (.bool true) ∧ Below w.heap.size w w' := by
  have HA := hide ha
  have HG := hide hg
  clear ha hg
  go_enter Tryd.func4, Tryd.ntmps4
  go_wp2
  go_loopw [3] (fun ii wr => ∃ k : Nat, k ≤ len ∧ ii = .int .i64 k ∧ Hid (Below w.heap.size w wr)) (fun ii _ => len - (intOf ii).toNat)
  case atStart => exact ⟨0, Nat.zero_le _, rfl, Below.refl _ _⟩
  case round =>
    obtain ⟨k, hk, rfl, HB⟩ := hrel
    by_cases h8 : k < len ∧ k < 8
    · obtain ⟨hlt, h8⟩ := h8
      obtain ⟨⟨q0, q1, q2, q3, q4⟩, ⟨hl1, hl2, hl3, hl4⟩, hs⟩ := (unhide HA) k hlt
      generalize f k = ak at q0 q1 q2 q3 q4 hl1 hl2 hl3 hl4 hs
      obtain ⟨⟨a1, n1, c1⟩, ⟨a2, n2, c2⟩, ⟨a3, n3, c3⟩, ⟨a4, n4, c4⟩, s, lm, lo, lv, lt⟩ := ak
      dsimp only at q0 q1 q2 q3 q4 hl1 hl2 hl3 hl4 hs
      unfold LsS at hl1 hl2 hl3 hl4
      dsimp only at hl1 hl2 hl3 hl4
      have HC : Hid (∀ W, Below w.heap.size w W → W.cell? ⟨g, off + k * 5, none⟩ = some (.slice a1 n1 c1) ∧ W.cell? ⟨g, off + k * 5 + 1, none⟩ = some (.slice a2 n2 c2) ∧ W.cell? ⟨g, off + k * 5 + 2, none⟩ = some (.slice a3 n3 c3) ∧ W.cell? ⟨g, off + k * 5 + 3, none⟩ = some (.slice a4 n4 c4) ∧ W.cell? ⟨g, off + k * 5 + 4, none⟩ = some (.string s)) := fun W hW =>
        ⟨(hW.cell (p := ⟨g, off + k * 5, none⟩) (cell_lt q0)).trans q0, (hW.cell (p := ⟨g, off + k * 5 + 1, none⟩) (cell_lt q1)).trans q1, (hW.cell (p := ⟨g, off + k * 5 + 2, none⟩) (cell_lt q2)).trans q2, (hW.cell (p := ⟨g, off + k * 5 + 3, none⟩) (cell_lt q3)).trans q3, (hW.cell (p := ⟨g, off + k * 5 + 4, none⟩) (cell_lt q4)).trans q4⟩
      have H1 := hide hl1
      have H2 := hide hl2
      have H3 := hide hl3
      have H4 := hide hl4
      have HV := hide (fun W => heavy_any a1 a2 a3 a4 n1 c1 n2 c2 n3 c3 n4 c4 s W hl1.2.2.2.1 hl2.2.2.2.1 hl3.2.2.2.1 hl4.2.2.2.1 hs)
      have hn1 := hl1.2.2.2.1
      clear q0 q1 q2 q3 q4 hl1 hl2 hl3 hl4 hs
      obtain ⟨q0, q1, q2, q3, q4⟩ := (unhide HC) _ (unhide HB)
      have HB1 : Hid (Below w.heap.size w (wr.alloc (.cells #[.slice a1 n1 c1, .slice a2 n2 c2, .slice a3 n3 c3, .slice a4 n4 c4, .string s] 25))) := bnx (unhide HB) ((Below.refl _ _).alloc (Nat.le_refl _) _)
      have HP : Hid (∀ W, Below (wr.alloc (.cells #[.slice a1 n1 c1, .slice a2 n2 c2, .slice a3 n3 c3, .slice a4 n4 c4, .string s] 25)).heap.size (wr.alloc (.cells #[.slice a1 n1 c1, .slice a2 n2 c2, .slice a3 n3 c3, .slice a4 n4 c4, .string s] 25)) W → W.cell? ⟨wr.heap.size, 0, none⟩ = some (.slice a1 n1 c1) ∧ W.cell? ⟨wr.heap.size, 1, none⟩ = some (.slice a2 n2 c2) ∧ W.cell? ⟨wr.heap.size, 2, none⟩ = some (.slice a3 n3 c3) ∧ W.cell? ⟨wr.heap.size, 3, none⟩ = some (.slice a4 n4 c4) ∧ W.cell? ⟨wr.heap.size, 4, none⟩ = some (.string s)) := fun W hW => by
        refine ⟨(hW.cell (by simp)).trans (by simp), (hW.cell (by simp)).trans (by simp), (hW.cell (by simp)).trans (by simp), (hW.cell (by simp)).trans (by simp), (hW.cell (by simp)).trans (by simp)⟩
      go_wp2_with fail
      generalize wr.alloc (.cells #[.slice a1 n1 c1, .slice a2 n2 c2, .slice a3 n3 c3, .slice a4 n4 c4, .string s] 25) = w1 at HB1 HP ⊢
      generalize wr.heap.size = P at HP ⊢
      clear q0 q1 q2 q3 q4 HC
      refine (unhide HV _).mono ?_
      rintro e w2 ⟨⟨d, rfl, HD⟩, hb⟩
      have HQ2 := hide hb
      clear hb HV HD
      cases d
      rotate_left
      · go_wp2
        go_ret
        exact ⟨rfl, bnx (unhide HB1) (unhide HQ2)⟩
      obtain ⟨p0, p1, p2, p3, p4⟩ := (unhide HP) _ (unhide HQ2)
      go_wp2_with fail
      refine (chg_any a1 a2 n1 c1 n2 c2 lm lo _ ((unhide H1).below (bnx (unhide HB1) (unhide HQ2))) ((unhide H2).below (bnx (unhide HB1) (unhide HQ2)))).mono ?_
      rintro e w3 (⟨hM1, hM2, rfl, hb⟩ | ⟨hM, x, rfl, hE, hb⟩)
      · have HQ3 : Hid (Below w1.heap.size w1 w3) := bnx (unhide HQ2) hb
        have HM1 := hide hM1
        have HM2 := hide hM2
        clear hM1 hM2 hb p0 p1 p2 p3 p4
        obtain ⟨d, hd⟩ : ∃ d, d = chgB lm lo := ⟨_, rfl⟩
        have HD := hide hd
        rw [← hd]
        clear hd
        go_upto_if 46 with fail
        refine (num_err _ 0 _ ((unhide HG).below (bnx (unhide HB1) (unhide HQ3)) (unhide HG).pos) ((ErrB.nil _).errX)).mono ?_
        rintro e w4 ⟨rfl, hb⟩
        have HQ4 : Hid (Below w1.heap.size w1 w4) := bnx (unhide HQ3) hb
        clear hb
        go_upto_if 46 with fail
        go_cut [] from 27 to 149 (fun wx => Hid (Below w1.heap.size w1 wx))
        case first =>
          cases d
          · go_wp2
            go_meet
            case rel => exact HQ4
          · go_wp2
            go_loopw [7] (fun aa wr => ∃ ka : Nat, ka ≤ 128 ∧ aa = .int .i64 ka ∧ Hid (Below w1.heap.size w1 wr)) (fun aa _ => 128 - (intOf aa).toNat)
            case atStart => exact ⟨0, Nat.zero_le _, rfl, HQ4⟩
            case round =>
              obtain ⟨wo, hwo⟩ : ∃ wo, wo = wr := ⟨wr, rfl⟩
              subst hwo
              obtain ⟨ka, hka, rfl, HQa⟩ := hrel
              by_cases hla : ka < 128
              · obtain ⟨x, hx⟩ : ∃ x, x = enoB lm (setL ka) := ⟨_, rfl⟩
                have HX := hide hx
                clear hx
                go_wp2_with fail
                refine wp_region_noPanic ?_
                have HQd : Hid (Below w1.heap.size w1 wo.drew) := bnx (unhide HQa) (below_drewN (Below.refl _ _) 1)
                have HS : Hid (∀ W, Below w1.heap.size w1 W → W.cell? ⟨P, 0, none⟩ = some (.slice a1 n1 c1)) := fun W hW => ((unhide HP) W hW).1
                refine wp_region_held_drew (S := fun W => W.cell? ⟨P, 0, none⟩ = some (.slice a1 n1 c1)) (by kernel_rfl) ((unhide HS) _ (unhide HQd)) (fun hHeld => ?_)
                refine rtk 0 (h := ?_)
                refine rtk 1 (h := ?_)
                refine rtk 2 (h := ?_)
                refine rcl 3 (h := fun K hK => ?_)
                go_simp
                refine (set_any ka _ hla).mono ?_
                rintro e w6 ⟨⟨ao, sn, sc, rfl, HO⟩, HBs⟩
                have HQ6 : Hid (Below w1.heap.size w1 w6) := bnx (unhide HQd) (unhide HBs)
                refine hK.out _ _ ((unhide HS) _ (unhide HQ6)) (fun hHeld2 => ?_)
                clear hK K hHeld HQd HBs
                refine rcl 4 (h := fun K hK => ?_)
                go_simp
                refine (eno_any a1 ao n1 c1 sn sc lm (setL ka) _ ((unhide H1).below (bnx (unhide HB1) (unhide HQ6))) (unhide HO).ls).mono ?_
                rintro e w7 (⟨_, rfl, hw⟩ | ⟨hM, _⟩)
                rotate_left
                · exact absurd (unhide HM1) hM
                obtain rfl := hw.symm
                rw [← unhide HX]
                refine hK.out _ _ hHeld2 (fun hHeld3 => ?_)
                clear hK K hw hHeld2 HO HS
                refine rtk 5 (h := ?_)
                refine rtk 6 (h := ?_)
                refine rtk 7 (h := ?_)
                refine rcl 8 (h := fun K hK => ?_)
                go_simp
                refine hK.out _ _ hHeld3 (fun hHeld4 => ?_)
                clear hK K
                refine rcl 9 (h := fun K hK => ?_)
                go_simp
                refine hK.out _ _ hHeld4 (fun hHeld5 => ?_)
                clear hK K hHeld3 hHeld4
                refine wpAnyH_done (by kernel_rfl) ?_ _
                refine NoPanic.normal ?_
                clear hHeld5
                go_wp2_with fail
                refine (num_err _ 0 _ ((unhide HG).below (bnx (unhide HB1) (unhide HQ6)) (unhide HG).pos) ((ErrB.nil _).errX)).mono ?_
                rintro e w9 ⟨rfl, hb⟩
                have HQ9 : Hid (Below w1.heap.size w1 w9) := bnx (unhide HQ6) hb
                clear hb HQ6
                cases x
                · go_wp2
                  refine wp_loop_rounds 1 ?_
                  rw [rounds_succ]
                  go_wp2
                  go_roundw
                  case rel => exact ⟨ka + 1, by omega, by go_num, HQ9⟩
                  case measure => simp [intOf]; omega
                · go_wp2
                  go_loopw [10] (fun aa wr => ∃ kb : Nat, kb ≤ 128 ∧ aa = .int .i64 kb ∧ Hid (Below w1.heap.size w1 wr)) (fun aa _ => 128 - (intOf aa).toNat)
                  case atStart => exact ⟨0, Nat.zero_le _, rfl, HQ9⟩
                  case round =>
                    obtain ⟨kb, hkb, rfl, HQb⟩ := hrel
                    by_cases hlb : kb < 128
                    · by_cases hand : (bits .and .i64 (ka : Int) (kb : Int) == 0) = true
                      · have hand2 : (bits .and .i64 (ka : Int) (kb : Int) != 0) = false := by unfold bne; rw [hand]; rfl
                        have hy0 : false = enoB lo (setL kb) := by
                          cases hy : enoB lo (setL kb)
                          · rfl
                          · exact absurd (chg_meet (unhide HM1) (unhide HM2) (unhide HD).symm (set_apart hla hlb hand) (unhide HX).symm hy) id
                        have HY := hide hy0
                        clear hy0
                        go_wp2_with fail
                        refine wp_region_noPanic ?_
                        have HQd : Hid (Below w1.heap.size w1 wr.drew) := bnx (unhide HQb) (below_drewN (Below.refl _ _) 1)
                        have HS : Hid (∀ W, Below w1.heap.size w1 W → W.cell? ⟨P, 1, none⟩ = some (.slice a2 n2 c2)) := fun W hW => ((unhide HP) W hW).2.1
                        refine wp_region_held_drew (S := fun W => W.cell? ⟨P, 1, none⟩ = some (.slice a2 n2 c2)) (by kernel_rfl) ((unhide HS) _ (unhide HQd)) (fun hHeld => ?_)
                        refine rtk 0 (h := ?_)
                        refine rtk 1 (h := ?_)
                        refine rtk 2 (h := ?_)
                        refine rcl 3 (h := fun K hK => ?_)
                        go_simp
                        refine (set_any kb _ hlb).mono ?_
                        rintro e w6 ⟨⟨ao, sn, sc, rfl, HO⟩, HBs⟩
                        have HQ6 : Hid (Below w1.heap.size w1 w6) := bnx (unhide HQd) (unhide HBs)
                        refine hK.out _ _ ((unhide HS) _ (unhide HQ6)) (fun hHeld2 => ?_)
                        clear hK K hHeld HQd HBs
                        refine rcl 4 (h := fun K hK => ?_)
                        go_simp
                        refine (eno_any a2 ao n2 c2 sn sc lo (setL kb) _ ((unhide H2).below (bnx (unhide HB1) (unhide HQ6))) (unhide HO).ls).mono ?_
                        rintro e w7 (⟨_, rfl, hw⟩ | ⟨hM, _⟩)
                        rotate_left
                        · exact absurd (unhide HM2) hM
                        obtain rfl := hw.symm
                        rw [← unhide HY]
                        refine hK.out _ _ hHeld2 (fun hHeld3 => ?_)
                        clear hK K hw hHeld2 HO HS
                        refine rtk 5 (h := ?_)
                        refine rtk 6 (h := ?_)
                        refine rtk 7 (h := ?_)
                        refine rcl 8 (h := fun K hK => ?_)
                        go_simp
                        refine hK.out _ _ hHeld3 (fun hHeld4 => ?_)
                        clear hK K
                        refine rcl 9 (h := fun K hK => ?_)
                        go_simp
                        refine hK.out _ _ hHeld4 (fun hHeld5 => ?_)
                        clear hK K hHeld3 hHeld4
                        refine wpAnyH_done (by kernel_rfl) ?_ _
                        refine NoPanic.normal ?_
                        clear hHeld5
                        go_wp2_with fail
                        refine (num_err _ 0 _ ((unhide HG).below (bnx (unhide HB1) (unhide HQ6)) (unhide HG).pos) ((ErrB.nil _).errX)).mono ?_
                        rintro e w8 ⟨rfl, hb⟩
                        have HQ8 : Hid (Below w1.heap.size w1 w8) := bnx (unhide HQ6) hb
                        clear hb HQ6
                        go_wp2
                        go_roundw
                        case rel => exact ⟨kb + 1, by omega, by go_num, HQ8⟩
                        case measure => simp [intOf]; omega
                      · have hand1 : (bits .and .i64 (ka : Int) (kb : Int) == 0) = false := by simpa using hand
                        have hand2 : (bits .and .i64 (ka : Int) (kb : Int) != 0) = true := by unfold bne; rw [hand1]; rfl
                        clear hand
                        go_wp2
                        go_roundw
                        case rel => exact ⟨kb + 1, by omega, by go_num, HQb⟩
                        case measure => simp [intOf]; omega
                    · obtain rfl : kb = 128 := by omega
                      go_wp2
                      go_roundw
                      case rel => exact ⟨ka + 1, by omega, by go_num, HQb⟩
                      case measure => simp [intOf]; omega
              · obtain rfl : ka = 128 := by omega
                go_wp2
                go_meet
                case rel => exact HQa
        case rest =>
          have HQ5 := hcut
          obtain ⟨p0, p1, p2, p3, p4⟩ := (unhide HP) _ (unhide HQ5)
          go_wp2_with fail
          refine (idx_any a1 a4 n1 c1 n4 c4 lm lt _ ((unhide H1).below (bnx (unhide HB1) (unhide HQ5))) ((unhide H4).below (bnx (unhide HB1) (unhide HQ5)))).mono ?_
          rintro e w6 (⟨hF, rfl, hb⟩ | ⟨hF, y, rfl, hE, hb⟩)
          · have HQ6 : Hid (Below w1.heap.size w1 w6) := bnx (unhide HQ5) hb
            have hn41 : n4 = n1 := by
              unfold fitB at hF
              have h1 := (unhide H1).1
              have h4 := (unhide H4).1
              have h5 : lt.length = lm.length := by
                rw [Bool.and_eq_true, Bool.and_eq_true] at hF
                exact of_decide_eq_true hF.1.2
              omega
            clear hb p0 p1 p2 p3 p4 hF HQ5
            subst hn41
            obtain ⟨n, hn⟩ : ∃ n, n = idxQ lt := ⟨_, rfl⟩
            have HN := hide hn
            rw [← hn]
            clear hn
            go_wp2_with fail
            refine (num_err _ 0 _ ((unhide HG).below (bnx (unhide HB1) (unhide HQ6)) (unhide HG).pos) ((ErrB.nil _).errX)).mono ?_
            rintro e w7 ⟨rfl, hb⟩
            have HQ7 : Hid (Below w1.heap.size w1 w7) := bnx (unhide HQ6) hb
            clear hb HQ6
            obtain ⟨p0, p1, p2, p3, p4⟩ := (unhide HP) _ (unhide HQ7)
            by_cases hz : n4 = 0
            · have hz1 : ((n4 : Int) == 0) = true := beq_iff_eq.2 (by omega)
              clear hz
              go_wp2
              go_roundw
              case rel => exact ⟨k + 1, by omega, by go_num, bnx (unhide HB1) (unhide HQ7)⟩
              case measure => simp [intOf]; omega
            · have hz1 : ((n4 : Int) == 0) = false := beq_eq_false_iff_ne.2 (by omega)
              have hne : lt ≠ [] := fun h => hz (by have := (unhide H4).1; rw [h] at this; simpa using this.symm)
              have HIL := hide (idx_laws hne)
              rw [← unhide HN] at HIL
              clear hz hne
              go_wp2
              go_loopw [14, 15, 16] (fun he ab i wi => ∃ j : Nat, j ≤ n4 ∧ i = .int .i64 j ∧ he = .int .i64 (cK lt (fun x => decide (n ≤ x)) j : Nat) ∧ ab = .int .i64 (cK lt (fun x => decide (n < x)) j : Nat) ∧ wi = w7) (fun _ _ i _ => n4 - (intOf i).toNat)
              case atStart => exact ⟨0, Nat.zero_le _, rfl, rfl, rfl, rfl⟩
              case round =>
                obtain ⟨j, hj, rfl, rfl, rfl, rfl⟩ := hrel
                by_cases hlj : j < n4
                · obtain ⟨b, o', rfl, hcj⟩ := ((unhide H4).below (bnx (unhide HB1) (unhide HQ7))).at hlj
                  have HY1 := hide (fun h => cK_yes (l := lt) (p := fun x => decide (n ≤ x)) (show j < lt.length by rw [(unhide H4).1]; exact hlj) h)
                  have HN1 := hide (fun h => cK_no (l := lt) (p := fun x => decide (n ≤ x)) (show j < lt.length by rw [(unhide H4).1]; exact hlj) h)
                  have HY2 := hide (fun h => cK_yes (l := lt) (p := fun x => decide (n < x)) (show j < lt.length by rw [(unhide H4).1]; exact hlj) h)
                  have HN2 := hide (fun h => cK_no (l := lt) (p := fun x => decide (n < x)) (show j < lt.length by rw [(unhide H4).1]; exact hlj) h)
                  have hk1 := cK_le lt (fun x => decide (n ≤ x)) j
                  have hk2 := cK_le lt (fun x => decide (n < x)) j
                  generalize cK lt (fun x => decide (n ≤ x)) j = ca at HY1 HN1 hk1 ⊢
                  generalize cK lt (fun x => decide (n < x)) j = cb at HY2 HN2 hk2 ⊢
                  generalize lt.getD j 0 = y at hcj HY1 HN1 HY2 HN2
                  by_cases hc1 : n ≤ y
                  · have HE1 := hide (unhide HY1 (decide_eq_true hc1))
                    by_cases hc2 : n < y
                    · have HE2 := hide (unhide HY2 (decide_eq_true hc2))
                      clear HY1 HN1 HY2 HN2
                      go_wp2
                      go_roundw
                      case rel => exact ⟨j + 1, by omega, by go_num, by rw [unhide HE1]; go_num, by rw [unhide HE2]; go_num, by first | rfl | trivial⟩
                      case measure => simp [intOf]; omega
                    · have HE2 := hide (unhide HN2 (decide_eq_false hc2))
                      clear HY1 HN1 HY2 HN2
                      go_wp2
                      go_roundw
                      case rel => exact ⟨j + 1, by omega, by go_num, by rw [unhide HE1]; go_num, by rw [unhide HE2], by first | rfl | trivial⟩
                      case measure => simp [intOf]; omega
                  · have hc2 : ¬ n < y := by omega
                    have HE1 := hide (unhide HN1 (decide_eq_false hc1))
                    have HE2 := hide (unhide HN2 (decide_eq_false hc2))
                    clear HY1 HN1 HY2 HN2
                    go_wp2
                    go_roundw
                    case rel => exact ⟨j + 1, by omega, by go_num, by rw [unhide HE1], by rw [unhide HE2], by first | rfl | trivial⟩
                    case measure => simp [intOf]; omega
                · obtain rfl : n4 = j := by omega
                  have hca : cK lt (fun x => decide (n ≤ x)) n4 = geC lt n := by rw [← (unhide H4).1]; exact cK_all _ _
                  have hcb : cK lt (fun x => decide (n < x)) n4 = gtC lt n := by rw [← (unhide H4).1]; exact cK_all _ _
                  have hk1 := cK_le lt (fun x => decide (n ≤ x)) n4
                  have hk2 := cK_le lt (fun x => decide (n < x)) n4
                  obtain ⟨i1, i2, i3⟩ := unhide HIL
                  rw [(unhide H4).1, ← hca] at i1
                  rw [(unhide H4).1, ← hcb] at i2
                  have HI3 := hide i3
                  generalize cK lt (fun x => decide (n ≤ x)) n4 = ca at i1 hk1 ⊢
                  generalize cK lt (fun x => decide (n < x)) n4 = cb at i2 hk2 ⊢
                  have hw1 : IntKind.i64.wrap (2 * (ca : Int)) = 2 * (ca : Int) := by rw [IntKind.wrap_i64]; omega
                  have hw2 : IntKind.i64.wrap (2 * (cb : Int)) = 2 * (cb : Int) := by rw [IntKind.wrap_i64]; omega
                  have hg1 : ¬ 2 * (ca : Int) ≤ (n4 : Int) := by omega
                  have hg2 : ¬ (n4 : Int) < 2 * (cb : Int) := by omega
                  clear hca hcb i1 i2 i3 HIL HN
                  go_wp2_with fail
                  refine (in_any a4 n4 c4 lt n _ ((unhide H4).below (bnx (unhide HB1) (unhide HQ7)))).mono ?_
                  rintro e w8 ⟨⟨z, rfl, HZ⟩, hw⟩
                  obtain rfl := hw.symm
                  have hz0 : 0 ≤ z := by
                    rcases unhide HZ with ⟨_, h, _⟩ | ⟨h, _⟩
                    · exact h
                    · exact absurd (unhide HI3) h
                  clear HZ hw
                  go_wp2
                  go_roundw
                  case rel => exact ⟨k + 1, by omega, by go_num, bnx (unhide HB1) (unhide HQ7)⟩
                  case measure => simp [intOf]; omega
          · have HQ6 : Hid (Below w1.heap.size w1 w6) := bnx (unhide HQ5) hb
            have HE : Hid (ErrX w6 (.iface 62 y) 1) := ErrB.errX (.inr hE)
            clear hb hE p0 p1 p2 p3 p4 HQ5
            go_wp2_with fail
            refine (num_err _ 1 _ ((unhide HG).below (bnx (unhide HB1) (unhide HQ6)) (unhide HG).pos) (unhide HE)).mono ?_
            rintro e w7 ⟨rfl, hb⟩
            have HQ7 : Hid (Below w1.heap.size w1 w7) := bnx (unhide HQ6) hb
            clear hb HE HQ6
            go_wp2
            go_roundw
            case rel => exact ⟨k + 1, by omega, by go_num, bnx (unhide HB1) (unhide HQ7)⟩
            case measure => simp [intOf]; omega
      · have HQ3 : Hid (Below w1.heap.size w1 w3) := bnx (unhide HQ2) hb
        have HE : Hid (ErrX w3 (.iface 62 x) 1) := ErrB.errX (.inr hE)
        clear hb hE p0 p1 p2 p3 p4
        go_wp2_with fail
        refine (num_err _ 1 _ ((unhide HG).below (bnx (unhide HB1) (unhide HQ3)) (unhide HG).pos) (unhide HE)).mono ?_
        rintro e w4 ⟨rfl, hb⟩
        have HQ5 : Hid (Below w1.heap.size w1 w4) := bnx (unhide HQ3) hb
        clear hb HE
        obtain ⟨p0, p1, p2, p3, p4⟩ := (unhide HP) _ (unhide HQ5)
        go_wp2_with fail
        refine (idx_any a1 a4 n1 c1 n4 c4 lm lt _ ((unhide H1).below (bnx (unhide HB1) (unhide HQ5))) ((unhide H4).below (bnx (unhide HB1) (unhide HQ5)))).mono ?_
        rintro e w6 (⟨hF, rfl, hb⟩ | ⟨hF, y, rfl, hE, hb⟩)
        · have HQ6 : Hid (Below w1.heap.size w1 w6) := bnx (unhide HQ5) hb
          have hn41 : n4 = n1 := by
            unfold fitB at hF
            have h1 := (unhide H1).1
            have h4 := (unhide H4).1
            have h5 : lt.length = lm.length := by
              rw [Bool.and_eq_true, Bool.and_eq_true] at hF
              exact of_decide_eq_true hF.1.2
            omega
          clear hb p0 p1 p2 p3 p4 hF HQ5
          subst hn41
          obtain ⟨n, hn⟩ : ∃ n, n = idxQ lt := ⟨_, rfl⟩
          have HN := hide hn
          rw [← hn]
          clear hn
          go_wp2_with fail
          refine (num_err _ 0 _ ((unhide HG).below (bnx (unhide HB1) (unhide HQ6)) (unhide HG).pos) ((ErrB.nil _).errX)).mono ?_
          rintro e w7 ⟨rfl, hb⟩
          have HQ7 : Hid (Below w1.heap.size w1 w7) := bnx (unhide HQ6) hb
          clear hb HQ6
          obtain ⟨p0, p1, p2, p3, p4⟩ := (unhide HP) _ (unhide HQ7)
          by_cases hz : n4 = 0
          · have hz1 : ((n4 : Int) == 0) = true := beq_iff_eq.2 (by omega)
            clear hz
            go_wp2
            go_roundw
            case rel => exact ⟨k + 1, by omega, by go_num, bnx (unhide HB1) (unhide HQ7)⟩
            case measure => simp [intOf]; omega
          · have hz1 : ((n4 : Int) == 0) = false := beq_eq_false_iff_ne.2 (by omega)
            have hne : lt ≠ [] := fun h => hz (by have := (unhide H4).1; rw [h] at this; simpa using this.symm)
            have HIL := hide (idx_laws hne)
            rw [← unhide HN] at HIL
            clear hz hne
            go_wp2
            go_loopw [14, 15, 16] (fun he ab i wi => ∃ j : Nat, j ≤ n4 ∧ i = .int .i64 j ∧ he = .int .i64 (cK lt (fun x => decide (n ≤ x)) j : Nat) ∧ ab = .int .i64 (cK lt (fun x => decide (n < x)) j : Nat) ∧ wi = w7) (fun _ _ i _ => n4 - (intOf i).toNat)
            case atStart => exact ⟨0, Nat.zero_le _, rfl, rfl, rfl, rfl⟩
            case round =>
              obtain ⟨j, hj, rfl, rfl, rfl, rfl⟩ := hrel
              by_cases hlj : j < n4
              · obtain ⟨b, o', rfl, hcj⟩ := ((unhide H4).below (bnx (unhide HB1) (unhide HQ7))).at hlj
                have HY1 := hide (fun h => cK_yes (l := lt) (p := fun x => decide (n ≤ x)) (show j < lt.length by rw [(unhide H4).1]; exact hlj) h)
                have HN1 := hide (fun h => cK_no (l := lt) (p := fun x => decide (n ≤ x)) (show j < lt.length by rw [(unhide H4).1]; exact hlj) h)
                have HY2 := hide (fun h => cK_yes (l := lt) (p := fun x => decide (n < x)) (show j < lt.length by rw [(unhide H4).1]; exact hlj) h)
                have HN2 := hide (fun h => cK_no (l := lt) (p := fun x => decide (n < x)) (show j < lt.length by rw [(unhide H4).1]; exact hlj) h)
                have hk1 := cK_le lt (fun x => decide (n ≤ x)) j
                have hk2 := cK_le lt (fun x => decide (n < x)) j
                generalize cK lt (fun x => decide (n ≤ x)) j = ca at HY1 HN1 hk1 ⊢
                generalize cK lt (fun x => decide (n < x)) j = cb at HY2 HN2 hk2 ⊢
                generalize lt.getD j 0 = y at hcj HY1 HN1 HY2 HN2
                by_cases hc1 : n ≤ y
                · have HE1 := hide (unhide HY1 (decide_eq_true hc1))
                  by_cases hc2 : n < y
                  · have HE2 := hide (unhide HY2 (decide_eq_true hc2))
                    clear HY1 HN1 HY2 HN2
                    go_wp2
                    go_roundw
                    case rel => exact ⟨j + 1, by omega, by go_num, by rw [unhide HE1]; go_num, by rw [unhide HE2]; go_num, by first | rfl | trivial⟩
                    case measure => simp [intOf]; omega
                  · have HE2 := hide (unhide HN2 (decide_eq_false hc2))
                    clear HY1 HN1 HY2 HN2
                    go_wp2
                    go_roundw
                    case rel => exact ⟨j + 1, by omega, by go_num, by rw [unhide HE1]; go_num, by rw [unhide HE2], by first | rfl | trivial⟩
                    case measure => simp [intOf]; omega
                · have hc2 : ¬ n < y := by omega
                  have HE1 := hide (unhide HN1 (decide_eq_false hc1))
                  have HE2 := hide (unhide HN2 (decide_eq_false hc2))
                  clear HY1 HN1 HY2 HN2
                  go_wp2
                  go_roundw
                  case rel => exact ⟨j + 1, by omega, by go_num, by rw [unhide HE1], by rw [unhide HE2], by first | rfl | trivial⟩
                  case measure => simp [intOf]; omega
              · obtain rfl : n4 = j := by omega
                have hca : cK lt (fun x => decide (n ≤ x)) n4 = geC lt n := by rw [← (unhide H4).1]; exact cK_all _ _
                have hcb : cK lt (fun x => decide (n < x)) n4 = gtC lt n := by rw [← (unhide H4).1]; exact cK_all _ _
                have hk1 := cK_le lt (fun x => decide (n ≤ x)) n4
                have hk2 := cK_le lt (fun x => decide (n < x)) n4
                obtain ⟨i1, i2, i3⟩ := unhide HIL
                rw [(unhide H4).1, ← hca] at i1
                rw [(unhide H4).1, ← hcb] at i2
                have HI3 := hide i3
                generalize cK lt (fun x => decide (n ≤ x)) n4 = ca at i1 hk1 ⊢
                generalize cK lt (fun x => decide (n < x)) n4 = cb at i2 hk2 ⊢
                have hw1 : IntKind.i64.wrap (2 * (ca : Int)) = 2 * (ca : Int) := by rw [IntKind.wrap_i64]; omega
                have hw2 : IntKind.i64.wrap (2 * (cb : Int)) = 2 * (cb : Int) := by rw [IntKind.wrap_i64]; omega
                have hg1 : ¬ 2 * (ca : Int) ≤ (n4 : Int) := by omega
                have hg2 : ¬ (n4 : Int) < 2 * (cb : Int) := by omega
                clear hca hcb i1 i2 i3 HIL HN
                go_wp2_with fail
                refine (in_any a4 n4 c4 lt n _ ((unhide H4).below (bnx (unhide HB1) (unhide HQ7)))).mono ?_
                rintro e w8 ⟨⟨z, rfl, HZ⟩, hw⟩
                obtain rfl := hw.symm
                have hz0 : 0 ≤ z := by
                  rcases unhide HZ with ⟨_, h, _⟩ | ⟨h, _⟩
                  · exact h
                  · exact absurd (unhide HI3) h
                clear HZ hw
                go_wp2
                go_roundw
                case rel => exact ⟨k + 1, by omega, by go_num, bnx (unhide HB1) (unhide HQ7)⟩
                case measure => simp [intOf]; omega
        · have HQ6 : Hid (Below w1.heap.size w1 w6) := bnx (unhide HQ5) hb
          have HE : Hid (ErrX w6 (.iface 62 y) 1) := ErrB.errX (.inr hE)
          clear hb hE p0 p1 p2 p3 p4 HQ5
          go_wp2_with fail
          refine (num_err _ 1 _ ((unhide HG).below (bnx (unhide HB1) (unhide HQ6)) (unhide HG).pos) (unhide HE)).mono ?_
          rintro e w7 ⟨rfl, hb⟩
          have HQ7 : Hid (Below w1.heap.size w1 w7) := bnx (unhide HQ6) hb
          clear hb HE HQ6
          go_wp2
          go_roundw
          case rel => exact ⟨k + 1, by omega, by go_num, bnx (unhide HB1) (unhide HQ7)⟩
          case measure => simp [intOf]; omega
    · have hend : ¬ (k : Int) < (len : Int) ∨ ¬ (k : Int) < 8 := by omega
      by_cases h9 : (k : Int) < (len : Int)
      · have h9b : ¬ (k : Int) < 8 := by omega
        go_wp2_with fail
        refine (wakes_any _ ((unhide HG).below (unhide HB) (unhide HG).pos)).mono ?_
        rintro e w9 ⟨rfl, hb9⟩
        have HB9 : Hid (Below w.heap.size w w9) := bnx (unhide HB) hb9
        clear hb9
        go_wp2
        go_ret
        exact ⟨rfl, unhide HB9⟩
      · go_wp2_with fail
        refine (wakes_any _ ((unhide HG).below (unhide HB) (unhide HG).pos)).mono ?_
        rintro e w9 ⟨rfl, hb9⟩
        have HB9 : Hid (Below w.heap.size w w9) := bnx (unhide HB) hb9
        clear hb9
        go_wp2
        go_ret
        exact ⟨rfl, unhide HB9⟩
theorem meet16_walk0 (ao : Option Addr) (cap : Nat) (w : World) (hg : Laid w) :
    Calls Tryd.prog 4 #[.slice ao 0 cap] w fun e w' => e = .returned (.bool true) ∧ Below w.heap.size w w' := by
  have HG := hide hg
  have HB : Hid (Below w.heap.size w w) := Below.refl _ _
  clear hg
  go_enter Tryd.func4, Tryd.ntmps4
  go_wp2
  refine wp_loop_rounds 1 ?_
  rw [rounds_succ]
  go_wp2_with fail
  refine (wakes_any _ ((unhide HG).below (unhide HB) (unhide HG).pos)).mono ?_
  rintro e w9 ⟨rfl, hb9⟩
  have HB9 : Hid (Below w.heap.size w w9) := bnx (unhide HB) hb9
  clear hb9
  go_wp2
  go_ret
  exact ⟨rfl, unhide HB9⟩
end Go.Proofs.YtnflgfpicigajaaDoor.Qu
