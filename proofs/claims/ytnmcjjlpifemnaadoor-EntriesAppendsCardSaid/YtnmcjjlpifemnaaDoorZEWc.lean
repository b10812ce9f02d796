/- Proved here: the walk of dovecotelaw15.EntriesAppends: whatever logs it is handed, it returns true. Helper contract. -/
import Derived.Test.YtnmcjjlpifemnaaDoorZEOk
import Derived.Test.YtnmcjjlpifemnaaDoorZEPb
import Derived.Test.YtnmcjjlpifemnaaDoorZKTk
import Derived.Deep.CutRange
namespace Go.Proofs.YtnmcjjlpifemnaaDoor.Et
open Go.RowKit Nt
set_option maxRecDepth 100000

set_option maxHeartbeats 8000000 in
theorem apps15_walk (g off len cap : Nat) (f : Nat → Ak) (w : World) (hg : Laid w) (ha : AksIn w g off f len) :
    Calls Tryd.prog 8 #[.slice (some ⟨g, off, none⟩) len cap] w fun e w' => e = .returned (.bool true) ∧ Below w.heap.size w w' := by
  have HA := hide ha
  have HG := hide hg
  clear ha hg
  go_enter Tryd.func8, Tryd.ntmps8
  go_wp2
  go_loopw [3] (fun ii wr => ∃ k : Nat, k ≤ len ∧ ii = .int .i64 k ∧ Hid (Below w.heap.size w wr)) (fun ii _ => len - (intOf ii).toNat)
  case atStart => exact ⟨0, Nat.zero_le _, rfl, Below.refl _ _⟩
  case round =>
    obtain ⟨k, hk, rfl, HB⟩ := hrel
    by_cases h8 : k < len ∧ k < 8
    · obtain ⟨hlt, h8⟩ := h8
      obtain ⟨⟨q0, q1, q2, q3, q4, q5, q6⟩, hl1, hl2⟩ := (unhide HA) k hlt
      generalize f k = ak at q0 q1 q2 q3 q4 q5 q6 hl1 hl2
      obtain ⟨b, t, ⟨a1, n1, p1⟩, l1, i, tt, ⟨a2, n2, p2⟩, l2, kk⟩ := ak
      dsimp only at q0 q1 q2 q3 q4 q5 q6 hl1 hl2
      have HC : Hid (∀ W, Below w.heap.size w W → W.cell? ⟨g, off + k * 7, none⟩ = some (.int .i64 b) ∧ W.cell? ⟨g, off + k * 7 + 1, none⟩ = some (.int .i64 t) ∧ W.cell? ⟨g, off + k * 7 + 2, none⟩ = some (.slice a1 n1 p1) ∧ W.cell? ⟨g, off + k * 7 + 3, none⟩ = some (.int .i64 i) ∧ W.cell? ⟨g, off + k * 7 + 4, none⟩ = some (.int .i64 tt) ∧ W.cell? ⟨g, off + k * 7 + 5, none⟩ = some (.slice a2 n2 p2) ∧ W.cell? ⟨g, off + k * 7 + 6, none⟩ = some (.int .i64 kk)) := fun W hW =>
        ⟨(hW.cell (p := ⟨g, off + k * 7, none⟩) (cell_lt q0)).trans q0, (hW.cell (p := ⟨g, off + k * 7 + 1, none⟩) (cell_lt q1)).trans q1, (hW.cell (p := ⟨g, off + k * 7 + 2, none⟩) (cell_lt q2)).trans q2, (hW.cell (p := ⟨g, off + k * 7 + 3, none⟩) (cell_lt q3)).trans q3, (hW.cell (p := ⟨g, off + k * 7 + 4, none⟩) (cell_lt q4)).trans q4, (hW.cell (p := ⟨g, off + k * 7 + 5, none⟩) (cell_lt q5)).trans q5, (hW.cell (p := ⟨g, off + k * 7 + 6, none⟩) (cell_lt q6)).trans q6⟩
      have H1 := hide hl1
      have H2 := hide hl2
      have hn1 := hl1.2.2.2.1
      clear q0 q1 q2 q3 q4 q5 q6 hl1 hl2
      obtain ⟨q0, q1, q2, q3, q4, q5, q6⟩ := (unhide HC) _ (unhide HB)
      go_wp2_with fail
      refine (ok_any b t i tt kk a1 a2 n1 p1 n2 p2 l1 l2 _ ((unhide H1).below (unhide HB)) ((unhide H2).below (unhide HB))).mono ?_
      rintro e w1 ⟨⟨d, rfl, hd⟩, hb⟩
      have HB1 : Hid (Below w.heap.size w w1) := bnx (unhide HB) hb
      clear hb q0 q1 q2 q3 q4 q5 q6
      cases d
      · clear hd
        go_wp2
        go_roundw
        case rel => exact ⟨k + 1, by omega, by go_num, HB1⟩
        case measure => simp [intOf]; omega
      · obtain ⟨hm, hn2, _⟩ := hd rfl
        clear hd
        have HM := hide hm
        obtain ⟨⟨x, ⟨lb, lt, le⟩⟩, hr⟩ : ∃ r, r = apR ⟨b, t, l1⟩ l2 := ⟨_, rfl⟩
        have HR : Hid (chkR ⟨b, t, l1⟩ (apR ⟨b, t, l1⟩ l2) = (x, ⟨lb, lt, le⟩)) := (chkR_ok hm _).trans hr.symm
        have HRp : Hid (apR ⟨b, t, l1⟩ l2 = (x, ⟨lb, lt, le⟩)) := hr.symm
        clear hm hr
        go_upto_region 5 with fail
        go_cut [4, 5] from 8 to 61 (fun s4 s5 wx => ∃ (R : Nat) (E : Value) (ao : Option Addr) (n c : Nat), s4 = .pointer (some ⟨R, 0, none⟩) ∧ s5 = E ∧ Hid (Bx wx R [.int .i64 lb, .int .i64 lt, .slice ao n c] 25) ∧ Hid (OwnL wx w1.heap.size ⟨lb, lt, le⟩ ao n c) ∧ Hid (ErrX wx E x) ∧ Hid (Below w1.heap.size w1 wx))
        case first =>
          refine wp_region_noPanic ?_
          have HBd : Hid (Below w1.heap.size w1 w1.drew) := below_drewN (Below.refl _ _) 1
          refine wp_region_held_drew (S := fun W => W.cell? ⟨g, off + k * 7, none⟩ = some (.int .i64 b) ∧ W.cell? ⟨g, off + k * 7 + 1, none⟩ = some (.int .i64 t) ∧ W.cell? ⟨g, off + k * 7 + 2, none⟩ = some (.slice a1 n1 p1) ∧ W.cell? ⟨g, off + k * 7 + 3, none⟩ = some (.int .i64 i) ∧ W.cell? ⟨g, off + k * 7 + 4, none⟩ = some (.int .i64 tt) ∧ W.cell? ⟨g, off + k * 7 + 5, none⟩ = some (.slice a2 n2 p2) ∧ W.cell? ⟨g, off + k * 7 + 6, none⟩ = some (.int .i64 kk)) (by kernel_rfl) ((unhide HC) _ (bnx (unhide HB1) (unhide HBd))) (fun hHeld => ?_)
          refine rtk 0 (h := ?_)
          refine rtk 1 (h := ?_)
          refine rtk 2 (h := ?_)
          refine rtk 3 (h := ?_)
          refine rtk 4 (h := ?_)
          refine rtk 5 (h := ?_)
          refine rtk 6 (h := ?_)
          refine rtk 7 (h := ?_)
          refine rtk 8 (h := ?_)
          refine rtk 9 (h := ?_)
          generalize w1.drew = wd at HBd hHeld ⊢
          refine wpAnyH_ready (rs := [10, 14]) (by kernel_rfl) (by simp) (rac (h := fun K hK => ?_) (hs := rac (h := fun K hK => ?_) (hs := AllReadyH.nil)))
          · go_simp
            refine (appE_any b t a1 n1 p1 l1 a2 n2 p2 l2 _ ((unhide H1).below (bnx (unhide HB1) (unhide HBd))) ((unhide H2).below (bnx (unhide HB1) (unhide HBd)))).mono ?_
            rw [unhide HR]
            rintro e w2 ⟨⟨E, ao, n, c, rfl, HO, HE⟩, HB2⟩
            have HBA2 : Hid (Below w1.heap.size w1 w2) := bnx (unhide HBd) (unhide HB2)
            refine hK.out _ _ ((unhide HC) _ (bnx (unhide HB1) (unhide HBA2))) (fun hHeld2 => ?_)
            clear hK K hHeld
            refine rtk 11 (h := ?_)
            refine rtk 12 (h := ?_)
            refine rtk 13 (h := ?_)
            refine rcl 14 (h := fun K hK => ?_)
            go_simp
            refine hK.out _ _ ((unhide HC) _ (bnx (unhide HB1) (bnx (unhide HBA2) ((Below.refl _ _).alloc (Nat.le_refl _) _)))) (fun hHeld3 => ?_)
            clear hK K hHeld2
            refine rcl 15 (h := fun K hK => ?_)
            go_simp
            refine hK.out _ _ ((unhide HC) _ (bnx (unhide HB1) (bnx (unhide HBA2) ((Below.refl _ _).alloc (Nat.le_refl _) _)))) (fun hHeld4 => ?_)
            clear hK K hHeld3
            refine rcl 16 (h := fun K hK => ?_)
            go_simp
            refine hK.out _ _ hHeld4 (fun hHeld5 => ?_)
            clear hK K
            refine wpAnyH_done (by kernel_rfl) ?_ _
            refine NoPanic.normal ?_
            go_wp2_with fail
            go_meet
            case rel => exact ⟨_, _, _, _, _, rfl, rfl, Bx.new _ _ _ _ rfl, ((unhide HO).mono (unhide HBd).size).below ((Below.refl _ _).alloc (Nat.le_refl _) _), ((unhide HE).below ((Below.refl _ _).alloc (Nat.le_refl _) _)).errX, bnx (unhide HBA2) ((Below.refl _ _).alloc (Nat.le_refl _) _)⟩
          · go_simp
            have HBe : Hid (Below w1.heap.size w1 (wd.alloc (.cells #[.int .i64 0, .int .i64 0, .slice none 0 0] 25))) := bnx (unhide HBd) ((Below.refl _ _).alloc (Nat.le_refl _) _)
            have HXe : Hid (Bx (wd.alloc (.cells #[.int .i64 0, .int .i64 0, .slice none 0 0] 25)) wd.heap.size [.int .i64 0, .int .i64 0, .slice none 0 0] 25) := Bx.new _ _ _ _ rfl
            have hse : (wd.alloc (.cells #[.int .i64 0, .int .i64 0, .slice none 0 0] 25)).heap.size = wd.heap.size + 1 := by simp
            have hsd : w1.heap.size ≤ wd.heap.size := (unhide HBd).size
            refine hK.out _ _ ((unhide HC) _ (bnx (unhide HB1) (unhide HBe))) (fun hHeld2 => ?_)
            clear hK K hHeld
            generalize wd.alloc (.cells #[.int .i64 0, .int .i64 0, .slice none 0 0] 25) = we at HBe HXe hse hHeld2 ⊢
            refine rcl 10 (h := fun K hK => ?_)
            go_simp
            refine (appE_any b t a1 n1 p1 l1 a2 n2 p2 l2 _ ((unhide H1).below (bnx (unhide HB1) (unhide HBe))) ((unhide H2).below (bnx (unhide HB1) (unhide HBe)))).mono ?_
            rw [unhide HR]
            rintro e w2 ⟨⟨E, ao, n, c, rfl, HO, HE⟩, HB2⟩
            have HBB2 : Hid (Below w1.heap.size w1 w2) := bnx (unhide HBe) (unhide HB2)
            have HX2 := hide ((unhide HXe).below (unhide HB2))
            rw [hse] at HO HE
            refine hK.out _ _ ((unhide HC) _ (bnx (unhide HB1) (unhide HBB2))) (fun hHeld3 => ?_)
            clear hK K hHeld2
            refine rtk 11 (h := ?_)
            refine rtk 12 (h := ?_)
            refine rtk 13 (h := ?_)
            obtain ⟨⟨z0, z1, z2⟩, zf0, zf1, zf2⟩ := bx_slot (unhide HX2)
            refine rcl 15 (h := fun K hK => ?_)
            go_simp
            refine hK.out _ _ ((unhide HC) _ (bnx (unhide HB1) (put3_below (unhide HBB2) hsd))) (fun hHeld4 => ?_)
            clear hK K hHeld3
            refine rcl 16 (h := fun K hK => ?_)
            go_simp
            refine hK.out _ _ hHeld4 (fun hHeld5 => ?_)
            clear hK K
            refine wpAnyH_done (by kernel_rfl) ?_ _
            refine NoPanic.normal ?_
            go_wp2_with fail
            go_meet
            case rel => exact ⟨_, _, _, _, _, rfl, rfl, put3_bx (unhide HX2) _ _ _, ((unhide HO).put3 (by omega)).mono (by omega), ((unhide HE).put3 (by omega)).errX, put3_below (unhide HBB2) hsd⟩
        case rest =>
          obtain ⟨wv, hwv⟩ : ∃ wv, wv = wc := ⟨_, rfl⟩
          subst hwv
          obtain ⟨R5, E5, a5, n5, c5, rfl, h5e, HX5, HO5, HE5, HB5⟩ := hcut
          obtain rfl := h5e.symm
          have HBc : Hid (Below w.heap.size w wv) := bnx (unhide HB1) (unhide HB5)
          clear HR
          go_upto_region 6 with fail
          go_cut [6, 7] from 8 to 61 (fun s6 s7 wx => ∃ (R : Nat) (ao : Option Addr) (n c : Nat), s6 = .pointer (some ⟨R, 0, none⟩) ∧ s7 = .int .i64 x ∧ Hid (Bx wx R [.int .i64 lb, .int .i64 lt, .slice ao n c] 25) ∧ Hid (OwnL wx wv.heap.size ⟨lb, lt, le⟩ ao n c) ∧ Hid (Below wv.heap.size wv wx))
          case first =>
            refine wp_region_noPanic ?_
            have HBd : Hid (Below wv.heap.size wv wv.drew) := below_drewN (Below.refl _ _) 1
            refine wp_region_held_drew (S := fun W => W.cell? ⟨g, off + k * 7, none⟩ = some (.int .i64 b) ∧ W.cell? ⟨g, off + k * 7 + 1, none⟩ = some (.int .i64 t) ∧ W.cell? ⟨g, off + k * 7 + 2, none⟩ = some (.slice a1 n1 p1) ∧ W.cell? ⟨g, off + k * 7 + 3, none⟩ = some (.int .i64 i) ∧ W.cell? ⟨g, off + k * 7 + 4, none⟩ = some (.int .i64 tt) ∧ W.cell? ⟨g, off + k * 7 + 5, none⟩ = some (.slice a2 n2 p2) ∧ W.cell? ⟨g, off + k * 7 + 6, none⟩ = some (.int .i64 kk)) (by kernel_rfl) ((unhide HC) _ (bnx (unhide HBc) (unhide HBd))) (fun hHeld => ?_)
            refine rtk 0 (h := ?_)
            refine rtk 1 (h := ?_)
            refine rtk 2 (h := ?_)
            refine rtk 3 (h := ?_)
            refine rtk 4 (h := ?_)
            refine rtk 5 (h := ?_)
            refine rtk 6 (h := ?_)
            refine rtk 7 (h := ?_)
            refine rtk 8 (h := ?_)
            refine rtk 9 (h := ?_)
            generalize wv.drew = wd at HBd hHeld ⊢
            refine wpAnyH_ready (rs := [10, 14]) (by kernel_rfl) (by simp) (rac (h := fun K hK => ?_) (hs := rac (h := fun K hK => ?_) (hs := AllReadyH.nil)))
            · go_simp
              refine (appP_any b t a1 n1 p1 l1 a2 n2 p2 l2 _ ((unhide H1).below (bnx (unhide HBc) (unhide HBd))) ((unhide H2).below (bnx (unhide HBc) (unhide HBd))) (unhide HM)).mono ?_
              rw [unhide HRp]
              rintro e w2 ⟨⟨ao, n, c, rfl, HO⟩, HB2⟩
              have HBA2 : Hid (Below wv.heap.size wv w2) := bnx (unhide HBd) (unhide HB2)
              refine hK.out _ _ ((unhide HC) _ (bnx (unhide HBc) (unhide HBA2))) (fun hHeld2 => ?_)
              clear hK K hHeld
              refine rtk 11 (h := ?_)
              refine rtk 12 (h := ?_)
              refine rtk 13 (h := ?_)
              refine rcl 14 (h := fun K hK => ?_)
              go_simp
              refine hK.out _ _ ((unhide HC) _ (bnx (unhide HBc) (bnx (unhide HBA2) ((Below.refl _ _).alloc (Nat.le_refl _) _)))) (fun hHeld3 => ?_)
              clear hK K hHeld2
              refine rcl 15 (h := fun K hK => ?_)
              go_simp
              refine hK.out _ _ ((unhide HC) _ (bnx (unhide HBc) (bnx (unhide HBA2) ((Below.refl _ _).alloc (Nat.le_refl _) _)))) (fun hHeld4 => ?_)
              clear hK K hHeld3
              refine rcl 16 (h := fun K hK => ?_)
              go_simp
              refine hK.out _ _ hHeld4 (fun hHeld5 => ?_)
              clear hK K
              refine wpAnyH_done (by kernel_rfl) ?_ _
              refine NoPanic.normal ?_
              go_wp2_with fail
              go_meet
              case rel => exact ⟨_, _, _, _, rfl, rfl, Bx.new _ _ _ _ rfl, ((unhide HO).mono (unhide HBd).size).below ((Below.refl _ _).alloc (Nat.le_refl _) _), bnx (unhide HBA2) ((Below.refl _ _).alloc (Nat.le_refl _) _)⟩
            · go_simp
              have HBe : Hid (Below wv.heap.size wv (wd.alloc (.cells #[.int .i64 0, .int .i64 0, .slice none 0 0] 25))) := bnx (unhide HBd) ((Below.refl _ _).alloc (Nat.le_refl _) _)
              have HXe : Hid (Bx (wd.alloc (.cells #[.int .i64 0, .int .i64 0, .slice none 0 0] 25)) wd.heap.size [.int .i64 0, .int .i64 0, .slice none 0 0] 25) := Bx.new _ _ _ _ rfl
              have hse : (wd.alloc (.cells #[.int .i64 0, .int .i64 0, .slice none 0 0] 25)).heap.size = wd.heap.size + 1 := by simp
              have hsd : wv.heap.size ≤ wd.heap.size := (unhide HBd).size
              refine hK.out _ _ ((unhide HC) _ (bnx (unhide HBc) (unhide HBe))) (fun hHeld2 => ?_)
              clear hK K hHeld
              generalize wd.alloc (.cells #[.int .i64 0, .int .i64 0, .slice none 0 0] 25) = we at HBe HXe hse hHeld2 ⊢
              refine rcl 10 (h := fun K hK => ?_)
              go_simp
              refine (appP_any b t a1 n1 p1 l1 a2 n2 p2 l2 _ ((unhide H1).below (bnx (unhide HBc) (unhide HBe))) ((unhide H2).below (bnx (unhide HBc) (unhide HBe))) (unhide HM)).mono ?_
              rw [unhide HRp]
              rintro e w2 ⟨⟨ao, n, c, rfl, HO⟩, HB2⟩
              have HBB2 : Hid (Below wv.heap.size wv w2) := bnx (unhide HBe) (unhide HB2)
              have HX2 := hide ((unhide HXe).below (unhide HB2))
              rw [hse] at HO
              refine hK.out _ _ ((unhide HC) _ (bnx (unhide HBc) (unhide HBB2))) (fun hHeld3 => ?_)
              clear hK K hHeld2
              refine rtk 11 (h := ?_)
              refine rtk 12 (h := ?_)
              refine rtk 13 (h := ?_)
              obtain ⟨⟨z0, z1, z2⟩, zf0, zf1, zf2⟩ := bx_slot (unhide HX2)
              refine rcl 15 (h := fun K hK => ?_)
              go_simp
              refine hK.out _ _ ((unhide HC) _ (bnx (unhide HBc) (put3_below (unhide HBB2) hsd))) (fun hHeld4 => ?_)
              clear hK K hHeld3
              refine rcl 16 (h := fun K hK => ?_)
              go_simp
              refine hK.out _ _ hHeld4 (fun hHeld5 => ?_)
              clear hK K
              refine wpAnyH_done (by kernel_rfl) ?_ _
              refine NoPanic.normal ?_
              go_wp2_with fail
              go_meet
              case rel => exact ⟨_, _, _, _, rfl, rfl, put3_bx (unhide HX2) _ _ _, ((unhide HO).put3 (by omega)).mono (by omega), put3_below (unhide HBB2) hsd⟩
          case rest =>
            obtain ⟨R6, a6, n6, c6, rfl, rfl, HX6, HO6, HB6⟩ := hcut
            have HBf : Hid (Below w.heap.size w wc) := bnx (unhide HBc) (unhide HB6)
            have HX5' := hide ((unhide HX5).below (unhide HB6))
            have HO5' := hide ((unhide HO5).below (unhide HB6))
            have HE5' := hide ((unhide HE5).below (unhide HB6))
            have hnn : n5 = n6 := (unhide HO5).2.1.symm.trans (unhide HO6).2.1
            subst hnn
            clear HX5 HO5 HE5 HRp
            go_wp2_with fail
            refine (num_err E5 x wc ((unhide HG).below (unhide HBf) (unhide HG).pos) (unhide HE5')).mono ?_
            rintro e w7 ⟨rfl, hb⟩
            have HB7 : Hid (Below w.heap.size w w7) := bnx (unhide HBf) hb
            have HX57 := hide ((unhide HX5').below hb)
            have HX67 := hide ((unhide HX6).below hb)
            have HO57 := hide ((unhide HO5').below hb)
            have HO67 := hide ((unhide HO6).below hb)
            clear hb HX5' HX6 HO5' HO6
            obtain ⟨⟨x0, x1, x2⟩, xf⟩ := bx_slot (unhide HX57)
            obtain ⟨⟨y0, y1, y2⟩, yf⟩ := bx_slot (unhide HX67)
            clear xf yf
            go_wp2_with fail
            refine (eqL_same lb lt a5 a6 n5 c5 c6 le w7 (unhide HO57).es (unhide HO67).es).mono ?_
            rintro e w8 ⟨rfl, hb⟩
            have HB8 : Hid (Below w.heap.size w w8) := bnx (unhide HB7) hb
            clear hb
            go_wp2
            go_roundw
            case rel => exact ⟨k + 1, by omega, by go_num, HB8⟩
            case measure => simp [intOf]; omega
    · have hend : ¬ (k : Int) < (len : Int) ∨ ¬ (k : Int) < 8 := by omega
      by_cases h9 : (k : Int) < (len : Int)
      · have h9b : ¬ (k : Int) < 8 := by omega
        go_wp2_with fail
        refine (wakes_any _ ((unhide HG).below (unhide HB) (unhide HG).pos)).mono ?_
        rintro e w9 ⟨rfl, hb9⟩
        have HB9 : Hid (Below w.heap.size w w9) := bnx (unhide HB) hb9
        clear hb9
        go_wp2
        go_ret
        exact ⟨rfl, unhide HB9⟩
      · go_wp2_with fail
        refine (wakes_any _ ((unhide HG).below (unhide HB) (unhide HG).pos)).mono ?_
        rintro e w9 ⟨rfl, hb9⟩
        have HB9 : Hid (Below w.heap.size w w9) := bnx (unhide HB) hb9
        clear hb9
        go_wp2
        go_ret
        exact ⟨rfl, unhide HB9⟩
theorem apps15_walk0 (ao : Option Addr) (cap : Nat) (w : World) (hg : Laid w) :
    Calls Tryd.prog 8 #[.slice ao 0 cap] w fun e w' => e = .returned (.bool true) ∧ Below w.heap.size w w' := by
  have HG := hide hg
  have HB : Hid (Below w.heap.size w w) := Below.refl _ _
  clear hg
  go_enter Tryd.func8, Tryd.ntmps8
  go_wp2
  refine wp_loop_rounds 1 ?_
  rw [rounds_succ]
  go_wp2_with fail
  refine (wakes_any _ ((unhide HG).below (unhide HB) (unhide HG).pos)).mono ?_
  rintro e w9 ⟨rfl, hb9⟩
  have HB9 : Hid (Below w.heap.size w w9) := bnx (unhide HB) hb9
  clear hb9
  go_wp2
  go_ret
  exact ⟨rfl, unhide HB9⟩
end Go.Proofs.YtnmcjjlpifemnaaDoor.Et
