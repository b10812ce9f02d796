/- Proved here: the walk of dovecotelaw15.EntriesCuts: whatever logs it is handed, it returns true. Helper contract. -/
import Derived.Test.YtnmcjjlpifemnabDoorZEOk
import Derived.Test.YtnmcjjlpifemnabDoorZECt
import Derived.Test.YtnmcjjlpifemnabDoorZKTk
import Derived.Deep.Cut
import Derived.Deep.CutRange
namespace Go.Proofs.YtnmcjjlpifemnabDoor.Et
open Go.RowKit Nt
set_option maxRecDepth 100000

set_option maxHeartbeats 8000000 in
theorem cuts15_walk (g off len cap : Nat) (f : Nat → Ak) (w : World) (hg : Laid w) (ha : AksIn w g off f len) :
    Calls Tryd.prog 3 #[.slice (some ⟨g, off, none⟩) len cap] w fun e w' => e = .returned (.bool true) ∧ Below w.heap.size w w' := by
  have HA := hide ha
  have HG := hide hg
  clear ha hg
  go_enter Tryd.func3, Tryd.ntmps3
  go_wp2
  go_loopw [3] (fun ii wr => ∃ k : Nat, k ≤ len ∧ ii = .int .i64 k ∧ Hid (Below w.heap.size w wr)) (fun ii _ => len - (intOf ii).toNat)
  case atStart => exact ⟨0, Nat.zero_le _, rfl, Below.refl _ _⟩
  case round =>
    obtain ⟨k, hk, rfl, HB⟩ := hrel
    by_cases h8 : k < len ∧ k < 8
    · obtain ⟨hlt, h8⟩ := h8
      obtain ⟨⟨q0, q1, q2, q3, q4, q5, q6⟩, hl1, hl2⟩ := (unhide HA) k hlt
      generalize f k = ak at q0 q1 q2 q3 q4 q5 q6 hl1 hl2
      obtain ⟨b, t, ⟨a1, n1, p1⟩, l1, i, tt, ⟨a2, n2, p2⟩, l2, kk⟩ := ak
      dsimp only at q0 q1 q2 q3 q4 q5 q6 hl1 hl2
      have HC : Hid (∀ W, Below w.heap.size w W → W.cell? ⟨g, off + k * 7, none⟩ = some (.int .i64 b) ∧ W.cell? ⟨g, off + k * 7 + 1, none⟩ = some (.int .i64 t) ∧ W.cell? ⟨g, off + k * 7 + 2, none⟩ = some (.slice a1 n1 p1) ∧ W.cell? ⟨g, off + k * 7 + 3, none⟩ = some (.int .i64 i) ∧ W.cell? ⟨g, off + k * 7 + 4, none⟩ = some (.int .i64 tt) ∧ W.cell? ⟨g, off + k * 7 + 5, none⟩ = some (.slice a2 n2 p2) ∧ W.cell? ⟨g, off + k * 7 + 6, none⟩ = some (.int .i64 kk)) := fun W hW =>
        ⟨(hW.cell (p := ⟨g, off + k * 7, none⟩) (cell_lt q0)).trans q0, (hW.cell (p := ⟨g, off + k * 7 + 1, none⟩) (cell_lt q1)).trans q1, (hW.cell (p := ⟨g, off + k * 7 + 2, none⟩) (cell_lt q2)).trans q2, (hW.cell (p := ⟨g, off + k * 7 + 3, none⟩) (cell_lt q3)).trans q3, (hW.cell (p := ⟨g, off + k * 7 + 4, none⟩) (cell_lt q4)).trans q4, (hW.cell (p := ⟨g, off + k * 7 + 5, none⟩) (cell_lt q5)).trans q5, (hW.cell (p := ⟨g, off + k * 7 + 6, none⟩) (cell_lt q6)).trans q6⟩
      have H1 := hide hl1
      have H2 := hide hl2
      have hn1 := hl1.2.2.2.1
      clear q0 q1 q2 q3 q4 q5 q6 hl1 hl2
      obtain ⟨q0, q1, q2, q3, q4, q5, q6⟩ := (unhide HC) _ (unhide HB)
      go_wp2_with fail
      refine (ok_any b t i tt kk a1 a2 n1 p1 n2 p2 l1 l2 _ ((unhide H1).below (unhide HB)) ((unhide H2).below (unhide HB))).mono ?_
      rintro e w1 ⟨⟨d, rfl, hd⟩, hb⟩
      have HB1 : Hid (Below w.heap.size w w1) := bnx (unhide HB) hb
      clear hb q0 q1 q2 q3 q4 q5 q6
      cases d
      · clear hd
        go_wp2
        go_roundw
        case rel => exact ⟨k + 1, by omega, by go_num, HB1⟩
        case measure => simp [intOf]; omega
      · obtain ⟨hm, hn2, _⟩ := hd rfl
        clear hd
        have HM := hide hm
        have hb1 : 0 ≤ b := hm.1.1
        have hb2 : b ≤ 1099511625728 := hm.1.2.1
        have HI : Hid (lastI ⟨b, t, l1⟩ = b + (n1 : Int)) := by
          show _ = _
          unfold lastI
          rw [(unhide H1).1]
        have hpc : n1 ≤ p1 := (unhide H1).2.1
        obtain ⟨wo, hwo⟩ : ∃ wo, wo = wr := ⟨_, rfl⟩
        clear hm
        subst hwo
        obtain ⟨q0, q1, q2, q3, q4, q5, q6⟩ := (unhide HC) _ (unhide HB1)
        go_wp2
        clear q0 q1 q2 q3 q4 q5 q6
        go_loopw [4] (fun jj wr => ∃ j : Nat, j ≤ n1 + 3 ∧ jj = .int .i64 (-1 + (j : Int)) ∧ Hid (Below w.heap.size w wr)) (fun jj _ => ((n1 : Int) + 3 - intOf jj).toNat)
        case atStart => exact ⟨0, by omega, by simp, HB1⟩
        case round =>
          obtain ⟨j, hj, rfl, HB2⟩ := hrel
          by_cases hjl : j < n1 + 3
          · obtain ⟨jx, hjx⟩ : ∃ jx : Int, jx = -1 + (j : Int) := ⟨_, rfl⟩
            obtain ⟨⟨x, ⟨lb, lt, le⟩⟩, hr⟩ : ∃ r, r = chkR ⟨b, t, l1⟩ (cutR ⟨b, t, l1⟩ (b + jx)) := ⟨_, rfl⟩
            have HR : Hid (chkR ⟨b, t, l1⟩ (cutR ⟨b, t, l1⟩ (b + jx)) = (x, ⟨lb, lt, le⟩)) := hr.symm
            have HBAD : Hid ((j = 0 ∨ j = n1 + 2) → x = 1 ∧ lb = 0 ∧ lt = 0 ∧ le = []) := fun hj => by
              rw [chkR_ok (unhide HM), cutR_no (by rw [unhide HI]; show b + jx < b ∨ _; omega)] at hr
              injection hr with e1 e2
              injection e2 with e2 e3 e4
              exact ⟨e1, e2, e3, e4⟩
            have HGOOD : Hid (∀ q : Nat, j = q + 1 → q ≤ n1 → x = 0 ∧ b = lb ∧ t = lt ∧ l1.take q = le) := fun q hq hqn => by
              rw [chkR_ok (unhide HM), cutR_yes (L := ⟨b, t, l1⟩) (by show b ≤ b + jx; omega) (by rw [unhide HI]; omega)] at hr
              injection hr with e1 e2
              unfold cutL at e2
              injection e2 with e2 e3 e4
              refine ⟨e1, e2.symm, e3.symm, Eq.trans ?_ e4.symm⟩
              show _ = l1.take (b + jx - b).toNat
              rw [show (b + jx - b).toNat = q by omega]
            clear hr
            have hwj : IntKind.i64.wrap (b + jx) = b + jx := by rw [IntKind.wrap_i64]; omega
            have hjle : jx ≤ (n1 : Int) + 1 := by omega
            have hjge : -1 ≤ jx := by omega
            rw [← hjx]
            have hjx' := hide hjx
            clear hjx
            obtain ⟨q0, q1, q2, q3, q4, q5, q6⟩ := (unhide HC) _ (unhide HB2)
            go_upto_region 8 with fail
            clear q0 q1 q2 q3 q4 q5 q6
            go_cut [5, 6] from 23 to 112 (fun s5 s6 wx => ∃ (R : Nat) (E : Value) (ao : Option Addr) (n c : Nat), s5 = .pointer (some ⟨R, 0, none⟩) ∧ s6 = E ∧ Hid (Bx wx R [.int .i64 lb, .int .i64 lt, .slice ao n c] 26) ∧ Hid (OwnL wx wr.heap.size ⟨lb, lt, le⟩ ao n c) ∧ Hid (ErrX wx E x) ∧ Hid (Below wr.heap.size wr wx))
            case first =>
              refine wp_region_noPanic ?_
              have HBd : Hid (Below wr.heap.size wr wr.drew) := below_drewN (Below.refl _ _) 1
              refine wp_region_held_drew (S := fun W => W.cell? ⟨g, off + k * 7, none⟩ = some (.int .i64 b) ∧ W.cell? ⟨g, off + k * 7 + 1, none⟩ = some (.int .i64 t) ∧ W.cell? ⟨g, off + k * 7 + 2, none⟩ = some (.slice a1 n1 p1) ∧ W.cell? ⟨g, off + k * 7 + 3, none⟩ = some (.int .i64 i) ∧ W.cell? ⟨g, off + k * 7 + 4, none⟩ = some (.int .i64 tt) ∧ W.cell? ⟨g, off + k * 7 + 5, none⟩ = some (.slice a2 n2 p2) ∧ W.cell? ⟨g, off + k * 7 + 6, none⟩ = some (.int .i64 kk)) (by kernel_rfl) ((unhide HC) _ (bnx (unhide HB2) (unhide HBd))) (fun hHeld => ?_)
              refine rtk 0 (h := ?_)
              refine rtk 1 (h := ?_)
              refine rtk 2 (h := ?_)
              refine rtk 3 (h := ?_)
              refine rtk 4 (h := ?_)
              refine rtk 5 (h := ?_)
              refine rtk 6 (h := ?_)
              refine rtk 7 (h := ?_)
              refine rtk 8 (h := ?_)
              refine rtk 9 (h := ?_)
              refine rtk 10 (h := ?_)
              refine rtk 11 (h := ?_)
              refine rtk 12 (h := ?_)
              generalize wr.drew = wd at HBd hHeld ⊢
              refine wpAnyH_ready (rs := [13, 17]) (by kernel_rfl) (by simp) (rac (h := fun K hK => ?_) (hs := rac (h := fun K hK => ?_) (hs := AllReadyH.nil)))
              · go_simp
                refine (cutE_any b t a1 n1 p1 l1 _ _ ((unhide H1).below (bnx (unhide HB2) (unhide HBd)))).mono ?_
                (try rw [hwj])
                rw [unhide HR]
                rintro e w2 ⟨⟨E, ao, n, c, rfl, HO, HE⟩, HBn⟩
                have HBA2 : Hid (Below wr.heap.size wr w2) := bnx (unhide HBd) (unhide HBn)
                refine hK.out _ _ ((unhide HC) _ (bnx (unhide HB2) (unhide HBA2))) (fun hHeld2 => ?_)
                clear hK K hHeld
                refine rtk 14 (h := ?_)
                refine rtk 15 (h := ?_)
                refine rtk 16 (h := ?_)
                refine rcl 17 (h := fun K hK => ?_)
                go_simp
                refine hK.out _ _ ((unhide HC) _ (bnx (unhide HB2) (bnx (unhide HBA2) ((Below.refl _ _).alloc (Nat.le_refl _) _)))) (fun hHeld3 => ?_)
                clear hK K hHeld2
                refine rcl 18 (h := fun K hK => ?_)
                go_simp
                refine hK.out _ _ ((unhide HC) _ (bnx (unhide HB2) (bnx (unhide HBA2) ((Below.refl _ _).alloc (Nat.le_refl _) _)))) (fun hHeld4 => ?_)
                clear hK K hHeld3
                refine rcl 19 (h := fun K hK => ?_)
                go_simp
                refine hK.out _ _ hHeld4 (fun hHeld5 => ?_)
                clear hK K
                refine wpAnyH_done (by kernel_rfl) ?_ _
                refine NoPanic.normal ?_
                go_wp2_with fail
                go_meet
                case rel => exact ⟨_, _, _, _, _, rfl, rfl, Bx.new _ _ _ _ rfl, ((unhide HO).mono (unhide HBd).size).below ((Below.refl _ _).alloc (Nat.le_refl _) _), ((unhide HE).below ((Below.refl _ _).alloc (Nat.le_refl _) _)).errX, bnx (unhide HBA2) ((Below.refl _ _).alloc (Nat.le_refl _) _)⟩
              · go_simp
                have HBe : Hid (Below wr.heap.size wr (wd.alloc (.cells #[.int .i64 0, .int .i64 0, .slice none 0 0] 26))) := bnx (unhide HBd) ((Below.refl _ _).alloc (Nat.le_refl _) _)
                have HXe : Hid (Bx (wd.alloc (.cells #[.int .i64 0, .int .i64 0, .slice none 0 0] 26)) wd.heap.size [.int .i64 0, .int .i64 0, .slice none 0 0] 26) := Bx.new _ _ _ _ rfl
                have hse : (wd.alloc (.cells #[.int .i64 0, .int .i64 0, .slice none 0 0] 26)).heap.size = wd.heap.size + 1 := by simp
                have hsd : wr.heap.size ≤ wd.heap.size := (unhide HBd).size
                refine hK.out _ _ ((unhide HC) _ (bnx (unhide HB2) (unhide HBe))) (fun hHeld2 => ?_)
                clear hK K hHeld
                generalize wd.alloc (.cells #[.int .i64 0, .int .i64 0, .slice none 0 0] 26) = we at HBe HXe hse hHeld2 ⊢
                refine rcl 13 (h := fun K hK => ?_)
                go_simp
                refine (cutE_any b t a1 n1 p1 l1 _ _ ((unhide H1).below (bnx (unhide HB2) (unhide HBe)))).mono ?_
                (try rw [hwj])
                rw [unhide HR]
                rintro e w2 ⟨⟨E, ao, n, c, rfl, HO, HE⟩, HBn⟩
                have HBB2 : Hid (Below wr.heap.size wr w2) := bnx (unhide HBe) (unhide HBn)
                have HX2 := hide ((unhide HXe).below (unhide HBn))
                rw [hse] at HO HE
                refine hK.out _ _ ((unhide HC) _ (bnx (unhide HB2) (unhide HBB2))) (fun hHeld3 => ?_)
                clear hK K hHeld2
                refine rtk 14 (h := ?_)
                refine rtk 15 (h := ?_)
                refine rtk 16 (h := ?_)
                obtain ⟨⟨z0, z1, z2⟩, zf0, zf1, zf2⟩ := bx_slot (unhide HX2)
                refine rcl 18 (h := fun K hK => ?_)
                go_simp
                refine hK.out _ _ ((unhide HC) _ (bnx (unhide HB2) (put3_below (unhide HBB2) hsd))) (fun hHeld4 => ?_)
                clear hK K hHeld3
                refine rcl 19 (h := fun K hK => ?_)
                go_simp
                refine hK.out _ _ hHeld4 (fun hHeld5 => ?_)
                clear hK K
                refine wpAnyH_done (by kernel_rfl) ?_ _
                refine NoPanic.normal ?_
                go_wp2_with fail
                go_meet
                case rel => exact ⟨_, _, _, _, _, rfl, rfl, put3_bx (unhide HX2) _ _ _, ((unhide HO).put3 (by omega)).mono (by omega), ((unhide HE).put3 (by omega)).errX, put3_below (unhide HBB2) hsd⟩
            case rest =>
              obtain ⟨wv, hwv⟩ : ∃ wv, wv = wc := ⟨_, rfl⟩
              subst hwv
              obtain ⟨R, E, ao, n, c, rfl, hEe, HX, HO, HE, HB3⟩ := hcut
              obtain rfl := hEe.symm
              have HBc : Hid (Below w.heap.size w wv) := bnx (unhide HB2) (unhide HB3)
              by_cases hbad : j = 0 ∨ j = n1 + 2
              · obtain ⟨rfl, rfl, rfl, rfl⟩ := unhide HBAD hbad
                have hn0 : n = 0 := (unhide HO).2.1.symm
                subst hn0
                clear HBAD HGOOD HR
                have hjc : jx < 0 ∨ jx > (n1 : Int) := by have := unhide hjx'; omega
                by_cases hneg : jx < 0
                · obtain ⟨q0, q1, q2, q3, q4, q5, q6⟩ := (unhide HC) _ (unhide HBc)
                  go_wp2_with fail
                  refine (num_err E 1 _ ((unhide HG).below (unhide HBc) (unhide HG).pos) (unhide HE)).mono ?_
                  rintro e w5 ⟨rfl, hb⟩
                  have HB5 : Hid (Below w.heap.size w w5) := bnx (unhide HBc) hb
                  have HX5 := hide ((unhide HX).below hb)
                  have HO5 := hide ((unhide HO).below hb)
                  obtain ⟨⟨x0, x1, x2⟩, _⟩ := bx_slot (unhide HX5)
                  clear hb
                  go_wp2_with fail
                  refine (eqL_same 0 0 ao none 0 c 0 [] w5 (unhide HO5).es ⟨rfl, Nat.le_refl _, ⟨by decide, fun _ => rfl⟩, by decide, .inl rfl⟩).mono ?_
                  rintro e w6 ⟨rfl, hb⟩
                  have HB6 : Hid (Below w.heap.size w w6) := bnx (unhide HB5) hb
                  clear hb
                  go_wp2
                  go_roundw
                  case rel => exact ⟨j + 1, by omega, by have := unhide hjx'; subst this; go_num, HB6⟩
                  case measure => have := unhide hjx'; simp [intOf]; omega
                · have hgt : jx > (n1 : Int) := by omega
                  obtain ⟨q0, q1, q2, q3, q4, q5, q6⟩ := (unhide HC) _ (unhide HBc)
                  go_wp2_with fail
                  refine (num_err E 1 _ ((unhide HG).below (unhide HBc) (unhide HG).pos) (unhide HE)).mono ?_
                  rintro e w5 ⟨rfl, hb⟩
                  have HB5 : Hid (Below w.heap.size w w5) := bnx (unhide HBc) hb
                  have HX5 := hide ((unhide HX).below hb)
                  have HO5 := hide ((unhide HO).below hb)
                  obtain ⟨⟨x0, x1, x2⟩, _⟩ := bx_slot (unhide HX5)
                  clear hb
                  go_wp2_with fail
                  refine (eqL_same 0 0 ao none 0 c 0 [] w5 (unhide HO5).es ⟨rfl, Nat.le_refl _, ⟨by decide, fun _ => rfl⟩, by decide, .inl rfl⟩).mono ?_
                  rintro e w6 ⟨rfl, hb⟩
                  have HB6 : Hid (Below w.heap.size w w6) := bnx (unhide HB5) hb
                  clear hb
                  go_wp2
                  go_roundw
                  case rel => exact ⟨j + 1, by omega, by have := unhide hjx'; subst this; go_num, HB6⟩
                  case measure => have := unhide hjx'; simp [intOf]; omega
              · obtain ⟨q, hq⟩ : ∃ q : Nat, j = q + 1 := ⟨j - 1, by omega⟩
                have hqn : q ≤ n1 := by omega
                obtain ⟨rfl, rfl, rfl, rfl⟩ := unhide HGOOD q hq hqn
                have hjq : jx = (q : Int) := by have := unhide hjx'; omega
                have hnq : n = q := by
                  have := (unhide HO).2.1
                  rw [← this]
                  show (l1.take q).length = q
                  rw [List.length_take, (unhide H1).1]; omega
                have hqp : q ≤ p1 := by omega
                subst hnq hjq
                clear HBAD HGOOD HR hbad
                have HS : Hid (∀ W, Below wv.heap.size wv W → W.cell? ⟨g, off + k * 7, none⟩ = some (.int .i64 b) ∧ W.cell? ⟨g, off + k * 7 + 1, none⟩ = some (.int .i64 t) ∧ W.cell? ⟨g, off + k * 7 + 2, none⟩ = some (.slice a1 n1 p1) ∧ W.cell? ⟨g, off + k * 7 + 3, none⟩ = some (.int .i64 i) ∧ W.cell? ⟨g, off + k * 7 + 4, none⟩ = some (.int .i64 tt) ∧ W.cell? ⟨g, off + k * 7 + 5, none⟩ = some (.slice a2 n2 p2) ∧ W.cell? ⟨g, off + k * 7 + 6, none⟩ = some (.int .i64 kk) ∧ W.cell? ⟨R, 0, none⟩ = some (.int .i64 b) ∧ W.cell? ⟨R, 1, none⟩ = some (.int .i64 t) ∧ W.cell? ⟨R, 2, none⟩ = some (.slice ao n c)) := fun W hW => by
                  obtain ⟨q0, q1, q2, q3, q4, q5, q6⟩ := (unhide HC) _ (bnx (unhide HBc) hW)
                  obtain ⟨⟨x0, x1, x2⟩, _⟩ := bx_slot ((unhide HX).below hW)
                  exact ⟨q0, q1, q2, q3, q4, q5, q6, x0, x1, x2⟩
                obtain ⟨q0, q1, q2, q3, q4, q5, q6⟩ := (unhide HC) _ (unhide HBc)
                go_upto_region 12 with fail
                clear q0 q1 q2 q3 q4 q5 q6
                go_cut [112] from 23 to 112 (fun s112 wx => s112 = .bool false ∧ Hid (Below wv.heap.size wv wx))
                case first =>
                  refine wp_region_noPanic ?_
                  have HBd : Hid (Below wv.heap.size wv wv.drew) := below_drewN (Below.refl _ _) 1
                  refine wp_region_held_drew (S := fun W => W.cell? ⟨g, off + k * 7, none⟩ = some (.int .i64 b) ∧ W.cell? ⟨g, off + k * 7 + 1, none⟩ = some (.int .i64 t) ∧ W.cell? ⟨g, off + k * 7 + 2, none⟩ = some (.slice a1 n1 p1) ∧ W.cell? ⟨g, off + k * 7 + 3, none⟩ = some (.int .i64 i) ∧ W.cell? ⟨g, off + k * 7 + 4, none⟩ = some (.int .i64 tt) ∧ W.cell? ⟨g, off + k * 7 + 5, none⟩ = some (.slice a2 n2 p2) ∧ W.cell? ⟨g, off + k * 7 + 6, none⟩ = some (.int .i64 kk) ∧ W.cell? ⟨R, 0, none⟩ = some (.int .i64 b) ∧ W.cell? ⟨R, 1, none⟩ = some (.int .i64 t) ∧ W.cell? ⟨R, 2, none⟩ = some (.slice ao n c)) (by kernel_rfl) ((unhide HS) _ (unhide HBd)) (fun hHeld => ?_)
                  refine rtk 0 (h := ?_)
                  refine rcl 1 (h := fun K hK => ?_)
                  go_simp
                  refine (num_err E 0 _ ((unhide HG).below (bnx (unhide HBc) (unhide HBd)) (unhide HG).pos) ((unhide HE).below (unhide HBd))).mono ?_
                  rintro e w2 ⟨rfl, hb⟩
                  have HBe : Hid (Below wv.heap.size wv w2) := bnx (unhide HBd) hb
                  refine hK.out _ _ ((unhide HS) _ (unhide HBe)) (fun hHeld2 => ?_)
                  clear hK K hHeld hb
                  refine rtk 2 (h := ?_)
                  refine rtk 3 (h := ?_)
                  refine rtk 4 (h := ?_)
                  refine rtk 5 (h := ?_)
                  refine rtk 6 (h := ?_)
                  refine rtk 7 (h := ?_)
                  refine rtk 8 (h := ?_)
                  refine rtk 9 (h := ?_)
                  refine rtk 10 (h := ?_)
                  refine rtk 11 (h := ?_)
                  refine rtk 12 (h := ?_)
                  refine rtk 13 (h := ?_)
                  refine rtk 14 (h := ?_)
                  refine rtk 15 (h := ?_)
                  refine rtk 16 (h := ?_)
                  refine rtk 17 (h := ?_)
                  refine rtk 18 (h := ?_)
                  refine rtk 19 (h := ?_)
                  refine rtk 20 (h := ?_)
                  refine rtk 21 (h := ?_)
                  refine rtk 22 (h := ?_)
                  refine rtk 23 (h := ?_)
                  refine rtk 24 (h := ?_)
                  refine rtk 25 (h := ?_)
                  refine rtk 26 (h := ?_)
                  refine rtk 27 (h := ?_)
                  refine rtk 28 (h := ?_)
                  refine rtk 29 (h := ?_)
                  refine rtk 30 (h := ?_)
                  refine rtk 31 (h := ?_)
                  refine rtk 32 (h := ?_)
                  refine rtk 33 (h := ?_)
                  refine rtk 34 (h := ?_)
                  refine rtk 35 (h := ?_)
                  refine rcl 36 (h := fun K hK => ?_)
                  go_simp
                  refine (eqe_same _ _ (l1.take n) w2 ((unhide HO).below (unhide HBe)).es.ens (((unhide H1).below (bnx (unhide HBc) (unhide HBe))).lo n (by omega)).ens (by rw [List.length_take]; omega)).mono ?_
                  rintro e w3 ⟨rfl, hb⟩
                  have HBf : Hid (Below wv.heap.size wv w3) := bnx (unhide HBe) hb
                  refine hK.out _ _ ((unhide HS) _ (unhide HBf)) (fun hHeld3 => ?_)
                  clear hK K hHeld2 hb
                  refine rtk 37 (h := ?_)
                  refine rtk 38 (h := ?_)
                  refine wpAnyH_done (by kernel_rfl) ?_ _
                  refine NoPanic.normal ?_
                  go_wp2_with fail
                  go_meet
                  case rel => exact ⟨rfl, HBf⟩
                case rest =>
                  obtain ⟨rfl, HB6⟩ := hcut
                  have HBz : Hid (Below w.heap.size w wc) := bnx (unhide HBc) (unhide HB6)
                  go_wp2
                  go_roundw
                  case rel => exact ⟨j + 1, by omega, by subst hq; go_num, HBz⟩
                  case measure => simp [intOf]; omega
          · obtain ⟨q0, q1, q2, q3, q4, q5, q6⟩ := (unhide HC) _ (unhide HB2)
            go_wp2
            clear q0 q1 q2 q3 q4 q5 q6
            go_roundw
            case rel => exact ⟨k + 1, by omega, by go_num, HB2⟩
            case measure => simp [intOf]; omega
    · have hend : ¬ (k : Int) < (len : Int) ∨ ¬ (k : Int) < 8 := by omega
      by_cases h9 : (k : Int) < (len : Int)
      · have h9b : ¬ (k : Int) < 8 := by omega
        go_wp2_with fail
        refine (wakes_any _ ((unhide HG).below (unhide HB) (unhide HG).pos)).mono ?_
        rintro e w9 ⟨rfl, hb9⟩
        have HB9 : Hid (Below w.heap.size w w9) := bnx (unhide HB) hb9
        clear hb9
        go_wp2
        go_ret
        exact ⟨rfl, unhide HB9⟩
      · go_wp2_with fail
        refine (wakes_any _ ((unhide HG).below (unhide HB) (unhide HG).pos)).mono ?_
        rintro e w9 ⟨rfl, hb9⟩
        have HB9 : Hid (Below w.heap.size w w9) := bnx (unhide HB) hb9
        clear hb9
        go_wp2
        go_ret
        exact ⟨rfl, unhide HB9⟩
theorem cuts15_walk0 (ao : Option Addr) (cap : Nat) (w : World) (hg : Laid w) :
    Calls Tryd.prog 3 #[.slice ao 0 cap] w fun e w' => e = .returned (.bool true) ∧ Below w.heap.size w w' := by
  have HG := hide hg
  have HB : Hid (Below w.heap.size w w) := Below.refl _ _
  clear hg
  go_enter Tryd.func3, Tryd.ntmps3
  go_wp2
  refine wp_loop_rounds 1 ?_
  rw [rounds_succ]
  go_wp2_with fail
  refine (wakes_any _ ((unhide HG).below (unhide HB) (unhide HG).pos)).mono ?_
  rintro e w9 ⟨rfl, hb9⟩
  have HB9 : Hid (Below w.heap.size w w9) := bnx (unhide HB) hb9
  clear hb9
  go_wp2
  go_ret
  exact ⟨rfl, unhide HB9⟩
end Go.Proofs.YtnmcjjlpifemnabDoor.Et
