/- Proved here: the walk of dovecotelaw15.EntriesCompacts: whatever logs it is handed, it returns true. Helper contract. -/
import Derived.Test.YtnmcjjlpifemnabDoorZEOk
import Derived.Test.YtnmcjjlpifemnabDoorZECm
import Derived.Test.YtnmcjjlpifemnabDoorZKTk
import Derived.Deep.Cut
import Derived.Deep.CutRange
namespace Go.Proofs.YtnmcjjlpifemnabDoor.Et
open Go.RowKit Nt
set_option maxRecDepth 100000

theorem com_last {L : Lo} (hm : May L) {i : Int} (h1 : L.b < i) (h2 : i ≤ lastI L) : lastI (comL L i) = lastI L ∧ lastT (comL L i) = lastT L := by
  have hle : (i - L.b).toNat ≤ L.es.length := by unfold lastI at h2; omega
  have hl : (L.es.drop (i - L.b).toNat).length = L.es.length - (i - L.b).toNat := List.length_drop ..
  constructor
  · show i + ((L.es.drop (i - L.b).toNat).length : Nat) = L.b + (L.es.length : Nat)
    rw [hl]
    have := hm.1.1
    omega
  · show tmB (tmB L.t L.es (i - L.b).toNat) (L.es.drop (i - L.b).toNat) (L.es.drop (i - L.b).toNat).length = tmB L.t L.es L.es.length
    rw [hl, tmB_drop]
    rw [show (i - L.b).toNat + (L.es.length - (i - L.b).toNat) = L.es.length by omega]
set_option maxHeartbeats 8000000 in
theorem coms15_walk (g off len cap : Nat) (f : Nat → Ak) (w : World) (hg : Laid w) (ha : AksIn w g off f len) :
    Calls Tryd.prog 5 #[.slice (some ⟨g, off, none⟩) len cap] w fun e w' => e = .returned (.bool true) ∧ Below w.heap.size w w' := by
  have HA := hide ha
  have HG := hide hg
  clear ha hg
  go_enter Tryd.func5, Tryd.ntmps5
  go_wp2
  go_loopw [3] (fun ii wr => ∃ k : Nat, k ≤ len ∧ ii = .int .i64 k ∧ Hid (Below w.heap.size w wr)) (fun ii _ => len - (intOf ii).toNat)
  case atStart => exact ⟨0, Nat.zero_le _, rfl, Below.refl _ _⟩
  case round =>
    obtain ⟨k, hk, rfl, HB⟩ := hrel
    by_cases h8 : k < len ∧ k < 8
    · obtain ⟨hlt, h8⟩ := h8
      obtain ⟨⟨q0, q1, q2, q3, q4, q5, q6⟩, hl1, hl2⟩ := (unhide HA) k hlt
      generalize f k = ak at q0 q1 q2 q3 q4 q5 q6 hl1 hl2
      obtain ⟨b, t, ⟨a1, n1, p1⟩, l1, i, tt, ⟨a2, n2, p2⟩, l2, kk⟩ := ak
      dsimp only at q0 q1 q2 q3 q4 q5 q6 hl1 hl2
      have HC : Hid (∀ W, Below w.heap.size w W → W.cell? ⟨g, off + k * 7, none⟩ = some (.int .i64 b) ∧ W.cell? ⟨g, off + k * 7 + 1, none⟩ = some (.int .i64 t) ∧ W.cell? ⟨g, off + k * 7 + 2, none⟩ = some (.slice a1 n1 p1) ∧ W.cell? ⟨g, off + k * 7 + 3, none⟩ = some (.int .i64 i) ∧ W.cell? ⟨g, off + k * 7 + 4, none⟩ = some (.int .i64 tt) ∧ W.cell? ⟨g, off + k * 7 + 5, none⟩ = some (.slice a2 n2 p2) ∧ W.cell? ⟨g, off + k * 7 + 6, none⟩ = some (.int .i64 kk)) := fun W hW =>
        ⟨(hW.cell (p := ⟨g, off + k * 7, none⟩) (cell_lt q0)).trans q0, (hW.cell (p := ⟨g, off + k * 7 + 1, none⟩) (cell_lt q1)).trans q1, (hW.cell (p := ⟨g, off + k * 7 + 2, none⟩) (cell_lt q2)).trans q2, (hW.cell (p := ⟨g, off + k * 7 + 3, none⟩) (cell_lt q3)).trans q3, (hW.cell (p := ⟨g, off + k * 7 + 4, none⟩) (cell_lt q4)).trans q4, (hW.cell (p := ⟨g, off + k * 7 + 5, none⟩) (cell_lt q5)).trans q5, (hW.cell (p := ⟨g, off + k * 7 + 6, none⟩) (cell_lt q6)).trans q6⟩
      have H1 := hide hl1
      have H2 := hide hl2
      have hn1 := hl1.2.2.2.1
      clear q0 q1 q2 q3 q4 q5 q6 hl1 hl2
      obtain ⟨q0, q1, q2, q3, q4, q5, q6⟩ := (unhide HC) _ (unhide HB)
      go_wp2_with fail
      refine (ok_any b t i tt kk a1 a2 n1 p1 n2 p2 l1 l2 _ ((unhide H1).below (unhide HB)) ((unhide H2).below (unhide HB))).mono ?_
      rintro e w1 ⟨⟨d, rfl, hd⟩, hb⟩
      have HB1 : Hid (Below w.heap.size w w1) := bnx (unhide HB) hb
      clear hb q0 q1 q2 q3 q4 q5 q6
      cases d
      · clear hd
        go_wp2
        go_roundw
        case rel => exact ⟨k + 1, by omega, by go_num, HB1⟩
        case measure => simp [intOf]; omega
      · obtain ⟨hm, hn2, _⟩ := hd rfl
        clear hd
        have HM := hide hm
        have hb1 : 0 ≤ b := hm.1.1
        have hbx : b ≤ 1099511625728 := hm.1.2.1
        have HI : Hid (lastI ⟨b, t, l1⟩ = b + (n1 : Int)) := by
          show _ = _
          unfold lastI
          rw [(unhide H1).1]
        clear hm
        obtain ⟨q0, q1, q2, q3, q4, q5, q6⟩ := (unhide HC) _ (unhide HB1)
        by_cases hbig : 1073741824 < b
        · clear hbx
          go_wp2
          go_roundw
          case rel => exact ⟨k + 1, by omega, by go_num, HB1⟩
          case measure => simp [intOf]; omega
        · have hb2 : b ≤ 1073741824 := by omega
          obtain ⟨T, hT⟩ : ∃ T, T = lastT ⟨b, t, l1⟩ := ⟨_, rfl⟩
          have HRL : Hid (lastR ⟨b, t, l1⟩ = (0, b + (n1 : Int), T)) := by rw [hT, ← unhide HI]; exact lastR_ok (unhide HM)
          have HT := hide hT
          clear hT hbig hbx
          go_wp2_with fail
          refine (lastE_any b t a1 n1 p1 l1 _ ((unhide H1).below (unhide HB1))).mono ?_
          rw [unhide HRL]
          rintro e w2 ⟨E0, rfl, HE0, HBn⟩
          have HB2 : Hid (Below w.heap.size w w2) := bnx (unhide HB1) (unhide HBn)
          clear HBn q0 q1 q2 q3 q4 q5 q6
          obtain ⟨wo, hwo⟩ : ∃ wo, wo = wr := ⟨_, rfl⟩
          subst hwo
          obtain ⟨q0, q1, q2, q3, q4, q5, q6⟩ := (unhide HC) _ (unhide HB2)
          have hwb : IntKind.i64.wrap (b + 1) = b + 1 := by rw [IntKind.wrap_i64]; omega
          go_wp2
          clear q0 q1 q2 q3 q4 q5 q6
          go_loopw [7] (fun jj wr => ∃ j : Nat, j ≤ n1 ∧ jj = .int .i64 (b + 1 + (j : Int)) ∧ Hid (Below w2.heap.size w2 wr)) (fun jj _ => (b + (n1 : Int) + 1 - intOf jj).toNat)
          case atStart => exact ⟨0, by omega, by simp, Below.refl _ _⟩
          case round =>
            obtain ⟨j, hj, rfl, HB3⟩ := hrel
            have HB4 : Hid (Below w.heap.size w wr) := bnx (unhide HB2) (unhide HB3)
            have hw1 : IntKind.i64.wrap (b + (n1 : Int)) = b + (n1 : Int) := by rw [IntKind.wrap_i64]; omega
            obtain ⟨jx, hjx⟩ : ∃ jx : Int, jx = b + 1 + (j : Int) := ⟨_, rfl⟩
            by_cases hjl : j < n1
            · have HRC : Hid (chkR ⟨b, t, l1⟩ (comR ⟨b, t, l1⟩ jx) = (0, ⟨jx, tmB t l1 (j + 1), l1.drop (j + 1)⟩)) := by
                show _ = _
                rw [chkR_ok (unhide HM), comR_yes (L := ⟨b, t, l1⟩) (by rw [unhide HI]; exact ⟨by show b < jx; omega, by omega, by omega⟩)]
                unfold comL
                show ((0 : Int), Lo.mk jx (tmB t l1 (jx - b).toNat) (l1.drop (jx - b).toNat)) = _
                rw [show (jx - b).toNat = j + 1 by omega]
              obtain ⟨u, hu⟩ : ∃ u, u = tmB t l1 (j + 1) := ⟨_, rfl⟩
              have HCL : Hid (May ⟨jx, u, l1.drop (j + 1)⟩ ∧ lastR ⟨jx, u, l1.drop (j + 1)⟩ = (0, b + (n1 : Int), T)) := by
                have e : comL ⟨b, t, l1⟩ jx = ⟨jx, u, l1.drop (j + 1)⟩ := by
                  unfold comL
                  show Lo.mk jx (tmB t l1 (jx - b).toNat) (l1.drop (jx - b).toNat) = _
                  rw [show (jx - b).toNat = j + 1 by omega, hu]
                have h1 : (⟨b, t, l1⟩ : Lo).b < jx := by show b < jx; omega
                have h2 : jx ≤ lastI ⟨b, t, l1⟩ := by rw [unhide HI]; omega
                have h3 := (unhide HM).com jx h1 h2 (by omega)
                have h4 := com_last (unhide HM) h1 h2
                rw [e] at h3 h4
                refine ⟨h3, ?_⟩
                rw [lastR_ok h3, h4.1, h4.2, unhide HI, unhide HT]
              have HTR : Hid (termR ⟨b, t, l1⟩ jx = (0, u)) := by
                show _ = _
                rw [termR_ok (unhide HM), termAt_some (L := ⟨b, t, l1⟩) (by show b ≤ jx; omega) (by rw [unhide HI]; omega)]
                show ((0 : Int), tmB t l1 (jx - b).toNat) = _
                rw [show (jx - b).toNat = j + 1 by omega, hu]
              rw [← hu] at HRC
              have HL : Hid ((l1.drop (j + 1)).length = n1 - (j + 1)) := by
                show _ = _
                rw [List.length_drop, (unhide H1).1]
              have hle1 : jx ≤ b + (n1 : Int) := by omega
              have hlen2 : b + (n1 : Int) - jx = ((n1 - (j + 1) : Nat) : Int) := by omega
              have hwl : IntKind.i64.wrap (b + (n1 : Int) - jx) = ((n1 - (j + 1) : Nat) : Int) := by rw [IntKind.wrap_i64]; omega
              have hjb : 0 ≤ jx ∧ jx ≤ 2000000000 := by omega
              rw [← hjx]
              have HJX := hide hjx
              clear hu hjx
              obtain ⟨q0, q1, q2, q3, q4, q5, q6⟩ := (unhide HC) _ (unhide HB4)
              go_wp2
              go_quiet (fail)
              have HB5 : Hid (Below w.heap.size w (wr.drewN nq)) := below_drewN (unhide HB4) nq
              have HB5' : Hid (Below w2.heap.size w2 (wr.drewN nq)) := below_drewN (unhide HB3) nq
              clear q0 q1 q2 q3 q4 q5 q6
              obtain ⟨q0, q1, q2, q3, q4, q5, q6⟩ := (unhide HC) _ (unhide HB5)
              go_wp2_with fail
              refine (comE_any b t a1 n1 p1 l1 jx _ ((unhide H1).below (unhide HB5))).mono ?_
              rw [unhide HRC]
              rintro e w5 ⟨⟨E1, ao, n, c, rfl, HO, HE1⟩, HBn⟩
              have hnn : n = n1 - (j + 1) := (unhide HO).2.1.symm.trans (unhide HL)
              subst hnn
              have HB6 : Hid (Below w.heap.size w w5) := bnx (unhide HB5) (unhide HBn)
              have HB6' : Hid (Below w2.heap.size w2 w5) := bnx (unhide HB5') (unhide HBn)
              have hal : Below w5.heap.size w5 (w5.alloc (.cells #[.int .i64 jx, .int .i64 u, .slice ao (n1 - (j + 1)) c] 26)) := (Below.refl _ _).alloc (Nat.le_refl _) _
              have HX6 : Hid (Bx (w5.alloc (.cells #[.int .i64 jx, .int .i64 u, .slice ao (n1 - (j + 1)) c] 26)) w5.heap.size [.int .i64 jx, .int .i64 u, .slice ao (n1 - (j + 1)) c] 26) := Bx.new _ _ _ _ rfl
              have HB7 : Hid (Below w.heap.size w (w5.alloc (.cells #[.int .i64 jx, .int .i64 u, .slice ao (n1 - (j + 1)) c] 26))) := bnx (unhide HB6) hal
              have HB7' : Hid (Below w2.heap.size w2 (w5.alloc (.cells #[.int .i64 jx, .int .i64 u, .slice ao (n1 - (j + 1)) c] 26))) := bnx (unhide HB6') hal
              have HO7 := hide ((unhide HO).below hal)
              have HE17 := hide ((unhide HE1).below hal)
              clear HBn HB6 HB6' hal HO HE1 q0 q1 q2 q3 q4 q5 q6
              go_wp2_with fail
              refine (lastE_any jx u ao (n1 - (j + 1)) c (l1.drop (j + 1)) _ (unhide HO7).es).mono ?_
              rw [(unhide HCL).2]
              rintro e w8 ⟨E2, rfl, HE2, HBn⟩
              have HB8 : Hid (Below w.heap.size w w8) := bnx (unhide HB7) (unhide HBn)
              have HB8' : Hid (Below w2.heap.size w2 w8) := bnx (unhide HB7') (unhide HBn)
              have HX8 := hide ((unhide HX6).below (unhide HBn))
              have HE18 := hide ((unhide HE17).below (unhide HBn))
              clear HBn HX6 HE17 HO7
              obtain ⟨q0, q1, q2, q3, q4, q5, q6⟩ := (unhide HC) _ (unhide HB8)
              go_wp2_with fail
              refine (termE_any b t a1 n1 p1 l1 jx _ ((unhide H1).below (unhide HB8))).mono ?_
              rw [unhide HTR]
              rintro e w9 ⟨E3, rfl, HE3, HBn⟩
              have HB9 : Hid (Below w.heap.size w w9) := bnx (unhide HB8) (unhide HBn)
              have HB9' : Hid (Below w2.heap.size w2 w9) := bnx (unhide HB8') (unhide HBn)
              have HX9 := hide ((unhide HX8).below (unhide HBn))
              have HE19 := hide ((unhide HE18).below (unhide HBn))
              have HE29 := hide ((unhide HE2).below (unhide HBn))
              have HE09 := hide ((unhide HE0).below (unhide HB9'))
              clear HBn HX8 HE18 HE2 q0 q1 q2 q3 q4 q5 q6
              go_wp2_with fail
              refine (num_err E0 0 _ ((unhide HG).below (unhide HB9) (unhide HG).pos) (unhide HE09)).mono ?_
              rintro e wa ⟨rfl, hb⟩
              have HBa : Hid (Below w.heap.size w wa) := bnx (unhide HB9) hb
              have HBa' : Hid (Below w2.heap.size w2 wa) := bnx (unhide HB9') hb
              have HXa := hide ((unhide HX9).below hb)
              have HE1a := hide ((unhide HE19).below hb)
              have HE2a := hide ((unhide HE29).below hb)
              have HE3a := hide ((unhide HE3).below hb)
              clear hb HX9 HE19 HE29 HE3 HE09
              go_wp2_with fail
              refine (num_err E1 0 _ ((unhide HG).below (unhide HBa) (unhide HG).pos) (unhide HE1a).errX).mono ?_
              rintro e wb ⟨rfl, hb⟩
              have HBb : Hid (Below w.heap.size w wb) := bnx (unhide HBa) hb
              have HBb' : Hid (Below w2.heap.size w2 wb) := bnx (unhide HBa') hb
              have HXb := hide ((unhide HXa).below hb)
              have HE2b := hide ((unhide HE2a).below hb)
              have HE3b := hide ((unhide HE3a).below hb)
              clear hb HXa HE1a HE2a HE3a
              go_wp2_with fail
              refine (num_err E2 0 _ ((unhide HG).below (unhide HBb) (unhide HG).pos) (unhide HE2b)).mono ?_
              rintro e wd ⟨rfl, hb⟩
              have HBd : Hid (Below w.heap.size w wd) := bnx (unhide HBb) hb
              have HBd' : Hid (Below w2.heap.size w2 wd) := bnx (unhide HBb') hb
              have HXd := hide ((unhide HXb).below hb)
              have HE3d := hide ((unhide HE3b).below hb)
              clear hb HXb HE2b HE3b
              go_wp2_with fail
              refine (num_err E3 0 _ ((unhide HG).below (unhide HBd) (unhide HG).pos) (unhide HE3d)).mono ?_
              rintro e we ⟨rfl, hb⟩
              have HBe : Hid (Below w.heap.size w we) := bnx (unhide HBd) hb
              have HBe' : Hid (Below w2.heap.size w2 we) := bnx (unhide HBd') hb
              have HXe := hide ((unhide HXd).below hb)
              obtain ⟨⟨x0, x1, x2⟩, xf⟩ := bx_slot (unhide HXe)
              clear hb HXd HE3d xf
              have hwn : IntKind.i64.wrap (jx + 1) = jx + 1 := by rw [IntKind.wrap_i64]; omega
              go_wp2
              go_roundw
              case rel => exact ⟨j + 1, by omega, by have := unhide HJX; subst this; go_num, HBe'⟩
              case measure => have := unhide HJX; simp [intOf]; omega
            · have hjn : n1 = j := by omega
              subst hjn
              clear hjx
              have hgt : ¬ b + 1 + (n1 : Int) ≤ b + (n1 : Int) := by omega
              obtain ⟨q0, q1, q2, q3, q4, q5, q6⟩ := (unhide HC) _ (unhide HB4)
              go_wp2
              go_quiet (fail)
              have HB5 : Hid (Below w.heap.size w (wr.drewN nq)) := below_drewN (unhide HB4) nq
              clear q0 q1 q2 q3 q4 q5 q6
              obtain ⟨wv, hwv⟩ : ∃ wv, wv = wr.drewN nq := ⟨_, rfl⟩
              rw [← hwv]
              have HBv : Hid (Below w.heap.size w wv) := by rw [hwv]; exact unhide HB5
              clear hwv HB5
              have HRB : Hid (chkR ⟨b, t, l1⟩ (comR ⟨b, t, l1⟩ b) = (1, lo0)) := by
                show _ = _
                rw [chkR_ok (unhide HM), comR_no (L := ⟨b, t, l1⟩) (by show ¬ (b < b ∧ _); omega)]
              have HRE : Hid (chkR ⟨b, t, l1⟩ (comR ⟨b, t, l1⟩ (b + (n1 : Int) + 1)) = (1, lo0)) := by
                show _ = _
                rw [chkR_ok (unhide HM), comR_no (L := ⟨b, t, l1⟩) (by rw [unhide HI]; show ¬ (b < _ ∧ _); omega)]
              go_upto_region 14 with fail
              go_cut [15, 16] from 19 to 187 (fun s15 s16 wx => ∃ (R : Nat) (E : Value), s15 = .pointer (some ⟨R, 0, none⟩) ∧ s16 = E ∧ Hid (ErrX wx E 1) ∧ Hid (Below wv.heap.size wv wx))
              case first =>
                refine wp_region_noPanic ?_
                have HBd : Hid (Below wv.heap.size wv wv.drew) := below_drewN (Below.refl _ _) 1
                refine wp_region_held_drew (S := fun W => W.cell? ⟨g, off + k * 7, none⟩ = some (.int .i64 b) ∧ W.cell? ⟨g, off + k * 7 + 1, none⟩ = some (.int .i64 t) ∧ W.cell? ⟨g, off + k * 7 + 2, none⟩ = some (.slice a1 n1 p1) ∧ W.cell? ⟨g, off + k * 7 + 3, none⟩ = some (.int .i64 i) ∧ W.cell? ⟨g, off + k * 7 + 4, none⟩ = some (.int .i64 tt) ∧ W.cell? ⟨g, off + k * 7 + 5, none⟩ = some (.slice a2 n2 p2) ∧ W.cell? ⟨g, off + k * 7 + 6, none⟩ = some (.int .i64 kk)) (by kernel_rfl) ((unhide HC) _ (bnx (unhide HBv) (unhide HBd))) (fun hHeld => ?_)
                refine rtk 0 (h := ?_)
                refine rtk 1 (h := ?_)
                refine rtk 2 (h := ?_)
                refine rtk 3 (h := ?_)
                refine rtk 4 (h := ?_)
                refine rtk 5 (h := ?_)
                refine rtk 6 (h := ?_)
                refine rtk 7 (h := ?_)
                refine rtk 8 (h := ?_)
                refine rtk 9 (h := ?_)
                refine rtk 10 (h := ?_)
                generalize wv.drew = wd at HBd hHeld ⊢
                refine wpAnyH_ready (rs := [11, 15]) (by kernel_rfl) (by simp) (rac (h := fun K hK => ?_) (hs := rac (h := fun K hK => ?_) (hs := AllReadyH.nil)))
                · go_simp
                  refine (comE_any b t a1 n1 p1 l1 b _ ((unhide H1).below (bnx (unhide HBv) (unhide HBd)))).mono ?_
                  rw [unhide HRB]
                  rintro e w2 ⟨⟨E, ao, n, c, rfl, HO, HE⟩, HB2⟩
                  have HBA2 : Hid (Below wv.heap.size wv w2) := bnx (unhide HBd) (unhide HB2)
                  refine hK.out _ _ ((unhide HC) _ (bnx (unhide HBv) (unhide HBA2))) (fun hHeld2 => ?_)
                  clear hK K hHeld
                  refine rtk 12 (h := ?_)
                  refine rtk 13 (h := ?_)
                  refine rtk 14 (h := ?_)
                  refine rcl 15 (h := fun K hK => ?_)
                  go_simp
                  refine hK.out _ _ ((unhide HC) _ (bnx (unhide HBv) (bnx (unhide HBA2) ((Below.refl _ _).alloc (Nat.le_refl _) _)))) (fun hHeld3 => ?_)
                  clear hK K hHeld2
                  refine rcl 16 (h := fun K hK => ?_)
                  go_simp
                  refine hK.out _ _ ((unhide HC) _ (bnx (unhide HBv) (bnx (unhide HBA2) ((Below.refl _ _).alloc (Nat.le_refl _) _)))) (fun hHeld4 => ?_)
                  clear hK K hHeld3
                  refine rcl 17 (h := fun K hK => ?_)
                  go_simp
                  refine hK.out _ _ hHeld4 (fun hHeld5 => ?_)
                  clear hK K
                  refine wpAnyH_done (by kernel_rfl) ?_ _
                  refine NoPanic.normal ?_
                  go_wp2_with fail
                  go_meet
                  case rel => exact ⟨_, _, rfl, rfl, ((unhide HE).below ((Below.refl _ _).alloc (Nat.le_refl _) _)).errX, bnx (unhide HBA2) ((Below.refl _ _).alloc (Nat.le_refl _) _)⟩
                · go_simp
                  have HBe : Hid (Below wv.heap.size wv (wd.alloc (.cells #[.int .i64 0, .int .i64 0, .slice none 0 0] 26))) := bnx (unhide HBd) ((Below.refl _ _).alloc (Nat.le_refl _) _)
                  have HXe : Hid (Bx (wd.alloc (.cells #[.int .i64 0, .int .i64 0, .slice none 0 0] 26)) wd.heap.size [.int .i64 0, .int .i64 0, .slice none 0 0] 26) := Bx.new _ _ _ _ rfl
                  have hse : (wd.alloc (.cells #[.int .i64 0, .int .i64 0, .slice none 0 0] 26)).heap.size = wd.heap.size + 1 := by simp
                  have hsd : wv.heap.size ≤ wd.heap.size := (unhide HBd).size
                  refine hK.out _ _ ((unhide HC) _ (bnx (unhide HBv) (unhide HBe))) (fun hHeld2 => ?_)
                  clear hK K hHeld
                  generalize wd.alloc (.cells #[.int .i64 0, .int .i64 0, .slice none 0 0] 26) = we at HBe HXe hse hHeld2 ⊢
                  refine rcl 11 (h := fun K hK => ?_)
                  go_simp
                  refine (comE_any b t a1 n1 p1 l1 b _ ((unhide H1).below (bnx (unhide HBv) (unhide HBe)))).mono ?_
                  rw [unhide HRB]
                  rintro e w2 ⟨⟨E, ao, n, c, rfl, HO, HE⟩, HB2⟩
                  have HBB2 : Hid (Below wv.heap.size wv w2) := bnx (unhide HBe) (unhide HB2)
                  have HX2 := hide ((unhide HXe).below (unhide HB2))
                  rw [hse] at HO HE
                  refine hK.out _ _ ((unhide HC) _ (bnx (unhide HBv) (unhide HBB2))) (fun hHeld3 => ?_)
                  clear hK K hHeld2
                  refine rtk 12 (h := ?_)
                  refine rtk 13 (h := ?_)
                  refine rtk 14 (h := ?_)
                  obtain ⟨⟨z0, z1, z2⟩, zf0, zf1, zf2⟩ := bx_slot (unhide HX2)
                  refine rcl 16 (h := fun K hK => ?_)
                  go_simp
                  refine hK.out _ _ ((unhide HC) _ (bnx (unhide HBv) (put3_below (unhide HBB2) hsd))) (fun hHeld4 => ?_)
                  clear hK K hHeld3
                  refine rcl 17 (h := fun K hK => ?_)
                  go_simp
                  refine hK.out _ _ hHeld4 (fun hHeld5 => ?_)
                  clear hK K
                  refine wpAnyH_done (by kernel_rfl) ?_ _
                  refine NoPanic.normal ?_
                  go_wp2_with fail
                  go_meet
                  case rel => exact ⟨_, _, rfl, rfl, ((unhide HE).put3 (by omega)).errX, put3_below (unhide HBB2) hsd⟩
              case rest =>
                obtain ⟨R, E, rfl, hEe, HE, HBn⟩ := hcut
                obtain rfl := hEe.symm
                have HB6 : Hid (Below w.heap.size w wc) := bnx (unhide HBv) (unhide HBn)
                have hwz : IntKind.i64.wrap (b + (n1 : Int) + 1) = b + (n1 : Int) + 1 := by rw [IntKind.wrap_i64]; omega
                obtain ⟨q0, q1, q2, q3, q4, q5, q6⟩ := (unhide HC) _ (unhide HB6)
                go_wp2_with fail
                refine (comE_any b t a1 n1 p1 l1 _ _ ((unhide H1).below (unhide HB6))).mono ?_
                rw [unhide HRE]
                rintro e w5 ⟨⟨E2, ao, n, c, rfl, HO, HE2⟩, HBm⟩
                have hn0 : n = 0 := (unhide HO).2.1.symm
                subst hn0
                have hal : Below w5.heap.size w5 (w5.alloc (.cells #[.int .i64 0, .int .i64 0, .slice ao 0 c] 26)) := (Below.refl _ _).alloc (Nat.le_refl _) _
                have HB7 : Hid (Below w.heap.size w (w5.alloc (.cells #[.int .i64 0, .int .i64 0, .slice ao 0 c] 26))) := bnx (bnx (unhide HB6) (unhide HBm)) hal
                have HE27 := hide ((unhide HE2).below hal)
                have HE7 := hide (((unhide HE).below (unhide HBm)).below hal)
                clear hal HE2 HE HO HBm q0 q1 q2 q3 q4 q5 q6
                go_wp2_with fail
                refine (num_err E 1 _ ((unhide HG).below (unhide HB7) (unhide HG).pos) (unhide HE7)).mono ?_
                rintro e w8 ⟨rfl, hb⟩
                have HB8 : Hid (Below w.heap.size w w8) := bnx (unhide HB7) hb
                have HE28 := hide ((unhide HE27).below hb)
                clear hb HE7 HE27
                go_wp2_with fail
                refine (num_err E2 1 _ ((unhide HG).below (unhide HB8) (unhide HG).pos) (unhide HE28).errX).mono ?_
                rintro e w9 ⟨rfl, hb⟩
                have HB9 : Hid (Below w.heap.size w w9) := bnx (unhide HB8) hb
                clear hb
                go_wp2
                go_roundw
                case rel => exact ⟨k + 1, by omega, by go_num, HB9⟩
                case measure => simp [intOf]; omega
    · have hend : ¬ (k : Int) < (len : Int) ∨ ¬ (k : Int) < 8 := by omega
      by_cases h9 : (k : Int) < (len : Int)
      · have h9b : ¬ (k : Int) < 8 := by omega
        go_wp2_with fail
        refine (wakes_any _ ((unhide HG).below (unhide HB) (unhide HG).pos)).mono ?_
        rintro e w9 ⟨rfl, hb9⟩
        have HB9 : Hid (Below w.heap.size w w9) := bnx (unhide HB) hb9
        clear hb9
        go_wp2
        go_ret
        exact ⟨rfl, unhide HB9⟩
      · go_wp2_with fail
        refine (wakes_any _ ((unhide HG).below (unhide HB) (unhide HG).pos)).mono ?_
        rintro e w9 ⟨rfl, hb9⟩
        have HB9 : Hid (Below w.heap.size w w9) := bnx (unhide HB) hb9
        clear hb9
        go_wp2
        go_ret
        exact ⟨rfl, unhide HB9⟩
theorem coms15_walk0 (ao : Option Addr) (cap : Nat) (w : World) (hg : Laid w) :
    Calls Tryd.prog 5 #[.slice ao 0 cap] w fun e w' => e = .returned (.bool true) ∧ Below w.heap.size w w' := by
  have HG := hide hg
  have HB : Hid (Below w.heap.size w w) := Below.refl _ _
  clear hg
  go_enter Tryd.func5, Tryd.ntmps5
  go_wp2
  refine wp_loop_rounds 1 ?_
  rw [rounds_succ]
  go_wp2_with fail
  refine (wakes_any _ ((unhide HG).below (unhide HB) (unhide HG).pos)).mono ?_
  rintro e w9 ⟨rfl, hb9⟩
  have HB9 : Hid (Below w.heap.size w w9) := bnx (unhide HB) hb9
  clear hb9
  go_wp2
  go_ret
  exact ⟨rfl, unhide HB9⟩
end Go.Proofs.YtnmcjjlpifemnabDoor.Et
