/- Proved here: the walk of dovecotelaw15.EntriesMerge: whatever logs it is handed, it returns true. Helper contract. -/
import Derived.Test.YtcffbkgkdoaplaaDoorZEOk
import Derived.Test.YtcffbkgkdoaplaaDoorZEMr
import Derived.Test.YtcffbkgkdoaplaaDoorZEMm
import Derived.Test.YtcffbkgkdoaplaaDoorZEPa
import Derived.Test.YtcffbkgkdoaplaaDoorZESp
import Derived.Test.YtcffbkgkdoaplaaDoorZEMq
import Derived.Deep.Cut
import Derived.Deep.CutRange
namespace Go.Proofs.YtcffbkgkdoaplaaDoor.Et
open Go.RowKit Nt
set_option maxRecDepth 100000

/-- a log in a block of its own -/
def LgAt (w : World) (R : Nat) (L : Lo) : Prop := ∃ a n c, Bx w R [.int .i64 L.b, .int .i64 L.t, .slice a n c] 25 ∧ Es w a n c L.es
theorem LgAt.below {w w' : World} {R : Nat} {L : Lo} (h : LgAt w R L) (hb : Below w.heap.size w w') : LgAt w' R L := by
  obtain ⟨a, n, c, h1, h2⟩ := h
  exact ⟨a, n, c, h1.below hb, h2.below hb⟩
theorem es_put_bx {w : World} {R : Nat} {x y z x' y' z' : Value} {ty : TypeId} {ao : Option Addr} {n c : Nat} {l : List En} (h : Es w ao n c l) (hb : Bx w R [x, y, z] ty) : Es (put3 w R x' y' z') ao n c l := by
  obtain ⟨h1, h2, h3, h4, h5⟩ := h
  refine ⟨h1, h2, h3, h4, ?_⟩
  rcases h5 with h5 | ⟨b, off, e, hc⟩
  · exact .inl h5
  · by_cases hn : n = 0
    · exact .inl hn
    have hne : ¬ b = R := by
      rintro rfl
      obtain ⟨_, _, _, c3⟩ := hc 0 (by omega)
      rw [cell_of hb] at c3
      rw [Array.getElem?_eq_none (by simp)] at c3
      cases c3
    refine .inr ⟨b, off, e, fun j hj => ?_⟩
    obtain ⟨c0, c1, c2, c3⟩ := hc j hj
    have hf := put3_fr w R x' y' z'
    exact ⟨hf.cell hne c0, hf.cell hne c1, hf.cell hne c2, hf.cell hne c3⟩
set_option maxHeartbeats 8000000 in
theorem merge15_walk (g off len cap : Nat) (f : Nat → Ak) (w : World) (hg : Laid w) (ha : AksIn w g off f len) :
    Calls Tryd.prog 4 #[.slice (some ⟨g, off, none⟩) len cap] w fun e w' => e = .returned (.bool true) ∧ Below w.heap.size w w' := by
  have HA := hide ha
  have HG := hide hg
  clear ha hg
  go_enter Tryd.func4, Tryd.ntmps4
  go_wp2
  go_loopw [3] (fun ii wr => ∃ k : Nat, k ≤ len ∧ ii = .int .i64 k ∧ Hid (Below w.heap.size w wr)) (fun ii _ => len - (intOf ii).toNat)
  case atStart => exact ⟨0, Nat.zero_le _, rfl, Below.refl _ _⟩
  case round =>
    obtain ⟨k, hk, rfl, HB⟩ := hrel
    by_cases h8 : k < len ∧ k < 8
    · obtain ⟨hlt, h8⟩ := h8
      obtain ⟨⟨q0, q1, q2, q3, q4, q5, q6⟩, hl1, hl2⟩ := (unhide HA) k hlt
      generalize f k = ak at q0 q1 q2 q3 q4 q5 q6 hl1 hl2
      obtain ⟨b, t, ⟨a1, n1, p1⟩, l1, i, tt, ⟨a2, n2, p2⟩, l2, kk⟩ := ak
      dsimp only at q0 q1 q2 q3 q4 q5 q6 hl1 hl2
      have HC : Hid (∀ W, Below w.heap.size w W → W.cell? ⟨g, off + k * 7, none⟩ = some (.int .i64 b) ∧ W.cell? ⟨g, off + k * 7 + 1, none⟩ = some (.int .i64 t) ∧ W.cell? ⟨g, off + k * 7 + 2, none⟩ = some (.slice a1 n1 p1) ∧ W.cell? ⟨g, off + k * 7 + 3, none⟩ = some (.int .i64 i) ∧ W.cell? ⟨g, off + k * 7 + 4, none⟩ = some (.int .i64 tt) ∧ W.cell? ⟨g, off + k * 7 + 5, none⟩ = some (.slice a2 n2 p2) ∧ W.cell? ⟨g, off + k * 7 + 6, none⟩ = some (.int .i64 kk)) := fun W hW =>
        ⟨(hW.cell (p := ⟨g, off + k * 7, none⟩) (cell_lt q0)).trans q0, (hW.cell (p := ⟨g, off + k * 7 + 1, none⟩) (cell_lt q1)).trans q1, (hW.cell (p := ⟨g, off + k * 7 + 2, none⟩) (cell_lt q2)).trans q2, (hW.cell (p := ⟨g, off + k * 7 + 3, none⟩) (cell_lt q3)).trans q3, (hW.cell (p := ⟨g, off + k * 7 + 4, none⟩) (cell_lt q4)).trans q4, (hW.cell (p := ⟨g, off + k * 7 + 5, none⟩) (cell_lt q5)).trans q5, (hW.cell (p := ⟨g, off + k * 7 + 6, none⟩) (cell_lt q6)).trans q6⟩
      have H1 := hide hl1
      have H2 := hide hl2
      have hn1 := hl1.2.2.2.1
      clear q0 q1 q2 q3 q4 q5 q6 hl1 hl2
      obtain ⟨P, hP⟩ : ∃ P, P = wr.heap.size := ⟨_, rfl⟩
      have hal : Below wr.heap.size wr (wr.alloc (.cells #[.int .i64 b, .int .i64 t, .slice a1 n1 p1, .int .i64 i, .int .i64 tt, .slice a2 n2 p2, .int .i64 kk] 27)) := (Below.refl _ _).alloc (Nat.le_refl _) _
      have HBp : Hid (Below w.heap.size w (wr.alloc (.cells #[.int .i64 b, .int .i64 t, .slice a1 n1 p1, .int .i64 i, .int .i64 tt, .slice a2 n2 p2, .int .i64 kk] 27))) := bnx (unhide HB) hal
      have HXP : Hid (Bx (wr.alloc (.cells #[.int .i64 b, .int .i64 t, .slice a1 n1 p1, .int .i64 i, .int .i64 tt, .slice a2 n2 p2, .int .i64 kk] 27)) P [.int .i64 b, .int .i64 t, .slice a1 n1 p1, .int .i64 i, .int .i64 tt, .slice a2 n2 p2, .int .i64 kk] 27) := Bx.new _ _ _ _ hP
      clear hal
      obtain ⟨q0, q1, q2, q3, q4, q5, q6⟩ := (unhide HC) _ (unhide HB)
      go_upto_region 5 with fail
      rw [← hP]
      clear q0 q1 q2 q3 q4 q5 q6 hP
      generalize wr.alloc (.cells #[.int .i64 b, .int .i64 t, .slice a1 n1 p1, .int .i64 i, .int .i64 tt, .slice a2 n2 p2, .int .i64 kk] 27) = wp at HBp HXP ⊢
      go_cut [39] from 13 to 39 (fun s39 wx => ∃ c : Bool, s39 = .bool c ∧ Hid (c = false → n1 ≤ 600 ∧ n2 ≤ 600) ∧ Hid (Below wp.heap.size wp wx))
      case first =>
        have q0 := (unhide HXP).cell 0 _ rfl
        have q1 := (unhide HXP).cell 1 _ rfl
        have q2 := (unhide HXP).cell 2 _ rfl
        have q3 := (unhide HXP).cell 3 _ rfl
        have q4 := (unhide HXP).cell 4 _ rfl
        have q5 := (unhide HXP).cell 5 _ rfl
        have q6 := (unhide HXP).cell 6 _ rfl
        go_wp2_with fail
        refine (heavy_any b t i tt kk a1 a2 n1 p1 n2 p2 l1 l2 _ ((unhide H1).below (unhide HBp)) ((unhide H2).below (unhide HBp))).mono ?_
        rintro e w1 ⟨⟨d, rfl, hd⟩, hb⟩
        have HB1 : Hid (Below wp.heap.size wp w1) := hb
        have HD : Hid (d = false → n1 ≤ 600 ∧ n2 ≤ 600) := hd
        replace q2 := (hb.cell (cell_lt q2)).trans q2
        clear hb hd q0 q1 q3 q4 q5 q6
        cases d
        · have hnn := unhide HD rfl
          have HNN : Hid (n1 ≤ 600 ∧ n2 ≤ 600) := hnn
          clear HD hnn
          by_cases hk2 : (k : Int) > 2
          · by_cases h100 : n1 > 100
            · go_wp2
              go_meet
              case rel => exact ⟨_, rfl, fun _ => unhide HNN, HB1⟩
            · go_wp2
              go_meet
              case rel => exact ⟨_, rfl, fun _ => unhide HNN, HB1⟩
          · go_wp2
            go_meet
            case rel => exact ⟨false, rfl, fun _ => unhide HNN, HB1⟩
        · clear HD
          go_wp2
          go_meet
          case rel => exact ⟨true, rfl, (fun h => by cases h), HB1⟩
      case rest =>
      obtain ⟨c, rfl, HNN, HBq⟩ := hcut
      cases c
      case true =>
        have HBr : Hid (Below w.heap.size w wc) := bnx (unhide HBp) (unhide HBq)
        clear HNN
        go_wp2
        go_ret
        exact ⟨rfl, unhide HBr⟩
      case false =>
      obtain ⟨hn6, hn26⟩ := unhide HNN rfl
      clear HNN
      obtain ⟨wa, hwa⟩ : ∃ wa, wa = wc := ⟨_, rfl⟩
      subst hwa
      have HBa : Hid (Below w.heap.size w wa) := bnx (unhide HBp) (unhide HBq)
      have HXa := hide ((unhide HXP).below (unhide HBq))
      clear HXP HBq HBp
      have HCP : Hid (∀ W, Below wa.heap.size wa W → W.cell? ⟨P, 0, none⟩ = some (.int .i64 b) ∧ W.cell? ⟨P, 1, none⟩ = some (.int .i64 t) ∧ W.cell? ⟨P, 2, none⟩ = some (.slice a1 n1 p1) ∧ W.cell? ⟨P, 3, none⟩ = some (.int .i64 i) ∧ W.cell? ⟨P, 4, none⟩ = some (.int .i64 tt) ∧ W.cell? ⟨P, 5, none⟩ = some (.slice a2 n2 p2) ∧ W.cell? ⟨P, 6, none⟩ = some (.int .i64 kk)) := fun W hW => by
        have h := (unhide HXa).below hW
        exact ⟨h.cell 0 _ rfl, h.cell 1 _ rfl, h.cell 2 _ rfl, h.cell 3 _ rfl, h.cell 4 _ rfl, h.cell 5 _ rfl, h.cell 6 _ rfl⟩
      clear HXa
      have HWB : Hid (Bx (wa.alloc (.cells #[.int .i64 0, .int .i64 0, .slice none 0 0] 25)) wa.heap.size [.int .i64 0, .int .i64 0, .slice none 0 0] 25) := Bx.new _ _ _ _ rfl
      have HBz : Hid (Below wa.heap.size wa (wa.alloc (.cells #[.int .i64 0, .int .i64 0, .slice none 0 0] 25))) := (Below.refl _ _).alloc (Nat.le_refl _) _
      go_upto_region 9 with fail
      generalize wa.alloc (.cells #[.int .i64 0, .int .i64 0, .slice none 0 0] 25) = wz at HWB HBz ⊢
      generalize hWI : wa.heap.size = WI at HWB ⊢
      obtain ⟨rr, hrr⟩ : ∃ rr, rr = mrgR ⟨b, t, l1⟩ i tt l2 := ⟨_, rfl⟩
      have HRR := hide hrr
      clear hrr
      obtain ⟨dd, hdd⟩ : ∃ dd, dd = decide (May ⟨b, t, l1⟩ ∧ MayMg i tt l2) := ⟨_, rfl⟩
      have HDD := hide hdd
      clear hdd
      go_upto_region 10 with fail
      go_cut [51] from 27 to 51 (fun s51 wx => s51 = .bool dd ∧ Hid (Below wz.heap.size wz wx))
      case first =>
        obtain ⟨q0, q1, q2, q3, q4, q5, q6⟩ := (unhide HCP) _ (unhide HBz)
        obtain ⟨dm, hdm⟩ : ∃ dm, dm = decide (May ⟨b, t, l1⟩) := ⟨_, rfl⟩
        have HDM := hide hdm
        clear hdm
        go_wp2_with fail
        refine (may_any b t a1 n1 p1 l1 wz ((unhide H1).below (bnx (unhide HBa) (unhide HBz)))).mono ?_
        rw [← unhide HDM]
        rintro e wm ⟨rfl, hb⟩
        have HBm : Hid (Below wz.heap.size wz wm) := hb
        clear hb q0 q1 q2 q3 q4 q5 q6
        cases dm
        · have hd0 : dd = false := by
            rw [unhide HDD]
            exact decide_eq_false (fun h => of_decide_eq_false (unhide HDM).symm h.1)
          subst hd0
          go_wp2
          go_meet
          case rel => exact ⟨rfl, HBm⟩
        · have HM2 : Hid (decide (MayMg i tt l2) = dd) := by
            show _ = _
            rw [unhide HDD]
            apply decide_eq_decide.2
            exact ⟨fun h => ⟨of_decide_eq_true (unhide HDM).symm, h⟩, fun h => h.2⟩
          obtain ⟨q0, q1, q2, q3, q4, q5, q6⟩ := (unhide HCP) _ (bnx (unhide HBz) (unhide HBm))
          go_wp2_with fail
          refine (mayMg_any i tt a2 n2 p2 l2 wm ((unhide H2).below (bnx (unhide HBa) (bnx (unhide HBz) (unhide HBm))))).mono ?_
          rw [unhide HM2]
          rintro e wn ⟨rfl, hb⟩
          have HBn : Hid (Below wz.heap.size wz wn) := bnx (unhide HBm) hb
          clear hb q0 q1 q2 q3 q4 q5 q6
          go_wp2
          go_meet
          case rel => exact ⟨rfl, HBn⟩
      case rest =>
      obtain ⟨hs51, HBy⟩ := hcut
      subst hs51
      obtain ⟨wy, hwy⟩ : ∃ wy, wy = wc := ⟨_, rfl⟩
      subst hwy
      have HBwy : Hid (Below wa.heap.size wa wy) := bnx (unhide HBz) (unhide HBy)
      have HWBy := hide ((unhide HWB).below (unhide HBy))
      clear HWB HBz HBy
      obtain ⟨x, miss, Lw⟩ := rr
      go_upto_if 51 with fail
      go_cut [5, 7] from 52 to 68 (fun s5 s7 wx => s5 = .int .i64 x ∧ s7 = .bool miss ∧ Hid (LgAt wx WI Lw) ∧ Hid (Below wa.heap.size wa wx))
      case first =>
        cases dd
        · have hr := (unhide HRR).trans (mrgR_bad (of_decide_eq_false (unhide HDD).symm))
          injection hr with h1 hr
          injection hr with h2 h3
          subst h1 h2 h3
          have HLW : Hid (LgAt wy WI lo0) := ⟨none, 0, 0, unhide HWBy, (OwnL.nil wy 0).es⟩
          go_wp2
          go_meet
          case rel => exact ⟨rfl, rfl, HLW, HBwy⟩
        · have hmm := of_decide_eq_true (unhide HDD).symm
          have HZX : Hid (x ≠ 0 → Lw = lo0) := fun hx => by
            have hr := unhide HRR
            by_cases h : termAt ⟨b, t, l1⟩ (mP ⟨b, t, l1⟩ i) = some (mU ⟨b, t, l1⟩ i tt)
            · rw [mrgR_has hmm h] at hr
              injection hr with h1 hr
              injection hr with h2 h3
              rw [h3]
              exact mgdR_z _ _ (by rw [← h1]; exact hx)
            · rw [mrgR_miss hmm h] at hr
              injection hr with h1 _
              exact absurd h1 hx
          obtain ⟨q0, q1, q2, q3, q4, q5, q6⟩ := (unhide HCP) _ (unhide HBwy)
          go_wp2_with fail
          refine (mrgP_any b t i tt a1 n1 p1 l1 a2 n2 p2 l2 wy ((unhide H1).below (bnx (unhide HBa) (unhide HBwy))) ((unhide H2).below (bnx (unhide HBa) (unhide HBwy))) hmm.1 hmm.2).mono ?_
          rw [← unhide HRR]
          rintro e wm ⟨⟨zz, am, nm, cm, rfl, HEM⟩, HBm⟩
          have HBwm : Hid (Below wa.heap.size wa wm) := bnx (unhide HBwy) (unhide HBm)
          have HWBm := hide ((unhide HWBy).below (unhide HBm))
          clear HWBy HBm q0 q1 q2 q3 q4 q5 q6 hmm HRR HDD
          have HEM2 : Hid (Es wm am nm cm Lw.es) := HEM
          clear HEM
          dsimp only
          obtain ⟨⟨y0, y1, y2⟩, g0, g1, g2⟩ := bx_slot (unhide HWBm)
          go_upto_if 67 with fail
          obtain ⟨w7, hw7⟩ : ∃ w7, w7 = put3 wm WI (.int .i64 Lw.b) (.int .i64 Lw.t) (.slice am nm cm) := ⟨_, rfl⟩
          change Code.wp _ _ _ _ (put3 wm WI (.int .i64 Lw.b) (.int .i64 Lw.t) (.slice am nm cm))
          rw [← hw7]
          have HW7 : Hid (Bx w7 WI [.int .i64 Lw.b, .int .i64 Lw.t, .slice am nm cm] 25) := by show Bx _ _ _ _; rw [hw7]; exact put3_bx (unhide HWBm) _ _ _
          have HB7 : Hid (Below wa.heap.size wa w7) := by show Below _ _ _; rw [hw7]; exact put3_below (unhide HBwm) (by omega)
          have HE7 : Hid (Es w7 am nm cm Lw.es) := by show Es _ _ _ _ _; rw [hw7]; exact es_put_bx (unhide HEM2) (unhide HWBm)
          clear hw7 HWBm HBwm HEM2 y0 y1 y2 g0 g1 g2
          by_cases hx0 : x = 0
          · have hb1 : (x == 0) = true := beq_iff_eq.2 hx0
            have hb2 : (x != 0) = false := by unfold bne; rw [hb1]; rfl
            clear hx0 HZX
            go_wp2
            go_meet
            case rel => exact ⟨rfl, rfl, ⟨am, nm, cm, unhide HW7, unhide HE7⟩, HB7⟩
          · have hb1 : (x == 0) = false := beq_eq_false_iff_ne.2 hx0
            have hb2 : (x != 0) = true := by unfold bne; rw [hb1]; rfl
            have hL := unhide HZX hx0
            subst hL
            clear hx0 HZX
            obtain ⟨⟨y0, y1, y2⟩, g0, g1, g2⟩ := bx_slot (unhide HW7)
            go_upto_region 13 with fail
            go_step
            iterate 6 go_step
            go_wp2
            go_meet
            case rel => exact ⟨rfl, rfl, ⟨none, 0, 0, put3_bx (unhide HW7) _ _ _, (OwnL.nil _ 0).es⟩, put3_below (unhide HB7) (by omega)⟩
      case rest =>
      obtain ⟨hs5, hs7, HLW, HBx⟩ := hcut
      subst hs5
      subst hs7
      obtain ⟨wb, hwb⟩ : ∃ wb, wb = wc := ⟨_, rfl⟩
      subst hwb
      clear HWBy HBwy HDD
      obtain ⟨q0, q1, q2, q3, q4, q5, q6⟩ := (unhide HCP) _ (unhide HBx)
      go_wp2_with fail
      refine (copyL_any b t a1 n1 p1 l1 wb ((unhide H1).below (bnx (unhide HBa) (unhide HBx))) (by omega)).mono ?_
      rintro e wd ⟨ax, cx, rfl, HOX, HBd⟩
      obtain ⟨X, hX⟩ : ∃ X, X = wd.heap.size := ⟨_, rfl⟩
      have hal : Below wd.heap.size wd (wd.alloc (.cells #[.int .i64 b, .int .i64 t, .slice ax n1 cx] 25)) := (Below.refl _ _).alloc (Nat.le_refl _) _
      have HBe : Hid (Below wb.heap.size wb (wd.alloc (.cells #[.int .i64 b, .int .i64 t, .slice ax n1 cx] 25))) := bnx (unhide HBd) hal
      have HXX : Hid (Bx (wd.alloc (.cells #[.int .i64 b, .int .i64 t, .slice ax n1 cx] 25)) X [.int .i64 b, .int .i64 t, .slice ax n1 cx] 25) := Bx.new _ _ _ _ hX
      have HOX2 := hide ((unhide HOX).below hal).es
      clear hal HOX HBd q0 q1 q2 q3 q4 q5 q6
      obtain ⟨q0, q1, q2, q3, q4, q5, q6⟩ := (unhide HCP) _ (bnx (unhide HBx) (unhide HBe))
      go_wp2_with fail
      rw [← hX]
      generalize wd.alloc (.cells #[.int .i64 b, .int .i64 t, .slice ax n1 cx] 25) = we at HBe HXX HOX2 q0 q1 q2 q3 q4 q5 q6 ⊢
      clear hX
      have HL2 := hide (unhide H2).1
      have HBwe : Hid (Below w.heap.size w we) := bnx (unhide HBa) (bnx (unhide HBx) (unhide HBe))
      refine (cope_own _ l2 we ((unhide H2).below (unhide HBwe)).ens (by rw [unhide HL2]; omega)).mono ?_
      rw [unhide HL2]
      rintro e wf ⟨v, rfl, HO, hb⟩
      obtain ⟨ae, ce, rfl, HEE⟩ := Es.own (unhide HO) (unhide HL2) (by omega)
      have HEE2 := hide HEE
      have HBwf : Hid (Below w.heap.size w wf) := bnx (unhide HBwe) hb
      have HCM : Hid (∀ W, Below wf.heap.size wf W → (W.cell? ⟨P, 0, none⟩ = some (.int .i64 b) ∧ W.cell? ⟨P, 1, none⟩ = some (.int .i64 t) ∧ W.cell? ⟨P, 2, none⟩ = some (.slice a1 n1 p1) ∧ W.cell? ⟨P, 3, none⟩ = some (.int .i64 i) ∧ W.cell? ⟨P, 4, none⟩ = some (.int .i64 tt) ∧ W.cell? ⟨P, 5, none⟩ = some (.slice a2 n2 p2) ∧ W.cell? ⟨P, 6, none⟩ = some (.int .i64 kk)) ∧ (W.cell? ⟨X, 0, none⟩ = some (.int .i64 b) ∧ W.cell? ⟨X, 1, none⟩ = some (.int .i64 t) ∧ W.cell? ⟨X, 2, none⟩ = some (.slice ax n1 cx)) ∧ Es W ax n1 cx l1 ∧ Es W ae n2 ce l2 ∧ Es W a1 n1 p1 l1 ∧ Es W a2 n2 p2 l2 ∧ LgAt W WI Lw) := fun W hW => by
        have h2 : Below we.heap.size we W := bnx hb hW
        have h1 : Below wb.heap.size wb W := bnx (unhide HBe) h2
        have h3 := (unhide HXX).below h2
        exact ⟨(unhide HCP) _ (bnx (unhide HBx) h1), ⟨h3.cell 0 _ rfl, h3.cell 1 _ rfl, h3.cell 2 _ rfl⟩, (unhide HOX2).below h2, (unhide HEE2).below hW, (unhide H1).below (bnx (unhide HBwf) hW), (unhide H2).below (bnx (unhide HBwf) hW), (unhide HLW).below h1⟩
      clear HEE HO hb HXX HOX2 HEE2 HLW HBe HBx HBwe q0 q1 q2 q3 q4 q5 q6
      obtain ⟨⟨q0, q1, q2, q3, q4, q5, q6⟩, ⟨x0, x1, x2⟩, hx3, hx4, _⟩ := (unhide HCM) _ (Below.refl _ _)
      have HX3 := hide hx3
      have HX4 := hide hx4
      clear hx3 hx4
      go_wp2_with fail
      refine (mrgE_any b t i tt ax n1 cx l1 ae n2 ce l2 wf (unhide HX3) (unhide HX4)).mono ?_
      rw [← unhide HRR]
      rintro e wg ⟨⟨E, am, nm, cm, rfl, HOM, HER⟩, HBg⟩
      clear HX3 HX4 q0 q1 q2 q3 q4 q5 q6 x0 x1 x2
      dsimp only
      dsimp only at HOM HER
      obtain ⟨M, hM⟩ : ∃ M, M = wg.heap.size := ⟨_, rfl⟩
      have hal : Below wg.heap.size wg (wg.alloc (.cells #[.int .i64 Lw.b, .int .i64 Lw.t, .slice am nm cm] 25)) := (Below.refl _ _).alloc (Nat.le_refl _) _
      have HXM : Hid (Bx (wg.alloc (.cells #[.int .i64 Lw.b, .int .i64 Lw.t, .slice am nm cm] 25)) M [.int .i64 Lw.b, .int .i64 Lw.t, .slice am nm cm] 25) := Bx.new _ _ _ _ hM
      have HBh : Hid (Below wf.heap.size wf (wg.alloc (.cells #[.int .i64 Lw.b, .int .i64 Lw.t, .slice am nm cm] 25))) := bnx (unhide HBg) hal
      have HOM2 := hide ((unhide HOM).below hal)
      have HER2 := hide ((unhide HER).below hal)
      clear hal HOM HER HBg
      go_wp2_with fail
      rw [← hM]
      generalize wg.alloc (.cells #[.int .i64 Lw.b, .int .i64 Lw.t, .slice am nm cm] 25) = wh at HXM HBh HOM2 HER2 ⊢
      clear hM
      refine (num_err E x _ ((unhide HG).below (bnx (unhide HBwf) (unhide HBh)) (unhide HG).pos) (unhide HER2).errX).mono ?_
      rintro e wi ⟨rfl, hb⟩
      have HBi : Hid (Below wf.heap.size wf wi) := bnx (unhide HBh) hb
      have HXM2 := hide ((unhide HXM).below hb)
      have HOM3 := hide ((unhide HOM2).below hb)
      clear hb HXM HOM2 HER2 HBh
      obtain ⟨aw, nw, cw, hwb, hwe⟩ := ((unhide HCM) _ (unhide HBi)).2.2.2.2.2.2
      have hnn : nm = nw := (unhide HOM3).2.1.symm.trans hwe.1
      subst hnn
      obtain ⟨⟨m0, m1, m2⟩, _⟩ := bx_slot (unhide HXM2)
      obtain ⟨⟨k0, k1, k2⟩, _⟩ := bx_slot hwb
      have HWE := hide hwe
      clear hwb hwe
      go_wp2_with fail
      refine (eqL_same Lw.b Lw.t am aw nm cm cw Lw.es wi (unhide HOM3).es (unhide HWE)).mono ?_
      rintro e wj ⟨rfl, hb⟩
      have HBj : Hid (Below wf.heap.size wf wj) := bnx (unhide HBi) hb
      have HXM3 := hide ((unhide HXM2).below hb)
      have HOM4 := hide ((unhide HOM3).below hb)
      clear hb HXM2 HOM3 HWE HBi m0 m1 m2 k0 k1 k2
      obtain ⟨⟨m0, m1, m2⟩, _⟩ := bx_slot (unhide HXM3)
      go_wp2_with fail
      refine (entries_sp wf.heap.size (.slice am nm cm) nm wj (unhide HBj).size (by have := (unhide HOM4).2.2; omega) ⟨_, (unhide HOM4).1⟩).mono ?_
      rintro e wk ⟨rfl, hsf⟩
      have HBk : Hid (Below wf.heap.size wf wk) := Fr.bel (unhide HBj) hsf.fr (fun g hg => (owns_blk (unhide HOM4).1 g hg).1) (unhide HBj).size
      clear hsf HXM3 HOM4 HBj m0 m1 m2
      obtain ⟨⟨q0, q1, q2, q3, q4, q5, q6⟩, ⟨x0, x1, x2⟩, hx3, hx4, hx5, hx6, _⟩ := (unhide HCM) _ (unhide HBk)
      have HX3 := hide hx3
      have HX5 := hide hx5
      clear hx3 hx4 hx5 hx6
      go_wp2_with fail
      refine (eqL_same b t ax a1 n1 cx p1 l1 wk (unhide HX3) (unhide HX5)).mono ?_
      rintro e wl ⟨rfl, hb⟩
      have HBl : Hid (Below wf.heap.size wf wl) := bnx (unhide HBk) hb
      clear hb HX3 HX5 q0 q1 q2 q3 q4 q5 q6 x0 x1 x2
      obtain ⟨⟨q0, q1, q2, q3, q4, q5, q6⟩, _, _, hx4, _, hx6, _⟩ := (unhide HCM) _ (unhide HBl)
      have HX4 := hide hx4
      have HX6 := hide hx6
      clear hx4 hx6
      go_wp2_with fail
      refine (eqe_same _ _ l2 wl (unhide HX4).ens (unhide HX6).ens (by rw [unhide HL2]; omega)).mono ?_
      rintro e wq ⟨rfl, hb⟩
      have HBq : Hid (Below w.heap.size w wq) := bnx (unhide HBwf) (bnx (unhide HBl) hb)
      clear hb HX4 HX6 q0 q1 q2 q3 q4 q5 q6
      go_wp2
      go_roundw
      case rel => exact ⟨k + 1, by omega, by go_num, HBq⟩
      case measure => simp [intOf]; omega
    · have hend : ¬ (k : Int) < (len : Int) ∨ ¬ (k : Int) < 8 := by omega
      by_cases h9 : (k : Int) < (len : Int)
      · have h9b : ¬ (k : Int) < 8 := by omega
        go_wp2_with fail
        refine (wakes_any _ ((unhide HG).below (unhide HB) (unhide HG).pos)).mono ?_
        rintro e w9 ⟨rfl, hb9⟩
        have HB9 : Hid (Below w.heap.size w w9) := bnx (unhide HB) hb9
        clear hb9
        go_wp2
        go_ret
        exact ⟨rfl, unhide HB9⟩
      · go_wp2_with fail
        refine (wakes_any _ ((unhide HG).below (unhide HB) (unhide HG).pos)).mono ?_
        rintro e w9 ⟨rfl, hb9⟩
        have HB9 : Hid (Below w.heap.size w w9) := bnx (unhide HB) hb9
        clear hb9
        go_wp2
        go_ret
        exact ⟨rfl, unhide HB9⟩
theorem merge15_walk0 (ao : Option Addr) (cap : Nat) (w : World) (hg : Laid w) :
    Calls Tryd.prog 4 #[.slice ao 0 cap] w fun e w' => e = .returned (.bool true) ∧ Below w.heap.size w w' := by
  have HG := hide hg
  have HB : Hid (Below w.heap.size w w) := Below.refl _ _
  clear hg
  go_enter Tryd.func4, Tryd.ntmps4
  go_wp2
  refine wp_loop_rounds 1 ?_
  rw [rounds_succ]
  go_wp2_with fail
  refine (wakes_any _ ((unhide HG).below (unhide HB) (unhide HG).pos)).mono ?_
  rintro e w9 ⟨rfl, hb9⟩
  have HB9 : Hid (Below w.heap.size w w9) := bnx (unhide HB) hb9
  clear hb9
  go_wp2
  go_ret
  exact ⟨rfl, unhide HB9⟩
end Go.Proofs.YtcffbkgkdoaplaaDoor.Et
