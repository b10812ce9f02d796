/- Proved here: the walk of dovecotelaw15.EntriesAgain: whatever logs it is handed, it returns true. Helper contract. -/
import Derived.Test.YtnmcjjlpifemnaaDoorZEOk
import Derived.Test.YtnmcjjlpifemnaaDoorZEAg
import Derived.Deep.Cut
import Derived.Deep.CutRange
namespace Go.Proofs.YtnmcjjlpifemnaaDoor.Et
open Go.RowKit Nt
set_option maxRecDepth 100000

set_option maxHeartbeats 8000000 in
theorem again15_walk (g off len cap : Nat) (f : Nat → Ak) (w : World) (hg : Laid w) (ha : AksIn w g off f len) :
    Calls Tryd.prog 5 #[.slice (some ⟨g, off, none⟩) len cap] w fun e w' => e = .returned (.bool true) ∧ Below w.heap.size w w' := by
  have HA := hide ha
  have HG := hide hg
  clear ha hg
  go_enter Tryd.func5, Tryd.ntmps5
  go_wp2
  go_loopw [3] (fun ii wr => ∃ k : Nat, k ≤ len ∧ ii = .int .i64 k ∧ Hid (Below w.heap.size w wr)) (fun ii _ => len - (intOf ii).toNat)
  case atStart => exact ⟨0, Nat.zero_le _, rfl, Below.refl _ _⟩
  case round =>
    obtain ⟨k, hk, rfl, HB⟩ := hrel
    by_cases h8 : k < len ∧ k < 8
    · obtain ⟨hlt, h8⟩ := h8
      obtain ⟨⟨q0, q1, q2, q3, q4, q5, q6⟩, hl1, hl2⟩ := (unhide HA) k hlt
      generalize f k = ak at q0 q1 q2 q3 q4 q5 q6 hl1 hl2
      obtain ⟨b, t, ⟨a1, n1, p1⟩, l1, i, tt, ⟨a2, n2, p2⟩, l2, kk⟩ := ak
      dsimp only at q0 q1 q2 q3 q4 q5 q6 hl1 hl2
      have HC : Hid (∀ W, Below w.heap.size w W → W.cell? ⟨g, off + k * 7, none⟩ = some (.int .i64 b) ∧ W.cell? ⟨g, off + k * 7 + 1, none⟩ = some (.int .i64 t) ∧ W.cell? ⟨g, off + k * 7 + 2, none⟩ = some (.slice a1 n1 p1) ∧ W.cell? ⟨g, off + k * 7 + 3, none⟩ = some (.int .i64 i) ∧ W.cell? ⟨g, off + k * 7 + 4, none⟩ = some (.int .i64 tt) ∧ W.cell? ⟨g, off + k * 7 + 5, none⟩ = some (.slice a2 n2 p2) ∧ W.cell? ⟨g, off + k * 7 + 6, none⟩ = some (.int .i64 kk)) := fun W hW =>
        ⟨(hW.cell (p := ⟨g, off + k * 7, none⟩) (cell_lt q0)).trans q0, (hW.cell (p := ⟨g, off + k * 7 + 1, none⟩) (cell_lt q1)).trans q1, (hW.cell (p := ⟨g, off + k * 7 + 2, none⟩) (cell_lt q2)).trans q2, (hW.cell (p := ⟨g, off + k * 7 + 3, none⟩) (cell_lt q3)).trans q3, (hW.cell (p := ⟨g, off + k * 7 + 4, none⟩) (cell_lt q4)).trans q4, (hW.cell (p := ⟨g, off + k * 7 + 5, none⟩) (cell_lt q5)).trans q5, (hW.cell (p := ⟨g, off + k * 7 + 6, none⟩) (cell_lt q6)).trans q6⟩
      have H1 := hide hl1
      have H2 := hide hl2
      have hn1 := hl1.2.2.2.1
      clear q0 q1 q2 q3 q4 q5 q6 hl1 hl2
      obtain ⟨P, hP⟩ : ∃ P, P = wr.heap.size := ⟨_, rfl⟩
      have hal : Below wr.heap.size wr (wr.alloc (.cells #[.int .i64 b, .int .i64 t, .slice a1 n1 p1, .int .i64 i, .int .i64 tt, .slice a2 n2 p2, .int .i64 kk] 27)) := (Below.refl _ _).alloc (Nat.le_refl _) _
      have HBp : Hid (Below w.heap.size w (wr.alloc (.cells #[.int .i64 b, .int .i64 t, .slice a1 n1 p1, .int .i64 i, .int .i64 tt, .slice a2 n2 p2, .int .i64 kk] 27))) := bnx (unhide HB) hal
      have HXP : Hid (Bx (wr.alloc (.cells #[.int .i64 b, .int .i64 t, .slice a1 n1 p1, .int .i64 i, .int .i64 tt, .slice a2 n2 p2, .int .i64 kk] 27)) P [.int .i64 b, .int .i64 t, .slice a1 n1 p1, .int .i64 i, .int .i64 tt, .slice a2 n2 p2, .int .i64 kk] 27) := Bx.new _ _ _ _ hP
      clear hal
      obtain ⟨q0, q1, q2, q3, q4, q5, q6⟩ := (unhide HC) _ (unhide HB)
      go_upto_region 5 with fail
      rw [← hP]
      clear q0 q1 q2 q3 q4 q5 q6 hP
      generalize wr.alloc (.cells #[.int .i64 b, .int .i64 t, .slice a1 n1 p1, .int .i64 i, .int .i64 tt, .slice a2 n2 p2, .int .i64 kk] 27) = wp at HBp HXP ⊢
      go_cut [37] from 15 to 37 (fun s37 wx => ∃ c : Bool, s37 = .bool c ∧ Hid (c = false → n1 ≤ 600 ∧ n2 ≤ 600) ∧ Hid (Below wp.heap.size wp wx))
      case first =>
        have q0 := (unhide HXP).cell 0 _ rfl
        have q1 := (unhide HXP).cell 1 _ rfl
        have q2 := (unhide HXP).cell 2 _ rfl
        have q3 := (unhide HXP).cell 3 _ rfl
        have q4 := (unhide HXP).cell 4 _ rfl
        have q5 := (unhide HXP).cell 5 _ rfl
        have q6 := (unhide HXP).cell 6 _ rfl
        go_wp2_with fail
        refine (heavy_any b t i tt kk a1 a2 n1 p1 n2 p2 l1 l2 _ ((unhide H1).below (unhide HBp)) ((unhide H2).below (unhide HBp))).mono ?_
        rintro e w1 ⟨⟨d, rfl, hd⟩, hb⟩
        have HB1 : Hid (Below wp.heap.size wp w1) := hb
        have HD : Hid (d = false → n1 ≤ 600 ∧ n2 ≤ 600) := hd
        replace q2 := (hb.cell (cell_lt q2)).trans q2
        clear hb hd q0 q1 q3 q4 q5 q6
        cases d
        · have hnn := unhide HD rfl
          have HNN : Hid (n1 ≤ 600 ∧ n2 ≤ 600) := hnn
          clear HD hnn
          go_wp2
          go_meet
          case rel => exact ⟨_, rfl, fun _ => unhide HNN, HB1⟩
        · clear HD
          go_wp2
          go_meet
          case rel => exact ⟨true, rfl, (fun h => by cases h), HB1⟩
      case rest =>
      obtain ⟨c, rfl, HNN, HBq⟩ := hcut
      cases c
      case true =>
        have HBr : Hid (Below w.heap.size w wc) := bnx (unhide HBp) (unhide HBq)
        clear HNN
        go_wp2
        go_ret
        exact ⟨rfl, unhide HBr⟩
      case false =>
      obtain ⟨hn6, hn26⟩ := unhide HNN rfl
      clear HNN
      obtain ⟨wa, hwa⟩ : ∃ wa, wa = wc := ⟨_, rfl⟩
      subst hwa
      have HBa : Hid (Below w.heap.size w wa) := bnx (unhide HBp) (unhide HBq)
      have HXa := hide ((unhide HXP).below (unhide HBq))
      clear HXP HBq HBp
      have HCP : Hid (∀ W, Below wa.heap.size wa W → W.cell? ⟨P, 0, none⟩ = some (.int .i64 b) ∧ W.cell? ⟨P, 1, none⟩ = some (.int .i64 t) ∧ W.cell? ⟨P, 2, none⟩ = some (.slice a1 n1 p1) ∧ W.cell? ⟨P, 3, none⟩ = some (.int .i64 i) ∧ W.cell? ⟨P, 4, none⟩ = some (.int .i64 tt) ∧ W.cell? ⟨P, 5, none⟩ = some (.slice a2 n2 p2) ∧ W.cell? ⟨P, 6, none⟩ = some (.int .i64 kk)) := fun W hW => by
        have h := (unhide HXa).below hW
        exact ⟨h.cell 0 _ rfl, h.cell 1 _ rfl, h.cell 2 _ rfl, h.cell 3 _ rfl, h.cell 4 _ rfl, h.cell 5 _ rfl, h.cell 6 _ rfl⟩
      clear HXa
      obtain ⟨⟨x, ms, ⟨mb, mt, me⟩⟩, hr⟩ : ∃ r, r = mrgR ⟨b, t, l1⟩ i tt l2 := ⟨_, rfl⟩
      have HR : Hid (mrgR ⟨b, t, l1⟩ i tt l2 = (x, ms, ⟨mb, mt, me⟩)) := hr.symm
      clear hr
      obtain ⟨q0, q1, q2, q3, q4, q5, q6⟩ := (unhide HCP) _ (Below.refl _ _)
      go_wp2_with fail
      refine (mrgE_any b t i tt a1 n1 p1 l1 a2 n2 p2 l2 wa ((unhide H1).below (unhide HBa)) ((unhide H2).below (unhide HBa))).mono ?_
      rw [unhide HR]
      rintro e wb ⟨⟨E, am, nm, cm, rfl, HO, HE⟩, HBb⟩
      obtain ⟨X, hX⟩ : ∃ X, X = wb.heap.size := ⟨_, rfl⟩
      have hal : Below wb.heap.size wb (wb.alloc (.cells #[.int .i64 mb, .int .i64 mt, .slice am nm cm] 25)) := (Below.refl _ _).alloc (Nat.le_refl _) _
      have HBd : Hid (Below wa.heap.size wa (wb.alloc (.cells #[.int .i64 mb, .int .i64 mt, .slice am nm cm] 25))) := bnx (unhide HBb) hal
      have HXX : Hid (Bx (wb.alloc (.cells #[.int .i64 mb, .int .i64 mt, .slice am nm cm] 25)) X [.int .i64 mb, .int .i64 mt, .slice am nm cm] 25) := Bx.new _ _ _ _ hX
      have HO2 := hide ((unhide HO).below hal)
      have HE2 := hide ((unhide HE).below hal)
      clear hal HO HE HBb q0 q1 q2 q3 q4 q5 q6
      go_upto_region 8 with fail
      rw [← hX]
      generalize wb.alloc (.cells #[.int .i64 mb, .int .i64 mt, .slice am nm cm] 25) = wd at HBd HXX HO2 HE2 ⊢
      clear hX
      go_wp2_with fail
      refine (num_err E x wd ((unhide HG).below (bnx (unhide HBa) (unhide HBd)) (unhide HG).pos) (unhide HE2).errX).mono ?_
      rintro e we ⟨rfl, hb⟩
      have HBe : Hid (Below wa.heap.size wa we) := bnx (unhide HBd) hb
      have HBew : Hid (Below w.heap.size w we) := bnx (unhide HBa) (unhide HBe)
      have HXe := hide ((unhide HXX).below hb)
      have HOe := hide ((unhide HO2).below hb)
      clear hb HXX HO2 HE2 HBd
      by_cases hx : x = 0
      · cases ms
        · have hd := mrgR_done (L := ⟨b, t, l1⟩) (M := ⟨mb, mt, me⟩) (by rw [← hx]; exact unhide HR)
          have hag := mrgR_again (L := ⟨b, t, l1⟩) (M := ⟨mb, mt, me⟩) (by rw [← hx]; exact unhide HR)
          have hho := mrgR_holds (L := ⟨b, t, l1⟩) (M := ⟨mb, mt, me⟩) (p := i) (u := tt) (es := l2) (by rw [← hx]; exact unhide HR)
          have HML : Hid (May ⟨b, t, l1⟩) := hd.1
          have HMM : Hid (May ⟨mb, mt, me⟩) := hd.2.2.1
          have hmb : b = mb := hd.2.2.2.1.symm
          have hmt : t = mt := hd.2.2.2.2.1.symm
          have HAG := hide hag
          have HHO := hide hho
          subst hx hmb hmt
          have hb1 : 0 ≤ b := hd.1.1.1
          have hb2 : b ≤ 1099511625728 := hd.1.1.2.1
          clear hd hag hho HR
          obtain ⟨q0, q1, q2, q3, q4, q5, q6⟩ := (unhide HCP) _ (unhide HBe)
          obtain ⟨⟨x0, x1, x2⟩, _⟩ := bx_slot (unhide HXe)
          go_wp2_with fail
          refine (mrgE_any b t i tt am nm cm me a2 n2 p2 l2 we (unhide HOe).es ((unhide H2).below (unhide HBew))).mono ?_
          rw [unhide HAG]
          rintro e wf ⟨⟨E2, an, nn, cn, rfl, HON, HEN⟩, HBf0⟩
          have hnn : nn = nm := (unhide HON).2.1.symm.trans (unhide HOe).2.1
          subst hnn
          have hal : Below wf.heap.size wf (wf.alloc (.cells #[.int .i64 b, .int .i64 t, .slice an nn cn] 25)) := (Below.refl _ _).alloc (Nat.le_refl _) _
          have HBg0 : Hid (Below we.heap.size we (wf.alloc (.cells #[.int .i64 b, .int .i64 t, .slice an nn cn] 25))) := bnx (unhide HBf0) hal
          have HXN : Hid (Bx (wf.alloc (.cells #[.int .i64 b, .int .i64 t, .slice an nn cn] 25)) wf.heap.size [.int .i64 b, .int .i64 t, .slice an nn cn] 25) := Bx.new _ _ _ _ rfl
          have HON2 := hide ((unhide HON).below hal)
          have HEN2 := hide ((unhide HEN).below hal)
          clear hal HON HEN HBf0 q0 q1 q2 q3 q4 q5 q6 x0 x1 x2
          go_upto_region 10 with fail
          obtain ⟨N0, hN0⟩ : ∃ N0, N0 = wf.heap.size := ⟨_, rfl⟩
          rw [← hN0] at HXN ⊢
          generalize wf.alloc (.cells #[.int .i64 b, .int .i64 t, .slice an nn cn] 25) = wg at HBg0 HXN HON2 HEN2 ⊢
          clear hN0
          have HBg : Hid (Below wa.heap.size wa wg) := bnx (unhide HBe) (unhide HBg0)
          go_wp2_with fail
          refine (num_err E2 0 wg ((unhide HG).below (bnx (unhide HBa) (unhide HBg)) (unhide HG).pos) (unhide HEN2).errX).mono ?_
          rintro e wh ⟨rfl, hb⟩
          have HBh0 : Hid (Below we.heap.size we wh) := bnx (unhide HBg0) hb
          have HBh : Hid (Below wa.heap.size wa wh) := bnx (unhide HBg) hb
          have HXN3 := hide ((unhide HXN).below hb)
          have HON3 := hide ((unhide HON2).below hb)
          clear hb HXN HON2 HEN2 HBg HBg0
          obtain ⟨⟨x0, x1, x2⟩, _⟩ := bx_slot ((unhide HXe).below (unhide HBh0))
          obtain ⟨⟨y0, y1, y2⟩, _⟩ := bx_slot (unhide HXN3)
          go_wp2_with fail
          refine (eqL_same b t am an nn cm cn me wh ((unhide HOe).below (unhide HBh0)).es (unhide HON3).es).mono ?_
          rintro e wi ⟨rfl, hb⟩
          have HBi0 : Hid (Below we.heap.size we wi) := bnx (unhide HBh0) hb
          have HBi : Hid (Below wa.heap.size wa wi) := bnx (unhide HBh) hb
          clear hb HXN3 HON3 HBh HBh0 x0 x1 x2 y0 y1 y2
          obtain ⟨⟨x0, x1, x2⟩, _⟩ := bx_slot ((unhide HXe).below (unhide HBi0))
          go_wp2_with fail
          refine (check_ok b t am nn cm me wi ((unhide HOe).below (unhide HBi0)).es (unhide HMM)).mono ?_
          rintro e wj ⟨rfl, hb⟩
          have HBj0 : Hid (Below we.heap.size we wj) := bnx (unhide HBi0) hb
          have HBj : Hid (Below wa.heap.size wa wj) := bnx (unhide HBi) hb
          clear hb HBi HBi0 x0 x1 x2
          go_wp2_with fail
          refine (num_err .nilIface 0 wj ((unhide HG).below (bnx (unhide HBa) (unhide HBj)) (unhide HG).pos) (.inl ⟨rfl, rfl⟩)).mono ?_
          rintro e wk ⟨rfl, hb⟩
          have HBk0 : Hid (Below we.heap.size we wk) := bnx (unhide HBj0) hb
          have HBk : Hid (Below wa.heap.size wa wk) := bnx (unhide HBj) hb
          clear hb HBj HBj0
          have HS : Hid (∀ W, Below wk.heap.size wk W → (W.cell? ⟨P, 0, none⟩ = some (.int .i64 b) ∧ W.cell? ⟨P, 1, none⟩ = some (.int .i64 t) ∧ W.cell? ⟨P, 2, none⟩ = some (.slice a1 n1 p1) ∧ W.cell? ⟨P, 3, none⟩ = some (.int .i64 i) ∧ W.cell? ⟨P, 4, none⟩ = some (.int .i64 tt) ∧ W.cell? ⟨P, 5, none⟩ = some (.slice a2 n2 p2) ∧ W.cell? ⟨P, 6, none⟩ = some (.int .i64 kk)) ∧ (W.cell? ⟨X, 0, none⟩ = some (.int .i64 b) ∧ W.cell? ⟨X, 1, none⟩ = some (.int .i64 t) ∧ W.cell? ⟨X, 2, none⟩ = some (.slice am nn cm)) ∧ Es W am nn cm me ∧ Es W a2 n2 p2 l2) := fun W hW =>
            ⟨(unhide HCP) _ (bnx (unhide HBk) hW), (bx_slot ((unhide HXe).below (bnx (unhide HBk0) hW))).1, ((unhide HOe).below (bnx (unhide HBk0) hW)).es, (unhide H2).below (bnx (bnx (unhide HBa) (unhide HBk)) hW)⟩
          obtain ⟨⟨q0, q1, q2, q3, q4, q5, q6⟩, ⟨x0, x1, x2⟩, _⟩ := (unhide HS) _ (Below.refl _ _)
          have HL2 := hide (unhide H2).1
          go_wp2
          clear q0 q1 q2 q3 q4 q5 q6 x0 x1 x2
          obtain ⟨wo, hwo⟩ : ∃ wo, wo = wr := ⟨_, rfl⟩
          subst hwo
          go_loopw [11] (fun jj wr => ∃ j : Nat, j ≤ n2 ∧ jj = .int .i64 (j : Int) ∧ Hid (Below wk.heap.size wk wr)) (fun jj _ => n2 - (intOf jj).toNat)
          case atStart => exact ⟨0, by omega, rfl, Below.refl _ _⟩
          case round =>
            obtain ⟨j, hj, rfl, HBl⟩ := hrel
            have HBlw : Hid (Below w.heap.size w wr) := bnx (bnx (unhide HBa) (unhide HBk)) (unhide HBl)
            obtain ⟨⟨q0, q1, q2, q3, q4, q5, q6⟩, ⟨x0, x1, x2⟩, hem, he2⟩ := (unhide HS) _ (unhide HBl)
            by_cases hjl : j < n2
            · rcases he2.2.2.2.2 with h5 | ⟨bb, off, rfl, hc⟩
              · omega
              obtain ⟨c0, c1, _, _⟩ := hc j (by rw [he2.1]; exact hjl)
              obtain ⟨z, hz⟩ : ∃ z, z = (en0 l2 j).1 := ⟨_, rfl⟩
              obtain ⟨y, hy⟩ : ∃ y, y = (en0 l2 j).2.1 := ⟨_, rfl⟩
              rw [← hz] at c0
              rw [← hy] at c1
              have hn2x := he2.2.2.2.1
              by_cases hzb : z ≤ b
              · clear hem he2 hc hz hy c1
                go_wp2
                go_quiet (fail)
                have HBn : Hid (Below wk.heap.size wk (wr.drewN nq)) := below_drewN (unhide HBl) nq
                clear q0 q1 q2 q3 q4 q5 q6 x0 x1 x2 c0
                go_wp2
                go_roundw
                case rel => exact ⟨j + 1, by omega, by go_num, HBn⟩
                case measure => simp [intOf]; omega
              · obtain ⟨jx, hj1, hj2, hj3, hj4⟩ := unhide HHO j (by rw [unhide HL2]; exact hjl) (by show b < _; omega)
                have hj1' : z - b - 1 = (jx : Int) := by rw [hz]; exact hj1
                have hjn : jx < nn := by rw [← hem.1]; exact hj2
                rcases hem.2.2.2.2 with h5 | ⟨bm, om, rfl, hcm⟩
                · omega
                obtain ⟨d0, d1, _, _⟩ := hcm jx hj2
                have hd0 : (en0 me jx).1 = z := by rw [hz]; exact hj4
                have hd1 : (en0 me jx).2.1 = y := by rw [hy]; exact hj3
                rw [hd0] at d0
                rw [hd1] at d1
                have hnnx := hem.2.2.2.1
                obtain ⟨y1, hy1⟩ : ∃ y1, y1 = z - b := ⟨_, rfl⟩
                have hw1 : IntKind.i64.wrap (z - b) = y1 := by rw [IntKind.wrap_i64]; omega
                have hw2 : IntKind.i64.wrap (y1 - 1) = (jx : Int) := by rw [IntKind.wrap_i64]; omega
                clear hem he2 hc hz hy hj1 hj2 hj3 hj4 hj1' hcm hd0 hd1 hy1
                go_wp2
                go_quiet (fail)
                go_wp2
                go_quiet (fail)
                go_wp2
                go_quiet (fail)
                go_wp2
                go_roundw
                case rel => exact ⟨j + 1, by omega, by go_num, below_drewN (unhide HBl) _⟩
                case measure => simp [intOf]; omega
            · obtain rfl : n2 = j := by omega
              clear hem he2
              have HOW : Hid (mrgR ⟨b, t, l1⟩ b t l1 = (0, false, ⟨b, t, l1⟩)) := mrgR_own (unhide HML)
              go_wp2_with fail
              refine (mrgE_any b t b t a1 n1 p1 l1 a1 n1 p1 l1 wr ((unhide H1).below (unhide HBlw)) ((unhide H1).below (unhide HBlw))).mono ?_
              rw [unhide HOW]
              rintro e wm ⟨⟨E3, ao, no, co, rfl, HOO, HEO⟩, HBm0⟩
              have hno : no = n1 := (unhide HOO).2.1.symm.trans (unhide H1).1
              subst hno
              have hal : Below wm.heap.size wm (wm.alloc (.cells #[.int .i64 b, .int .i64 t, .slice ao no co] 25)) := (Below.refl _ _).alloc (Nat.le_refl _) _
              have HBn0 : Hid (Below wk.heap.size wk (wm.alloc (.cells #[.int .i64 b, .int .i64 t, .slice ao no co] 25))) := bnx (bnx (unhide HBl) (unhide HBm0)) hal
              have HBnw : Hid (Below w.heap.size w (wm.alloc (.cells #[.int .i64 b, .int .i64 t, .slice ao no co] 25))) := bnx (bnx (bnx (unhide HBa) (unhide HBk)) (bnx (unhide HBl) (unhide HBm0))) hal
              have HXO : Hid (Bx (wm.alloc (.cells #[.int .i64 b, .int .i64 t, .slice ao no co] 25)) wm.heap.size [.int .i64 b, .int .i64 t, .slice ao no co] 25) := Bx.new _ _ _ _ rfl
              have HOO2 := hide ((unhide HOO).below hal)
              have HEO2 := hide ((unhide HEO).below hal)
              clear hal HOO HEO HBm0 q0 q1 q2 q3 q4 q5 q6 x0 x1 x2
              go_wp2_with fail
              refine (num_err E3 0 _ ((unhide HG).below (unhide HBnw) (unhide HG).pos) (unhide HEO2).errX).mono ?_
              rintro e wq ⟨rfl, hb⟩
              have HBq0 : Hid (Below wk.heap.size wk wq) := bnx (unhide HBn0) hb
              have HBqw : Hid (Below w.heap.size w wq) := bnx (unhide HBnw) hb
              have HXO3 := hide ((unhide HXO).below hb)
              have HOO3 := hide ((unhide HOO2).below hb)
              clear hb HXO HOO2 HEO2
              obtain ⟨⟨q0, q1, q2, q3, q4, q5, q6⟩, _⟩ := (unhide HS) _ (unhide HBq0)
              obtain ⟨⟨y0, y1, y2⟩, _⟩ := bx_slot (unhide HXO3)
              go_wp2_with fail
              refine (eqL_same b t ao a1 no co p1 l1 wq (unhide HOO3).es ((unhide H1).below (unhide HBqw))).mono ?_
              rintro e ws ⟨rfl, hb⟩
              have HBs : Hid (Below w.heap.size w ws) := bnx (unhide HBqw) hb
              clear hb
              go_wp2
              go_roundw
              case rel => exact ⟨k + 1, by omega, by go_num, HBs⟩
              case measure => simp [intOf]; omega
        · clear HR
          go_wp2
          go_roundw
          case rel => exact ⟨k + 1, by omega, by go_num, HBew⟩
          case measure => simp [intOf]; omega
      · clear HR
        go_wp2
        go_roundw
        case rel => exact ⟨k + 1, by omega, by go_num, HBew⟩
        case measure => simp [intOf]; omega
    · have hend : ¬ (k : Int) < (len : Int) ∨ ¬ (k : Int) < 8 := by omega
      by_cases h9 : (k : Int) < (len : Int)
      · have h9b : ¬ (k : Int) < 8 := by omega
        go_wp2_with fail
        refine (wakes_any _ ((unhide HG).below (unhide HB) (unhide HG).pos)).mono ?_
        rintro e w9 ⟨rfl, hb9⟩
        have HB9 : Hid (Below w.heap.size w w9) := bnx (unhide HB) hb9
        clear hb9
        go_wp2
        go_ret
        exact ⟨rfl, unhide HB9⟩
      · go_wp2_with fail
        refine (wakes_any _ ((unhide HG).below (unhide HB) (unhide HG).pos)).mono ?_
        rintro e w9 ⟨rfl, hb9⟩
        have HB9 : Hid (Below w.heap.size w w9) := bnx (unhide HB) hb9
        clear hb9
        go_wp2
        go_ret
        exact ⟨rfl, unhide HB9⟩
theorem again15_walk0 (ao : Option Addr) (cap : Nat) (w : World) (hg : Laid w) :
    Calls Tryd.prog 5 #[.slice ao 0 cap] w fun e w' => e = .returned (.bool true) ∧ Below w.heap.size w w' := by
  have HG := hide hg
  have HB : Hid (Below w.heap.size w w) := Below.refl _ _
  clear hg
  go_enter Tryd.func5, Tryd.ntmps5
  go_wp2
  refine wp_loop_rounds 1 ?_
  rw [rounds_succ]
  go_wp2_with fail
  refine (wakes_any _ ((unhide HG).below (unhide HB) (unhide HG).pos)).mono ?_
  rintro e w9 ⟨rfl, hb9⟩
  have HB9 : Hid (Below w.heap.size w w9) := bnx (unhide HB) hb9
  clear hb9
  go_wp2
  go_ret
  exact ⟨rfl, unhide HB9⟩
end Go.Proofs.YtnmcjjlpifemnaaDoor.Et
