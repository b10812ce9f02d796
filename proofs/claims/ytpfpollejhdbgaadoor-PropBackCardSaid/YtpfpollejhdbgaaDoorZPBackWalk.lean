/- Proved here: dovecotelaw3.PropBack tells true at any asks read from memory, and turns nothing below. Helper contracts. -/
import Derived.Test.YtpfpollejhdbgaaDoorZPPutsWalk
import Derived.Test.YtpfpollejhdbgaaDoorZPLawKit
import Derived.Test.YtpfpollejhdbgaaDoorZPBackPlain
import Derived.Deep.RegionHeld3
namespace Go.Proofs.YtpfpollejhdbgaaDoor
open Go.RowKit
set_option maxRecDepth 100000

theorem below_drew1 (w : World) : Below w.heap.size w w.drew := below_drewN (Below.refl _ _) 1
theorem pbs_bound (place : Int) (l : List Pr) (h : okTo place l l.length) (hl : l.length ≤ 32) : (pbs l).length ≤ 5000000 := by
  have a := body_le l place l.length (Nat.le_refl _) h
  have b := (V.put_len ((body l).length : Int)).2
  rw [List.take_length] at a
  unfold pbs
  rw [List.length_append]
  omega
set_option maxHeartbeats 3000000 in
theorem back_walk (b off len cap : Nat) (vl : Nat → Value) (ls : Nat → List Pr) (pl : Nat → Int) (vb : Nat → Value) (bs : Nat → List Int) (w : World) (hlen : len ≤ maxLen) (hg : Laid w)
    (hc : ∀ k, k < len → AskAt w b (off + k * 3) (vl k) (ls k) (pl k) (vb k) (bs k)) :
    Calls Tryd.prog 5 #[.slice (some ⟨b, off, none⟩) len cap] w fun e w' => e = .returned (.bool true) ∧ Below w.heap.size w w' := by
  unfold maxLen at hlen
  have HC := hide hc
  have HG := hide hg
  clear hc hg
  go_enter Tryd.func5, Tryd.ntmps5
  go_wp2
  go_loopw [3] (fun i wr => ∃ k : Nat, k ≤ len ∧ k ≤ 12 ∧ i = .int .i64 k ∧ Below w.heap.size w wr) (fun i _ => 12 - (intOf i).toNat)
  case atStart => exact ⟨0, Nat.zero_le _, by omega, rfl, Below.refl _ _⟩
  case round =>
    obtain ⟨wo, hwo⟩ : ∃ wo, wo = wr := ⟨wr, rfl⟩
    subst hwo
    obtain ⟨k, hk, hk12, rfl, hbel⟩ := hrel
    by_cases hlt : k < len ∧ k < 12
    · obtain ⟨hlt, hlt12⟩ := hlt
      obtain ⟨hc0, hc1, hc2, hpr, hhd, hby, hbl, -, -⟩ := (unhide HC) k hlt
      have c0 := (hbel.cell (p := ⟨b, off + k * 3, none⟩) (cell_lt hc0)).trans hc0
      have c1 := (hbel.cell (p := ⟨b, off + k * 3 + 1, none⟩) (cell_lt hc1)).trans hc1
      have c2 := (hbel.cell (p := ⟨b, off + k * 3 + 2, none⟩) (cell_lt hc2)).trans hc2
      have HPR : Hid (Prp wo (vl k) (ls k)) := hpr.below hbel
      have HHD := hide hhd
      have HY : Hid (Byt wo (vb k) (bs k)) := hby.below hbel
      have HG0 : Hid (Laid wo) := (unhide HG).below hbel (unhide HG).pos
      have hsz := hbel.size
      have HBEL := hide hbel
      clear hc0 hc1 hc2 hpr hhd hby hbel
      generalize vl k = v at c0 HPR
      generalize ls k = l at HPR HHD
      generalize pl k = p at c1
      generalize vb k = u at c2 HY
      generalize bs k = z at HY hbl
      obtain ⟨ao, vc, rfl, -, -⟩ := (unhide HY).form
      generalize hn : z.length = n at c2 hbl HY
      have HN := hide hn
      clear hn
      obtain ⟨lo, lc, hv⟩ := (unhide HPR).form
      generalize hvl : l.length = ln at hv
      have HLN := hide hvl
      clear hvl
      subst hv
      have HD : Hid (∀ W, Below (wo.alloc (.cells #[.slice lo ln lc, .int .i64 p, .slice ao n vc] 26)).heap.size (wo.alloc (.cells #[.slice lo ln lc, .int .i64 p, .slice ao n vc] 26)) W → (W.cell? ⟨wo.heap.size, 0, none⟩ = some (.slice lo ln lc) ∧ W.cell? ⟨wo.heap.size, 1, none⟩ = some (.int .i64 p) ∧ W.cell? ⟨wo.heap.size, 2, none⟩ = some (.slice ao n vc)) ∧ Prp W (.slice lo ln lc) l ∧ Byt W (.slice ao n vc) z ∧ Laid W ∧ Below w.heap.size w W) := fun W hW => by
        have h0 : Below wo.heap.size wo W := ((Below.refl _ _).alloc (Nat.le_refl _) _).trans (hW.mono (by simp))
        exact ⟨⟨(hW.cell (p := ⟨wo.heap.size, 0, none⟩) (by simp)).trans (by simp), (hW.cell (p := ⟨wo.heap.size, 1, none⟩) (by simp)).trans (by simp), (hW.cell (p := ⟨wo.heap.size, 2, none⟩) (by simp)).trans (by simp)⟩, (unhide HPR).below h0, (unhide HY).below h0, (unhide HG0).below h0 (unhide HG0).pos, (unhide HBEL).trans (h0.mono hsz)⟩
      generalize hW0 : wo.alloc (.cells #[.slice lo ln lc, .int .i64 p, .slice ao n vc] 26) = W0 at HD
      have HW0 := hide hW0
      have hws : wo.heap.size < W0.heap.size := by rw [← hW0]; simp
      clear hW0
      have HV1 := hide (fun W (hb : Below W0.heap.size W0 W) => heavy_any (.slice lo ln lc) l p ao n vc W ((unhide HD) W hb).2.1 (unhide HHD) hbl)
      go_wp2_with fail
      rw [unhide HW0]
      refine ((unhide HV1) W0 (Below.refl _ _)).mono ?_
      rintro e w1 ⟨hv, rfl, HL1, hb1⟩
      have HC1 : Hid (Below W0.heap.size W0 w1) := hb1
      obtain ⟨⟨e1, f1, g1⟩, hp1, -, -, hB1⟩ := (unhide HD) w1 (unhide HC1)
      have HP1 := hide hp1
      have HB1 := hide hB1
      clear hp1 hB1 hb1 c0 c1 c2 HPR HY HV1
      cases hv
      · have HL0 : Hid (Light l n) := (unhide HL1) rfl
        clear HL1
        go_wp2_with fail
        refine (weight_any _ l _ (unhide HP1) (unhide HHD)).mono ?_
        rintro e w2 ⟨r, rfl, -, q2, hw2⟩
        have hb2 : Below w1.heap.size w1 w2 := by rw [hw2]; exact below_drewN (Below.refl _ _) q2
        clear hw2 HHD HP1 HB1
        have HC2 : Hid (Below W0.heap.size W0 w2) := (unhide HC1).trans (hb2.mono (unhide HC1).size)
        obtain ⟨⟨e2, f2, g2⟩, -⟩ := (unhide HD) w2 (unhide HC2)
        clear hb2
        clear e1 f1 g1
        by_cases h5 : 3000 < r
        · go_wp2
          go_ret
          exact ⟨rfl, ((unhide HD) _ (unhide HC2)).2.2.2.2⟩
        · have hn5 : n ≤ 5000 := (unhide HL0).2.1
          have HPUT := hide (put_any (.slice lo ln lc) l p w2 ((unhide HD) _ (unhide HC2)).2.1 (unhide HL0).1 (unhide HL0).small)
          have HZ1 : Hid (chkP p l = 0 → pbz p l = pbs l) := fun h => by unfold pbz; rw [if_pos h]
          have HOT : Hid (chkP p l = 0 → okTo p l l.length ∧ l.length ≤ 32) := fun h => by
            unfold chkP at h
            split at h
            · split at h
              · exact ⟨by assumption, by assumption⟩
              · omega
            · omega
          generalize hcc : chkP p l = c at HPUT HZ1 HOT
          have HCC := hide hcc
          clear hcc
          go_wp2_with fail
          refine (unhide HPUT).mono ?_
          rintro e w3 ⟨vq, E, rfl, hy3, hE3, hb3⟩
          clear HPUT
          have HC3 : Hid (Below W0.heap.size W0 w3) := (unhide HC2).trans (hb3.mono (unhide HC2).size)
          obtain ⟨⟨e3, f3, g3⟩, -⟩ := (unhide HD) w3 (unhide HC3)
          clear hb3
          clear e2 f2 g2
          obtain ⟨bo, bc, hvq, hbc1, hbc2⟩ := (unhide hy3).form
          generalize hNZ : (pbz p l).length = N at hvq hbc1
          have HNZ := hide hNZ
          clear hNZ
          subst hvq
          unfold maxLen at hbc2
          go_wp2_with fail
          refine (numlp _ c _ ((unhide HD) _ (unhide HC3)).2.2.2.1 (unhide hE3)).mono ?_
          rintro e w4 ⟨rfl, hb4⟩
          have HC4 : Hid (Below W0.heap.size W0 w4) := (unhide HC3).trans (hb4.mono (unhide HC3).size)
          obtain ⟨⟨e4, f4, g4⟩, -⟩ := (unhide HD) w4 (unhide HC4)
          have hy4 : Hid (Byt w4 (.slice bo N bc) (pbz p l)) := (unhide hy3).below hb4
          clear hy3
          clear hb4
          clear e3 f3 g3
          by_cases hc0 : c = 0
          · subst hc0
            rw [(unhide HZ1) rfl] at hy4
            have HNN : Hid ((pbs l).length = N) := by rw [← (unhide HZ1) rfl]; exact HNZ
            obtain ⟨hot, hl32⟩ := (unhide HOT) rfl
            have hN := pbs_bound p l hot hl32
            have HBK := hide (fun q t (hr : Rng (pbs l)) => back_pgt p q l t hot hl32 hr)
            have HSH := hide (fun q k hk => back_short p q l hot hl32 k hk)
            have hl32' := hide hl32
            clear hot hl32 HZ1 HOT
            rw [unhide HNN] at hN HSH
            have HRG : Hid (Rng (pbs l)) := (unhide hy4).range
            have HYD : Hid (Byt w4.drew (.slice bo N bc) (pbs l)) := (unhide hy4).below (below_drew1 w4)
            have HLE : Hid ((pbs l).length ≤ 140737488355328) := by show _ ≤ _; rw [unhide HNN]; omega
            have HC4d : Hid (Below W0.heap.size W0 w4.drew) := (unhide HC4).trans ((below_drew1 w4).mono (unhide HC4).size)
            go_wp2_with fail
            refine wp_region_noPanic ?_
            refine wp_region_held_drew (S := (fun w' => w'.cell? ⟨wo.heap.size, 1, none⟩ = some (.int .i64 p) ∧ w'.cell? ⟨wo.heap.size, 2, none⟩ = some (.slice ao n vc))) (by kernel_rfl) ⟨((unhide HD) _ (unhide HC4d)).1.2.1, ((unhide HD) _ (unhide HC4d)).1.2.2⟩ (fun hHeld => ?_)
            refine wpAnyH_take (i := 0) (oi := { dst := some 52, op := Op.move (Operand.tmp 5), type := 24, pos := "law.go:83", after := #[], guard := none }) (v := ?v1) rfl (by kernel_rfl) (by kernel_rfl) (by kernel_rfl) (fun _ _ _ h => h) (Or.inl ⟨by rfl, ?hy1⟩) (by assumption) ?rest1
            case hy1 => (intro w hSw; (try dsimp only at hSw); go_simp; (try rw [if_pos (by omega)]); (try with_reducible rfl))
            simp only [Act.put, List.setIfInBounds_toArray, List.set_cons_zero, List.set_cons_succ]
            refine wpAnyH_take (i := 2) (oi := { dst := some 54, op := Op.fieldAddr 26 (Operand.tmp 4) 2, type := 0, pos := "law.go:83", after := #[], guard := none }) (v := ?v2) rfl (by kernel_rfl) (by kernel_rfl) (by kernel_rfl) (fun _ _ _ h => h) (Or.inl ⟨by rfl, ?hy2⟩) (by assumption) ?rest2
            case hy2 => (intro w hSw; (try dsimp only at hSw); go_simp; (try rw [if_pos (by omega)]); (try with_reducible rfl))
            simp only [Act.put, List.setIfInBounds_toArray, List.set_cons_zero, List.set_cons_succ]
            refine wpAnyH_take (i := 3) (oi := { dst := some 55, op := Op.load 24 (Operand.tmp 54), type := 24, pos := "law.go:83", after := #[{ on := 2, ground := Ground.data }], guard := none }) (v := ?v3) rfl (by kernel_rfl) (by kernel_rfl) (by kernel_rfl) (fun _ _ _ h => h) (Or.inl ⟨by rfl, ?hy3⟩) (by assumption) ?rest3
            case hy3 => (intro w hSw; (try dsimp only at hSw); go_simp; (try rw [if_pos (by omega)]); (try with_reducible rfl))
            simp only [Act.put, List.setIfInBounds_toArray, List.set_cons_zero, List.set_cons_succ]
            refine wpAnyH_take (i := 5) (oi := { dst := some 57, op := Op.fieldAddr 26 (Operand.tmp 4) 1, type := 0, pos := "law.go:83", after := #[], guard := none }) (v := ?v4) rfl (by kernel_rfl) (by kernel_rfl) (by kernel_rfl) (fun _ _ _ h => h) (Or.inl ⟨by rfl, ?hy4⟩) (by assumption) ?rest4
            case hy4 => (intro w hSw; (try dsimp only at hSw); go_simp; (try rw [if_pos (by omega)]); (try with_reducible rfl))
            simp only [Act.put, List.setIfInBounds_toArray, List.set_cons_zero, List.set_cons_succ]
            refine wpAnyH_take (i := 6) (oi := { dst := some 58, op := Op.load 3 (Operand.tmp 57), type := 3, pos := "law.go:83", after := #[{ on := 5, ground := Ground.data }], guard := none }) (v := ?v5) rfl (by kernel_rfl) (by kernel_rfl) (by kernel_rfl) (fun _ _ _ h => h) (Or.inl ⟨by rfl, ?hy5⟩) (by assumption) ?rest5
            case hy5 => (intro w hSw; (try dsimp only at hSw); go_simp; (try rw [if_pos (by omega)]); (try with_reducible rfl))
            simp only [Act.put, List.setIfInBounds_toArray, List.set_cons_zero, List.set_cons_succ]
            refine wpAnyH_ready (rs := [1]) (by kernel_rfl) (by simp) ?_
            refine AllReadyH.cons (o := { dst := some 53, op := Op.call { callee := Callee.value (Operand.func 20), args := #[Operand.tmp 52], argTypes := #[24] }, type := 24, pos := "law.go:83", after := #[{ on := 0, ground := Ground.data }], guard := none }) rfl (fun K hK => ?_) AllReadyH.nil
            go_simp
            refine (copyb_any (.slice bo N bc) (pbs l) w4.drew (unhide HYD) (unhide HLE)).mono ?_
            rintro e w5 ⟨v5, rfl, ho5, -, hb5⟩
            have hb5' := below_undrew1 hb5
            clear hb5
            have HC5 : Hid (Below W0.heap.size W0 w5) := (unhide HC4).trans (hb5'.mono (unhide HC4).size)
            have HO5 : Hid (w5.ownsRow w4.heap.size 5 1 v5 N ((pbs l).map (Value.int .u8))) := by rw [← unhide HNN]; exact ho5
            have HX5 : Hid (Below w4.heap.size w4 w5) := hb5'
            clear hb5' ho5
            refine hK.out _ _ ⟨((unhide HD) _ (unhide HC5)).1.2.1, ((unhide HD) _ (unhide HC5)).1.2.2⟩ (fun hHeld => ?_)
            clear hK K
            refine wpAnyH_ready (rs := [4]) (by kernel_rfl) (by simp) ?_
            refine AllReadyH.cons (o := { dst := some 56, op := Op.call { callee := Callee.builtin Builtin.append, args := #[Operand.tmp 53, Operand.tmp 55], argTypes := #[24, 24] }, type := 24, pos := "law.go:83", after := #[{ on := 1, ground := Ground.data }, { on := 3, ground := Ground.data }, { on := 1, ground := Ground.chain }], guard := none }) rfl (fun K hK => ?_) AllReadyH.nil
            refine step_append_byt (by rfl) _ _ (by rfl) w4.heap.size v5 N (pbs l) (by rfl) (by exact unhide HO5) (.slice ao n vc) z (by rfl) (by exact ((unhide HD) _ (unhide HC5)).2.2.1) (by rw [unhide HN]; omega) (by exact (unhide HX5).size) ?_
            intro v6 w6 hown6 hgrow6
            have HX6 : Hid (Below w4.heap.size w4 w6) := (unhide HX5).grown hgrow6 (unhide HX5).size (fun g hg => ((unhide HO5).lt g hg).1)
            have HC6 : Hid (Below W0.heap.size W0 w6) := (unhide HC4).trans ((unhide HX6).mono (unhide HC4).size)
            have HY6 : Hid (Byt w6 v6 (pbs l ++ z)) := byt_of_owns hown6 (range_app (unhide HRG) ((unhide HD) _ (unhide HC5)).2.2.1.range)
            clear hown6 hgrow6
            refine hK.out _ _ ⟨((unhide HD) _ (unhide HC6)).1.2.1, ((unhide HD) _ (unhide HC6)).1.2.2⟩ (fun hHeld => ?_)
            clear hK K
            refine wpAnyH_ready (rs := [7]) (by kernel_rfl) (by simp) ?_
            refine AllReadyH.cons (o := { dst := some 59, op := Op.call { callee := Callee.value (Operand.func 21), args := #[Operand.tmp 56, Operand.tmp 58], argTypes := #[24, 3] }, type := 43, pos := "law.go:83", after := #[{ on := 4, ground := Ground.data }, { on := 6, ground := Ground.data }, { on := 4, ground := Ground.chain }], guard := none }) rfl (fun K hK => ?_) AllReadyH.nil
            go_simp
            have HGET := hide (get3_any v6 (pbs l ++ z) p w6 (unhide HY6))
            unfold GetPost at HGET
            have HBP := hide ((unhide HBK) p z (unhide HRG))
            rw [unhide HCC] at HBP
            rw [(unhide HBP).1, ((unhide HBP).2 rfl).1, ((unhide HBP).2 rfl).2, unhide HNN] at HGET
            refine (unhide HGET).mono ?_
            rintro e w7 ⟨v7, E7, rfl, ho7, hE7, hb7⟩
            have HC7 : Hid (Below W0.heap.size W0 w7) := (unhide HC6).trans (hb7.mono (unhide HC6).size)
            have hx7 : Hid (Prp w7 v7 l) := prp_of_owns (unhide ho7)
            have HX7 : Hid (Below w4.heap.size w4 w7) := (unhide HX6).trans (hb7.mono (unhide HX6).size)
            clear hb7 ho7 HGET HBP
            refine hK.out _ _ ⟨((unhide HD) _ (unhide HC7)).1.2.1, ((unhide HD) _ (unhide HC7)).1.2.2⟩ (fun hHeld => ?_)
            clear hK K
            refine wpAnyH_take (i := 8) (oi := { dst := some 51, op := Op.move (Operand.tmp 59), type := 43, pos := "law.go:83", after := #[{ on := 7, ground := Ground.data }], guard := none }) (v := ?v6) rfl (by kernel_rfl) (by kernel_rfl) (by kernel_rfl) (fun _ _ _ h => h) (Or.inl ⟨by rfl, ?hy6⟩) (by assumption) ?rest6
            case hy6 => (intro w hSw; (try dsimp only at hSw); go_simp; (try rw [if_pos (by omega)]); (try with_reducible rfl))
            simp only [Act.put, List.setIfInBounds_toArray, List.set_cons_zero, List.set_cons_succ]
            refine wpAnyH_take (i := 9) (oi := { dst := some 60, op := Op.extract (Operand.tmp 51) 0, type := 23, pos := "law.go:83", after := #[{ on := 8, ground := Ground.data }], guard := none }) (v := ?v7) rfl (by kernel_rfl) (by kernel_rfl) (by kernel_rfl) (fun _ _ _ h => h) (Or.inl ⟨by rfl, ?hy7⟩) (by assumption) ?rest7
            case hy7 => (intro w hSw; (try dsimp only at hSw); go_simp; (try rw [if_pos (by omega)]); (try with_reducible rfl))
            simp only [Act.put, List.setIfInBounds_toArray, List.set_cons_zero, List.set_cons_succ]
            refine wpAnyH_take (i := 10) (oi := { dst := some 61, op := Op.extract (Operand.tmp 51) 1, type := 3, pos := "law.go:83", after := #[{ on := 8, ground := Ground.data }, { on := 12, ground := Ground.gcOnly Departure.lateStores }], guard := none }) (v := ?v8) rfl (by kernel_rfl) (by kernel_rfl) (by kernel_rfl) (fun _ _ _ h => h) (Or.inl ⟨by rfl, ?hy8⟩) (by assumption) ?rest8
            case hy8 => (intro w hSw; (try dsimp only at hSw); go_simp; (try rw [if_pos (by omega)]); (try with_reducible rfl))
            simp only [Act.put, List.setIfInBounds_toArray, List.set_cons_zero, List.set_cons_succ]
            refine wpAnyH_take (i := 11) (oi := { dst := some 62, op := Op.extract (Operand.tmp 51) 2, type := 33, pos := "law.go:83", after := #[{ on := 8, ground := Ground.data }, { on := 13, ground := Ground.gcOnly Departure.lateStores }], guard := none }) (v := ?v9) rfl (by kernel_rfl) (by kernel_rfl) (by kernel_rfl) (fun _ _ _ h => h) (Or.inl ⟨by rfl, ?hy9⟩) (by assumption) ?rest9
            case hy9 => (intro w hSw; (try dsimp only at hSw); go_simp; (try rw [if_pos (by omega)]); (try with_reducible rfl))
            simp only [Act.put, List.setIfInBounds_toArray, List.set_cons_zero, List.set_cons_succ]
            refine wpAnyH_ready (rs := [12]) (by kernel_rfl) (by simp) ?_
            refine AllReadyH.cons (o := { dst := some 7, op := Op.assign (Operand.tmp 60), type := 23, pos := "law.go:83", after := #[{ on := 9, ground := Ground.data }, { on := 7, ground := Ground.chain }, { on := 0, ground := Ground.phase }, { on := 1, ground := Ground.phase }, { on := 2, ground := Ground.phase }, { on := 3, ground := Ground.phase }, { on := 4, ground := Ground.phase }, { on := 5, ground := Ground.phase }, { on := 6, ground := Ground.phase }, { on := 7, ground := Ground.phase }, { on := 8, ground := Ground.phase }, { on := 9, ground := Ground.phase }, { on := 10, ground := Ground.textOnly Departure.lateStores }, { on := 11, ground := Ground.textOnly Departure.lateStores }], guard := none }) rfl (fun K hK => ?_) AllReadyH.nil
            go_simp
            refine hK.out _ _ ⟨((unhide HD) _ (unhide HC7)).1.2.1, ((unhide HD) _ (unhide HC7)).1.2.2⟩ (fun hHeld => ?_)
            clear hK K
            refine wpAnyH_ready (rs := [13]) (by kernel_rfl) (by simp) ?_
            refine AllReadyH.cons (o := { dst := some 8, op := Op.assign (Operand.tmp 61), type := 3, pos := "law.go:83", after := #[{ on := 10, ground := Ground.data }, { on := 12, ground := Ground.chain }, { on := 0, ground := Ground.phase }, { on := 1, ground := Ground.phase }, { on := 2, ground := Ground.phase }, { on := 3, ground := Ground.phase }, { on := 4, ground := Ground.phase }, { on := 5, ground := Ground.phase }, { on := 6, ground := Ground.phase }, { on := 7, ground := Ground.phase }, { on := 8, ground := Ground.phase }, { on := 9, ground := Ground.phase }, { on := 10, ground := Ground.phase }, { on := 11, ground := Ground.textOnly Departure.lateStores }, { on := 12, ground := Ground.phase }], guard := none }) rfl (fun K hK => ?_) AllReadyH.nil
            go_simp
            refine hK.out _ _ ⟨((unhide HD) _ (unhide HC7)).1.2.1, ((unhide HD) _ (unhide HC7)).1.2.2⟩ (fun hHeld => ?_)
            clear hK K
            refine wpAnyH_ready (rs := [14]) (by kernel_rfl) (by simp) ?_
            refine AllReadyH.cons (o := { dst := some 9, op := Op.assign (Operand.tmp 62), type := 33, pos := "law.go:83", after := #[{ on := 11, ground := Ground.data }, { on := 13, ground := Ground.chain }, { on := 0, ground := Ground.phase }, { on := 1, ground := Ground.phase }, { on := 2, ground := Ground.phase }, { on := 3, ground := Ground.phase }, { on := 4, ground := Ground.phase }, { on := 5, ground := Ground.phase }, { on := 6, ground := Ground.phase }, { on := 7, ground := Ground.phase }, { on := 8, ground := Ground.phase }, { on := 9, ground := Ground.phase }, { on := 10, ground := Ground.phase }, { on := 11, ground := Ground.phase }, { on := 12, ground := Ground.phase }, { on := 13, ground := Ground.phase }], guard := none }) rfl (fun K hK => ?_) AllReadyH.nil
            go_simp
            refine hK.out _ _ ⟨((unhide HD) _ (unhide HC7)).1.2.1, ((unhide HD) _ (unhide HC7)).1.2.2⟩ (fun hHeld => ?_)
            clear hK K
            refine wpAnyH_done (by kernel_rfl) ?_ _
            refine NoPanic.normal ?_
            have hy7 : Hid (Byt w7 (.slice bo N bc) (pbs l)) := (unhide hy4).below (unhide HX7)
            clear HO5 HX5 HX6 HY6 HC5 HC6 HX7
            obtain ⟨⟨e7, f7, g7⟩, hp7, -, hg7, -⟩ := (unhide HD) w7 (unhide HC7)
            have HP7 := hide hp7
            have HG7 := hide hg7
            clear hp7 hg7
            go_wp2_with fail
            refine (numlp _ 0 _ (unhide HG7) (unhide hE7)).mono ?_
            rintro e w8 ⟨rfl, hb8⟩
            have HC8 : Hid (Below W0.heap.size W0 w8) := (unhide HC7).trans (hb8.mono (unhide HC7).size)
            obtain ⟨⟨e8, f8, g8⟩, -⟩ := (unhide HD) w8 (unhide HC8)
            have hx8 : Hid (Prp w8 v7 l) := (unhide hx7).below hb8
            have hy8 : Hid (Byt w8 (.slice bo N bc) (pbs l)) := (unhide hy7).below hb8
            clear hb8
            clear e7 f7 g7
            have hNe : ((N : Int) != (N : Int)) = false := by simp
            go_wp2_with fail
            refine (eqp_same _ _ l _ (unhide hx8) ((unhide HD) _ (unhide HC8)).2.1 (by have := unhide hl32'; omega)).mono ?_
            rintro e w9 ⟨rfl, hb9⟩
            have HC9 : Hid (Below W0.heap.size W0 w9) := (unhide HC8).trans (hb9.mono (unhide HC8).size)
            obtain ⟨⟨e9, f9, g9⟩, -⟩ := (unhide HD) w9 (unhide HC9)
            have hy9 : Hid (Byt w9 (.slice bo N bc) (pbs l)) := (unhide hy8).below hb9
            clear hb9
            clear e8 f8 g8
            go_wp2
            go_loopw [10] (fun j wr => ∃ m : Nat, m ≤ 6000000 ∧ j = .int .i64 m ∧ Below w9.heap.size w9 wr) (fun j _ => N - (intOf j).toNat)
            case atStart => exact ⟨0, by omega, rfl, Below.refl _ _⟩
            case round =>
              obtain ⟨m, hm, rfl, hbm⟩ := hrel
              obtain ⟨wi, hwi⟩ : ∃ wi, wi = wr := ⟨wr, rfl⟩
              subst hwi
              have HCi : Hid (Below W0.heap.size W0 wi) := (unhide HC9).trans (hbm.mono (unhide HC9).size)
              have HXi := hide hbm
              obtain ⟨⟨ei, fi, gi⟩, -⟩ := (unhide HD) wi (unhide HCi)
              have hym : Hid (Byt wi (.slice bo N bc) (pbs l)) := (unhide hy9).below hbm
              by_cases hmN : m < N
              · have HTK : Hid (Byt wi (.slice bo m bc) ((pbs l).take m)) := (unhide hym).take m (by omega)
                have HS3 := hide ((unhide HSH) p m hmN)
                clear hbm hym
                go_wp2_with fail
                have HTKd : Hid (Byt wi.drew (.slice bo m bc) ((pbs l).take m)) := (unhide HTK).below (below_drew1 wi)
                have HCid : Hid (Below W0.heap.size W0 wi.drew) := (unhide HCi).trans ((below_drew1 wi).mono (unhide HCi).size)
                have HGET := hide (get3_any (.slice bo m bc) ((pbs l).take m) p wi.drew (unhide HTKd))
                unfold GetPost at HGET
                rw [unhide HS3] at HGET
                refine wp_region_noPanic ?_
                refine wp_region_held_drew (S := (fun w' => w'.cell? ⟨wo.heap.size, 1, none⟩ = some (.int .i64 p))) (by kernel_rfl) ((unhide HD) _ (unhide HCid)).1.2.1 (fun hHeld => ?_)
                refine wpAnyH_take (i := 0) (oi := { dst := some 90, op := Op.move (Operand.tmp 5), type := 24, pos := "law.go:88", after := #[], guard := none }) (v := ?v10) rfl (by kernel_rfl) (by kernel_rfl) (by kernel_rfl) (fun _ _ _ h => h) (Or.inl ⟨by rfl, ?hy10⟩) (by assumption) ?rest10
                case hy10 => (intro w hSw; (try dsimp only at hSw); go_simp; (try rw [if_pos (by omega)]); (try with_reducible rfl))
                simp only [Act.put, List.setIfInBounds_toArray, List.set_cons_zero, List.set_cons_succ]
                refine wpAnyH_take (i := 1) (oi := { dst := some 91, op := Op.move (Operand.tmp 10), type := 3, pos := "law.go:88", after := #[], guard := none }) (v := ?v11) rfl (by kernel_rfl) (by kernel_rfl) (by kernel_rfl) (fun _ _ _ h => h) (Or.inl ⟨by rfl, ?hy11⟩) (by assumption) ?rest11
                case hy11 => (intro w hSw; (try dsimp only at hSw); go_simp; (try rw [if_pos (by omega)]); (try with_reducible rfl))
                simp only [Act.put, List.setIfInBounds_toArray, List.set_cons_zero, List.set_cons_succ]
                refine wpAnyH_take (i := 2) (oi := { dst := some 92, op := Op.slice 24 (Operand.tmp 90) none (some (Operand.tmp 91)) none, type := 24, pos := "law.go:88", after := #[{ on := 0, ground := Ground.data }, { on := 1, ground := Ground.data }], guard := none }) (v := ?v12) rfl (by kernel_rfl) (by kernel_rfl) (by kernel_rfl) (fun _ _ _ h => h) (Or.inl ⟨by rfl, ?hy12⟩) (by assumption) ?rest12
                case hy12 => (intro w hSw; (try dsimp only at hSw); go_simp; (try rw [if_pos (by omega)]); (try with_reducible rfl))
                simp only [Act.put, List.setIfInBounds_toArray, List.set_cons_zero, List.set_cons_succ]
                refine wpAnyH_take (i := 3) (oi := { dst := some 93, op := Op.fieldAddr 26 (Operand.tmp 4) 1, type := 0, pos := "law.go:88", after := #[], guard := none }) (v := ?v13) rfl (by kernel_rfl) (by kernel_rfl) (by kernel_rfl) (fun _ _ _ h => h) (Or.inl ⟨by rfl, ?hy13⟩) (by assumption) ?rest13
                case hy13 => (intro w hSw; (try dsimp only at hSw); go_simp; (try rw [if_pos (by omega)]); (try with_reducible rfl))
                simp only [Act.put, List.setIfInBounds_toArray, List.set_cons_zero, List.set_cons_succ]
                refine wpAnyH_take (i := 4) (oi := { dst := some 94, op := Op.load 3 (Operand.tmp 93), type := 3, pos := "law.go:88", after := #[{ on := 3, ground := Ground.data }], guard := none }) (v := ?v14) rfl (by kernel_rfl) (by kernel_rfl) (by kernel_rfl) (fun _ _ _ h => h) (Or.inl ⟨by rfl, ?hy14⟩) (by assumption) ?rest14
                case hy14 => (intro w hSw; (try dsimp only at hSw); go_simp; (try rw [if_pos (by omega)]); (try with_reducible rfl))
                simp only [Act.put, List.setIfInBounds_toArray, List.set_cons_zero, List.set_cons_succ]
                refine wpAnyH_ready (rs := [5]) (by kernel_rfl) (by simp) ?_
                refine AllReadyH.cons (o := { dst := some 95, op := Op.call { callee := Callee.value (Operand.func 21), args := #[Operand.tmp 92, Operand.tmp 94], argTypes := #[24, 3] }, type := 43, pos := "law.go:88", after := #[{ on := 2, ground := Ground.data }, { on := 4, ground := Ground.data }], guard := none }) rfl (fun K hK => ?_) AllReadyH.nil
                go_simp
                refine (unhide HGET).mono ?_
                rintro e wj ⟨vj, Ej, rfl, -, hEj, hbj⟩
                have HCj : Hid (Below W0.heap.size W0 wj) := (unhide HCi).trans ((below_undrew1 hbj).mono (unhide HCi).size)
                have HXj : Hid (Below w9.heap.size w9 wj) := (unhide HXi).trans ((below_undrew1 hbj).mono (unhide HXi).size)
                clear hbj HGET
                refine hK.out _ _ ((unhide HD) _ (unhide HCj)).1.2.1 (fun hHeld => ?_)
                clear hK K
                refine wpAnyH_take (i := 6) (oi := { dst := some 89, op := Op.move (Operand.tmp 95), type := 43, pos := "law.go:88", after := #[{ on := 5, ground := Ground.data }], guard := none }) (v := ?v15) rfl (by kernel_rfl) (by kernel_rfl) (by kernel_rfl) (fun _ _ _ h => h) (Or.inl ⟨by rfl, ?hy15⟩) (by assumption) ?rest15
                case hy15 => (intro w hSw; (try dsimp only at hSw); go_simp; (try rw [if_pos (by omega)]); (try with_reducible rfl))
                simp only [Act.put, List.setIfInBounds_toArray, List.set_cons_zero, List.set_cons_succ]
                refine wpAnyH_take (i := 7) (oi := { dst := some 96, op := Op.extract (Operand.tmp 89) 0, type := 23, pos := "law.go:88", after := #[{ on := 6, ground := Ground.data }], guard := none }) (v := ?v16) rfl (by kernel_rfl) (by kernel_rfl) (by kernel_rfl) (fun _ _ _ h => h) (Or.inl ⟨by rfl, ?hy16⟩) (by assumption) ?rest16
                case hy16 => (intro w hSw; (try dsimp only at hSw); go_simp; (try rw [if_pos (by omega)]); (try with_reducible rfl))
                simp only [Act.put, List.setIfInBounds_toArray, List.set_cons_zero, List.set_cons_succ]
                refine wpAnyH_take (i := 8) (oi := { dst := some 97, op := Op.extract (Operand.tmp 89) 1, type := 3, pos := "law.go:88", after := #[{ on := 6, ground := Ground.data }, { on := 10, ground := Ground.gcOnly Departure.lateStores }], guard := none }) (v := ?v17) rfl (by kernel_rfl) (by kernel_rfl) (by kernel_rfl) (fun _ _ _ h => h) (Or.inl ⟨by rfl, ?hy17⟩) (by assumption) ?rest17
                case hy17 => (intro w hSw; (try dsimp only at hSw); go_simp; (try rw [if_pos (by omega)]); (try with_reducible rfl))
                simp only [Act.put, List.setIfInBounds_toArray, List.set_cons_zero, List.set_cons_succ]
                refine wpAnyH_take (i := 9) (oi := { dst := some 98, op := Op.extract (Operand.tmp 89) 2, type := 33, pos := "law.go:88", after := #[{ on := 6, ground := Ground.data }, { on := 11, ground := Ground.gcOnly Departure.lateStores }], guard := none }) (v := ?v18) rfl (by kernel_rfl) (by kernel_rfl) (by kernel_rfl) (fun _ _ _ h => h) (Or.inl ⟨by rfl, ?hy18⟩) (by assumption) ?rest18
                case hy18 => (intro w hSw; (try dsimp only at hSw); go_simp; (try rw [if_pos (by omega)]); (try with_reducible rfl))
                simp only [Act.put, List.setIfInBounds_toArray, List.set_cons_zero, List.set_cons_succ]
                refine wpAnyH_ready (rs := [10]) (by kernel_rfl) (by simp) ?_
                refine AllReadyH.cons (o := { dst := some 11, op := Op.assign (Operand.tmp 96), type := 23, pos := "law.go:88", after := #[{ on := 7, ground := Ground.data }, { on := 5, ground := Ground.chain }, { on := 0, ground := Ground.phase }, { on := 1, ground := Ground.phase }, { on := 2, ground := Ground.phase }, { on := 3, ground := Ground.phase }, { on := 4, ground := Ground.phase }, { on := 5, ground := Ground.phase }, { on := 6, ground := Ground.phase }, { on := 7, ground := Ground.phase }, { on := 8, ground := Ground.textOnly Departure.lateStores }, { on := 9, ground := Ground.textOnly Departure.lateStores }], guard := none }) rfl (fun K hK => ?_) AllReadyH.nil
                go_simp
                refine hK.out _ _ ((unhide HD) _ (unhide HCj)).1.2.1 (fun hHeld => ?_)
                clear hK K
                refine wpAnyH_ready (rs := [11]) (by kernel_rfl) (by simp) ?_
                refine AllReadyH.cons (o := { dst := some 12, op := Op.assign (Operand.tmp 97), type := 3, pos := "law.go:88", after := #[{ on := 8, ground := Ground.data }, { on := 10, ground := Ground.chain }, { on := 0, ground := Ground.phase }, { on := 1, ground := Ground.phase }, { on := 2, ground := Ground.phase }, { on := 3, ground := Ground.phase }, { on := 4, ground := Ground.phase }, { on := 5, ground := Ground.phase }, { on := 6, ground := Ground.phase }, { on := 7, ground := Ground.phase }, { on := 8, ground := Ground.phase }, { on := 9, ground := Ground.textOnly Departure.lateStores }, { on := 10, ground := Ground.phase }], guard := none }) rfl (fun K hK => ?_) AllReadyH.nil
                go_simp
                refine hK.out _ _ ((unhide HD) _ (unhide HCj)).1.2.1 (fun hHeld => ?_)
                clear hK K
                refine wpAnyH_ready (rs := [12]) (by kernel_rfl) (by simp) ?_
                refine AllReadyH.cons (o := { dst := some 13, op := Op.assign (Operand.tmp 98), type := 33, pos := "law.go:88", after := #[{ on := 9, ground := Ground.data }, { on := 11, ground := Ground.chain }, { on := 0, ground := Ground.phase }, { on := 1, ground := Ground.phase }, { on := 2, ground := Ground.phase }, { on := 3, ground := Ground.phase }, { on := 4, ground := Ground.phase }, { on := 5, ground := Ground.phase }, { on := 6, ground := Ground.phase }, { on := 7, ground := Ground.phase }, { on := 8, ground := Ground.phase }, { on := 9, ground := Ground.phase }, { on := 10, ground := Ground.phase }, { on := 11, ground := Ground.phase }], guard := none }) rfl (fun K hK => ?_) AllReadyH.nil
                go_simp
                refine hK.out _ _ ((unhide HD) _ (unhide HCj)).1.2.1 (fun hHeld => ?_)
                clear hK K
                refine wpAnyH_done (by kernel_rfl) ?_ _
                refine NoPanic.normal ?_
                go_wp2_with fail
                refine (numlp _ 3 _ ((unhide HD) _ (unhide HCj)).2.2.2.1 (unhide hEj)).mono ?_
                rintro e wk ⟨rfl, hbk⟩
                have HXk : Hid (Below w9.heap.size w9 wk) := (unhide HXj).trans (hbk.mono (unhide HXj).size)
                clear hbk
                go_wp2
                go_roundw
                case rel => exact ⟨m + 1 + N / 10, by omega, by go_num, unhide HXk⟩
                case measure => simp [intOf]; omega
              · clear hbm hym
                go_wp2
                go_loopw [14] (fun j wr => ∃ m : Nat, m ≤ 18 ∧ j = .int .i64 m ∧ Below w9.heap.size w9 wr) (fun j _ => 18 - (intOf j).toNat)
                case atStart => exact ⟨0, by omega, rfl, unhide HXi⟩
                case round =>
                  obtain ⟨q, hq, rfl, hbq⟩ := hrel
                  obtain ⟨wx, hwx⟩ : ∃ wx, wx = wr := ⟨wr, rfl⟩
                  subst hwx
                  have HCx : Hid (Below W0.heap.size W0 wx) := (unhide HC9).trans (hbq.mono (unhide HC9).size)
                  have HXx := hide hbq
                  obtain ⟨⟨ex, fx, gx⟩, -⟩ := (unhide HD) wx (unhide HCx)
                  have hyx : Hid (Byt wx (.slice bo N bc) (pbs l)) := (unhide hy9).below hbq
                  clear hbq
                  by_cases hq17 : q ≤ 17
                  · have HGET := hide (get3_any _ (pbs l) (q : Int) wx (unhide hyx))
                    have HBQ := hide ((unhide HBK) (q : Int) [] (unhide HRG))
                    rw [List.append_nil] at HBQ
                    unfold GetPost at HGET
                    rw [(unhide HBQ).1] at HGET
                    have HCHK := hide (fun W (hb : Below W0.heap.size W0 W) => check_any (.slice lo ln lc) l (q : Int) W ((unhide HD) _ hb).2.1 (unhide HL0).1 (unhide HL0).small)
                    generalize chkP (q : Int) l = d at HGET HCHK
                    clear HBQ hyx
                    go_wp2_with fail
                    refine (unhide HGET).mono ?_
                    rintro e wy ⟨vy, F, rfl, -, hF, hby⟩
                    have HCy : Hid (Below W0.heap.size W0 wy) := (unhide HCx).trans (hby.mono (unhide HCx).size)
                    have HXy : Hid (Below w9.heap.size w9 wy) := (unhide HXx).trans (hby.mono (unhide HXx).size)
                    clear hby HGET
                    go_wp2_with fail
                    have HCyd : Hid (Below W0.heap.size W0 wy.drew) := (unhide HCy).trans ((below_drew1 wy).mono (unhide HCy).size)
                    have hFd : Hid (ErrP wy.drew F d) := (unhide hF).below (below_drew1 wy)
                    have HGd : Hid (Laid wy.drew) := ((unhide HD) _ (unhide HCyd)).2.2.2.1
                    refine wp_region_noPanic ?_
                    refine wp_region_held_drew (S := (fun w' => w'.cell? ⟨wo.heap.size, 0, none⟩ = some (.slice lo ln lc))) (by kernel_rfl) ((unhide HD) _ (unhide HCyd)).1.1 (fun hHeld => ?_)
                    refine wpAnyH_take (i := 0) (oi := { dst := some 113, op := Op.move (Operand.tmp 17), type := 33, pos := "law.go:95", after := #[], guard := none }) (v := ?v19) rfl (by kernel_rfl) (by kernel_rfl) (by kernel_rfl) (fun _ _ _ h => h) (Or.inl ⟨by rfl, ?hy19⟩) (by assumption) ?rest19
                    case hy19 => (intro w hSw; (try dsimp only at hSw); go_simp; (try rw [if_pos (by omega)]); (try with_reducible rfl))
                    simp only [Act.put, List.setIfInBounds_toArray, List.set_cons_zero, List.set_cons_succ]
                    refine wpAnyH_take (i := 3) (oi := { dst := some 116, op := Op.fieldAddr 26 (Operand.tmp 4) 0, type := 0, pos := "law.go:95", after := #[], guard := none }) (v := ?v20) rfl (by kernel_rfl) (by kernel_rfl) (by kernel_rfl) (fun _ _ _ h => h) (Or.inl ⟨by rfl, ?hy20⟩) (by assumption) ?rest20
                    case hy20 => (intro w hSw; (try dsimp only at hSw); go_simp; (try rw [if_pos (by omega)]); (try with_reducible rfl))
                    simp only [Act.put, List.setIfInBounds_toArray, List.set_cons_zero, List.set_cons_succ]
                    refine wpAnyH_take (i := 4) (oi := { dst := some 117, op := Op.load 23 (Operand.tmp 116), type := 23, pos := "law.go:95", after := #[{ on := 3, ground := Ground.data }], guard := none }) (v := ?v21) rfl (by kernel_rfl) (by kernel_rfl) (by kernel_rfl) (fun _ _ _ h => h) (Or.inl ⟨by rfl, ?hy21⟩) (by assumption) ?rest21
                    case hy21 => (intro w hSw; (try dsimp only at hSw); go_simp; (try rw [if_pos (by omega)]); (try with_reducible rfl))
                    simp only [Act.put, List.setIfInBounds_toArray, List.set_cons_zero, List.set_cons_succ]
                    refine wpAnyH_take (i := 5) (oi := { dst := some 118, op := Op.move (Operand.tmp 14), type := 3, pos := "law.go:95", after := #[], guard := none }) (v := ?v22) rfl (by kernel_rfl) (by kernel_rfl) (by kernel_rfl) (fun _ _ _ h => h) (Or.inl ⟨by rfl, ?hy22⟩) (by assumption) ?rest22
                    case hy22 => (intro w hSw; (try dsimp only at hSw); go_simp; (try rw [if_pos (by omega)]); (try with_reducible rfl))
                    simp only [Act.put, List.setIfInBounds_toArray, List.set_cons_zero, List.set_cons_succ]
                    refine wpAnyH_ready (rs := [1]) (by kernel_rfl) (by simp) ?_
                    refine AllReadyH.cons (o := { dst := some 114, op := Op.call { callee := Callee.value (Operand.func 15), args := #[Operand.tmp 113], argTypes := #[33] }, type := 3, pos := "law.go:95", after := #[{ on := 0, ground := Ground.data }], guard := none }) rfl (fun K hK => ?_) AllReadyH.nil
                    go_simp
                    refine (numlp F d wy.drew (unhide HGd) (unhide hFd)).mono ?_
                    rintro e w20 ⟨rfl, hb20⟩
                    have HC20 : Hid (Below W0.heap.size W0 w20) := (unhide HCy).trans ((below_undrew1 hb20).mono (unhide HCy).size)
                    have HX20 : Hid (Below w9.heap.size w9 w20) := (unhide HXy).trans ((below_undrew1 hb20).mono (unhide HXy).size)
                    clear hb20
                    refine hK.out _ _ ((unhide HD) _ (unhide HC20)).1.1 (fun hHeld => ?_)
                    clear hK K
                    refine wpAnyH_take (i := 2) (oi := { dst := some 115, op := Op.binOp BinOp.eql 3 (Operand.tmp 114) (Operand.const (Value.int IntKind.i64 0)) 3, type := 4, pos := "law.go:95", after := #[{ on := 1, ground := Ground.data }], guard := none }) (v := ?v23) rfl (by kernel_rfl) (by kernel_rfl) (by kernel_rfl) (fun _ _ _ h => h) (Or.inl ⟨by rfl, ?hy23⟩) (by assumption) ?rest23
                    case hy23 => (intro w hSw; (try dsimp only at hSw); go_simp; (try rw [if_pos (by omega)]); (try with_reducible rfl))
                    simp only [Act.put, List.setIfInBounds_toArray, List.set_cons_zero, List.set_cons_succ]
                    refine wpAnyH_ready (rs := [6]) (by kernel_rfl) (by simp) ?_
                    refine AllReadyH.cons (o := { dst := some 119, op := Op.call { callee := Callee.value (Operand.func 16), args := #[Operand.tmp 117, Operand.tmp 118], argTypes := #[23, 3] }, type := 33, pos := "law.go:95", after := #[{ on := 4, ground := Ground.data }, { on := 5, ground := Ground.data }, { on := 1, ground := Ground.chain }], guard := none }) rfl (fun K hK => ?_) AllReadyH.nil
                    go_simp
                    refine ((unhide HCHK) _ (unhide HC20)).mono ?_
                    rintro e w21 ⟨E21, rfl, hE21, hb21⟩
                    have HC21 : Hid (Below W0.heap.size W0 w21) := (unhide HC20).trans (hb21.mono (unhide HC20).size)
                    have HX21 : Hid (Below w9.heap.size w9 w21) := (unhide HX20).trans (hb21.mono (unhide HX20).size)
                    clear hb21
                    refine hK.out _ _ ((unhide HD) _ (unhide HC21)).1.1 (fun hHeld => ?_)
                    clear hK K
                    refine wpAnyH_ready (rs := [7]) (by kernel_rfl) (by simp) ?_
                    refine AllReadyH.cons (o := { dst := some 120, op := Op.call { callee := Callee.value (Operand.func 15), args := #[Operand.tmp 119], argTypes := #[33] }, type := 3, pos := "law.go:95", after := #[{ on := 6, ground := Ground.data }, { on := 6, ground := Ground.chain }], guard := none }) rfl (fun K hK => ?_) AllReadyH.nil
                    go_simp
                    refine (numlp _ d _ ((unhide HD) _ (unhide HC21)).2.2.2.1 (unhide hE21)).mono ?_
                    rintro e w22 ⟨rfl, hb22⟩
                    have HC22 : Hid (Below W0.heap.size W0 w22) := (unhide HC21).trans (hb22.mono (unhide HC21).size)
                    have HX22 : Hid (Below w9.heap.size w9 w22) := (unhide HX21).trans (hb22.mono (unhide HX21).size)
                    clear hb22
                    refine hK.out _ _ ((unhide HD) _ (unhide HC22)).1.1 (fun hHeld => ?_)
                    clear hK K
                    refine wpAnyH_take (i := 8) (oi := { dst := some 121, op := Op.binOp BinOp.eql 3 (Operand.tmp 120) (Operand.const (Value.int IntKind.i64 0)) 3, type := 4, pos := "law.go:95", after := #[{ on := 7, ground := Ground.data }], guard := none }) (v := ?v24) rfl (by kernel_rfl) (by kernel_rfl) (by kernel_rfl) (fun _ _ _ h => h) (Or.inl ⟨by rfl, ?hy24⟩) (by assumption) ?rest24
                    case hy24 => (intro w hSw; (try dsimp only at hSw); go_simp; (try rw [if_pos (by omega)]); (try with_reducible rfl))
                    simp only [Act.put, List.setIfInBounds_toArray, List.set_cons_zero, List.set_cons_succ]
                    refine wpAnyH_take (i := 9) (oi := { dst := some 122, op := Op.binOp BinOp.neq 4 (Operand.tmp 115) (Operand.tmp 121) 4, type := 4, pos := "law.go:95", after := #[{ on := 2, ground := Ground.data }, { on := 8, ground := Ground.data }], guard := none }) (v := ?v25) rfl (by kernel_rfl) (by kernel_rfl) (by kernel_rfl) (fun _ _ _ h => h) (Or.inl ⟨by rfl, ?hy25⟩) (by assumption) ?rest25
                    case hy25 => (intro w hSw; (try dsimp only at hSw); go_simp; (try rw [if_pos (by omega)]); (try with_reducible rfl))
                    simp only [Act.put, List.setIfInBounds_toArray, List.set_cons_zero, List.set_cons_succ]
                    refine wpAnyH_done (by kernel_rfl) ?_ _
                    refine NoPanic.normal ?_
                    go_wp2
                    go_roundw
                    case rel => exact ⟨q + 1, by omega, by go_num, unhide HX22⟩
                    case measure => simp [intOf]; omega
                  · go_wp2
                    go_roundw
                    case rel => exact ⟨k + 1, by omega, by omega, by go_num, ((unhide HD) _ (unhide HCx)).2.2.2.2⟩
                    case measure => simp [intOf]; omega
          · have bc : (c == 0) = false := beq_eq_false_iff_ne.2 hc0
            go_wp2
            go_roundw
            case rel => exact ⟨k + 1, by omega, by omega, by go_num, ((unhide HD) _ (unhide HC4)).2.2.2.2⟩
            case measure => simp [intOf]; omega
      · go_wp2
        go_ret
        exact ⟨rfl, unhide HB1⟩
    · have HB0 := hide hbel
      have HGE : Hid (Laid wo) := (unhide HG).below hbel (unhide HG).pos
      clear hbel
      by_cases hl2 : k < len
      · have hk2 : k = 12 := by omega
        subst hk2
        go_wp2_with fail
        refine (wakes_any _ (unhide HGE)).mono ?_
        rintro e w2 ⟨rfl, hb2⟩
        go_wp2
        go_ret
        exact ⟨rfl, (unhide HB0).trans (hb2.mono (unhide HB0).size)⟩
      · go_wp2_with fail
        refine (wakes_any _ (unhide HGE)).mono ?_
        rintro e w2 ⟨rfl, hb2⟩
        go_wp2
        go_ret
        exact ⟨rfl, (unhide HB0).trans (hb2.mono (unhide HB0).size)⟩
theorem back_walk0 (ao : Option Addr) (cap : Nat) (w : World) (hg : Laid w) : Calls Tryd.prog 5 #[.slice ao 0 cap] w fun e w' => e = .returned (.bool true) ∧ Below w.heap.size w w' := by
  have HG := hide hg
  clear hg
  go_enter Tryd.func5, Tryd.ntmps5
  go_wp2
  refine wp_loop_rounds 1 ?_
  rw [rounds_succ]
  go_wp2_with fail
  refine (wakes_any _ (unhide HG)).mono ?_
  rintro e w2 ⟨rfl, hb2⟩
  go_wp2
  go_ret
  exact ⟨rfl, hb2⟩
end Go.Proofs.YtpfpollejhdbgaaDoor
