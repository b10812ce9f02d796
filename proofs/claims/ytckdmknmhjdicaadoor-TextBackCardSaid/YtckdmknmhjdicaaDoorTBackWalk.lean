/- Proved here: the statement TextBack, called in any world whose errors.errorType is as laid, on any slice that reads, tells true and changes nothing that was there. -/
import Derived.Test.YtckdmknmhjdicaaDoorTWakes
import Derived.Test.YtckdmknmhjdicaaDoorTBackPlain
import Derived.Laws.Concat
namespace Go.Proofs.YtckdmknmhjdicaaDoor
open Go.RowKit

theorem below_undrew {B : Nat} {w w' : World} (h : Below B w.drew w') : Below B w w' := ⟨h.os, h.tape, h.output, h.size, h.block⟩
theorem put_no (s : ByteArray) (c : Int) (w : World) (hs : s.size ≤ 4611686018427387904) (hc : chk (sb s) = c) (h0 : c ≠ 0) : Calls Tryd.prog 9 #[.string s] w fun e w' => ∃ E, e = .returned (.tuple #[.slice none 0 0, E]) ∧ Hid (ErrIs w' E c) ∧ Below w.heap.size w w' := by
  refine (put_bad s c w hs hc h0).mono ?_
  rintro e w' ⟨rfl, rfl⟩
  exact ⟨_, rfl, fault_is c w, fault_below c w⟩
theorem put_yes (s : ByteArray) (w : World) (hc : chk (sb s) = 0) : Calls Tryd.prog 9 #[.string s] w fun e w' => ∃ g cb N, e = .returned (.tuple #[.slice (some ⟨g, 0, none⟩) N cb, .nilIface]) ∧ N = 2 + s.size ∧ N ≤ cb ∧ cb ≤ 9223372036854775807 ∧ w.heap.size ≤ g ∧ Hid (w'.ownsRow w.heap.size 5 1 (.slice (some ⟨g, 0, none⟩) N cb) N ((tx s).map (Value.int .u8))) ∧ Below w.heap.size w w' := by
  refine (put_ok s w hc).mono ?_
  rintro e w' ⟨v, rfl, hown, hb⟩
  rcases (unhide hown).2 with ⟨_, hn⟩ | ⟨g, cap, cur, rfl, hB, hg, hnc, hcm, rest⟩
  · omega
  · unfold maxLen at hcm
    exact ⟨g, cap, 2 + s.size, rfl, rfl, hnc, by omega, hB, hown, hb⟩
theorem copy_any (g n cb : Nat) (xs : List Int) (w : World) (B : Nat) (hl : Hid (xs.length = n)) (hn : n ≤ 140737488355328) (hown : w.ownsRow B 5 1 (.slice (some ⟨g, 0, none⟩) n cb) n (xs.map (Value.int .u8))) :
    Calls Tryd.prog 20 #[.slice (some ⟨g, 0, none⟩) n cb] w fun e w' => ∃ v, e = .returned v ∧ Hid (w'.ownsRow w.heap.size 5 1 v n (xs.map (Value.int .u8))) ∧ Below w.heap.size w w' := by
  refine copy_core g 0 n cb xs w (unhide hl) hn (fun j hj => ?_)
  have hj' : j < xs.length := by have := unhide hl; omega
  rw [Nat.zero_add, hown.cellAt j (by omega), List.getElem?_map, List.getElem?_eq_getElem hj', List.getD_eq_getElem?_getD, List.getElem?_eq_getElem hj']
  rfl

set_option maxRecDepth 100000 in
set_option maxHeartbeats 16000000 in
theorem back_walk (b off len cap : Nat) (ss : Nat → ByteArray) (vs : Nat → Value) (bs' : Nat → List Int) (w : World) (hlen : len ≤ maxLen) (hg : Laid w)
    (hc : ∀ k, k < len → w.cell? ⟨b, off + k * 2, none⟩ = some (.string (ss k)) ∧ w.cell? ⟨b, off + k * 2 + 1, none⟩ = some (vs k) ∧ Byt w (vs k) (bs' k)) :
    Calls Tryd.prog 5 #[.slice (some ⟨b, off, none⟩) len cap] w fun e w' => e = .returned (.bool true) ∧ Below w.heap.size w w' := by
  unfold maxLen at hlen
  have HC := hide hc
  have HG := hide hg
  clear hc hg
  go_enter Tryd.func5, Tryd.ntmps5
  go_wp2
  go_loopw [3] (fun i wr => ∃ k : Nat, k ≤ len ∧ k ≤ 20 ∧ i = .int .i64 k ∧ Below w.heap.size w wr) (fun i _ => 20 - (intOf i).toNat)
  case atStart => exact ⟨0, Nat.zero_le _, by omega, rfl, Below.refl _ _⟩
  case round =>
    obtain ⟨k, hk, hk20, rfl, hbel⟩ := hrel
    obtain ⟨wo, hwo⟩ : ∃ wo, wo = wr := ⟨wr, rfl⟩
    subst hwo
    by_cases hlt : k < len ∧ k < 20
    · obtain ⟨hlt, hlt20⟩ := hlt
      obtain ⟨hc0, hc1, hby⟩ := (unhide HC) k hlt
      have hcr := (hbel.cell (p := ⟨b, off + k * 2, none⟩) (cell_lt hc0)).trans hc0
      have hcs := (hbel.cell (p := ⟨b, off + k * 2 + 1, none⟩) (cell_lt hc1)).trans hc1
      have hbl : b < w.heap.size := cell_lt hc0
      have hsz := hbel.size
      have HY : Hid (Byt wo (vs k) (bs' k)) := hby.below hbel
      clear hc0 hc1 hby
      generalize ss k = s at hcr
      generalize vs k = v at hcs HY
      generalize bs' k = l at HY
      have hgr : Hid (Laid wo) := (unhide HG).below hbel (unhide HG).pos
      have hBel := hide hbel
      clear hbel
      obtain ⟨ao, vc, rfl, hv1, hv2⟩ := (unhide HY).form
      unfold maxLen at hv2
      generalize hn : l.length = n at hcs HY hv1
      have HN := hide hn
      clear hn
      have hk0' : (0 : Int) ≤ (k : Int) := Int.natCast_nonneg _
      have hk1' : (k : Int) < (len : Int) := by omega
      by_cases hs1 : 2000 < s.size
      · go_wp2
        go_ret
        exact ⟨rfl, unhide hBel⟩
      · by_cases hs2 : 2000 < n
        · go_wp2
          go_ret
          exact ⟨rfl, unhide hBel⟩
        · by_cases hz : chk (sb s) = 0
          · have HZ := hide hz
            clear hz
            go_wp2_with fail
            refine (put_yes s _ (unhide HZ)).mono ?_
            rintro e w1 ⟨g, cb, N, rfl, hN, hcb1, hcb2, hg1, hown, hb1⟩
            have hcr1 : w1.cell? ⟨b, off + k * 2, none⟩ = some (.string s) := (hb1.cell (p := ⟨b, off + k * 2, none⟩) (by simp; omega)).trans hcr
            have hcs1 : w1.cell? ⟨b, off + k * 2 + 1, none⟩ = some (.slice ao n vc) := (hb1.cell (p := ⟨b, off + k * 2 + 1, none⟩) (by simp; omega)).trans hcs
            have HY1 : Hid (Byt w1 (.slice ao n vc) l) := (unhide HY).below hb1
            have hl1 : Hid (Laid w1) := (unhide hgr).below hb1 (unhide hgr).pos
            have HB1 : Hid (Below w.heap.size w w1) := (unhide hBel).trans (hb1.mono hsz)
            have hw1 : w.heap.size ≤ w1.heap.size := (unhide HB1).size
            have hg2 : g < w1.heap.size := by have := (unhide hown).lt g rfl; omega
            have HN2 := hide hN
            have hN3 : N ≤ 2002 := by omega
            have hN4 : 2 ≤ N := by omega
            have HTL : Hid ((tx s).length = N) := by show _ = _; rw [tx_length]; exact hN.symm
            have HTR : Hid (∀ j, 0 ≤ (tx s).getD j 0 ∧ (tx s).getD j 0 ≤ 255) := tx_range s (by omega)
            clear hb1 hcr hcs HY hgr hBel hN
            go_wp2_with fail
            refine (numl_nil _).mono ?_
            rintro e w' ⟨rfl, hw⟩
            obtain rfl := hw.symm
            clear hw
            go_wp2_with fail
            go_region_held3 (fun w' => w'.cell? ⟨b, off + k * 2 + 1, none⟩ = some (.slice ao n vc))
              (first | exact hcs1 | exact hcs2 | exact hcs3 | exact hcs4)
              (first
                | (go_at_call 20; refine (copy_any _ _ _ (tx s) _ wo.heap.size HTL (by omega) (by exact unhide hown)).mono ?_; rintro e w2 ⟨v2, rfl, hown2, hb2⟩; have hcs2 : w2.cell? ⟨b, off + k * 2 + 1, none⟩ = some (.slice ao n vc) := (hb2.cell (p := ⟨b, off + k * 2 + 1, none⟩) (by simp; omega)).trans hcs1; have HY2 : Hid (Byt w2 (.slice ao n vc) l) := Byt.below (by exact unhide HY1) hb2; have HB2 : Hid (Below w1.heap.size w1 w2) := below_undrew hb2; have hs3 : w1.heap.size ≤ w2.heap.size := hb2.size; have hne : some b ≠ v2.ownBlock := fun e => by (have hq := ((unhide hown2).lt b e.symm).1; simp at hq; omega))
                | (refine step_append_byt (by rfl) _ _ (by rfl) w1.heap.size v2 N (tx s) (by rfl) (by exact unhide hown2) (.slice ao n vc) l (by rfl) (by exact unhide HY2) (by have := unhide HN; omega) (by exact hs3) ?_; intro v3 w3 hown3 hgrow3; have hcs3 : w3.cell? ⟨b, off + k * 2 + 1, none⟩ = some (.slice ao n vc) := hgrow3.cell hcs2 hne; have HO3 := hide hown3; have HB3 : Hid (Below w1.heap.size w1 w3) := (unhide HB2).grown hgrow3 hs3 (fun k hk => ((unhide hown2).lt k hk).1); clear hown3 hgrow3)
                | (go_at_call 16; refine (get_tx s N l v3 _ HN2 (unhide HZ) (byt_of_owns (by exact unhide HO3) (range_append _ _ (unhide HTR) (unhide HY1).range))).mono ?_; rintro e w4 ⟨E, rfl, HE4, hb4⟩; have hcs4 : w4.cell? ⟨b, off + k * 2 + 1, none⟩ = some (.slice ao n vc) := (hb4.cell (p := ⟨b, off + k * 2 + 1, none⟩) (by have hq := (unhide HB3).size; simp; omega)).trans hcs3; have HB4 : Hid (Below w1.heap.size w1 w4) := (unhide HB3).trans (hb4.mono (unhide HB3).size); clear hb4))
            have hl4 : Hid (Laid w4) := (unhide hl1).below (unhide HB4) (by have := (unhide hl1).pos; omega)
            have hcr4 : w4.cell? ⟨b, off + k * 2, none⟩ = some (.string s) := ((unhide HB4).cell (p := ⟨b, off + k * 2, none⟩) (by simp; omega)).trans hcr1
            clear hcs4 hcs3 hcs2 HY2 HB2 HB3 HO3 hown2 hb2 hne hs3
            go_wp2_with fail
            refine (numl_any _ 0 _ (unhide hl4) (unhide HE4)).mono ?_
            rintro e w5 ⟨rfl, hb5⟩
            have HB5 : Hid (Below w1.heap.size w1 w5) := (unhide HB4).trans (hb5.mono (unhide HB4).size)
            have hcr5 : w5.cell? ⟨b, off + k * 2, none⟩ = some (.string s) := ((unhide HB5).cell (p := ⟨b, off + k * 2, none⟩) (by simp; omega)).trans hcr1
            have hNe : ((N : Int) != (s.size : Int) + 2) = false := by have := unhide HN2; simp; omega
            clear hb5 HE4 HB4 hl4 hcr4
            go_wp2
            go_loopw [9] (fun j wr => ∃ m : Nat, m ≤ 3000 ∧ j = .int .i64 m ∧ Below w1.heap.size w1 wr) (fun j _ => N - (intOf j).toNat)
            case atStart => exact ⟨0, by omega, rfl, unhide HB5⟩
            case round =>
              obtain ⟨m, hm3, rfl, hbz⟩ := hrel
              by_cases hm : m < N
              · have HYz : Hid (Byt wr (.slice (some ⟨g, 0, none⟩) m cb) ((tx s).take m)) := ((byt_of_owns (unhide hown) (unhide HTR)).below hbz).take m (by omega)
                have hgz : Hid (Laid wr) := (unhide hl1).below hbz (unhide hl1).pos
                have HBz := hide hbz
                have hsz1 := hbz.size
                clear hbz
                go_wp2_with fail
                refine (get_cut s N m _ _ HN2 hm (unhide HYz)).mono ?_
                rintro e wy ⟨Ey, rfl, HEy, hby⟩
                have hgy : Hid (Laid wy) := (unhide hgz).below hby (unhide hgz).pos
                have HBy : Hid (Below w1.heap.size w1 wy) := (unhide HBz).trans (hby.mono hsz1)
                have hsy := (unhide HBy).size
                clear hby
                go_wp2_with fail
                refine (numl_any _ 3 _ (unhide hgy) (unhide HEy)).mono ?_
                rintro e wx ⟨rfl, hbx⟩
                have HBx : Hid (Below w1.heap.size w1 wx) := (unhide HBy).trans (hbx.mono hsy)
                clear hbx
                go_wp2
                go_roundw
                case rel => exact ⟨m + 1 + N / 10, by omega, by go_num, unhide HBx⟩
                case measure => simp [intOf]; omega
              · have hcs6 : wr.cell? ⟨b, off + k * 2 + 1, none⟩ = some (.slice ao n vc) := (hbz.cell (p := ⟨b, off + k * 2 + 1, none⟩) (by simp; omega)).trans hcs1
                have hcr6 : wr.cell? ⟨b, off + k * 2, none⟩ = some (.string s) := (hbz.cell (p := ⟨b, off + k * 2, none⟩) (by simp; omega)).trans hcr1
                have HY6 : Hid (Byt wr (.slice ao n vc) l) := (unhide HY1).below hbz
                have hl6 : Hid (Laid wr) := (unhide hl1).below hbz (unhide hl1).pos
                have HB6 : Hid (Below w.heap.size w wr) := (unhide HB1).trans (hbz.mono hw1)
                have hs6 : w.heap.size ≤ wr.heap.size := (unhide HB6).size
                have HCV : Hid (∀ W, Below wr.heap.size wr W → (convert 24 9 (.slice ao n vc)).run Tryd.prog W = .ok (.string (bs l)) W) := fun W h => conv_byt W _ l ((unhide HY6).below h)
                have hcv6 : (convert 24 9 (.slice ao n vc)).run Tryd.prog wr = .ok (.string (bs l)) wr := (unhide HCV) wr (Below.refl _ _)
                have HLS : Hid ((bs l).size = n) := by show _ = _; rw [bs_size]; exact unhide HN
                have HRG := hide (unhide HY1).range
                clear hbz HB5 hcr5 hNe
                by_cases hzl : chk l = 0
                · have HZL : Hid (chk (sb (bs l)) = 0) := by show _ = _; rw [chk_bs l (unhide HRG)]; exact hzl
                  have HZB : Hid (chk (sb (s ++ bs l)) = 0) := chk_both s l (unhide HRG) (unhide HZ) hzl (by omega) (by have := unhide HN; omega)
                  clear hzl
                  have HSZ : Hid ((s ++ bs l).size ≤ 4000) := by show _ ≤ _; rw [ByteArray.size_append, unhide HLS]; omega
                  have hadd : ∀ W, (Op.stringOp .add s (bs l)).run Tryd.prog W = .ok (.string (s ++ bs l)) W := fun W => run_string_add_sum (w := W) s (bs l) (by rw [unhide HLS]; omega)
                  generalize hu : s ++ bs l = u at HZB hadd HSZ
                  generalize ht : bs l = t at HZL HCV hcv6 HLS hadd hu
                  clear ht hu
                  have HCT : Hid (∀ x W, (x = t ∨ x = u) → Calls Tryd.prog 12 #[.string x] W fun e w' => e = .returned .nilIface ∧ w' = W) := by
                    rintro x W (rfl | rfl)
                    · exact check_ok _ W (by have := unhide HLS; omega) (unhide HZL)
                    · exact check_ok _ W (by have := unhide HSZ; omega) (unhide HZB)
                  go_wp2_with fail
                  go_region_held3 (fun w' => w'.cell? ⟨b, off + k * 2 + 1, none⟩ = some (.slice ao n vc) ∧ w'.cell? ⟨b, off + k * 2, none⟩ = some (.string s) ∧ (convert 24 9 (.slice ao n vc)).run Tryd.prog w' = .ok (.string t) w')
                    (first | exact ⟨hcs6, hcr6, hcv6⟩ | exact ⟨hcs6, hcr6, (unhide HCV) _ (below_drewN (Below.refl _ _) 1)⟩)
                    (first
                      | (go_at_call 12; refine ((unhide HCT) _ _ (by first | exact .inl rfl | exact .inr rfl)).mono ?_; rintro e w' ⟨rfl, rfl⟩)
                      | (go_at_call 11; refine (numl_nil _).mono ?_; rintro e w' ⟨rfl, rfl⟩))
                  go_wp2
                  go_roundw
                  case rel => exact ⟨k + 1, by omega, by omega, by go_num, below_drewN (unhide HB6) 1⟩
                  case measure => simp [intOf]; omega
                · have HZL : Hid (chk (sb (bs l)) = 1) := by show _ = _; rw [chk_bs l (unhide HRG)]; exact chk_one hzl (by have := unhide HN; omega)
                  clear hzl
                  have HCF := hide (fun W => check_num (bs l) W (by rw [unhide HLS]; omega))
                  rw [unhide HZL] at HCF
                  generalize ht : bs l = t at HZL HCV hcv6 HLS HCF
                  clear ht
                  go_wp2_with fail
                  refine wp_region_noPanic ?_
                  refine wp_region_held_drew (S := fun w' => w'.cell? ⟨b, off + k * 2 + 1, none⟩ = some (.slice ao n vc) ∧ w'.cell? ⟨b, off + k * 2, none⟩ = some (.string s) ∧ (convert 24 9 (.slice ao n vc)).run Tryd.prog w' = .ok (.string t) w') (by kernel_rfl) ⟨hcs6, hcr6, (unhide HCV) _ (below_drewN (Below.refl _ _) 1)⟩ (fun hHeld => ?_)
                  refine wpAnyH_take (i := 0) (oi := { dst := some 114, op := Op.move (Operand.tmp 0), type := 22, pos := "law.go:96", after := #[], guard := none }) (v := ?v0) rfl (by kernel_rfl) (by kernel_rfl) (by kernel_rfl) (fun _ _ _ h => h) (Or.inl ⟨by rfl, ?hy0⟩) (by assumption) ?rest0
                  case hy0 => (intro w hSw; (try dsimp only at hSw); go_simp; (try with_reducible rfl))
                  simp only [Act.put, List.setIfInBounds_toArray, List.set_cons_zero, List.set_cons_succ]
                  refine wpAnyH_take (i := 1) (oi := { dst := some 115, op := Op.move (Operand.tmp 3), type := 3, pos := "law.go:96", after := #[], guard := none }) (v := ?v1) rfl (by kernel_rfl) (by kernel_rfl) (by kernel_rfl) (fun _ _ _ h => h) (Or.inl ⟨by rfl, ?hy1⟩) (by assumption) ?rest1
                  case hy1 => (intro w hSw; (try dsimp only at hSw); go_simp; (try with_reducible rfl))
                  simp only [Act.put, List.setIfInBounds_toArray, List.set_cons_zero, List.set_cons_succ]
                  refine wpAnyH_take (i := 2) (oi := { dst := some 116, op := Op.indexAddr 22 (Operand.tmp 114) (Operand.tmp 115), type := 0, pos := "law.go:96", after := #[{ on := 0, ground := Ground.data }, { on := 1, ground := Ground.data }], guard := none }) (v := ?v2) rfl (by kernel_rfl) (by kernel_rfl) (by kernel_rfl) (fun _ _ _ h => h) (Or.inl ⟨by rfl, ?hy2⟩) (by assumption) ?rest2
                  case hy2 => (intro w hSw; (try dsimp only at hSw); go_simp; (try with_reducible rfl))
                  simp only [Act.put, List.setIfInBounds_toArray, List.set_cons_zero, List.set_cons_succ]
                  refine wpAnyH_take (i := 3) (oi := { dst := some 117, op := Op.fieldAddr 26 (Operand.tmp 116) 1, type := 0, pos := "law.go:96", after := #[{ on := 2, ground := Ground.data }], guard := none }) (v := ?v3) rfl (by kernel_rfl) (by kernel_rfl) (by kernel_rfl) (fun _ _ _ h => h) (Or.inl ⟨by rfl, ?hy3⟩) (by assumption) ?rest3
                  case hy3 => (intro w hSw; (try dsimp only at hSw); go_simp; (try with_reducible rfl))
                  simp only [Act.put, List.setIfInBounds_toArray, List.set_cons_zero, List.set_cons_succ]
                  refine wpAnyH_take (i := 4) (oi := { dst := some 118, op := Op.load 24 (Operand.tmp 117), type := 24, pos := "law.go:96", after := #[{ on := 3, ground := Ground.data }], guard := none }) (v := ?v4) rfl (by kernel_rfl) (by kernel_rfl) (by kernel_rfl) (fun _ _ _ h => h) (Or.inl ⟨by rfl, ?hy4⟩) (by assumption) ?rest4
                  case hy4 => (intro w hSw; (try dsimp only at hSw); go_simp; (try with_reducible rfl))
                  simp only [Act.put, List.setIfInBounds_toArray, List.set_cons_zero, List.set_cons_succ]
                  refine wpAnyH_take (i := 5) (oi := { dst := some 119, op := Op.convert 24 9 (Operand.tmp 118), type := 9, pos := "law.go:96", after := #[{ on := 4, ground := Ground.data }], guard := none }) (v := ?v5) rfl (by kernel_rfl) (by kernel_rfl) (by kernel_rfl) (fun _ _ _ h => h) (Or.inl ⟨by rfl, ?hy5⟩) (by assumption) ?rest5
                  case hy5 => (intro w hSw; (try dsimp only at hSw); go_simp; (try with_reducible rfl))
                  simp only [Act.put, List.setIfInBounds_toArray, List.set_cons_zero, List.set_cons_succ]
                  refine wpAnyH_ready (rs := [6]) (by kernel_rfl) (by simp) ?_
                  refine AllReadyH.cons (o := { dst := some 120, op := Op.call { callee := Callee.value (Operand.func 12), args := #[Operand.tmp 119], argTypes := #[9] }, type := 30, pos := "law.go:96", after := #[{ on := 5, ground := Ground.data }], guard := none }) rfl (fun K hK => ?_) AllReadyH.nil
                  go_simp
                  refine ((unhide HCF) _).mono ?_
                  rintro e w7 ⟨E7, rfl, HE7, hb7⟩
                  have HB7 : Hid (Below wr.heap.size wr w7) := below_undrew hb7
                  have hcs7 : w7.cell? ⟨b, off + k * 2 + 1, none⟩ = some (.slice ao n vc) := ((unhide HB7).cell (p := ⟨b, off + k * 2 + 1, none⟩) (by simp; omega)).trans hcs6
                  have hcr7 : w7.cell? ⟨b, off + k * 2, none⟩ = some (.string s) := ((unhide HB7).cell (p := ⟨b, off + k * 2, none⟩) (by simp; omega)).trans hcr6
                  have hcv7 := (unhide HCV) w7 (unhide HB7)
                  have hl7 : Hid (Laid w7) := (unhide hl6).below (unhide HB7) (unhide hl6).pos
                  clear hb7
                  go_wp2_with fail
                  refine hK.out _ _ ⟨hcs7, hcr7, hcv7⟩ (fun hHeld => ?_)
                  clear hK K
                  clear hcs7 hcr7 hcv7
                  refine wpAnyH_ready (rs := [7]) (by kernel_rfl) (by simp) ?_
                  refine AllReadyH.cons (o := { dst := some 121, op := Op.call { callee := Callee.value (Operand.func 11), args := #[Operand.tmp 120], argTypes := #[30] }, type := 3, pos := "law.go:96", after := #[{ on := 6, ground := Ground.data }, { on := 6, ground := Ground.chain }], guard := none }) rfl (fun K hK => ?_) AllReadyH.nil
                  go_simp
                  refine (numl_any _ 1 _ (unhide hl7) (unhide HE7)).mono ?_
                  rintro e w8 ⟨rfl, hb8⟩
                  have HB8 : Hid (Below wr.heap.size wr w8) := (unhide HB7).trans (hb8.mono (unhide HB7).size)
                  have hcs8 : w8.cell? ⟨b, off + k * 2 + 1, none⟩ = some (.slice ao n vc) := ((unhide HB8).cell (p := ⟨b, off + k * 2 + 1, none⟩) (by simp; omega)).trans hcs6
                  have hcr8 : w8.cell? ⟨b, off + k * 2, none⟩ = some (.string s) := ((unhide HB8).cell (p := ⟨b, off + k * 2, none⟩) (by simp; omega)).trans hcr6
                  have hcv8 := (unhide HCV) w8 (unhide HB8)
                  clear hb8
                  go_wp2_with fail
                  refine hK.out _ _ ⟨hcs8, hcr8, hcv8⟩ (fun hHeld => ?_)
                  clear hK K
                  refine wpAnyH_take (i := 8) (oi := { dst := some 122, op := Op.binOp BinOp.eql 3 (Operand.tmp 121) (Operand.const (Value.int IntKind.i64 0)) 3, type := 4, pos := "law.go:96", after := #[{ on := 7, ground := Ground.data }], guard := none }) (v := ?v8) rfl (by kernel_rfl) (by kernel_rfl) (by kernel_rfl) (fun _ _ _ h => h) (Or.inl ⟨by rfl, ?hy8⟩) (by assumption) ?rest8
                  case hy8 => (intro w hSw; (try dsimp only at hSw); go_simp; (try with_reducible rfl))
                  simp only [Act.put, List.setIfInBounds_toArray, List.set_cons_zero, List.set_cons_succ]
                  refine wpAnyH_take (i := 9) (oi := { dst := some 123, op := Op.move (Operand.tmp 122), type := 4, pos := "law.go:96", after := #[{ on := 8, ground := Ground.data }, { on := 7, ground := Ground.chain }], guard := none }) (v := ?v9) rfl (by kernel_rfl) (by kernel_rfl) (by kernel_rfl) (fun _ _ _ h => h) (Or.inl ⟨by rfl, ?hy9⟩) (by assumption) ?rest9
                  case hy9 => (intro w hSw; (try dsimp only at hSw); go_simp; (try with_reducible rfl))
                  simp only [Act.put, List.setIfInBounds_toArray, List.set_cons_zero, List.set_cons_succ]
                  refine wpAnyH_take (i := 10) (oi := { dst := some 124, op := Op.move (Operand.tmp 0), type := 22, pos := "law.go:96", after := #[{ on := 9, ground := Ground.guard }], guard := some (9, true) }) (v := undef) rfl (by kernel_rfl) (by kernel_rfl) (by kernel_rfl) (fun _ _ _ h => h) (Or.inr ⟨by rfl, rfl⟩) (by assumption) ?_
                  simp only [Act.put, List.setIfInBounds_toArray, List.set_cons_zero, List.set_cons_succ]
                  refine wpAnyH_take (i := 11) (oi := { dst := some 125, op := Op.move (Operand.tmp 3), type := 3, pos := "law.go:96", after := #[{ on := 9, ground := Ground.guard }], guard := some (9, true) }) (v := undef) rfl (by kernel_rfl) (by kernel_rfl) (by kernel_rfl) (fun _ _ _ h => h) (Or.inr ⟨by rfl, rfl⟩) (by assumption) ?_
                  simp only [Act.put, List.setIfInBounds_toArray, List.set_cons_zero, List.set_cons_succ]
                  refine wpAnyH_take (i := 12) (oi := { dst := some 126, op := Op.indexAddr 22 (Operand.tmp 124) (Operand.tmp 125), type := 0, pos := "law.go:96", after := #[{ on := 10, ground := Ground.data }, { on := 11, ground := Ground.data }, { on := 9, ground := Ground.guard }], guard := some (9, true) }) (v := undef) rfl (by kernel_rfl) (by kernel_rfl) (by kernel_rfl) (fun _ _ _ h => h) (Or.inr ⟨by rfl, rfl⟩) (by assumption) ?_
                  simp only [Act.put, List.setIfInBounds_toArray, List.set_cons_zero, List.set_cons_succ]
                  refine wpAnyH_take (i := 13) (oi := { dst := some 127, op := Op.fieldAddr 26 (Operand.tmp 126) 0, type := 0, pos := "law.go:96", after := #[{ on := 12, ground := Ground.data }, { on := 9, ground := Ground.guard }], guard := some (9, true) }) (v := undef) rfl (by kernel_rfl) (by kernel_rfl) (by kernel_rfl) (fun _ _ _ h => h) (Or.inr ⟨by rfl, rfl⟩) (by assumption) ?_
                  simp only [Act.put, List.setIfInBounds_toArray, List.set_cons_zero, List.set_cons_succ]
                  refine wpAnyH_take (i := 14) (oi := { dst := some 128, op := Op.load 9 (Operand.tmp 127), type := 9, pos := "law.go:96", after := #[{ on := 13, ground := Ground.data }, { on := 9, ground := Ground.guard }], guard := some (9, true) }) (v := undef) rfl (by kernel_rfl) (by kernel_rfl) (by kernel_rfl) (fun _ _ _ h => h) (Or.inr ⟨by rfl, rfl⟩) (by assumption) ?_
                  simp only [Act.put, List.setIfInBounds_toArray, List.set_cons_zero, List.set_cons_succ]
                  refine wpAnyH_take (i := 15) (oi := { dst := some 129, op := Op.move (Operand.tmp 0), type := 22, pos := "law.go:96", after := #[{ on := 9, ground := Ground.guard }], guard := some (9, true) }) (v := undef) rfl (by kernel_rfl) (by kernel_rfl) (by kernel_rfl) (fun _ _ _ h => h) (Or.inr ⟨by rfl, rfl⟩) (by assumption) ?_
                  simp only [Act.put, List.setIfInBounds_toArray, List.set_cons_zero, List.set_cons_succ]
                  refine wpAnyH_take (i := 16) (oi := { dst := some 130, op := Op.move (Operand.tmp 3), type := 3, pos := "law.go:96", after := #[{ on := 9, ground := Ground.guard }], guard := some (9, true) }) (v := undef) rfl (by kernel_rfl) (by kernel_rfl) (by kernel_rfl) (fun _ _ _ h => h) (Or.inr ⟨by rfl, rfl⟩) (by assumption) ?_
                  simp only [Act.put, List.setIfInBounds_toArray, List.set_cons_zero, List.set_cons_succ]
                  refine wpAnyH_take (i := 17) (oi := { dst := some 131, op := Op.indexAddr 22 (Operand.tmp 129) (Operand.tmp 130), type := 0, pos := "law.go:96", after := #[{ on := 15, ground := Ground.data }, { on := 16, ground := Ground.data }, { on := 9, ground := Ground.guard }], guard := some (9, true) }) (v := undef) rfl (by kernel_rfl) (by kernel_rfl) (by kernel_rfl) (fun _ _ _ h => h) (Or.inr ⟨by rfl, rfl⟩) (by assumption) ?_
                  simp only [Act.put, List.setIfInBounds_toArray, List.set_cons_zero, List.set_cons_succ]
                  refine wpAnyH_take (i := 18) (oi := { dst := some 132, op := Op.fieldAddr 26 (Operand.tmp 131) 1, type := 0, pos := "law.go:96", after := #[{ on := 17, ground := Ground.data }, { on := 9, ground := Ground.guard }], guard := some (9, true) }) (v := undef) rfl (by kernel_rfl) (by kernel_rfl) (by kernel_rfl) (fun _ _ _ h => h) (Or.inr ⟨by rfl, rfl⟩) (by assumption) ?_
                  simp only [Act.put, List.setIfInBounds_toArray, List.set_cons_zero, List.set_cons_succ]
                  refine wpAnyH_take (i := 19) (oi := { dst := some 133, op := Op.load 24 (Operand.tmp 132), type := 24, pos := "law.go:96", after := #[{ on := 18, ground := Ground.data }, { on := 9, ground := Ground.guard }], guard := some (9, true) }) (v := undef) rfl (by kernel_rfl) (by kernel_rfl) (by kernel_rfl) (fun _ _ _ h => h) (Or.inr ⟨by rfl, rfl⟩) (by assumption) ?_
                  simp only [Act.put, List.setIfInBounds_toArray, List.set_cons_zero, List.set_cons_succ]
                  refine wpAnyH_take (i := 20) (oi := { dst := some 134, op := Op.convert 24 9 (Operand.tmp 133), type := 9, pos := "law.go:96", after := #[{ on := 19, ground := Ground.data }, { on := 9, ground := Ground.guard }], guard := some (9, true) }) (v := undef) rfl (by kernel_rfl) (by kernel_rfl) (by kernel_rfl) (fun _ _ _ h => h) (Or.inr ⟨by rfl, rfl⟩) (by assumption) ?_
                  simp only [Act.put, List.setIfInBounds_toArray, List.set_cons_zero, List.set_cons_succ]
                  refine wpAnyH_take (i := 21) (oi := { dst := some 135, op := Op.binOp BinOp.add 9 (Operand.tmp 128) (Operand.tmp 134) 9, type := 9, pos := "law.go:96", after := #[{ on := 14, ground := Ground.data }, { on := 20, ground := Ground.data }, { on := 9, ground := Ground.guard }], guard := some (9, true) }) (v := undef) rfl (by kernel_rfl) (by kernel_rfl) (by kernel_rfl) (fun _ _ _ h => h) (Or.inr ⟨by rfl, rfl⟩) (by assumption) ?_
                  simp only [Act.put, List.setIfInBounds_toArray, List.set_cons_zero, List.set_cons_succ]
                  refine wpAnyH_take (i := 22) (oi := { dst := some 136, op := Op.call { callee := Callee.value (Operand.func 12), args := #[Operand.tmp 135], argTypes := #[9] }, type := 30, pos := "law.go:96", after := #[{ on := 21, ground := Ground.data }, { on := 9, ground := Ground.chain }, { on := 9, ground := Ground.guard }], guard := some (9, true) }) (v := undef) rfl (by kernel_rfl) (by kernel_rfl) (by kernel_rfl) (fun _ _ _ h => h) (Or.inr ⟨by rfl, rfl⟩) (by assumption) ?_
                  simp only [Act.put, List.setIfInBounds_toArray, List.set_cons_zero, List.set_cons_succ]
                  refine wpAnyH_take (i := 23) (oi := { dst := some 137, op := Op.call { callee := Callee.value (Operand.func 11), args := #[Operand.tmp 136], argTypes := #[30] }, type := 3, pos := "law.go:96", after := #[{ on := 22, ground := Ground.data }, { on := 22, ground := Ground.chain }, { on := 9, ground := Ground.guard }], guard := some (9, true) }) (v := undef) rfl (by kernel_rfl) (by kernel_rfl) (by kernel_rfl) (fun _ _ _ h => h) (Or.inr ⟨by rfl, rfl⟩) (by assumption) ?_
                  simp only [Act.put, List.setIfInBounds_toArray, List.set_cons_zero, List.set_cons_succ]
                  refine wpAnyH_take (i := 24) (oi := { dst := some 138, op := Op.binOp BinOp.neq 3 (Operand.tmp 137) (Operand.const (Value.int IntKind.i64 0)) 3, type := 4, pos := "law.go:96", after := #[{ on := 23, ground := Ground.data }, { on := 9, ground := Ground.guard }], guard := some (9, true) }) (v := undef) rfl (by kernel_rfl) (by kernel_rfl) (by kernel_rfl) (fun _ _ _ h => h) (Or.inr ⟨by rfl, rfl⟩) (by assumption) ?_
                  simp only [Act.put, List.setIfInBounds_toArray, List.set_cons_zero, List.set_cons_succ]
                  refine wpAnyH_take (i := 25) (oi := { dst := some 139, op := Op.pick (Operand.tmp 123) (Operand.tmp 138) (Operand.const (Value.bool false)), type := 4, pos := "law.go:96", after := #[{ on := 9, ground := Ground.data }, { on := 24, ground := Ground.data }], guard := none }) (v := ?v25) rfl (by kernel_rfl) (by kernel_rfl) (by kernel_rfl) (fun _ _ _ h => h) (Or.inl ⟨by rfl, ?hy25⟩) (by assumption) ?rest25
                  case hy25 => (intro w hSw; (try dsimp only at hSw); go_simp; (try with_reducible rfl))
                  simp only [Act.put, List.setIfInBounds_toArray, List.set_cons_zero, List.set_cons_succ]
                  refine wpAnyH_done (by kernel_rfl) ?_ _
                  refine NoPanic.normal ?_
                  go_wp2
                  go_roundw
                  case rel => exact ⟨k + 1, by omega, by omega, by go_num, (unhide HB6).trans ((unhide HB8).mono hs6)⟩
                  case measure => simp [intOf]; omega
          · have HNO := hide (fun W => put_no s _ W (by omega) rfl hz)
            generalize chk (sb s) = c at HNO hz
            have hz1 : (c != 0) = true := by simpa using hz
            go_wp2_with fail
            refine ((unhide HNO) _).mono ?_
            rintro e w1 ⟨E, rfl, hE, hb1⟩
            have hl1 : Hid (Laid w1) := (unhide hgr).below hb1 (unhide hgr).pos
            have HB1 : Hid (Below w.heap.size w w1) := (unhide hBel).trans (hb1.mono hsz)
            have hw1 : w.heap.size ≤ w1.heap.size := (unhide HB1).size
            clear hb1 HNO hcr hcs HY hgr hBel
            go_wp2_with fail
            refine (numl_any _ c _ (unhide hl1) (unhide hE)).mono ?_
            rintro e w2 ⟨rfl, hb2⟩
            have HB2 : Hid (Below w.heap.size w w2) := (unhide HB1).trans (hb2.mono hw1)
            clear hb2 hE HB1 hl1
            go_wp2
            go_roundw
            case rel => exact ⟨k + 1, by omega, by omega, by go_num, unhide HB2⟩
            case measure => simp [intOf]; omega
    · have hBel := hide hbel
      have hsz := hbel.size
      clear hbel
      by_cases hlt1 : k < len
      · obtain rfl : k = 20 := by omega
        go_wp2_with fail
        refine (wakes_any _).mono ?_
        rintro e w2 ⟨rfl, hb2⟩
        go_wp2
        go_ret
        exact ⟨rfl, (unhide hBel).trans (hb2.mono hsz)⟩
      · go_wp2_with fail
        refine (wakes_any _).mono ?_
        rintro e w2 ⟨rfl, hb2⟩
        go_wp2
        go_ret
        exact ⟨rfl, (unhide hBel).trans (hb2.mono hsz)⟩

set_option maxRecDepth 100000 in
theorem back_walk0 (ao : Option Addr) (cap : Nat) (w : World) :
    Calls Tryd.prog 5 #[.slice ao 0 cap] w fun e w' => e = .returned (.bool true) ∧ Below w.heap.size w w' := by
  go_enter Tryd.func5, Tryd.ntmps5
  go_wp2
  refine wp_loop_rounds 1 ?_
  rw [rounds_succ]
  go_wp2_with fail
  refine (wakes_any _).mono ?_
  rintro e w2 ⟨rfl, hb2⟩
  go_wp2
  go_ret
  exact ⟨rfl, hb2⟩
end Go.Proofs.YtckdmknmhjdicaaDoor
