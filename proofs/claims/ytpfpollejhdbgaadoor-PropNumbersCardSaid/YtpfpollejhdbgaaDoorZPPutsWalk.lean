/- Proved here: dovecotelaw3.PropPuts tells true at any asks read from memory, and turns nothing below. Helper contracts. -/
import Derived.Test.YtpfpollejhdbgaaDoorM9
import Derived.Test.YtpfpollejhdbgaaDoorM10
import Derived.Test.YtpfpollejhdbgaaDoorM5
namespace Go.Proofs.YtpfpollejhdbgaaDoor
open Go.RowKit
set_option maxRecDepth 100000

theorem eqb_same (va vb : Value) (l : List Int) (w : World) (ha : Byt w va l) (hb : Byt w vb l) : Calls Tryd.prog 17 #[va, vb] w fun e w' => e = .returned (.bool true) ∧ Below w.heap.size w w' := by
  refine (eq_any va vb l l w ha hb).mono ?_
  rintro e w' ⟨rfl, k, rfl⟩
  exact ⟨by rw [decide_eq_true rfl], below_drewN (Below.refl _ _) k⟩
theorem rchk_any (v : Value) (l : List Pr) (place : Int) (w : World) (h : Prp w v l) (hmx : l.length ≤ 1000000000) (hsm : Small l) : Calls Tryd.prog 11 #[v, .int .i64 place] w fun e w' => e = .returned (.int .i64 (chkP place l)) ∧ Below w.heap.size w w' := by
  obtain ⟨ao, cap, rfl, hc⟩ := h
  rcases hc with rfl | ⟨b, off, rfl, hc⟩
  · have HC : Hid (chkP place [] = 0) := chkP_ok place [] (fun i hi => absurd hi (Nat.not_lt_zero i)) (by simp)
    go_enter Tryd.func11, Tryd.ntmps11
    go_wp2
    refine wp_loop_rounds 1 ?_
    rw [rounds_succ]
    go_wp2
    go_ret
    exact ⟨ret_int (unhide HC).symm, Below.refl _ _⟩
  · exact rchk_core b off cap l _ place w rfl hmx hsm hc
theorem chkP_okTo {place : Int} {l : List Pr} (h : chkP place l = 0) : okTo place l l.length := by
  unfold chkP at h
  split at h
  · assumption
  · omega
set_option maxHeartbeats 16000000 in
theorem puts_walk (b off len cap : Nat) (vl : Nat → Value) (ls : Nat → List Pr) (pl : Nat → Int) (vb : Nat → Value) (bs : Nat → List Int) (w : World) (hlen : len ≤ maxLen) (hg : Laid w)
    (hc : ∀ k, k < len → AskAt w b (off + k * 3) (vl k) (ls k) (pl k) (vb k) (bs k)) :
    Calls Tryd.prog 3 #[.slice (some ⟨b, off, none⟩) len cap] w fun e w' => e = .returned (.bool true) ∧ Below w.heap.size w w' := by
  unfold maxLen at hlen
  have HC := hide hc
  have HG := hide hg
  clear hc hg
  go_enter Tryd.func3, Tryd.ntmps3
  go_wp2
  go_loopw [3] (fun i wr => ∃ k : Nat, k ≤ len ∧ k ≤ 12 ∧ i = .int .i64 k ∧ Below w.heap.size w wr) (fun i _ => 12 - (intOf i).toNat)
  case atStart => exact ⟨0, Nat.zero_le _, by omega, rfl, Below.refl _ _⟩
  case round =>
    obtain ⟨k, hk, hk12, rfl, hbel⟩ := hrel
    by_cases hlt : k < len ∧ k < 12
    · obtain ⟨hlt, hlt12⟩ := hlt
      obtain ⟨hc0, hc1, hc2, hpr, hhd, hby, hbl, -, -⟩ := (unhide HC) k hlt
      have c0 := (hbel.cell (p := ⟨b, off + k * 3, none⟩) (cell_lt hc0)).trans hc0
      have c1 := (hbel.cell (p := ⟨b, off + k * 3 + 1, none⟩) (cell_lt hc1)).trans hc1
      have c2 := (hbel.cell (p := ⟨b, off + k * 3 + 2, none⟩) (cell_lt hc2)).trans hc2
      have HPR : Hid (Prp wr (vl k) (ls k)) := hpr.below hbel
      have HHD := hide hhd
      have HY : Hid (Byt wr (vb k) (bs k)) := hby.below hbel
      have HG0 : Hid (Laid wr) := (unhide HG).below hbel (unhide HG).pos
      have hsz := hbel.size
      have HBEL := hide hbel
      clear hc0 hc1 hc2 hpr hhd hby hbel
      generalize vl k = v at c0 HPR
      generalize ls k = l at HPR HHD
      generalize pl k = p at c1
      generalize vb k = u at c2 HY
      generalize bs k = z at HY hbl
      obtain ⟨ao, vc, rfl, -, -⟩ := (unhide HY).form
      generalize hn : z.length = n at c2 hbl
      have HN := hide hn
      clear hn HY
      have HD : Hid (∀ W, Below (wr.alloc (.cells #[v, .int .i64 p, .slice ao n vc] 26)).heap.size (wr.alloc (.cells #[v, .int .i64 p, .slice ao n vc] 26)) W → (W.cell? ⟨wr.heap.size, 0, none⟩ = some v ∧ W.cell? ⟨wr.heap.size, 1, none⟩ = some (.int .i64 p)) ∧ Prp W v l ∧ Laid W ∧ Below w.heap.size w W) := fun W hW => by
        have h0 : Below wr.heap.size wr W := ((Below.refl _ _).alloc (Nat.le_refl _) _).trans (hW.mono (by simp))
        exact ⟨⟨(hW.cell (p := ⟨wr.heap.size, 0, none⟩) (by simp)).trans (by simp), (hW.cell (p := ⟨wr.heap.size, 1, none⟩) (by simp)).trans (by simp)⟩, (unhide HPR).below h0, (unhide HG0).below h0 (unhide HG0).pos, (unhide HBEL).trans (h0.mono hsz)⟩
      have hvv : v.oneCell' = true := by obtain ⟨x, y, h⟩ := (unhide HPR).form; rw [h]; rfl
      obtain ⟨lo, lc, hv⟩ := (unhide HPR).form
      generalize hvl : l.length = ln at hv
      have HLN := hide hvl
      clear hvl
      subst hv
      clear hvv
      generalize hW0 : wr.alloc (.cells #[.slice lo ln lc, .int .i64 p, .slice ao n vc] 26) = W0 at HD
      have HW0 := hide hW0
      clear hW0
      have HV1 := hide (fun W (hb : Below W0.heap.size W0 W) => heavy_any (.slice lo ln lc) l p ao n vc W ((unhide HD) W hb).2.1 (unhide HHD) hbl)
      go_wp2_with fail
      rw [unhide HW0]
      refine ((unhide HV1) W0 (Below.refl _ _)).mono ?_
      rintro e w1 ⟨hv, rfl, HL1, hb1⟩
      have HC1 : Hid (Below W0.heap.size W0 w1) := hb1
      obtain ⟨⟨e1, f1⟩, hp1, hg1, hB1⟩ := (unhide HD) w1 (unhide HC1)
      have HP1 := hide hp1
      have HG1 := hide hg1
      have HB1 := hide hB1
      clear hp1 hg1 hB1 hb1
      clear c0 c1 c2
      cases hv
      · have HL0 : Hid (Light l n) := (unhide HL1) rfl
        clear HL1
        by_cases h2 : 2 < k
        · skip
          go_wp2_with fail
          refine (weight_any _ l _ (unhide HP1) (unhide HHD)).mono ?_
          rintro e w2 ⟨r, rfl, -, q2, hw2⟩
          have hb2 : Below w1.heap.size w1 w2 := by rw [hw2]; exact below_drewN (Below.refl _ _) q2
          clear hw2
          have HC2 : Hid (Below W0.heap.size W0 w2) := (unhide HC1).trans (hb2.mono (unhide HC1).size)
          obtain ⟨⟨e2, f2⟩, hp2, hg2, hB2⟩ := (unhide HD) w2 (unhide HC2)
          have HP2 := hide hp2
          have HG2 := hide hg2
          have HB2 := hide hB2
          clear hp2 hg2 hB2
          clear hb2
          clear e1 f1
          by_cases h5 : 5000 < r
          · skip
            go_wp2
            go_ret
            exact ⟨rfl, unhide HB2⟩
          · skip
            have HLT := hide (Light.small (unhide HL0))
            have h200 : l.length ≤ 200 := (unhide HL0).1
            go_wp2_with fail
            refine (rchk_any _ l p _ (unhide HP2) (by omega) (unhide HLT)).mono ?_
            rintro e w3 ⟨rfl, hb3⟩
            have HC3 : Hid (Below W0.heap.size W0 w3) := (unhide HC2).trans (hb3.mono (unhide HC2).size)
            obtain ⟨⟨e3, f3⟩, hp3, hg3, hB3⟩ := (unhide HD) w3 (unhide HC3)
            have HP3 := hide hp3
            have HG3 := hide hg3
            have HB3 := hide hB3
            clear hp3 hg3 hB3
            clear hb3
            clear e2 f2
            have HZ : Hid (chkP p l = 0 → pbz p l = pbs l) := fun h => by unfold pbz; rw [if_pos h]
            have HZ1 : Hid (chkP p l ≠ 0 → pbz p l = []) := fun h => by unfold pbz; rw [if_neg h]
            have HOKT : Hid (chkP p l = 0 → okTo p l l.length) := fun h => chkP_okTo h
            have HPUT := hide (fun (vx : Value) W (h : Prp W vx l) => put_any vx l p W h h200 (unhide HLT))
            have HCHK := hide (fun (vx : Value) W (h : Prp W vx l) => check_any vx l p W h h200 (unhide HLT))
            have HBY := hide (fun (vx : Value) W (h : Prp W vx l) (hc : chkP p l = 0) => rbytes_any vx l p W h h200 (chkP_okTo hc))
            generalize chkP p l = c at HZ HZ1 HOKT HPUT HCHK HBY ⊢
            by_cases hc0 : c = 0
            · subst hc0
              go_wp2_with fail
              refine ((unhide HBY) _ _ (unhide HP3) (by first | rfl | trivial)).mono ?_
              rintro e w4 ⟨vw, rfl, hy4, hb4⟩
              have HC4 : Hid (Below W0.heap.size W0 w4) := (unhide HC3).trans (hb4.mono (unhide HC3).size)
              obtain ⟨⟨e4, f4⟩, hp4, hg4, hB4⟩ := (unhide HD) w4 (unhide HC4)
              have HP4 := hide hp4
              have HG4 := hide hg4
              have HB4 := hide hB4
              clear hp4 hg4 hB4
              have HW4 : Hid (Byt w4 vw (pbz p l)) := by show Byt _ _ _; rw [(unhide HZ) (by first | rfl | trivial)]; exact unhide hy4
              clear hb4
              clear e3 f3
              go_wp2_with fail
              refine (copyp_any _ l _ (unhide HP4) (by omega)).mono ?_
              rintro e w5 ⟨vx, rfl, hx5, hb5⟩
              have HC5 : Hid (Below W0.heap.size W0 w5) := (unhide HC4).trans (hb5.mono (unhide HC4).size)
              obtain ⟨⟨e5, f5⟩, hp5, hg5, hB5⟩ := (unhide HD) w5 (unhide HC5)
              have HP5 := hide hp5
              have HG5 := hide hg5
              have HB5 := hide hB5
              clear hp5 hg5 hB5
              have HW5 : Hid (Byt w5 vw (pbz p l)) := (unhide HW4).below hb5
              clear hb5
              clear e4 f4
              go_wp2_with fail
              refine ((unhide HPUT) vx _ (unhide hx5)).mono ?_
              rintro e w6 ⟨vq, E, rfl, hy6, hE6, hb6⟩
              have HC6 : Hid (Below W0.heap.size W0 w6) := (unhide HC5).trans (hb6.mono (unhide HC5).size)
              obtain ⟨⟨e6, f6⟩, hp6, hg6, hB6⟩ := (unhide HD) w6 (unhide HC6)
              have HP6 := hide hp6
              have HG6 := hide hg6
              have HB6 := hide hB6
              clear hp6 hg6 hB6
              have hx6 : Hid (Prp w6 vx l) := (unhide hx5).below hb6
              have HW6 : Hid (Byt w6 vw (pbz p l)) := (unhide HW5).below hb6
              clear hb6
              clear e5 f5
              go_wp2_with fail
              refine ((unhide HCHK) vx _ (unhide hx6)).mono ?_
              rintro e w7 ⟨E7, rfl, hE7, hb7⟩
              have HC7 : Hid (Below W0.heap.size W0 w7) := (unhide HC6).trans (hb7.mono (unhide HC6).size)
              obtain ⟨⟨e7, f7⟩, hp7, hg7, hB7⟩ := (unhide HD) w7 (unhide HC7)
              have HP7 := hide hp7
              have HG7 := hide hg7
              have HB7 := hide hB7
              clear hp7 hg7 hB7
              have hx7 : Hid (Prp w7 vx l) := (unhide hx6).below hb7
              have hy7 : Hid (Byt w7 vq (pbz p l)) := (unhide hy6).below hb7
              have hE7b : Hid (ErrP w7 E 0) := (unhide hE6).below hb7
              have HW7 : Hid (Byt w7 vw (pbz p l)) := (unhide HW6).below hb7
              clear hb7
              clear e6 f6
              go_wp2_with fail
              refine (numlp _ 0 _ (unhide HG7) (unhide hE7)).mono ?_
              rintro e w8 ⟨rfl, hb8⟩
              have HC8 : Hid (Below W0.heap.size W0 w8) := (unhide HC7).trans (hb8.mono (unhide HC7).size)
              obtain ⟨⟨e8, f8⟩, hp8, hg8, hB8⟩ := (unhide HD) w8 (unhide HC8)
              have HP8 := hide hp8
              have HG8 := hide hg8
              have HB8 := hide hB8
              clear hp8 hg8 hB8
              have hx8 : Hid (Prp w8 vx l) := (unhide hx7).below hb8
              have hy8 : Hid (Byt w8 vq (pbz p l)) := (unhide hy7).below hb8
              have hE8 : Hid (ErrP w8 E 0) := (unhide hE7b).below hb8
              have HW8 : Hid (Byt w8 vw (pbz p l)) := (unhide HW7).below hb8
              clear hb8
              clear e7 f7
              go_wp2_with fail
              refine (numlp _ 0 _ (unhide HG8) (unhide hE8)).mono ?_
              rintro e w9 ⟨rfl, hb9⟩
              have HC9 : Hid (Below W0.heap.size W0 w9) := (unhide HC8).trans (hb9.mono (unhide HC8).size)
              obtain ⟨⟨e9, f9⟩, hp9, hg9, hB9⟩ := (unhide HD) w9 (unhide HC9)
              have HP9 := hide hp9
              have HG9 := hide hg9
              have HB9 := hide hB9
              clear hp9 hg9 hB9
              have hx9 : Hid (Prp w9 vx l) := (unhide hx8).below hb9
              have hy9 : Hid (Byt w9 vq (pbz p l)) := (unhide hy8).below hb9
              have HW9 : Hid (Byt w9 vw (pbz p l)) := (unhide HW8).below hb9
              clear hb9
              clear e8 f8
              go_wp2_with fail
              refine (eqb_same _ _ (pbz p l) _ (unhide hy9) (unhide HW9)).mono ?_
              rintro e w10 ⟨rfl, hb10⟩
              have HC10 : Hid (Below W0.heap.size W0 w10) := (unhide HC9).trans (hb10.mono (unhide HC9).size)
              obtain ⟨⟨e10, f10⟩, hp10, hg10, hB10⟩ := (unhide HD) w10 (unhide HC10)
              have HP10 := hide hp10
              have HG10 := hide hg10
              have HB10 := hide hB10
              clear hp10 hg10 hB10
              have hx10 : Hid (Prp w10 vx l) := (unhide hx9).below hb10
              clear hb10
              clear e9 f9
              go_wp2_with fail
              refine (eqp_same _ _ l _ (unhide hx10) (unhide HP10) (by omega)).mono ?_
              rintro e w11 ⟨rfl, hb11⟩
              have HC11 : Hid (Below W0.heap.size W0 w11) := (unhide HC10).trans (hb11.mono (unhide HC10).size)
              obtain ⟨⟨e11, f11⟩, hp11, hg11, hB11⟩ := (unhide HD) w11 (unhide HC11)
              have HP11 := hide hp11
              have HG11 := hide hg11
              have HB11 := hide hB11
              clear hp11 hg11 hB11
              clear hb11
              clear e10 f10
              go_wp2
              go_roundw
              case rel => exact ⟨k + 1, by omega, by omega, by go_num, unhide HB11⟩
              case measure => simp [intOf]; omega
            · have bc : (c == 0) = false := beq_eq_false_iff_ne.2 hc0
              have HW3 : Hid (∀ W, Byt W (.slice none 0 0) (pbz p l)) := fun W => by
                rw [(unhide HZ1) hc0]
                exact ⟨none, 0, rfl, ⟨Nat.le_refl _, by unfold maxLen; omega⟩, fun j => by simp, .inl rfl⟩
              clear hc0
              go_wp2_with fail
              refine (copyp_any _ l _ (unhide HP3) (by omega)).mono ?_
              rintro e w5 ⟨vx, rfl, hx5, hb5⟩
              have HC5 : Hid (Below W0.heap.size W0 w5) := (unhide HC3).trans (hb5.mono (unhide HC3).size)
              obtain ⟨⟨e5, f5⟩, hp5, hg5, hB5⟩ := (unhide HD) w5 (unhide HC5)
              have HP5 := hide hp5
              have HG5 := hide hg5
              have HB5 := hide hB5
              clear hp5 hg5 hB5
              have HW5 : Hid (Byt w5 (.slice none 0 0) (pbz p l)) := (unhide HW3) _
              clear hb5
              clear e3 f3
              go_wp2_with fail
              refine ((unhide HPUT) vx _ (unhide hx5)).mono ?_
              rintro e w6 ⟨vq, E, rfl, hy6, hE6, hb6⟩
              have HC6 : Hid (Below W0.heap.size W0 w6) := (unhide HC5).trans (hb6.mono (unhide HC5).size)
              obtain ⟨⟨e6, f6⟩, hp6, hg6, hB6⟩ := (unhide HD) w6 (unhide HC6)
              have HP6 := hide hp6
              have HG6 := hide hg6
              have HB6 := hide hB6
              clear hp6 hg6 hB6
              have hx6 : Hid (Prp w6 vx l) := (unhide hx5).below hb6
              have HW6 : Hid (Byt w6 (.slice none 0 0) (pbz p l)) := (unhide HW5).below hb6
              clear hb6
              clear e5 f5
              go_wp2_with fail
              refine ((unhide HCHK) vx _ (unhide hx6)).mono ?_
              rintro e w7 ⟨E7, rfl, hE7, hb7⟩
              have HC7 : Hid (Below W0.heap.size W0 w7) := (unhide HC6).trans (hb7.mono (unhide HC6).size)
              obtain ⟨⟨e7, f7⟩, hp7, hg7, hB7⟩ := (unhide HD) w7 (unhide HC7)
              have HP7 := hide hp7
              have HG7 := hide hg7
              have HB7 := hide hB7
              clear hp7 hg7 hB7
              have hx7 : Hid (Prp w7 vx l) := (unhide hx6).below hb7
              have hy7 : Hid (Byt w7 vq (pbz p l)) := (unhide hy6).below hb7
              have hE7b : Hid (ErrP w7 E c) := (unhide hE6).below hb7
              have HW7 : Hid (Byt w7 (.slice none 0 0) (pbz p l)) := (unhide HW6).below hb7
              clear hb7
              clear e6 f6
              go_wp2_with fail
              refine (numlp _ c _ (unhide HG7) (unhide hE7)).mono ?_
              rintro e w8 ⟨rfl, hb8⟩
              have HC8 : Hid (Below W0.heap.size W0 w8) := (unhide HC7).trans (hb8.mono (unhide HC7).size)
              obtain ⟨⟨e8, f8⟩, hp8, hg8, hB8⟩ := (unhide HD) w8 (unhide HC8)
              have HP8 := hide hp8
              have HG8 := hide hg8
              have HB8 := hide hB8
              clear hp8 hg8 hB8
              have hx8 : Hid (Prp w8 vx l) := (unhide hx7).below hb8
              have hy8 : Hid (Byt w8 vq (pbz p l)) := (unhide hy7).below hb8
              have hE8 : Hid (ErrP w8 E c) := (unhide hE7b).below hb8
              have HW8 : Hid (Byt w8 (.slice none 0 0) (pbz p l)) := (unhide HW7).below hb8
              clear hb8
              clear e7 f7
              go_wp2_with fail
              refine (numlp _ c _ (unhide HG8) (unhide hE8)).mono ?_
              rintro e w9 ⟨rfl, hb9⟩
              have HC9 : Hid (Below W0.heap.size W0 w9) := (unhide HC8).trans (hb9.mono (unhide HC8).size)
              obtain ⟨⟨e9, f9⟩, hp9, hg9, hB9⟩ := (unhide HD) w9 (unhide HC9)
              have HP9 := hide hp9
              have HG9 := hide hg9
              have HB9 := hide hB9
              clear hp9 hg9 hB9
              have hx9 : Hid (Prp w9 vx l) := (unhide hx8).below hb9
              have hy9 : Hid (Byt w9 vq (pbz p l)) := (unhide hy8).below hb9
              have HW9 : Hid (Byt w9 (.slice none 0 0) (pbz p l)) := (unhide HW8).below hb9
              clear hb9
              clear e8 f8
              go_wp2_with fail
              refine (eqb_same _ _ (pbz p l) _ (unhide hy9) (unhide HW9)).mono ?_
              rintro e w10 ⟨rfl, hb10⟩
              have HC10 : Hid (Below W0.heap.size W0 w10) := (unhide HC9).trans (hb10.mono (unhide HC9).size)
              obtain ⟨⟨e10, f10⟩, hp10, hg10, hB10⟩ := (unhide HD) w10 (unhide HC10)
              have HP10 := hide hp10
              have HG10 := hide hg10
              have HB10 := hide hB10
              clear hp10 hg10 hB10
              have hx10 : Hid (Prp w10 vx l) := (unhide hx9).below hb10
              clear hb10
              clear e9 f9
              go_wp2_with fail
              refine (eqp_same _ _ l _ (unhide hx10) (unhide HP10) (by omega)).mono ?_
              rintro e w11 ⟨rfl, hb11⟩
              have HC11 : Hid (Below W0.heap.size W0 w11) := (unhide HC10).trans (hb11.mono (unhide HC10).size)
              obtain ⟨⟨e11, f11⟩, hp11, hg11, hB11⟩ := (unhide HD) w11 (unhide HC11)
              have HP11 := hide hp11
              have HG11 := hide hg11
              have HB11 := hide hB11
              clear hp11 hg11 hB11
              clear hb11
              clear e10 f10
              go_wp2
              go_roundw
              case rel => exact ⟨k + 1, by omega, by omega, by go_num, unhide HB11⟩
              case measure => simp [intOf]; omega
        · skip
          have HLT := hide (Light.small (unhide HL0))
          have h200 : l.length ≤ 200 := (unhide HL0).1
          go_wp2_with fail
          refine (rchk_any _ l p _ (unhide HP1) (by omega) (unhide HLT)).mono ?_
          rintro e w3 ⟨rfl, hb3⟩
          have HC3 : Hid (Below W0.heap.size W0 w3) := (unhide HC1).trans (hb3.mono (unhide HC1).size)
          obtain ⟨⟨e3, f3⟩, hp3, hg3, hB3⟩ := (unhide HD) w3 (unhide HC3)
          have HP3 := hide hp3
          have HG3 := hide hg3
          have HB3 := hide hB3
          clear hp3 hg3 hB3
          clear hb3
          clear e1 f1
          have HZ : Hid (chkP p l = 0 → pbz p l = pbs l) := fun h => by unfold pbz; rw [if_pos h]
          have HZ1 : Hid (chkP p l ≠ 0 → pbz p l = []) := fun h => by unfold pbz; rw [if_neg h]
          have HOKT : Hid (chkP p l = 0 → okTo p l l.length) := fun h => chkP_okTo h
          have HPUT := hide (fun (vx : Value) W (h : Prp W vx l) => put_any vx l p W h h200 (unhide HLT))
          have HCHK := hide (fun (vx : Value) W (h : Prp W vx l) => check_any vx l p W h h200 (unhide HLT))
          have HBY := hide (fun (vx : Value) W (h : Prp W vx l) (hc : chkP p l = 0) => rbytes_any vx l p W h h200 (chkP_okTo hc))
          generalize chkP p l = c at HZ HZ1 HOKT HPUT HCHK HBY ⊢
          by_cases hc0 : c = 0
          · subst hc0
            go_wp2_with fail
            refine ((unhide HBY) _ _ (unhide HP3) (by first | rfl | trivial)).mono ?_
            rintro e w4 ⟨vw, rfl, hy4, hb4⟩
            have HC4 : Hid (Below W0.heap.size W0 w4) := (unhide HC3).trans (hb4.mono (unhide HC3).size)
            obtain ⟨⟨e4, f4⟩, hp4, hg4, hB4⟩ := (unhide HD) w4 (unhide HC4)
            have HP4 := hide hp4
            have HG4 := hide hg4
            have HB4 := hide hB4
            clear hp4 hg4 hB4
            have HW4 : Hid (Byt w4 vw (pbz p l)) := by show Byt _ _ _; rw [(unhide HZ) (by first | rfl | trivial)]; exact unhide hy4
            clear hb4
            clear e3 f3
            go_wp2_with fail
            refine (copyp_any _ l _ (unhide HP4) (by omega)).mono ?_
            rintro e w5 ⟨vx, rfl, hx5, hb5⟩
            have HC5 : Hid (Below W0.heap.size W0 w5) := (unhide HC4).trans (hb5.mono (unhide HC4).size)
            obtain ⟨⟨e5, f5⟩, hp5, hg5, hB5⟩ := (unhide HD) w5 (unhide HC5)
            have HP5 := hide hp5
            have HG5 := hide hg5
            have HB5 := hide hB5
            clear hp5 hg5 hB5
            have HW5 : Hid (Byt w5 vw (pbz p l)) := (unhide HW4).below hb5
            clear hb5
            clear e4 f4
            go_wp2_with fail
            refine ((unhide HPUT) vx _ (unhide hx5)).mono ?_
            rintro e w6 ⟨vq, E, rfl, hy6, hE6, hb6⟩
            have HC6 : Hid (Below W0.heap.size W0 w6) := (unhide HC5).trans (hb6.mono (unhide HC5).size)
            obtain ⟨⟨e6, f6⟩, hp6, hg6, hB6⟩ := (unhide HD) w6 (unhide HC6)
            have HP6 := hide hp6
            have HG6 := hide hg6
            have HB6 := hide hB6
            clear hp6 hg6 hB6
            have hx6 : Hid (Prp w6 vx l) := (unhide hx5).below hb6
            have HW6 : Hid (Byt w6 vw (pbz p l)) := (unhide HW5).below hb6
            clear hb6
            clear e5 f5
            go_wp2_with fail
            refine ((unhide HCHK) vx _ (unhide hx6)).mono ?_
            rintro e w7 ⟨E7, rfl, hE7, hb7⟩
            have HC7 : Hid (Below W0.heap.size W0 w7) := (unhide HC6).trans (hb7.mono (unhide HC6).size)
            obtain ⟨⟨e7, f7⟩, hp7, hg7, hB7⟩ := (unhide HD) w7 (unhide HC7)
            have HP7 := hide hp7
            have HG7 := hide hg7
            have HB7 := hide hB7
            clear hp7 hg7 hB7
            have hx7 : Hid (Prp w7 vx l) := (unhide hx6).below hb7
            have hy7 : Hid (Byt w7 vq (pbz p l)) := (unhide hy6).below hb7
            have hE7b : Hid (ErrP w7 E 0) := (unhide hE6).below hb7
            have HW7 : Hid (Byt w7 vw (pbz p l)) := (unhide HW6).below hb7
            clear hb7
            clear e6 f6
            go_wp2_with fail
            refine (numlp _ 0 _ (unhide HG7) (unhide hE7)).mono ?_
            rintro e w8 ⟨rfl, hb8⟩
            have HC8 : Hid (Below W0.heap.size W0 w8) := (unhide HC7).trans (hb8.mono (unhide HC7).size)
            obtain ⟨⟨e8, f8⟩, hp8, hg8, hB8⟩ := (unhide HD) w8 (unhide HC8)
            have HP8 := hide hp8
            have HG8 := hide hg8
            have HB8 := hide hB8
            clear hp8 hg8 hB8
            have hx8 : Hid (Prp w8 vx l) := (unhide hx7).below hb8
            have hy8 : Hid (Byt w8 vq (pbz p l)) := (unhide hy7).below hb8
            have hE8 : Hid (ErrP w8 E 0) := (unhide hE7b).below hb8
            have HW8 : Hid (Byt w8 vw (pbz p l)) := (unhide HW7).below hb8
            clear hb8
            clear e7 f7
            go_wp2_with fail
            refine (numlp _ 0 _ (unhide HG8) (unhide hE8)).mono ?_
            rintro e w9 ⟨rfl, hb9⟩
            have HC9 : Hid (Below W0.heap.size W0 w9) := (unhide HC8).trans (hb9.mono (unhide HC8).size)
            obtain ⟨⟨e9, f9⟩, hp9, hg9, hB9⟩ := (unhide HD) w9 (unhide HC9)
            have HP9 := hide hp9
            have HG9 := hide hg9
            have HB9 := hide hB9
            clear hp9 hg9 hB9
            have hx9 : Hid (Prp w9 vx l) := (unhide hx8).below hb9
            have hy9 : Hid (Byt w9 vq (pbz p l)) := (unhide hy8).below hb9
            have HW9 : Hid (Byt w9 vw (pbz p l)) := (unhide HW8).below hb9
            clear hb9
            clear e8 f8
            go_wp2_with fail
            refine (eqb_same _ _ (pbz p l) _ (unhide hy9) (unhide HW9)).mono ?_
            rintro e w10 ⟨rfl, hb10⟩
            have HC10 : Hid (Below W0.heap.size W0 w10) := (unhide HC9).trans (hb10.mono (unhide HC9).size)
            obtain ⟨⟨e10, f10⟩, hp10, hg10, hB10⟩ := (unhide HD) w10 (unhide HC10)
            have HP10 := hide hp10
            have HG10 := hide hg10
            have HB10 := hide hB10
            clear hp10 hg10 hB10
            have hx10 : Hid (Prp w10 vx l) := (unhide hx9).below hb10
            clear hb10
            clear e9 f9
            go_wp2_with fail
            refine (eqp_same _ _ l _ (unhide hx10) (unhide HP10) (by omega)).mono ?_
            rintro e w11 ⟨rfl, hb11⟩
            have HC11 : Hid (Below W0.heap.size W0 w11) := (unhide HC10).trans (hb11.mono (unhide HC10).size)
            obtain ⟨⟨e11, f11⟩, hp11, hg11, hB11⟩ := (unhide HD) w11 (unhide HC11)
            have HP11 := hide hp11
            have HG11 := hide hg11
            have HB11 := hide hB11
            clear hp11 hg11 hB11
            clear hb11
            clear e10 f10
            go_wp2
            go_roundw
            case rel => exact ⟨k + 1, by omega, by omega, by go_num, unhide HB11⟩
            case measure => simp [intOf]; omega
          · have bc : (c == 0) = false := beq_eq_false_iff_ne.2 hc0
            have HW3 : Hid (∀ W, Byt W (.slice none 0 0) (pbz p l)) := fun W => by
              rw [(unhide HZ1) hc0]
              exact ⟨none, 0, rfl, ⟨Nat.le_refl _, by unfold maxLen; omega⟩, fun j => by simp, .inl rfl⟩
            clear hc0
            go_wp2_with fail
            refine (copyp_any _ l _ (unhide HP3) (by omega)).mono ?_
            rintro e w5 ⟨vx, rfl, hx5, hb5⟩
            have HC5 : Hid (Below W0.heap.size W0 w5) := (unhide HC3).trans (hb5.mono (unhide HC3).size)
            obtain ⟨⟨e5, f5⟩, hp5, hg5, hB5⟩ := (unhide HD) w5 (unhide HC5)
            have HP5 := hide hp5
            have HG5 := hide hg5
            have HB5 := hide hB5
            clear hp5 hg5 hB5
            have HW5 : Hid (Byt w5 (.slice none 0 0) (pbz p l)) := (unhide HW3) _
            clear hb5
            clear e3 f3
            go_wp2_with fail
            refine ((unhide HPUT) vx _ (unhide hx5)).mono ?_
            rintro e w6 ⟨vq, E, rfl, hy6, hE6, hb6⟩
            have HC6 : Hid (Below W0.heap.size W0 w6) := (unhide HC5).trans (hb6.mono (unhide HC5).size)
            obtain ⟨⟨e6, f6⟩, hp6, hg6, hB6⟩ := (unhide HD) w6 (unhide HC6)
            have HP6 := hide hp6
            have HG6 := hide hg6
            have HB6 := hide hB6
            clear hp6 hg6 hB6
            have hx6 : Hid (Prp w6 vx l) := (unhide hx5).below hb6
            have HW6 : Hid (Byt w6 (.slice none 0 0) (pbz p l)) := (unhide HW5).below hb6
            clear hb6
            clear e5 f5
            go_wp2_with fail
            refine ((unhide HCHK) vx _ (unhide hx6)).mono ?_
            rintro e w7 ⟨E7, rfl, hE7, hb7⟩
            have HC7 : Hid (Below W0.heap.size W0 w7) := (unhide HC6).trans (hb7.mono (unhide HC6).size)
            obtain ⟨⟨e7, f7⟩, hp7, hg7, hB7⟩ := (unhide HD) w7 (unhide HC7)
            have HP7 := hide hp7
            have HG7 := hide hg7
            have HB7 := hide hB7
            clear hp7 hg7 hB7
            have hx7 : Hid (Prp w7 vx l) := (unhide hx6).below hb7
            have hy7 : Hid (Byt w7 vq (pbz p l)) := (unhide hy6).below hb7
            have hE7b : Hid (ErrP w7 E c) := (unhide hE6).below hb7
            have HW7 : Hid (Byt w7 (.slice none 0 0) (pbz p l)) := (unhide HW6).below hb7
            clear hb7
            clear e6 f6
            go_wp2_with fail
            refine (numlp _ c _ (unhide HG7) (unhide hE7)).mono ?_
            rintro e w8 ⟨rfl, hb8⟩
            have HC8 : Hid (Below W0.heap.size W0 w8) := (unhide HC7).trans (hb8.mono (unhide HC7).size)
            obtain ⟨⟨e8, f8⟩, hp8, hg8, hB8⟩ := (unhide HD) w8 (unhide HC8)
            have HP8 := hide hp8
            have HG8 := hide hg8
            have HB8 := hide hB8
            clear hp8 hg8 hB8
            have hx8 : Hid (Prp w8 vx l) := (unhide hx7).below hb8
            have hy8 : Hid (Byt w8 vq (pbz p l)) := (unhide hy7).below hb8
            have hE8 : Hid (ErrP w8 E c) := (unhide hE7b).below hb8
            have HW8 : Hid (Byt w8 (.slice none 0 0) (pbz p l)) := (unhide HW7).below hb8
            clear hb8
            clear e7 f7
            go_wp2_with fail
            refine (numlp _ c _ (unhide HG8) (unhide hE8)).mono ?_
            rintro e w9 ⟨rfl, hb9⟩
            have HC9 : Hid (Below W0.heap.size W0 w9) := (unhide HC8).trans (hb9.mono (unhide HC8).size)
            obtain ⟨⟨e9, f9⟩, hp9, hg9, hB9⟩ := (unhide HD) w9 (unhide HC9)
            have HP9 := hide hp9
            have HG9 := hide hg9
            have HB9 := hide hB9
            clear hp9 hg9 hB9
            have hx9 : Hid (Prp w9 vx l) := (unhide hx8).below hb9
            have hy9 : Hid (Byt w9 vq (pbz p l)) := (unhide hy8).below hb9
            have HW9 : Hid (Byt w9 (.slice none 0 0) (pbz p l)) := (unhide HW8).below hb9
            clear hb9
            clear e8 f8
            go_wp2_with fail
            refine (eqb_same _ _ (pbz p l) _ (unhide hy9) (unhide HW9)).mono ?_
            rintro e w10 ⟨rfl, hb10⟩
            have HC10 : Hid (Below W0.heap.size W0 w10) := (unhide HC9).trans (hb10.mono (unhide HC9).size)
            obtain ⟨⟨e10, f10⟩, hp10, hg10, hB10⟩ := (unhide HD) w10 (unhide HC10)
            have HP10 := hide hp10
            have HG10 := hide hg10
            have HB10 := hide hB10
            clear hp10 hg10 hB10
            have hx10 : Hid (Prp w10 vx l) := (unhide hx9).below hb10
            clear hb10
            clear e9 f9
            go_wp2_with fail
            refine (eqp_same _ _ l _ (unhide hx10) (unhide HP10) (by omega)).mono ?_
            rintro e w11 ⟨rfl, hb11⟩
            have HC11 : Hid (Below W0.heap.size W0 w11) := (unhide HC10).trans (hb11.mono (unhide HC10).size)
            obtain ⟨⟨e11, f11⟩, hp11, hg11, hB11⟩ := (unhide HD) w11 (unhide HC11)
            have HP11 := hide hp11
            have HG11 := hide hg11
            have HB11 := hide hB11
            clear hp11 hg11 hB11
            clear hb11
            clear e10 f10
            go_wp2
            go_roundw
            case rel => exact ⟨k + 1, by omega, by omega, by go_num, unhide HB11⟩
            case measure => simp [intOf]; omega
      · skip
        go_wp2
        go_ret
        exact ⟨rfl, unhide HB1⟩
    · have hBel := hide hbel
      have hsz := hbel.size
      have HG0 : Hid (Laid wr) := (unhide HG).below hbel (unhide HG).pos
      clear hbel
      by_cases hlt1 : k < len
      · obtain rfl : k = 12 := by omega
        go_wp2_with fail
        refine (wakes_any _ (unhide HG0)).mono ?_
        rintro e w2 ⟨rfl, hb2⟩
        go_wp2
        go_ret
        exact ⟨rfl, (unhide hBel).trans (hb2.mono hsz)⟩
      · go_wp2_with fail
        refine (wakes_any _ (unhide HG0)).mono ?_
        rintro e w2 ⟨rfl, hb2⟩
        go_wp2
        go_ret
        exact ⟨rfl, (unhide hBel).trans (hb2.mono hsz)⟩
theorem puts_walk0 (ao : Option Addr) (cap : Nat) (w : World) (hg : Laid w) :
    Calls Tryd.prog 3 #[.slice ao 0 cap] w fun e w' => e = .returned (.bool true) ∧ Below w.heap.size w w' := by
  have HG := hide hg
  clear hg
  go_enter Tryd.func3, Tryd.ntmps3
  go_wp2
  refine wp_loop_rounds 1 ?_
  rw [rounds_succ]
  go_wp2_with fail
  refine (wakes_any _ (unhide HG)).mono ?_
  rintro e w2 ⟨rfl, hb2⟩
  go_wp2
  go_ret
  exact ⟨rfl, hb2⟩
end Go.Proofs.YtpfpollejhdbgaaDoor
