/- Proved here: the walk of dovecotelaw16.QuorumChecks: whatever lists it is handed, it returns true. Helper contract. -/
import Derived.Test.YtnflgfpicigajaaDoorZUBy
import Derived.Test.YtnflgfpicigajaaDoorZULw
namespace Go.Proofs.YtnflgfpicigajaaDoor.Qu
open Go.RowKit Nt
set_option maxRecDepth 100000

theorem eqn_self (va vb : Value) (xs : List Int) (w : World) (ha : Nms w va xs) (hb : Nms w vb xs) :
    Calls Tryd.prog 20 #[va, vb] w fun e w' => e = .returned (.bool true) ∧ ∃ k, w' = w.drewN k := by
  have h := eqn_any va vb xs xs w ha hb
  rwa [decide_eq_true (rfl : xs = xs)] at h
set_option maxHeartbeats 8000000 in
theorem checks16_walk (g off len cap : Nat) (f : Nat → Ak) (w : World) (hg : Laid w) (ha : AksIn w g off f len) :
    Calls Tryd.prog 5 #[.slice (some ⟨g, off, none⟩) len cap] w fun e w' => e = .returned (.bool true) ∧ Below w.heap.size w w' := by
  have HA := hide ha
  have HG := hide hg
  clear ha hg
  go_enter Tryd.func5, Tryd.ntmps5
  go_wp2
  go_loopw [3] (fun ii wr => ∃ k : Nat, k ≤ len ∧ ii = .int .i64 k ∧ Hid (Below w.heap.size w wr)) (fun ii _ => len - (intOf ii).toNat)
  case atStart => exact ⟨0, Nat.zero_le _, rfl, Below.refl _ _⟩
  case round =>
    obtain ⟨k, hk, rfl, HB⟩ := hrel
    by_cases h8 : k < len ∧ k < 20
    · obtain ⟨hlt, h8⟩ := h8
      obtain ⟨⟨q0, q1, q2, q3, q4⟩, ⟨hl1, hl2, hl3, hl4⟩, hs⟩ := (unhide HA) k hlt
      generalize f k = ak at q0 q1 q2 q3 q4 hl1 hl2 hl3 hl4 hs
      obtain ⟨⟨a1, n1, c1⟩, ⟨a2, n2, c2⟩, ⟨a3, n3, c3⟩, ⟨a4, n4, c4⟩, s, lm, lo, lv, lt⟩ := ak
      dsimp only at q0 q1 q2 q3 q4 hl1 hl2 hl3 hl4 hs
      unfold LsS at hl1 hl2 hl3 hl4
      dsimp only at hl1 hl2 hl3 hl4
      have HC : Hid (∀ W, Below w.heap.size w W → W.cell? ⟨g, off + k * 5, none⟩ = some (.slice a1 n1 c1) ∧ W.cell? ⟨g, off + k * 5 + 1, none⟩ = some (.slice a2 n2 c2) ∧ W.cell? ⟨g, off + k * 5 + 2, none⟩ = some (.slice a3 n3 c3) ∧ W.cell? ⟨g, off + k * 5 + 3, none⟩ = some (.slice a4 n4 c4) ∧ W.cell? ⟨g, off + k * 5 + 4, none⟩ = some (.string s)) := fun W hW =>
        ⟨(hW.cell (p := ⟨g, off + k * 5, none⟩) (cell_lt q0)).trans q0, (hW.cell (p := ⟨g, off + k * 5 + 1, none⟩) (cell_lt q1)).trans q1, (hW.cell (p := ⟨g, off + k * 5 + 2, none⟩) (cell_lt q2)).trans q2, (hW.cell (p := ⟨g, off + k * 5 + 3, none⟩) (cell_lt q3)).trans q3, (hW.cell (p := ⟨g, off + k * 5 + 4, none⟩) (cell_lt q4)).trans q4⟩
      have H1 := hide hl1
      have H2 := hide hl2
      have H3 := hide hl3
      have H4 := hide hl4
      have HV := hide (fun W => heavy_any a1 a2 a3 a4 n1 c1 n2 c2 n3 c3 n4 c4 s W hl1.2.2.2.1 hl2.2.2.2.1 hl3.2.2.2.1 hl4.2.2.2.1 hs)
      have hn1 := hl1.2.2.2.1
      clear q0 q1 q2 q3 q4 hl1 hl2 hl3 hl4 hs
      obtain ⟨q0, q1, q2, q3, q4⟩ := (unhide HC) _ (unhide HB)
      go_wp2_with fail
      refine (unhide HV _).mono ?_
      rintro e w1 ⟨⟨d, rfl, HD⟩, hb⟩
      have HB1 : Hid (Below w.heap.size w w1) := bnx (unhide HB) hb
      clear hb q0 q1 q2 q3 q4
      cases d
      · clear HD HV
        obtain ⟨q0, q1, q2, q3, q4⟩ := (unhide HC) _ (unhide HB1)
        go_wp2_with fail
        refine (rmem_any a1 n1 c1 lm _ ((unhide H1).below (unhide HB1))).mono ?_
        rintro e w2 ⟨rfl, qq, hw⟩
        have HB2 : Hid (Below w.heap.size w w2) := by show Below _ _ _; rw [hw]; exact below_drewN (unhide HB1) _
        clear hw q0 q1 q2 q3 q4
        by_cases hM : Mem lm
        · rw [decide_eq_true hM]
          have HM := hide hM
          clear hM
          obtain ⟨q0, q1, q2, q3, q4⟩ := (unhide HC) _ (unhide HB2)
          go_wp2_with fail
          refine (byt_any a1 n1 c1 lm _ ((unhide H1).below (unhide HB2))).mono ?_
          rintro e w3 (⟨_, rfl, hb⟩ | ⟨hM, _⟩)
          rotate_left
          · exact absurd (unhide HM) hM
          have HB3 : Hid (Below w.heap.size w w3) := bnx (unhide HB2) hb
          have hbz : (bs lm).size = n1 := by rw [bs_size]; exact (unhide H1).1
          have HSB : Hid (sb (bs lm) = lm) := sb_bs lm (mem_small (unhide HM))
          have HM2 : Hid (Mem (sb (bs lm))) := by show Mem _; rw [unhide HSB]; exact unhide HM
          have HPA := hide (fun W => par_any (bs lm) W (by rw [hbz]; exact hn1))
          have HBZ := hide hbz
          clear hb q0 q1 q2 q3 q4 hbz
          obtain ⟨q0, q1, q2, q3, q4⟩ := (unhide HC) _ (unhide HB3)
          generalize bs lm = sm at HSB HM2 HPA HBZ ⊢
          go_wp2_with fail
          refine (chk_any a1 n1 c1 lm _ ((unhide H1).below (unhide HB3))).mono ?_
          rintro e w4 (⟨_, rfl, hw⟩ | ⟨hM, _⟩)
          rotate_left
          · exact absurd (unhide HM) hM
          obtain rfl := hw.symm
          clear q0 q1 q2 q3 q4 hw
          have HE0 : Hid (ErrX w3 .nilIface 0) := (ErrB.nil _).errX
          go_wp2_with fail
          refine (num_err _ 0 _ ((unhide HG).below (unhide HB3) (unhide HG).pos) (unhide HE0)).mono ?_
          rintro e w5 ⟨rfl, hb⟩
          have HB5 : Hid (Below w.heap.size w w5) := bnx (unhide HB3) hb
          have HE1 : Hid (ErrX w5 .nilIface 0) := (ErrB.nil _).errX
          clear hb HE0
          go_wp2_with fail
          refine (num_err _ 0 _ ((unhide HG).below (unhide HB5) (unhide HG).pos) (unhide HE1)).mono ?_
          rintro e w6 ⟨rfl, hb⟩
          have HB6 : Hid (Below w.heap.size w w6) := bnx (unhide HB5) hb
          clear hb HE1
          go_wp2_with fail
          refine (unhide HPA _).mono ?_
          rintro e w7 (⟨_, ao, pn, pc, rfl, ho, hb⟩ | ⟨hM, _⟩)
          rotate_left
          · exact absurd (unhide HM2) hM
          have HB7 : Hid (Below w.heap.size w w7) := bnx (unhide HB6) hb
          have HO : Hid (Ls w7 ao pn pc lm) := by have := ho.ls; rw [unhide HSB] at this; exact this
          clear hb ho HPA
          have HE2 : Hid (ErrX w7 .nilIface 0) := (ErrB.nil _).errX
          go_wp2_with fail
          refine (num_err _ 0 _ ((unhide HG).below (unhide HB7) (unhide HG).pos) (unhide HE2)).mono ?_
          rintro e w8 ⟨rfl, hb⟩
          have HB8 : Hid (Below w.heap.size w w8) := bnx (unhide HB7) hb
          have HEQ := hide (eqn_self _ _ lm _ (((unhide HO).below hb).nms) (((unhide H1).below (unhide HB8)).nms))
          have hszz : ((sm.size : Nat) : Int) = (n1 : Int) := by rw [unhide HBZ]
          clear hb HE2
          obtain ⟨q0, q1, q2, q3, q4⟩ := (unhide HC) _ (unhide HB8)
          go_wp2_with fail
          refine (unhide HEQ).mono ?_
          rintro e w9 ⟨rfl, qq, hw⟩
          have HB9 : Hid (Below w.heap.size w w9) := by show Below _ _ _; rw [hw]; exact below_drewN (unhide HB8) _
          clear hw q0 q1 q2 q3 q4 HEQ
          go_wp2
          go_roundw
          case rel => exact ⟨k + 1, by omega, by go_num, HB9⟩
          case measure => simp [intOf]; omega
        · rw [decide_eq_false hM]
          have HM := hide hM
          clear hM
          obtain ⟨q0, q1, q2, q3, q4⟩ := (unhide HC) _ (unhide HB2)
          go_wp2_with fail
          refine (byt_any a1 n1 c1 lm _ ((unhide H1).below (unhide HB2))).mono ?_
          rintro e w3 (⟨hM, _⟩ | ⟨_, x, rfl, hE, hb⟩)
          · exact absurd hM (unhide HM)
          have HB3 : Hid (Below w.heap.size w w3) := bnx (unhide HB2) hb
          have HE := hide hE
          clear hb hE q0 q1 q2 q3 q4
          obtain ⟨q0, q1, q2, q3, q4⟩ := (unhide HC) _ (unhide HB3)
          go_wp2_with fail
          refine (chk_any a1 n1 c1 lm _ ((unhide H1).below (unhide HB3))).mono ?_
          rintro e w4 (⟨hM, _⟩ | ⟨_, y, rfl, hE, hb⟩)
          · exact absurd hM (unhide HM)
          have HB4 : Hid (Below w.heap.size w w4) := bnx (unhide HB3) hb
          have HE4 : Hid (ErrX w4 (.iface 62 x) 1) := ErrB.errX (.inr ((unhide HE).below hb))
          have HF4 : Hid (ErrX w4 (.iface 62 y) 1) := ErrB.errX (.inr hE)
          clear hb hE HE q0 q1 q2 q3 q4
          go_wp2_with fail
          refine (num_err _ 1 _ ((unhide HG).below (unhide HB4) (unhide HG).pos) (unhide HF4)).mono ?_
          rintro e w5 ⟨rfl, hb⟩
          have HB5 : Hid (Below w.heap.size w w5) := bnx (unhide HB4) hb
          have HE5 := hide ((unhide HE4).below hb)
          clear hb HE4 HF4
          go_wp2_with fail
          refine (num_err _ 1 _ ((unhide HG).below (unhide HB5) (unhide HG).pos) (unhide HE5)).mono ?_
          rintro e w6 ⟨rfl, hb⟩
          have HB6 : Hid (Below w.heap.size w w6) := bnx (unhide HB5) hb
          clear hb HE5
          go_wp2
          go_roundw
          case rel => exact ⟨k + 1, by omega, by go_num, HB6⟩
          case measure => simp [intOf]; omega
      · clear HD HV
        go_wp2
        go_ret
        exact ⟨rfl, unhide HB1⟩
    · have hend : ¬ (k : Int) < (len : Int) ∨ ¬ (k : Int) < 20 := by omega
      by_cases h9 : (k : Int) < (len : Int)
      · have h9b : ¬ (k : Int) < 20 := by omega
        go_wp2_with fail
        refine (wakes_any _ ((unhide HG).below (unhide HB) (unhide HG).pos)).mono ?_
        rintro e w9 ⟨rfl, hb9⟩
        have HB9 : Hid (Below w.heap.size w w9) := bnx (unhide HB) hb9
        clear hb9
        go_wp2
        go_ret
        exact ⟨rfl, unhide HB9⟩
      · go_wp2_with fail
        refine (wakes_any _ ((unhide HG).below (unhide HB) (unhide HG).pos)).mono ?_
        rintro e w9 ⟨rfl, hb9⟩
        have HB9 : Hid (Below w.heap.size w w9) := bnx (unhide HB) hb9
        clear hb9
        go_wp2
        go_ret
        exact ⟨rfl, unhide HB9⟩
theorem checks16_walk0 (ao : Option Addr) (cap : Nat) (w : World) (hg : Laid w) :
    Calls Tryd.prog 5 #[.slice ao 0 cap] w fun e w' => e = .returned (.bool true) ∧ Below w.heap.size w w' := by
  have HG := hide hg
  have HB : Hid (Below w.heap.size w w) := Below.refl _ _
  clear hg
  go_enter Tryd.func5, Tryd.ntmps5
  go_wp2
  refine wp_loop_rounds 1 ?_
  rw [rounds_succ]
  go_wp2_with fail
  refine (wakes_any _ ((unhide HG).below (unhide HB) (unhide HG).pos)).mono ?_
  rintro e w9 ⟨rfl, hb9⟩
  have HB9 : Hid (Below w.heap.size w w9) := bnx (unhide HB) hb9
  clear hb9
  go_wp2
  go_ret
  exact ⟨rfl, unhide HB9⟩
end Go.Proofs.YtnflgfpicigajaaDoor.Qu
