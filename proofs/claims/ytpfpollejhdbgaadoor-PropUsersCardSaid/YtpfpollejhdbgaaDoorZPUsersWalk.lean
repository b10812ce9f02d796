/- Proved here: dovecotelaw3.PropUsers tells true at any slice, and turns nothing below. Helper contracts. -/
import Derived.Test.YtpfpollejhdbgaaDoorZPPutsWalk
import Derived.Test.YtpfpollejhdbgaaDoorZPBackPlain
namespace Go.Proofs.YtpfpollejhdbgaaDoor
open Go.RowKit
set_option maxRecDepth 100000

def chr1 (x : Int) : ByteArray := ⟨#[x.toNat.toUInt8]⟩
def vee : ByteArray := ⟨#[118]⟩
def usr (j : Nat) : Pr := (38, 0, chr1 (97 + (j : Int) % 26), vee)
def us (i : Nat) : List Pr := (List.range i).map usr
theorem abc (x : Int) (h0 : 97 ≤ x) (h1 : x ≤ 122) : x = 97 ∨ x = 98 ∨ x = 99 ∨ x = 100 ∨ x = 101 ∨ x = 102 ∨ x = 103 ∨ x = 104 ∨ x = 105 ∨ x = 106 ∨ x = 107 ∨ x = 108 ∨ x = 109 ∨ x = 110 ∨ x = 111 ∨ x = 112 ∨ x = 113 ∨ x = 114 ∨ x = 115 ∨ x = 116 ∨ x = 117 ∨ x = 118 ∨ x = 119 ∨ x = 120 ∨ x = 121 ∨ x = 122 := by omega
theorem conv_rune (x : Int) (h0 : 97 ≤ x) (h1 : x ≤ 122) (w : World) : (convert 21 9 (.int .i32 x)).run Tryd.prog w = .ok (.string (chr1 x)) w := by
  rcases abc x h0 h1 with rfl | rfl | rfl | rfl | rfl | rfl | rfl | rfl | rfl | rfl | rfl | rfl | rfl | rfl | rfl | rfl | rfl | rfl | rfl | rfl | rfl | rfl | rfl | rfl | rfl | rfl
  all_goals kernel_rfl
theorem chk_chr (x : Int) (h0 : 97 ≤ x) (h1 : x ≤ 122) : chk (sb (chr1 x)) = 0 := by
  rcases abc x h0 h1 with rfl | rfl | rfl | rfl | rfl | rfl | rfl | rfl | rfl | rfl | rfl | rfl | rfl | rfl | rfl | rfl | rfl | rfl | rfl | rfl | rfl | rfl | rfl | rfl | rfl | rfl
  all_goals decide +kernel
theorem chk_vee : chk (sb vee) = 0 := by decide +kernel
theorem us_len (i : Nat) : (us i).length = i := by unfold us; simp
theorem us_at (i j : Nat) (h : j < i) : at0 (us i) j = usr j := by
  unfold at0 us
  rw [List.getD_eq_getElem?_getD, List.getElem?_map, List.getElem?_range h]
  rfl
theorem us_succ (i : Nat) : us (i + 1) = us i ++ [usr i] := by unfold us; rw [List.range_succ, List.map_append]; rfl
theorem us_ok (i : Nat) : okTo 15 (us i) (us i).length := fun j hj => by
  rw [us_len] at hj
  have e := us_at i j hj
  have hm : may (usr j) = true := by
    unfold may fit txo usr
    have a := chk_chr (97 + (j : Int) % 26) (by omega) (by omega)
    simp only [show kd 38 = 8 from by decide, show lst 38 = 0 from by decide, show mx 38 = 0 from by decide, a, chk_vee]
    rfl
  unfold okAt
  rw [e, hm]
  show (mst 38 15 && true && (rep 38 15 || _)) = true
  rw [show mst 38 15 = true from by decide, show rep 38 15 = true from by decide]
  rfl
theorem us_small (i : Nat) : Small (us i) := fun j hj => by
  rw [us_len] at hj
  rw [us_at i j hj]
  unfold usr
  have a : (chr1 (97 + (j : Int) % 26)).size = 1 := rfl
  have b : vee.size = 1 := rfl
  simp only [a, b]
  omega
theorem us_chk (i : Nat) (h : i ≤ 32) : chkP 15 (us i) = 0 := chkP_ok 15 _ (us_ok i) (by rw [us_len]; exact h)
theorem us_lim : chkP 15 (us 33) = 2 := chkP_lim 15 _ (us_ok 33) (by rw [us_len]; omega)
theorem us_pbz (i : Nat) (h : i ≤ 32) : pbz 15 (us i) = pbs (us i) := by unfold pbz; rw [if_pos (us_chk i h)]
set_option maxHeartbeats 8000000 in
theorem users_walk (ao : Option Addr) (len cap : Nat) (w : World) (_hlen : len ≤ maxLen) (hg : Laid w) :
    Calls Tryd.prog 8 #[.slice ao len cap] w fun e w' => e = .returned (.bool true) ∧ Below w.heap.size w w' := by
  obtain ⟨i0, hi, hz0, hz1, hz2⟩ := info_parts Tryd.infoProp
  have HG := hide hg
  clear hg
  go_enter Tryd.func8, Tryd.ntmps8
  go_wp2
  go_loopw [3, 4] (fun p0 iv wr => ∃ (pv : Value) (k : Nat), p0 = pv ∧ k ≤ 33 ∧ iv = .int .i64 k ∧ Hid (wr.ownsRow w.heap.size 49 4 pv k (pcs (us k))) ∧ Below w.heap.size w wr) (fun _ iv _ => 33 - (intOf iv).toNat)
  case atStart => exact ⟨_, 0, rfl, by omega, rfl, World.ownsRow_nil _ _ _ _, Below.refl _ _⟩
  case round =>
    obtain ⟨_, k, rfl, hk, rfl, HO, hbel⟩ := hrel
    have HB := hide hbel
    have HG0 : Hid (Laid wr) := (unhide HG).below hbel (unhide HG).pos
    have hsz := hbel.size
    have HPR : Hid (Prp wr u3 (us k)) := prp_of_owns (by rw [us_len]; exact unhide HO)
    have HPUT := hide (put_any u3 (us k) 15 wr (unhide HPR) (by rw [us_len]; omega) (us_small k))
    clear hbel
    by_cases hlt : k ≤ 32
    · have HCK := hide (us_chk k hlt)
      have HUK := hide (us_ok k)
      have HUL : Hid ((us k).length ≤ 32) := by show _ ≤ _; rw [us_len]; exact hlt
      have HUS := hide (us_succ k)
      rw [us_pbz k hlt, unhide HCK] at HPUT
      generalize us k = l at HO HPR HPUT HCK HUK HUL HUS
      go_wp2_with fail
      refine (unhide HPUT).mono ?_
      rintro e w1 ⟨vb, E, rfl, hy1, hE1, hb1⟩
      have HB1 : Hid (Below w.heap.size w w1) := (unhide HB).trans (hb1.mono hsz)
      have HG1 : Hid (Laid w1) := (unhide HG0).below hb1 (unhide HG0).pos
      have HO1 : Hid (w1.ownsRow w.heap.size 49 4 u3 k (pcs l)) := owns_below (unhide HO) hb1
      have HPR1 : Hid (Prp w1 u3 l) := (unhide HPR).below hb1
      clear hb1 HO HPR HB HG0 HPUT
      obtain ⟨bo, bc, rfl, hbc1, hbc2⟩ := (unhide hy1).form
      have HGET := hide (get3_any _ (pbs l) 15 w1 (unhide hy1))
      have HBK := hide (back_pgt 15 15 l [] (unhide HUK) (unhide HUL) (unhide hy1).range)
      unfold GetPost at HGET
      rw [List.append_nil, unhide HCK] at HBK
      rw [(unhide HBK).1, ((unhide HBK).2 rfl).1, ((unhide HBK).2 rfl).2] at HGET
      generalize hn : (pbs l).length = n at hbc1 HGET hy1
      clear hn HBK
      go_wp2_with fail
      refine (unhide HGET).mono ?_
      rintro e w2 ⟨vx, F, rfl, ho2, hF2, hb2⟩
      have HB2 : Hid (Below w.heap.size w w2) := (unhide HB1).trans (hb2.mono (unhide HB1).size)
      have HG2 : Hid (Laid w2) := (unhide HG1).below hb2 (unhide HG1).pos
      have HO2 : Hid (w2.ownsRow w.heap.size 49 4 u3 k (pcs l)) := owns_below (unhide HO1) hb2
      have HPR2 : Hid (Prp w2 u3 l) := (unhide HPR1).below hb2
      have hx2 : Hid (Prp w2 vx l) := prp_of_owns (unhide ho2)
      have hE2 : Hid (ErrP w2 E 0) := (unhide hE1).below hb2
      clear hb2 ho2 HO1 HPR1 HB1 HG1 HGET hy1 hE1
      go_wp2_with fail
      refine (numlp _ 0 _ (unhide HG2) (unhide hE2)).mono ?_
      rintro e w3 ⟨rfl, hb3⟩
      have HB3 : Hid (Below w.heap.size w w3) := (unhide HB2).trans (hb3.mono (unhide HB2).size)
      have HG3 : Hid (Laid w3) := (unhide HG2).below hb3 (unhide HG2).pos
      have HO3 : Hid (w3.ownsRow w.heap.size 49 4 u3 k (pcs l)) := owns_below (unhide HO2) hb3
      have HPR3 : Hid (Prp w3 u3 l) := (unhide HPR2).below hb3
      have hx3 : Hid (Prp w3 vx l) := (unhide hx2).below hb3
      have hF3 : Hid (ErrP w3 F 0) := (unhide hF2).below hb3
      clear hb3 HO2 HPR2 HB2 HG2 hx2 hE2 hF2
      go_wp2_with fail
      refine (numlp _ 0 _ (unhide HG3) (unhide hF3)).mono ?_
      rintro e w4 ⟨rfl, hb4⟩
      have HB4 : Hid (Below w.heap.size w w4) := (unhide HB3).trans (hb4.mono (unhide HB3).size)
      have HG4 : Hid (Laid w4) := (unhide HG3).below hb4 (unhide HG3).pos
      have HO4 : Hid (w4.ownsRow w.heap.size 49 4 u3 k (pcs l)) := owns_below (unhide HO3) hb4
      have HPR4 : Hid (Prp w4 u3 l) := (unhide HPR3).below hb4
      have hx4 : Hid (Prp w4 vx l) := (unhide hx3).below hb4
      clear hb4 HO3 HPR3 HB3 HG3 hx3 hF3
      go_wp2_with fail
      refine (eqp_same _ _ l _ (unhide hx4) (unhide HPR4) (by have := unhide HUL; omega)).mono ?_
      rintro e w5 ⟨rfl, hb5⟩
      have HB5 : Hid (Below w.heap.size w w5) := (unhide HB4).trans (hb5.mono (unhide HB4).size)
      have HO5 : Hid (w5.ownsRow w.heap.size 49 4 u3 k (pcs l)) := owns_below (unhide HO4) hb5
      have hsz5 := (unhide HB5).size
      clear hb5 HO4 HPR4 HB4 HG4 hx4
      have hrem : (97 : Int) ≤ 97 + (k : Int) % 26 ∧ 97 + (k : Int) % 26 ≤ 122 := by omega
      have hcv := fun W => conv_rune (97 + (k : Int) % 26) hrem.1 hrem.2 W
      go_wp2_with (first
        | (at_builtin; refine wpList_append_own _ rfl _ _ 23 rfl w.heap.size 49 i0 _ 4 48 Tryd.underlying23 hi hz0 hz1 hz2 rfl (by decide) _ _ _ rfl ((unhide HO5).alloc _) ⟨w5.heap.size, 0, none⟩ 1 1 [.int .i64 38, .int .i64 0, .string (chr1 (97 + (k : Int) % 26)), .string vee] rfl rfl (four_cell _ _ _ _ _ _) (four_one _ _ _ _) (by unfold maxLen; omega) (by omega) (by simp; omega) ?_)
        | go_in)
      intro v6 w6 hown6 hgrow6 _
      have HB6 : Hid (Below w.heap.size w w6) := ((unhide HB5).alloc hsz5 _).grown hgrow6 (by simp; omega) (fun g hg => ((unhide HO5).lt g hg).1)
      have HO6 : Hid (w6.ownsRow w.heap.size 49 4 v6 (k + 1) (pcs (us (k + 1)))) := by
        show World.ownsRow _ _ _ _ _ _ _
        rw [unhide HUS]
        have : pcs (l ++ [usr k]) = pcs l ++ [.int .i64 38, .int .i64 0, .string (chr1 (97 + (k : Int) % 26)), .string vee] := by unfold pcs usr; simp
        rw [this]
        exact hown6
      clear hown6 hgrow6 HO5 HB5
      go_wp2
      go_roundw
      case rel => exact ⟨_, k + 1, rfl, by omega, by go_num, HO6, unhide HB6⟩
      case measure => simp [intOf]; omega
    · obtain rfl : k = 33 := by omega
      rw [us_lim] at HPUT
      go_wp2_with fail
      refine (unhide HPUT).mono ?_
      rintro e w1 ⟨vb, E, rfl, -, hE1, hb1⟩
      have HB1 : Hid (Below w.heap.size w w1) := (unhide HB).trans (hb1.mono hsz)
      have HG1 : Hid (Laid w1) := (unhide HG0).below hb1 (unhide HG0).pos
      clear hb1 HPUT HB HG0 HO HPR
      go_wp2_with fail
      refine (numlp _ 2 _ (unhide HG1) (unhide hE1)).mono ?_
      rintro e w2 ⟨rfl, hb2⟩
      have HB2 : Hid (Below w.heap.size w w2) := (unhide HB1).trans (hb2.mono (unhide HB1).size)
      have HG2 : Hid (Laid w2) := (unhide HG1).below hb2 (unhide HG1).pos
      clear hb2 HB1 HG1 hE1
      go_wp2_with fail
      refine (wakes_any _ (unhide HG2)).mono ?_
      rintro e w3 ⟨rfl, hb3⟩
      go_wp2
      go_ret
      exact ⟨rfl, (unhide HB2).trans (hb3.mono (unhide HB2).size)⟩
end Go.Proofs.YtpfpollejhdbgaaDoor
