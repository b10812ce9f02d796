/- Proved here: dovecotelaw3.PropGets tells true at any asks read from memory, and turns nothing below. Helper contracts. -/
import Derived.Test.YtpfpollejhdbgaaDoorZPPutsWalk
import Derived.Test.YtpfpollejhdbgaaDoorZPLawKit
import Derived.Test.YtpfpollejhdbgaaDoorM11
namespace Go.Proofs.YtpfpollejhdbgaaDoor
open Go.RowKit
set_option maxRecDepth 100000

theorem plist_len (place : Int) (l : List Int) : (plist place l).length ≤ 32 := by
  unfold plist
  by_cases h : pgt place l = 0
  · rw [if_pos h]
    unfold pgt at h
    by_cases h1 : (V.vget l).2.2 ≠ 0
    · rw [if_pos h1] at h; exact absurd h h1
    rw [if_neg h1] at h
    by_cases h2 : l.length < ghd l + (gid l).toNat
    · rw [if_pos h2] at h; cases h
    rw [if_neg h2] at h
    unfold rdn at h
    cases hp : parse (pbd l) with
    | none => simp
    | some q =>
      rw [hp] at h
      simp only at h
      unfold chkP at h
      split at h
      · split at h
        · simpa using ‹q.length ≤ 32›
        · omega
      · omega
  · rw [if_neg h]; simp
set_option maxHeartbeats 16000000 in
theorem gets_walk (b off len cap : Nat) (vl : Nat → Value) (ls : Nat → List Pr) (pl : Nat → Int) (vb : Nat → Value) (bs : Nat → List Int) (w : World) (hlen : len ≤ maxLen) (hg : Laid w)
    (hc : ∀ k, k < len → AskAt w b (off + k * 3) (vl k) (ls k) (pl k) (vb k) (bs k)) :
    Calls Tryd.prog 4 #[.slice (some ⟨b, off, none⟩) len cap] w fun e w' => e = .returned (.bool true) ∧ Below w.heap.size w w' := by
  unfold maxLen at hlen
  have HC := hide hc
  have HG := hide hg
  clear hc hg
  go_enter Tryd.func4, Tryd.ntmps4
  go_wp2
  go_loopw [3] (fun i wr => ∃ k : Nat, k ≤ len ∧ k ≤ 12 ∧ i = .int .i64 k ∧ Below w.heap.size w wr) (fun i _ => 12 - (intOf i).toNat)
  case atStart => exact ⟨0, Nat.zero_le _, by omega, rfl, Below.refl _ _⟩
  case round =>
    obtain ⟨k, hk, hk12, rfl, hbel⟩ := hrel
    by_cases hlt : k < len ∧ k < 12
    · obtain ⟨hlt, hlt12⟩ := hlt
      obtain ⟨hc0, hc1, hc2, hpr, hhd, hby, hbl, -, -⟩ := (unhide HC) k hlt
      have c0 := (hbel.cell (p := ⟨b, off + k * 3, none⟩) (cell_lt hc0)).trans hc0
      have c1 := (hbel.cell (p := ⟨b, off + k * 3 + 1, none⟩) (cell_lt hc1)).trans hc1
      have c2 := (hbel.cell (p := ⟨b, off + k * 3 + 2, none⟩) (cell_lt hc2)).trans hc2
      have HPR : Hid (Prp wr (vl k) (ls k)) := hpr.below hbel
      have HHD := hide hhd
      have HY : Hid (Byt wr (vb k) (bs k)) := hby.below hbel
      have HG0 : Hid (Laid wr) := (unhide HG).below hbel (unhide HG).pos
      have hsz := hbel.size
      have HBEL := hide hbel
      clear hc0 hc1 hc2 hpr hhd hby hbel
      generalize vl k = v at c0 HPR
      generalize ls k = l at HPR HHD
      generalize pl k = p at c1
      generalize vb k = u at c2 HY
      generalize bs k = z at HY hbl
      obtain ⟨ao, vc, rfl, -, -⟩ := (unhide HY).form
      generalize hn : z.length = n at c2 hbl HY
      have HN := hide hn
      clear hn
      have HD : Hid (∀ W, Below (wr.alloc (.cells #[v, .int .i64 p, .slice ao n vc] 26)).heap.size (wr.alloc (.cells #[v, .int .i64 p, .slice ao n vc] 26)) W → (W.cell? ⟨wr.heap.size, 1, none⟩ = some (.int .i64 p) ∧ W.cell? ⟨wr.heap.size, 2, none⟩ = some (.slice ao n vc)) ∧ Byt W (.slice ao n vc) z ∧ Laid W ∧ Below w.heap.size w W) := fun W hW => by
        have h0 : Below wr.heap.size wr W := ((Below.refl _ _).alloc (Nat.le_refl _) _).trans (hW.mono (by simp))
        exact ⟨⟨(hW.cell (p := ⟨wr.heap.size, 1, none⟩) (by simp)).trans (by simp), (hW.cell (p := ⟨wr.heap.size, 2, none⟩) (by simp)).trans (by simp)⟩, (unhide HY).below h0, (unhide HG0).below h0 (unhide HG0).pos, (unhide HBEL).trans (h0.mono hsz)⟩
      have HPW : Hid (∀ W, Below (wr.alloc (.cells #[v, .int .i64 p, .slice ao n vc] 26)).heap.size (wr.alloc (.cells #[v, .int .i64 p, .slice ao n vc] 26)) W → Prp W v l) := fun W hW => (unhide HPR).below (((Below.refl _ _).alloc (Nat.le_refl _) _).trans (hW.mono (by simp)))
      obtain ⟨lo, lc, hv⟩ := (unhide HPR).form
      generalize hvl : l.length = ln at hv
      have HLN := hide hvl
      clear hvl
      subst hv
      have HPGET := hide (fun vx W (h : Byt W vx z) => get3_any vx z p W h)
      have HRGET := hide (fun vx W (h : Byt W vx z) => rGet_any vx z p W h)
      have HPL := hide (plist_len p z)
      unfold GetPost at HPGET
      unfold RGetPost at HRGET
      generalize psz p z = sz at HPGET HRGET
      generalize pgt p z = c at HPGET HRGET
      generalize plist p z = q at HPGET HRGET HPL
      generalize hW0 : wr.alloc (.cells #[.slice lo ln lc, .int .i64 p, .slice ao n vc] 26) = W0 at HD HPW
      have HW0 := hide hW0
      clear hW0
      have HV1 := hide (fun W (hb : Below W0.heap.size W0 W) => heavy_any (.slice lo ln lc) l p ao n vc W ((unhide HPW) W hb) (unhide HHD) hbl)
      go_wp2_with fail
      rw [unhide HW0]
      refine ((unhide HV1) W0 (Below.refl _ _)).mono ?_
      rintro e w1 ⟨hv, rfl, HL1, hb1⟩
      have HC1 : Hid (Below W0.heap.size W0 w1) := hb1
      obtain ⟨⟨e1, f1⟩, hp1, hg1, hB1⟩ := (unhide HD) w1 (unhide HC1)
      have HP1 := hide hp1
      have HG1 := hide hg1
      have HB1 := hide hB1
      clear hp1 hg1 hB1 hb1
      clear c0 c1 c2 HPW HPR HY HHD HV1
      cases hv
      · have HL0 : Hid (Light l n) := (unhide HL1) rfl
        clear HL1
        go_wp2_with fail
        refine (copyb_any _ z _ (unhide HP1) (by rw [unhide HN]; omega)).mono ?_
        rintro e w2 ⟨vx, rfl, -, hx2, hb2⟩
        have HC2 : Hid (Below W0.heap.size W0 w2) := (unhide HC1).trans (hb2.mono (unhide HC1).size)
        obtain ⟨⟨e2, f2⟩, hp2, hg2, hB2⟩ := (unhide HD) w2 (unhide HC2)
        have HP2 := hide hp2
        have HG2 := hide hg2
        have HB2 := hide hB2
        clear hp2 hg2 hB2
        clear hb2
        clear e1 f1
        go_wp2_with fail
        refine ((unhide HPGET) vx _ (unhide hx2)).mono ?_
        rintro e w3 ⟨vp, E, rfl, ho3, hE3, hb3⟩
        have hsz3 := (unhide HB2).size
        have HO3 : Hid (w3.ownsRow w.heap.size 49 4 vp q.length (pcs q)) := owns_mono (unhide ho3) hsz3
        clear ho3
        have HC3 : Hid (Below W0.heap.size W0 w3) := (unhide HC2).trans (hb3.mono (unhide HC2).size)
        obtain ⟨⟨e3, f3⟩, hp3, hg3, hB3⟩ := (unhide HD) w3 (unhide HC3)
        have HP3 := hide hp3
        have HG3 := hide hg3
        have HB3 := hide hB3
        clear hp3 hg3 hB3
        have hx3 : Hid (Byt w3 vx z) := (unhide hx2).below hb3
        clear hb3
        clear e2 f2
        go_wp2_with fail
        refine ((unhide HRGET) _ _ (unhide HP3)).mono ?_
        rintro e w4 ⟨vr, rfl, hr4, hb4⟩
        have HC4 : Hid (Below W0.heap.size W0 w4) := (unhide HC3).trans (hb4.mono (unhide HC3).size)
        obtain ⟨⟨e4, f4⟩, hp4, hg4, hB4⟩ := (unhide HD) w4 (unhide HC4)
        have HP4 := hide hp4
        have HG4 := hide hg4
        have HB4 := hide hB4
        clear hp4 hg4 hB4
        have hx4 : Hid (Byt w4 vx z) := (unhide hx3).below hb4
        have HO4 : Hid (w4.ownsRow w.heap.size 49 4 vp q.length (pcs q)) := owns_below (unhide HO3) hb4
        have hE4 : Hid (ErrP w4 E c) := (unhide hE3).below hb4
        clear hb4
        clear e3 f3
        go_wp2_with fail
        refine (numlp _ c _ (unhide HG4) (unhide hE4)).mono ?_
        rintro e w5 ⟨rfl, hb5⟩
        have HC5 : Hid (Below W0.heap.size W0 w5) := (unhide HC4).trans (hb5.mono (unhide HC4).size)
        obtain ⟨⟨e5, f5⟩, hp5, hg5, hB5⟩ := (unhide HD) w5 (unhide HC5)
        have HP5 := hide hp5
        have HG5 := hide hg5
        have HB5 := hide hB5
        clear hp5 hg5 hB5
        have hx5 : Hid (Byt w5 vx z) := (unhide hx4).below hb5
        have HO5 : Hid (w5.ownsRow w.heap.size 49 4 vp q.length (pcs q)) := owns_below (unhide HO4) hb5
        have hr5 : Hid (Prp w5 vr q) := (unhide hr4).below hb5
        clear hb5
        clear e4 f4
        go_wp2_with fail
        refine (eqp_same _ _ q _ (prp_of_owns (unhide HO5)) (unhide hr5) (by have := unhide HPL; omega)).mono ?_
        rintro e w6 ⟨rfl, hb6⟩
        have HC6 : Hid (Below W0.heap.size W0 w6) := (unhide HC5).trans (hb6.mono (unhide HC5).size)
        obtain ⟨⟨e6, f6⟩, hp6, hg6, hB6⟩ := (unhide HD) w6 (unhide HC6)
        have HP6 := hide hp6
        have HG6 := hide hg6
        have HB6 := hide hB6
        clear hp6 hg6 hB6
        have hx6 : Hid (Byt w6 vx z) := (unhide hx5).below hb6
        have HO6 : Hid (w6.ownsRow w.heap.size 49 4 vp q.length (pcs q)) := owns_below (unhide HO5) hb6
        clear hb6
        clear e5 f5
        go_wp2_with fail
        refine (eqb_same _ _ z _ (unhide hx6) (unhide HP6)).mono ?_
        rintro e w7 ⟨rfl, hb7⟩
        have HC7 : Hid (Below W0.heap.size W0 w7) := (unhide HC6).trans (hb7.mono (unhide HC6).size)
        obtain ⟨⟨e7, f7⟩, hp7, hg7, hB7⟩ := (unhide HD) w7 (unhide HC7)
        have HP7 := hide hp7
        have HG7 := hide hg7
        have HB7 := hide hB7
        clear hp7 hg7 hB7
        have HO7 : Hid (w7.ownsRow w.heap.size 49 4 vp q.length (pcs q)) := owns_below (unhide HO6) hb7
        clear hb7
        clear e6 f6
        go_wp2_with fail
        refine (props_any w.heap.size _ q.length _ _ (unhide HB7).size (by have := unhide HPL; omega) (unhide HO7)).mono ?_
        rintro e w8 ⟨rfl, hb8⟩
        have HB8 : Hid (Below w.heap.size w w8) := (unhide HB7).trans hb8
        clear hb8 e7 f7
        go_wp2
        go_roundw
        case rel => exact ⟨k + 1, by omega, by omega, by go_num, unhide HB8⟩
        case measure => simp [intOf]; omega
      · go_wp2
        go_ret
        exact ⟨rfl, unhide HB1⟩
    · have HB0 := hide hbel
      have HGE : Hid (Laid wr) := (unhide HG).below hbel (unhide HG).pos
      clear hbel
      by_cases hl2 : k < len
      · have hk2 : k = 12 := by omega
        subst hk2
        go_wp2_with fail
        refine (wakes_any _ (unhide HGE)).mono ?_
        rintro e w2 ⟨rfl, hb2⟩
        go_wp2
        go_ret
        exact ⟨rfl, (unhide HB0).trans (hb2.mono (unhide HB0).size)⟩
      · go_wp2_with fail
        refine (wakes_any _ (unhide HGE)).mono ?_
        rintro e w2 ⟨rfl, hb2⟩
        go_wp2
        go_ret
        exact ⟨rfl, (unhide HB0).trans (hb2.mono (unhide HB0).size)⟩
theorem gets_walk0 (ao : Option Addr) (cap : Nat) (w : World) (hg : Laid w) : Calls Tryd.prog 4 #[.slice ao 0 cap] w fun e w' => e = .returned (.bool true) ∧ Below w.heap.size w w' := by
  have HG := hide hg
  clear hg
  go_enter Tryd.func4, Tryd.ntmps4
  go_wp2
  refine wp_loop_rounds 1 ?_
  rw [rounds_succ]
  go_wp2_with fail
  refine (wakes_any _ (unhide HG)).mono ?_
  rintro e w2 ⟨rfl, hb2⟩
  go_wp2
  go_ret
  exact ⟨rfl, hb2⟩
end Go.Proofs.YtpfpollejhdbgaaDoor
