/- Proved here: the statement TextGets, called in any world whose errors.errorType is as laid, on any slice that reads, tells true and changes nothing that was there. -/
import Derived.Test.YtckdmknmhjdicaaDoorTWakes
import Derived.Test.YtckdmknmhjdicaaDoorTGet
namespace Go.Proofs.YtckdmknmhjdicaaDoor
open Go.RowKit

set_option maxRecDepth 100000 in
set_option maxHeartbeats 4000000 in
theorem gets_walk (b off len cap : Nat) (ss : Nat → ByteArray) (vs : Nat → Value) (bs : Nat → List Int) (w : World) (hlen : len ≤ maxLen) (hg : Laid w)
    (hc : ∀ k, k < len → w.cell? ⟨b, off + k * 2, none⟩ = some (.string (ss k)) ∧ w.cell? ⟨b, off + k * 2 + 1, none⟩ = some (vs k) ∧ Byt w (vs k) (bs k)) :
    Calls Tryd.prog 4 #[.slice (some ⟨b, off, none⟩) len cap] w fun e w' => e = .returned (.bool true) ∧ Below w.heap.size w w' := by
  unfold maxLen at hlen
  have HC := hide hc
  have HG := hide hg
  clear hc hg
  go_enter Tryd.func4, Tryd.ntmps4
  go_wp2
  go_loopw [3] (fun i wr => ∃ k : Nat, k ≤ len ∧ k ≤ 20 ∧ i = .int .i64 k ∧ Below w.heap.size w wr) (fun i _ => 20 - (intOf i).toNat)
  case atStart => exact ⟨0, Nat.zero_le _, by omega, rfl, Below.refl _ _⟩
  case round =>
    obtain ⟨k, hk, hk20, rfl, hbel⟩ := hrel
    by_cases hlt : k < len ∧ k < 20
    · obtain ⟨hlt, hlt20⟩ := hlt
      obtain ⟨hc0, hc1, hby⟩ := (unhide HC) k hlt
      have hcr := (hbel.cell (p := ⟨b, off + k * 2, none⟩) (cell_lt hc0)).trans hc0
      have hcs := (hbel.cell (p := ⟨b, off + k * 2 + 1, none⟩) (cell_lt hc1)).trans hc1
      have hbl : b < w.heap.size := cell_lt hc0
      have hsz := hbel.size
      have HY : Hid (Byt wr (vs k) (bs k)) := hby.below hbel
      clear hc0 hc1 hby
      generalize ss k = s at hcr
      generalize vs k = v at hcs HY
      generalize bs k = l at HY
      have hgr : Hid (Laid wr) := (unhide HG).below hbel (unhide HG).pos
      have hBel := hide hbel
      clear hbel
      obtain ⟨ao, vc, rfl, hv1, hv2⟩ := (unhide HY).form
      unfold maxLen at hv2
      generalize hn : l.length = n at hcs HY hv1
      have HN := hide hn
      clear hn
      by_cases hh : (decide (70000 < s.size) || decide (5000 < n)) = true
      · have hh' : Hid (true = (decide (70000 < s.size) || decide (5000 < n))) := hh.symm
        clear hh
        go_wp2_with fail
        refine (heavy_use s ao n vc _ true hh').mono ?_
        rintro e w2 ⟨rfl, hb2⟩
        go_wp2
        go_ret
        exact ⟨rfl, (unhide hBel).trans (hb2.mono hsz)⟩
      · obtain ⟨hs70, hn5, hh'⟩ := not_heavy hh
        clear hh
        go_wp2_with fail
        refine (heavy_use s ao n vc _ false hh').mono ?_
        rintro e w1 ⟨rfl, hb1⟩
        have hcs1 : w1.cell? ⟨b, off + k * 2 + 1, none⟩ = some (.slice ao n vc) := (hb1.cell (p := ⟨b, off + k * 2 + 1, none⟩) (by simp; omega)).trans hcs
        have HY1 : Hid (Byt w1 (.slice ao n vc) l) := (unhide HY).below hb1
        have hg1 : Hid (Laid w1) := (unhide hgr).below hb1 (unhide hgr).pos
        have HB1 : Hid (Below w.heap.size w w1) := (unhide hBel).trans (hb1.mono hsz)
        have hs1 : w.heap.size ≤ w1.heap.size := (unhide HB1).size
        clear hb1 hcs hcr HY hgr hBel hsz
        have HR := hide (rget_any (.slice ao n vc) l)
        have HS := hide (rgetBin_any (.slice ao n vc) l)
        have HT := hide (get_any (.slice ao n vc) l)
        have HU := hide (getBin_any (.slice ao n vc) l)
        generalize gt l = g at HR HT
        generalize gbn l = f at HS HU
        obtain ⟨gs, gn, ge⟩ := g
        obtain ⟨fs, fn, fe⟩ := f
        dsimp only at HR HS HT HU
        go_wp2_with fail
        refine ((unhide HT) _ (unhide HY1)).mono ?_
        rintro e w2 ⟨E, rfl, hE, hb2⟩
        have hcs2 : w2.cell? ⟨b, off + k * 2 + 1, none⟩ = some (.slice ao n vc) := (hb2.cell (p := ⟨b, off + k * 2 + 1, none⟩) (by simp; omega)).trans hcs1
        have HY2 : Hid (Byt w2 (.slice ao n vc) l) := (unhide HY1).below hb2
        have hg2 : Hid (Laid w2) := (unhide hg1).below hb2 (unhide hg1).pos
        have HB2 : Hid (Below w.heap.size w w2) := (unhide HB1).trans (hb2.mono hs1)
        have hs2 : w.heap.size ≤ w2.heap.size := (unhide HB2).size
        have HE2 := hE
        clear hE hb2 hcs1 HY1 hg1 HB1 hs1 HT
        go_wp2_with fail
        refine ((unhide HR) _ (unhide HY2)).mono ?_
        rintro e w3 ⟨rfl, hb3⟩
        have hcs3 : w3.cell? ⟨b, off + k * 2 + 1, none⟩ = some (.slice ao n vc) := (hb3.cell (p := ⟨b, off + k * 2 + 1, none⟩) (by simp; omega)).trans hcs2
        have HY3 : Hid (Byt w3 (.slice ao n vc) l) := (unhide HY2).below hb3
        have hg3 : Hid (Laid w3) := (unhide hg2).below hb3 (unhide hg2).pos
        have HB3 : Hid (Below w.heap.size w w3) := (unhide HB2).trans (hb3.mono hs2)
        have hs3 : w.heap.size ≤ w3.heap.size := (unhide HB3).size
        have HE3 : Hid (ErrIs w3 E ge) := (unhide HE2).below hb3
        clear hb3 hcs2 HY2 hg2 HB2 hs2 HR HE2
        go_wp2_with fail
        refine (numl_any _ ge _ (unhide hg3) (unhide HE3)).mono ?_
        rintro e w4 ⟨rfl, hb4⟩
        have hcs4 : w4.cell? ⟨b, off + k * 2 + 1, none⟩ = some (.slice ao n vc) := (hb4.cell (p := ⟨b, off + k * 2 + 1, none⟩) (by simp; omega)).trans hcs3
        have HY4 : Hid (Byt w4 (.slice ao n vc) l) := (unhide HY3).below hb4
        have hg4 : Hid (Laid w4) := (unhide hg3).below hb4 (unhide hg3).pos
        have HB4 : Hid (Below w.heap.size w w4) := (unhide HB3).trans (hb4.mono hs3)
        have hs4 : w.heap.size ≤ w4.heap.size := (unhide HB4).size
        clear hb4 hcs3 HY3 hg3 HB3 hs3 HE3
        go_wp2_with fail
        refine ((unhide HU) _ (unhide HY4)).mono ?_
        rintro e w5 ⟨F, rfl, hE, hb5⟩
        have hcs5 : w5.cell? ⟨b, off + k * 2 + 1, none⟩ = some (.slice ao n vc) := (hb5.cell (p := ⟨b, off + k * 2 + 1, none⟩) (by simp; omega)).trans hcs4
        have HY5 : Hid (Byt w5 (.slice ao n vc) l) := (unhide HY4).below hb5
        have hg5 : Hid (Laid w5) := (unhide hg4).below hb5 (unhide hg4).pos
        have HB5 : Hid (Below w.heap.size w w5) := (unhide HB4).trans (hb5.mono hs4)
        have hs5 : w.heap.size ≤ w5.heap.size := (unhide HB5).size
        have HE5 := hE
        clear hE hb5 hcs4 HY4 hg4 HB4 hs4 HU
        go_wp2_with fail
        refine ((unhide HS) _ (unhide HY5)).mono ?_
        rintro e w6 ⟨rfl, hb6⟩
        have hcs6 : w6.cell? ⟨b, off + k * 2 + 1, none⟩ = some (.slice ao n vc) := (hb6.cell (p := ⟨b, off + k * 2 + 1, none⟩) (by simp; omega)).trans hcs5
        have HY6 : Hid (Byt w6 (.slice ao n vc) l) := (unhide HY5).below hb6
        have hg6 : Hid (Laid w6) := (unhide hg5).below hb6 (unhide hg5).pos
        have HB6 : Hid (Below w.heap.size w w6) := (unhide HB5).trans (hb6.mono hs5)
        have hs6 : w.heap.size ≤ w6.heap.size := (unhide HB6).size
        have HE6 : Hid (ErrIs w6 F fe) := (unhide HE5).below hb6
        clear hb6 hcs5 HY5 hg5 HB5 hs5 HS HE5
        go_wp2_with fail
        refine (numl_any _ fe _ (unhide hg6) (unhide HE6)).mono ?_
        rintro e w7 ⟨rfl, hb7⟩
        have HB7 : Hid (Below w.heap.size w w7) := (unhide HB6).trans (hb7.mono hs6)
        clear hb7 hcs6 HY6 hg6 HB6 hs6 HE6
        go_wp2
        go_roundw
        case rel => exact ⟨k + 1, by omega, by omega, by go_num, unhide HB7⟩
        case measure => simp [intOf]; omega
    · have hBel := hide hbel
      have hsz := hbel.size
      clear hbel
      by_cases hlt1 : k < len
      · obtain rfl : k = 20 := by omega
        go_wp2_with fail
        refine (wakes_any _).mono ?_
        rintro e w2 ⟨rfl, hb2⟩
        go_wp2
        go_ret
        exact ⟨rfl, (unhide hBel).trans (hb2.mono hsz)⟩
      · go_wp2_with fail
        refine (wakes_any _).mono ?_
        rintro e w2 ⟨rfl, hb2⟩
        go_wp2
        go_ret
        exact ⟨rfl, (unhide hBel).trans (hb2.mono hsz)⟩

theorem gets_walk0 (ao : Option Addr) (cap : Nat) (w : World) :
    Calls Tryd.prog 4 #[.slice ao 0 cap] w fun e w' => e = .returned (.bool true) ∧ Below w.heap.size w w' := by
  go_enter Tryd.func4, Tryd.ntmps4
  go_wp2
  refine wp_loop_rounds 1 ?_
  rw [rounds_succ]
  go_wp2_with fail
  refine (wakes_any _).mono ?_
  rintro e w2 ⟨rfl, hb2⟩
  go_wp2
  go_ret
  exact ⟨rfl, hb2⟩
end Go.Proofs.YtckdmknmhjdicaaDoor
