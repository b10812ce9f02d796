/- Proved here: the statement TopicNames, called in any world whose listed variables are as laid, on any slice that reads, tells true and changes nothing that was there. -/
import Derived.Test.YtgnjpnhomkganaaDoorZQLaw0
namespace Go.Proofs.YtgnjpnhomkganaaDoor
open Go.RowKit

set_option maxRecDepth 100000 in
set_option maxHeartbeats 4000000 in
theorem names_walk (b off len cap : Nat) (fs ss : Nat → ByteArray) (w : World) (hlen : len ≤ maxLen) (hg : Laid2 w) (hc : Twos w b off len fs ss) :
    Calls Tryd.prog 3 #[.slice (some ⟨b, off, none⟩) len cap] w fun e w' => e = .returned (.bool true) ∧ Below w.heap.size w w' := by
  unfold maxLen at hlen
  have HC := hide hc
  have HG := hide hg
  clear hc hg
  go_enter Tryd.func3, Tryd.ntmps3
  go_wp2
  go_loopw [3] (fun i wr => ∃ k : Nat, k ≤ len ∧ k ≤ 20 ∧ i = .int .i64 k ∧ Below w.heap.size w wr) (fun i _ => 20 - (intOf i).toNat)
  case atStart => exact ⟨0, Nat.zero_le _, by omega, rfl, Below.refl _ _⟩
  case round =>
    obtain ⟨k, hk, hk20, rfl, hbel⟩ := hrel
    by_cases hlt : k < len ∧ k < 20
    · obtain ⟨hlt, hlt20⟩ := hlt
      obtain ⟨hc0, hc1, hz0, hz1⟩ := (unhide HC) k hlt
      generalize hf0 : fs k = f at hc0 hz0
      generalize hs0 : ss k = s at hc1 hz1
      clear hf0 hs0
      have hcr := (hbel.cell (p := ⟨b, off + k * 2, none⟩) (cell_lt hc0)).trans hc0
      have hcs := (hbel.cell (p := ⟨b, off + k * 2 + 1, none⟩) (cell_lt hc1)).trans hc1
      have hbl : b < w.heap.size := cell_lt hc0
      have hsz := hbel.size
      have HBel := hide hbel
      have HCF := hide hc0
      have HCS := hide hc1
      clear hbel hc0 hc1
      have HV := hide (fun w => heavy6 f s w hz0 hz1)
      by_cases hh : 3000 < f.size + s.size
      · rw [decide_eq_true hh] at HV
        clear hh
        go_wp2_with (go_at_call 8; refine ((unhide HV) _).mono ?_; rintro e w2 ⟨rfl, hb2⟩)
        go_ret
        exact ⟨rfl, (unhide HBel).trans (hb2.mono hsz)⟩
      · rw [decide_eq_false hh] at HV
        go_wp2_with (go_at_call 8; refine ((unhide HV) _).mono ?_; rintro e w2 ⟨rfl, hb2⟩)
        have HB0 : Hid (Below w.heap.size w w2) := (unhide HBel).trans (hb2.mono hsz)
        have hfs : f.size ≤ 70000 := by omega
        have hss : s.size ≤ 70000 := by omega
        have HNF := hide (fun w => name_use f w hfs)
        have HNS := hide (fun w => name_use s w hss)
        have HRF := hide (fun w => rname_any f w hfs)
        have HRS := hide (fun w => rname_any s w hss)
        generalize isName f.data.toList = nf at HNF HRF
        generalize isName s.data.toList = ns at HNS HRS
        clear hb2 HBel hcr hcs hh hfs hss HV hsz hz0 hz1
        obtain ⟨wo, hwo⟩ : ∃ wo, wo = wr := ⟨wr, rfl⟩
        clear hwo
        go_loopw [4] (fun i wr => ∃ j : Nat, j ≤ 2 ∧ i = .int .i64 j ∧ Below w.heap.size w wr) (fun i _ => 2 - (intOf i).toNat)
        case atStart => exact ⟨0, by omega, rfl, unhide HB0⟩
        case round =>
          obtain ⟨j, hj, rfl, hbel⟩ := hrel
          clear HB0
          have hcr := (hbel.cell (p := ⟨b, off + k * 2, none⟩) (cell_lt (unhide HCF))).trans (unhide HCF)
          have hcs := (hbel.cell (p := ⟨b, off + k * 2 + 1, none⟩) (cell_lt (unhide HCS))).trans (unhide HCS)
          have hsz := hbel.size
          have HBel := hide hbel
          have HGr := hide ((unhide HG).below2 hbel)
          clear hbel
          obtain rfl | rfl | rfl : j = 0 ∨ j = 1 ∨ j = 2 := by omega
          · cases ns
            all_goals
              go_wp2_with (first
                | (go_at_call 9; refine ((unhide HRS) _).mono ?_; rintro e w3 ⟨rfl, hb3⟩)
                | (go_at_call 11; refine ((unhide HNS) _).mono ?_; rintro e w4 ⟨E, rfl, hE, hb4⟩)
                | (go_at_call 10; refine (num6 _ _ _ (((unhide HGr).up hb3).up hb4).1 (unhide hE)).mono ?_; rintro e w5 ⟨rfl, hb5⟩; dsimp only [nN, if_true, if_false]))
              exact ⟨⟨1, by omega, rfl, bnext (bnext (bnext (unhide HBel) hb3) hb4) hb5⟩, by simp [intOf]⟩
          · cases nf
            all_goals
              go_wp2_with (first
                | (go_at_call 9; refine ((unhide HRF) _).mono ?_; rintro e w3 ⟨rfl, hb3⟩)
                | (go_at_call 11; refine ((unhide HNF) _).mono ?_; rintro e w4 ⟨E, rfl, hE, hb4⟩)
                | (go_at_call 10; refine (num6 _ _ _ (((unhide HGr).up hb3).up hb4).1 (unhide hE)).mono ?_; rintro e w5 ⟨rfl, hb5⟩; dsimp only [nN, if_true, if_false]))
              exact ⟨⟨2, by omega, rfl, bnext (bnext (bnext (unhide HBel) hb3) hb4) hb5⟩, by simp [intOf]⟩
          · go_wp2
            exact ⟨⟨k + 1, by omega, by omega, by go_num, unhide HBel⟩, by simp [intOf]; omega⟩
    · have HGr := hide ((unhide HG).up hbel)
      by_cases h1 : k < len
      · obtain rfl : k = 20 := by omega
        go_wp2_with (go_at_call 12; refine (wakes6 _ (unhide HGr)).mono ?_; rintro e w2 ⟨rfl, hb2⟩)
        go_ret
        exact ⟨rfl, bnext hbel hb2⟩
      · obtain rfl : k = len := by omega
        go_wp2_with (go_at_call 12; refine (wakes6 _ (unhide HGr)).mono ?_; rintro e w2 ⟨rfl, hb2⟩)
        go_ret
        exact ⟨rfl, bnext hbel hb2⟩
theorem names_walk0 (ao : Option Addr) (cap : Nat) (w : World) (hg : Laid2 w) : Calls Tryd.prog 3 #[.slice ao 0 cap] w fun e w' => e = .returned (.bool true) ∧ Below w.heap.size w w' := by
  go_enter Tryd.func3, Tryd.ntmps3
  go_wp2
  go_loop [3] (fun i => i = .int .i64 0) (fun _ => 0)
  case atStart => rfl
  case round =>
    subst hrel
    go_wp2_with (go_at_call 12; refine (wakes6 _ hg).mono ?_; rintro e w2 ⟨rfl, hb2⟩)
    go_ret
    exact ⟨rfl, hb2⟩
end Go.Proofs.YtgnjpnhomkganaaDoor
