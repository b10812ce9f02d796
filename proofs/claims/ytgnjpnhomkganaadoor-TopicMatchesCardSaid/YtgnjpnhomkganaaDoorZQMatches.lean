/- Proved here: the statement TopicMatches, called in any world whose listed variables are as laid, on any slice that reads, tells true and changes nothing that was there. -/
import Derived.Test.YtgnjpnhomkganaaDoorZQLaw0
import Derived.Deep.RegionHeld3
namespace Go.Proofs.YtgnjpnhomkganaaDoor
open Go.RowKit

set_option maxRecDepth 100000 in
set_option maxHeartbeats 4000000 in
theorem matchesL_walk (b off len cap : Nat) (fs ss : Nat → ByteArray) (w : World) (hlen : len ≤ maxLen) (hg : Laid2 w) (hc : Twos w b off len fs ss) :
    Calls Tryd.prog 5 #[.slice (some ⟨b, off, none⟩) len cap] w fun e w' => e = .returned (.bool true) ∧ Below w.heap.size w w' := by
  unfold maxLen at hlen
  have HC := hide hc
  have HG := hide hg
  clear hc hg
  go_enter Tryd.func5, Tryd.ntmps5
  go_wp2
  go_loopw [3] (fun i wr => ∃ k : Nat, k ≤ len ∧ k ≤ 20 ∧ i = .int .i64 k ∧ Below w.heap.size w wr) (fun i _ => 20 - (intOf i).toNat)
  case atStart => exact ⟨0, Nat.zero_le _, by omega, rfl, Below.refl _ _⟩
  case round =>
    obtain ⟨k, hk, hk20, rfl, hbel⟩ := hrel
    by_cases hlt : k < len ∧ k < 20
    · obtain ⟨hlt, hlt20⟩ := hlt
      obtain ⟨hc0, hc1, hz0, hz1⟩ := (unhide HC) k hlt
      generalize hf0 : fs k = f at hc0 hz0
      generalize hs0 : ss k = s at hc1 hz1
      clear hf0 hs0
      have hcr := (hbel.cell (p := ⟨b, off + k * 2, none⟩) (cell_lt hc0)).trans hc0
      have hcs := (hbel.cell (p := ⟨b, off + k * 2 + 1, none⟩) (cell_lt hc1)).trans hc1
      have hbl : b < w.heap.size := cell_lt hc0
      have hsz := hbel.size
      have HBel := hide hbel
      have HCF := hide hc0
      have HCS := hide hc1
      clear hbel hc0 hc1
      have HV := hide (fun w => heavy6 f s w hz0 hz1)
      by_cases hh : 3000 < f.size + s.size
      · rw [decide_eq_true hh] at HV
        clear hh
        go_wp2_with (go_at_call 8; refine ((unhide HV) _).mono ?_; rintro e w2 ⟨rfl, hb2⟩)
        go_ret
        exact ⟨rfl, (unhide HBel).trans (hb2.mono hsz)⟩
      · rw [decide_eq_false hh] at HV
        have hfs : f.size ≤ 70000 := by omega
        have hss : s.size ≤ 70000 := by omega
        have hf3 : f.size ≤ 3000 := by omega
        have hs3 : s.size ≤ 3000 := by omega
        clear hh
        have HGr := hide ((unhide HG).up (unhide HBel))
        have HX : Hid (∀ W, Below wr.heap.size wr W → W.cell? ⟨b, off + k * 2, none⟩ = some (.string f) ∧ W.cell? ⟨b, off + k * 2 + 1, none⟩ = some (.string s)) := fun W hW =>
          ⟨(hW.cell (p := ⟨b, off + k * 2, none⟩) (cell_lt hcr)).trans hcr, (hW.cell (p := ⟨b, off + k * 2 + 1, none⟩) (cell_lt hcs)).trans hcs⟩
        cases hfl : flt f.data.toList with
        | none =>
          have HMT := hide (fun w (hm : Len w) => match_no f s w hfs hss hm (by unfold mayM; rw [hfl]; rfl))
          have HR := hide (fun w => rfilter_no f w hfs hfl)
          clear hfl
          go_wp2_with (first
            | (go_at_call 8; refine ((unhide HV) _).mono ?_; rintro e w2 ⟨rfl, hb2⟩; obtain ⟨hc2, hd2⟩ := (unhide HX) _ hb2)
            | (go_at_call 14; refine ((unhide HR) _).mono ?_; rintro e w4 ⟨g4, f4, rfl, hb4⟩; obtain ⟨hcx, hdx⟩ := (unhide HX) _ (bnext hb2 hb4)))
          have HGx := hide (((unhide HGr).up hb2).up hb4)
          have HK : Hid (∀ W, Below w4.heap.size w4 W → W.cell? ⟨b, off + k * 2, none⟩ = some (.string f) ∧ W.cell? ⟨b, off + k * 2 + 1, none⟩ = some (.string s)) := fun W hW =>
            ⟨(hW.cell (p := ⟨b, off + k * 2, none⟩) (cell_lt hcx)).trans hcx, (hW.cell (p := ⟨b, off + k * 2 + 1, none⟩) (cell_lt hdx)).trans hdx⟩
          go_region_held3 (fun W => W.cell? ⟨b, off + k * 2, none⟩ = some (.string f) ∧ W.cell? ⟨b, off + k * 2 + 1, none⟩ = some (.string s))
            (first | exact (unhide HK) _ (below_drewN (Below.refl _ _) 1) | exact (unhide HK) _ (unhide HB6) | exact (unhide HK) _ (Below.refl _ _))
            (first | (go_at_call 15; refine ((unhide HMT) _ ((unhide HGx).up (below_drewN (Below.refl _ _) 1)).2).mono ?_; rintro e w6 ⟨x, rfl, hx, hb6⟩; have HB6 : Hid (Below w4.heap.size w4 w6) := (below_drewN (Below.refl _ _) 1).trans hb6) | fail)
          have hG6 := hide ((unhide HGx).up (unhide HB6))
          obtain ⟨hc6, hd6⟩ := (unhide HK) _ (unhide HB6)
          have HBW : Hid (Below w.heap.size w w6) := bnext (bnext (bnext (unhide HBel) hb2) hb4) (unhide HB6)
          clear hb6 HB6 HK hcx hdx
          have hE6 := hx
          go_wp2_with (first
            | (go_at_call 10; refine (num6 _ 5 _ (unhide hG6).1 (unhide hE6)).mono ?_; rintro e w7 ⟨rfl, hb7⟩; have hG7 := hide ((unhide hG6).up hb7); have hE7 := hide ((unhide hE6).below hb7); clear hG6 hE6)
            | (go_at_call 10; refine (num6 _ 5 _ (unhide hG7).1 (unhide hE7)).mono ?_; rintro e w8 ⟨rfl, hb8⟩))
          exact ⟨⟨k + 1, by omega, by omega, by go_num, bnext (bnext (unhide HBW) hb7) hb8⟩, by simp [intOf]; omega⟩
        | some q =>
          obtain ⟨g, f'⟩ := q
          have HR := hide (fun w => rfilter_yes f g f' w hfs hfl)
          cases hge : (bt g).toList.isEmpty
          · have HMT := hide (fun w (hm : Len w) => match_no f s w hfs hss hm (by unfold mayM; rw [hfl]; have := ne_of hge; simp only [bt_data] at this; simp [this]))
            clear hfl
            go_wp2_with (first
              | (go_at_call 8; refine ((unhide HV) _).mono ?_; rintro e w2 ⟨rfl, hb2⟩; obtain ⟨hc2, hd2⟩ := (unhide HX) _ hb2)
              | (go_at_call 14; refine ((unhide HR) _).mono ?_; rintro e w4 ⟨rfl, hb4⟩; obtain ⟨hcx, hdx⟩ := (unhide HX) _ (bnext hb2 hb4)))
            have HGx := hide (((unhide HGr).up hb2).up hb4)
            have HK : Hid (∀ W, Below w4.heap.size w4 W → W.cell? ⟨b, off + k * 2, none⟩ = some (.string f) ∧ W.cell? ⟨b, off + k * 2 + 1, none⟩ = some (.string s)) := fun W hW =>
              ⟨(hW.cell (p := ⟨b, off + k * 2, none⟩) (cell_lt hcx)).trans hcx, (hW.cell (p := ⟨b, off + k * 2 + 1, none⟩) (cell_lt hdx)).trans hdx⟩
            go_region_held3 (fun W => W.cell? ⟨b, off + k * 2, none⟩ = some (.string f) ∧ W.cell? ⟨b, off + k * 2 + 1, none⟩ = some (.string s))
              (first | exact (unhide HK) _ (below_drewN (Below.refl _ _) 1) | exact (unhide HK) _ (unhide HB6) | exact (unhide HK) _ (Below.refl _ _))
              (first | (go_at_call 15; refine ((unhide HMT) _ ((unhide HGx).up (below_drewN (Below.refl _ _) 1)).2).mono ?_; rintro e w6 ⟨x, rfl, hx, hb6⟩; have HB6 : Hid (Below w4.heap.size w4 w6) := (below_drewN (Below.refl _ _) 1).trans hb6) | fail)
            have hG6 := hide ((unhide HGx).up (unhide HB6))
            obtain ⟨hc6, hd6⟩ := (unhide HK) _ (unhide HB6)
            have HBW : Hid (Below w.heap.size w w6) := bnext (bnext (bnext (unhide HBel) hb2) hb4) (unhide HB6)
            clear hb6 HB6 HK hcx hdx
            have hE6 := hx
            go_wp2_with (first
              | (go_at_call 10; refine (num6 _ 5 _ (unhide hG6).1 (unhide hE6)).mono ?_; rintro e w7 ⟨rfl, hb7⟩; have hG7 := hide ((unhide hG6).up hb7); have hE7 := hide ((unhide hE6).below hb7); clear hG6 hE6)
              | (go_at_call 10; refine (num6 _ 5 _ (unhide hG7).1 (unhide hE7)).mono ?_; rintro e w8 ⟨rfl, hb8⟩))
            exact ⟨⟨k + 1, by omega, by omega, by go_num, bnext (bnext (unhide HBW) hb7) hb8⟩, by simp [intOf]; omega⟩
          · obtain rfl : g = [] := empty_of hge
            obtain rfl := flt_plain hfl
            rw [bt_of] at HR
            have hbe : bt [] = ByteArray.empty := rfl
            rw [hbe] at HR
            clear hbe hge
            have HRN := hide (fun w => rname_any s w hss)
            cases hn : isName s.data.toList
            · have HMT := hide (fun w (hm : Len w) => match_no f s w hfs hss hm (by unfold mayM; rw [hn]; simp))
              rw [hn] at HRN
              clear hfl hn
              go_wp2_with (first
                | (go_at_call 8; refine ((unhide HV) _).mono ?_; rintro e w2 ⟨rfl, hb2⟩; obtain ⟨hc2, hd2⟩ := (unhide HX) _ hb2)
                | (go_at_call 14; refine ((unhide HR) _).mono ?_; rintro e w4 ⟨rfl, hb4⟩; obtain ⟨hcx, hdx⟩ := (unhide HX) _ (bnext hb2 hb4))
                | (go_at_call 9; refine ((unhide HRN) _).mono ?_; rintro e w5 ⟨rfl, hb5⟩; have hcy := (hb5.cell (p := ⟨b, off + k * 2, none⟩) (cell_lt hcx)).trans hcx; have hdy := (hb5.cell (p := ⟨b, off + k * 2 + 1, none⟩) (cell_lt hdx)).trans hdx; clear hcx hdx; have hcx := hcy; have hdx := hdy; clear hcy hdy))
              have HGx := hide ((((unhide HGr).up hb2).up hb4).up hb5)
              have HK : Hid (∀ W, Below w5.heap.size w5 W → W.cell? ⟨b, off + k * 2, none⟩ = some (.string f) ∧ W.cell? ⟨b, off + k * 2 + 1, none⟩ = some (.string s)) := fun W hW =>
                ⟨(hW.cell (p := ⟨b, off + k * 2, none⟩) (cell_lt hcx)).trans hcx, (hW.cell (p := ⟨b, off + k * 2 + 1, none⟩) (cell_lt hdx)).trans hdx⟩
              go_region_held3 (fun W => W.cell? ⟨b, off + k * 2, none⟩ = some (.string f) ∧ W.cell? ⟨b, off + k * 2 + 1, none⟩ = some (.string s))
                (first | exact (unhide HK) _ (below_drewN (Below.refl _ _) 1) | exact (unhide HK) _ (unhide HB6) | exact (unhide HK) _ (Below.refl _ _))
                (first | (go_at_call 15; refine ((unhide HMT) _ ((unhide HGx).up (below_drewN (Below.refl _ _) 1)).2).mono ?_; rintro e w6 ⟨x, rfl, hx, hb6⟩; have HB6 : Hid (Below w5.heap.size w5 w6) := (below_drewN (Below.refl _ _) 1).trans hb6) | fail)
              have hG6 := hide ((unhide HGx).up (unhide HB6))
              obtain ⟨hc6, hd6⟩ := (unhide HK) _ (unhide HB6)
              have HBW : Hid (Below w.heap.size w w6) := bnext (bnext (bnext (bnext (unhide HBel) hb2) hb4) hb5) (unhide HB6)
              clear hb6 HB6 HK hcx hdx
              have hE6 := hx
              go_wp2_with (first
                | (go_at_call 10; refine (num6 _ 5 _ (unhide hG6).1 (unhide hE6)).mono ?_; rintro e w7 ⟨rfl, hb7⟩; have hG7 := hide ((unhide hG6).up hb7); have hE7 := hide ((unhide hE6).below hb7); clear hG6 hE6)
                | (go_at_call 10; refine (num6 _ 5 _ (unhide hG7).1 (unhide hE7)).mono ?_; rintro e w8 ⟨rfl, hb8⟩))
              exact ⟨⟨k + 1, by omega, by omega, by go_num, bnext (bnext (unhide HBW) hb7) hb8⟩, by simp [intOf]; omega⟩
            · have HMT := hide (fun w (hm : Len w) => match_yes f s w hfs hss hm (by unfold mayM; rw [hn, hfl]; simp))
              have h0 : 0 < s.size := by
                rcases Nat.eq_zero_or_pos s.size with h | h
                · rw [← size_len] at h
                  have := List.length_eq_zero_iff.1 h
                  rw [this] at hn
                  exact absurd hn (by decide)
                · exact h
              have HRM := hide (fun w => rmatch_any f s w hfs hss h0)
              rw [hn] at HRN
              clear hfl hn h0
              generalize mtc f.data.toList s.data.toList = mm at HMT HRM
              go_wp2_with (first
                | (go_at_call 8; refine ((unhide HV) _).mono ?_; rintro e w2 ⟨rfl, hb2⟩; obtain ⟨hc2, hd2⟩ := (unhide HX) _ hb2)
                | (go_at_call 14; refine ((unhide HR) _).mono ?_; rintro e w4 ⟨rfl, hb4⟩; obtain ⟨hcx, hdx⟩ := (unhide HX) _ (bnext hb2 hb4))
                | (go_at_call 9; refine ((unhide HRN) _).mono ?_; rintro e w5 ⟨rfl, hb5⟩; have hcy := (hb5.cell (p := ⟨b, off + k * 2, none⟩) (cell_lt hcx)).trans hcx; have hdy := (hb5.cell (p := ⟨b, off + k * 2 + 1, none⟩) (cell_lt hdx)).trans hdx; clear hcx hdx; have hcx := hcy; have hdx := hdy; clear hcy hdy))
              have HGx := hide ((((unhide HGr).up hb2).up hb4).up hb5)
              have HK : Hid (∀ W, Below w5.heap.size w5 W → W.cell? ⟨b, off + k * 2, none⟩ = some (.string f) ∧ W.cell? ⟨b, off + k * 2 + 1, none⟩ = some (.string s)) := fun W hW =>
                ⟨(hW.cell (p := ⟨b, off + k * 2, none⟩) (cell_lt hcx)).trans hcx, (hW.cell (p := ⟨b, off + k * 2 + 1, none⟩) (cell_lt hdx)).trans hdx⟩
              go_region_held3 (fun W => W.cell? ⟨b, off + k * 2, none⟩ = some (.string f) ∧ W.cell? ⟨b, off + k * 2 + 1, none⟩ = some (.string s))
                (first | exact (unhide HK) _ (below_drewN (Below.refl _ _) 1) | exact (unhide HK) _ (unhide HB6) | exact (unhide HK) _ (Below.refl _ _))
                (first | (go_at_call 15; refine ((unhide HMT) _ ((unhide HGx).up (below_drewN (Below.refl _ _) 1)).2).mono ?_; rintro e w6 ⟨rfl, hb6⟩; have HB6 : Hid (Below w5.heap.size w5 w6) := (below_drewN (Below.refl _ _) 1).trans hb6) | fail)
              have hG6 := hide ((unhide HGx).up (unhide HB6))
              obtain ⟨hc6, hd6⟩ := (unhide HK) _ (unhide HB6)
              have HBW : Hid (Below w.heap.size w w6) := bnext (bnext (bnext (bnext (unhide HBel) hb2) hb4) hb5) (unhide HB6)
              clear hb6 HB6 HK hcx hdx
              go_wp2_with (first
                | (go_at_call 10; refine (num6_nil _ (unhide hG6).1).mono ?_; rintro e w7 ⟨rfl, hb7⟩; have hd7 := (hb7.cell (p := ⟨b, off + k * 2 + 1, none⟩) (cell_lt hd6)).trans hd6; clear hG6)
                | (go_at_call 16; refine ((unhide HRM) _).mono ?_; rintro e w8 ⟨rfl, hb8⟩))
              exact ⟨⟨k + 1, by omega, by omega, by go_num, bnext (bnext (unhide HBW) hb7) hb8⟩, by simp [intOf]; omega⟩
    · have HGr := hide ((unhide HG).up hbel)
      by_cases h1 : k < len
      · obtain rfl : k = 20 := by omega
        go_wp2_with (go_at_call 12; refine (wakes6 _ (unhide HGr)).mono ?_; rintro e w2 ⟨rfl, hb2⟩)
        go_ret
        exact ⟨rfl, bnext hbel hb2⟩
      · obtain rfl : k = len := by omega
        go_wp2_with (go_at_call 12; refine (wakes6 _ (unhide HGr)).mono ?_; rintro e w2 ⟨rfl, hb2⟩)
        go_ret
        exact ⟨rfl, bnext hbel hb2⟩
theorem matchesL_walk0 (ao : Option Addr) (cap : Nat) (w : World) (hg : Laid2 w) : Calls Tryd.prog 5 #[.slice ao 0 cap] w fun e w' => e = .returned (.bool true) ∧ Below w.heap.size w w' := by
  go_enter Tryd.func5, Tryd.ntmps5
  go_wp2
  go_loop [3] (fun i => i = .int .i64 0) (fun _ => 0)
  case atStart => rfl
  case round =>
    subst hrel
    go_wp2_with (go_at_call 12; refine (wakes6 _ hg).mono ?_; rintro e w2 ⟨rfl, hb2⟩)
    go_ret
    exact ⟨rfl, hb2⟩
end Go.Proofs.YtgnjpnhomkganaaDoor
