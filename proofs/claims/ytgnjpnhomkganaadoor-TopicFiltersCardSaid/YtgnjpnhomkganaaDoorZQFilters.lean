/- Proved here: the statement TopicFilters, called in any world whose listed variables are as laid, on any slice that reads, tells true and changes nothing that was there. -/
import Derived.Test.YtgnjpnhomkganaaDoorZQLaw0
namespace Go.Proofs.YtgnjpnhomkganaaDoor
open Go.RowKit

set_option maxRecDepth 100000 in
set_option maxHeartbeats 4000000 in
theorem filters_walk (b off len cap : Nat) (fs ss : Nat → ByteArray) (w : World) (hlen : len ≤ maxLen) (hg : Laid2 w) (hc : Twos w b off len fs ss) :
    Calls Tryd.prog 4 #[.slice (some ⟨b, off, none⟩) len cap] w fun e w' => e = .returned (.bool true) ∧ Below w.heap.size w w' := by
  unfold maxLen at hlen
  have HC := hide hc
  have HG := hide hg
  clear hc hg
  go_enter Tryd.func4, Tryd.ntmps4
  go_wp2
  go_loopw [3] (fun i wr => ∃ k : Nat, k ≤ len ∧ k ≤ 20 ∧ i = .int .i64 k ∧ Below w.heap.size w wr) (fun i _ => 20 - (intOf i).toNat)
  case atStart => exact ⟨0, Nat.zero_le _, by omega, rfl, Below.refl _ _⟩
  case round =>
    obtain ⟨k, hk, hk20, rfl, hbel⟩ := hrel
    by_cases hlt : k < len ∧ k < 20
    · obtain ⟨hlt, hlt20⟩ := hlt
      obtain ⟨hc0, hc1, hz0, hz1⟩ := (unhide HC) k hlt
      generalize hf0 : fs k = f at hc0 hz0
      generalize hs0 : ss k = s at hc1 hz1
      clear hf0 hs0
      have hcr := (hbel.cell (p := ⟨b, off + k * 2, none⟩) (cell_lt hc0)).trans hc0
      have hcs := (hbel.cell (p := ⟨b, off + k * 2 + 1, none⟩) (cell_lt hc1)).trans hc1
      have hbl : b < w.heap.size := cell_lt hc0
      have hsz := hbel.size
      have HBel := hide hbel
      have HCF := hide hc0
      have HCS := hide hc1
      clear hbel hc0 hc1
      have HV := hide (fun w => heavy6 f s w hz0 hz1)
      by_cases hh : 3000 < f.size + s.size
      · rw [decide_eq_true hh] at HV
        clear hh
        go_wp2_with (go_at_call 8; refine ((unhide HV) _).mono ?_; rintro e w2 ⟨rfl, hb2⟩)
        go_ret
        exact ⟨rfl, (unhide HBel).trans (hb2.mono hsz)⟩
      · rw [decide_eq_false hh] at HV
        have hfs : f.size ≤ 70000 := by omega
        have hss : s.size ≤ 70000 := by omega
        have hf3 : f.size ≤ 3000 := by omega
        have hs3 : s.size ≤ 3000 := by omega
        clear hh
        have HGr := hide ((unhide HG).up (unhide HBel))
        have HX : Hid (∀ W, Below wr.heap.size wr W → W.cell? ⟨b, off + k * 2, none⟩ = some (.string f) ∧ W.cell? ⟨b, off + k * 2 + 1, none⟩ = some (.string s)) := fun W hW =>
          ⟨(hW.cell (p := ⟨b, off + k * 2, none⟩) (cell_lt hcr)).trans hcr, (hW.cell (p := ⟨b, off + k * 2 + 1, none⟩) (cell_lt hcs)).trans hcs⟩
        have hm := (unhide HGr).2
        cases hfl : flt f.data.toList with
        | none =>
          have HF := hide (fun w (hm : Len w) => filter_no f w hfs hm hfl)
          have HR := hide (fun w => rfilter_no f w hfs hfl)
          clear hfl hm
          go_wp2_with (first
            | (go_at_call 8; refine ((unhide HV) _).mono ?_; rintro e w2 ⟨rfl, hb2⟩; obtain ⟨hc2, hd2⟩ := (unhide HX) _ hb2)
            | (go_at_call 13; refine ((unhide HF) _ ((unhide HGr).up hb2).2).mono ?_; rintro e w3 ⟨x, rfl, hx, hb3⟩; obtain ⟨hc3, hd3⟩ := (unhide HX) _ (bnext hb2 hb3); have HE3 := hx)
            | (go_at_call 14; refine ((unhide HR) _).mono ?_; rintro e w4 ⟨g4, f4, rfl, hb4⟩; have hG4 := hide ((((unhide HGr).up hb2).up hb3).up hb4); have hE4 := hide ((unhide HE3).below hb4))
            | (go_at_call 10; refine (num6 _ 5 _ (unhide hG4).1 (unhide hE4)).mono ?_; rintro e w5 ⟨rfl, hb5⟩; have hG5 := hide ((unhide hG4).up hb5); have hE5 := hide ((unhide hE4).below hb5); clear hG4 hE4)
            | (go_at_call 10; refine (num6 _ 5 _ (unhide hG5).1 (unhide hE5)).mono ?_; rintro e w6 ⟨rfl, hb6⟩))
          exact ⟨⟨k + 1, by omega, by omega, by go_num, bnext (bnext (bnext (bnext (bnext (unhide HBel) hb2) hb3) hb4) hb5) hb6⟩, by simp [intOf]; omega⟩
        | some q =>
          obtain ⟨g, f'⟩ := q
          have HF := hide (fun w (hm : Len w) => filter_yes f g f' w hfs hm hfl)
          have HR := hide (fun w => rfilter_yes f g f' w hfs hfl)
          clear hfl hm
          go_wp2_with (first
            | (go_at_call 8; refine ((unhide HV) _).mono ?_; rintro e w2 ⟨rfl, hb2⟩; obtain ⟨hc2, hd2⟩ := (unhide HX) _ hb2)
            | (go_at_call 13; refine ((unhide HF) _ ((unhide HGr).up hb2).2).mono ?_; rintro e w3 ⟨rfl, hb3⟩; obtain ⟨hc3, hd3⟩ := (unhide HX) _ (bnext hb2 hb3))
            | (go_at_call 14; refine ((unhide HR) _).mono ?_; rintro e w4 ⟨rfl, hb4⟩; have hG4 := hide ((((unhide HGr).up hb2).up hb3).up hb4))
            | (go_at_call 10; refine (num6_nil _ (unhide hG4).1).mono ?_; rintro e w5 ⟨rfl, hb5⟩))
          exact ⟨⟨k + 1, by omega, by omega, by go_num, bnext (bnext (bnext (bnext (unhide HBel) hb2) hb3) hb4) hb5⟩, by simp [intOf]; omega⟩
    · have HGr := hide ((unhide HG).up hbel)
      by_cases h1 : k < len
      · obtain rfl : k = 20 := by omega
        go_wp2_with (go_at_call 12; refine (wakes6 _ (unhide HGr)).mono ?_; rintro e w2 ⟨rfl, hb2⟩)
        go_ret
        exact ⟨rfl, bnext hbel hb2⟩
      · obtain rfl : k = len := by omega
        go_wp2_with (go_at_call 12; refine (wakes6 _ (unhide HGr)).mono ?_; rintro e w2 ⟨rfl, hb2⟩)
        go_ret
        exact ⟨rfl, bnext hbel hb2⟩
theorem filters_walk0 (ao : Option Addr) (cap : Nat) (w : World) (hg : Laid2 w) : Calls Tryd.prog 4 #[.slice ao 0 cap] w fun e w' => e = .returned (.bool true) ∧ Below w.heap.size w w' := by
  go_enter Tryd.func4, Tryd.ntmps4
  go_wp2
  go_loop [3] (fun i => i = .int .i64 0) (fun _ => 0)
  case atStart => rfl
  case round =>
    subst hrel
    go_wp2_with (go_at_call 12; refine (wakes6 _ hg).mono ?_; rintro e w2 ⟨rfl, hb2⟩)
    go_ret
    exact ⟨rfl, hb2⟩
end Go.Proofs.YtgnjpnhomkganaaDoor
