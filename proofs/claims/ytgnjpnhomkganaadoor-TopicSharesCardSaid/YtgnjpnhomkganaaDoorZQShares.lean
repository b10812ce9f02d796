/- Proved here: the statement TopicShares, called in any world whose listed variables are as laid, on any slice that reads, tells true and changes nothing that was there. -/
import Derived.Test.YtgnjpnhomkganaaDoorZQLawsP
namespace Go.Proofs.YtgnjpnhomkganaaDoor
open Go.RowKit

set_option maxRecDepth 100000 in
set_option maxHeartbeats 4000000 in
theorem shares_walk (b off len cap : Nat) (fs ss : Nat → ByteArray) (w : World) (hlen : len ≤ maxLen) (hg : Laid2 w) (hc : Twos w b off len fs ss) :
    Calls Tryd.prog 7 #[.slice (some ⟨b, off, none⟩) len cap] w fun e w' => e = .returned (.bool true) ∧ Below w.heap.size w w' := by
  unfold maxLen at hlen
  have HC := hide hc
  have HG := hide hg
  clear hc hg
  go_enter Tryd.func7, Tryd.ntmps7
  go_wp2
  go_loopw [3] (fun i wr => ∃ k : Nat, k ≤ len ∧ k ≤ 20 ∧ i = .int .i64 k ∧ Below w.heap.size w wr) (fun i _ => 20 - (intOf i).toNat)
  case atStart => exact ⟨0, Nat.zero_le _, by omega, rfl, Below.refl _ _⟩
  case round =>
    obtain ⟨k, hk, hk20, rfl, hbel⟩ := hrel
    by_cases hlt : k < len ∧ k < 20
    · obtain ⟨hlt, hlt20⟩ := hlt
      obtain ⟨hc0, hc1, hz0, hz1⟩ := (unhide HC) k hlt
      generalize hf0 : fs k = f at hc0 hz0
      generalize hs0 : ss k = s at hc1 hz1
      clear hf0 hs0
      have hcr := (hbel.cell (p := ⟨b, off + k * 2, none⟩) (cell_lt hc0)).trans hc0
      have hcs := (hbel.cell (p := ⟨b, off + k * 2 + 1, none⟩) (cell_lt hc1)).trans hc1
      have hbl : b < w.heap.size := cell_lt hc0
      have hsz := hbel.size
      have HBel := hide hbel
      have HCF := hide hc0
      have HCS := hide hc1
      clear hbel hc0 hc1
      have HV := hide (fun w => heavy6 f s w hz0 hz1)
      by_cases hh : 3000 < f.size + s.size
      · rw [decide_eq_true hh] at HV
        clear hh
        go_wp2_with (go_at_call 8; refine ((unhide HV) _).mono ?_; rintro e w2 ⟨rfl, hb2⟩)
        go_ret
        exact ⟨rfl, (unhide HBel).trans (hb2.mono hsz)⟩
      · rw [decide_eq_false hh] at HV
        have hfs : f.size ≤ 70000 := by omega
        have hss : s.size ≤ 70000 := by omega
        have hf3 : f.size ≤ 3000 := by omega
        have hs3 : s.size ≤ 3000 := by omega
        clear hh
        have HGr := hide ((unhide HG).up (unhide HBel))
        have HX : Hid (∀ W, Below wr.heap.size wr W → W.cell? ⟨b, off + k * 2, none⟩ = some (.string f) ∧ W.cell? ⟨b, off + k * 2 + 1, none⟩ = some (.string s)) := fun W hW =>
          ⟨(hW.cell (p := ⟨b, off + k * 2, none⟩) (cell_lt hcr)).trans hcr, (hW.cell (p := ⟨b, off + k * 2 + 1, none⟩) (cell_lt hcs)).trans hcs⟩
        cases hfl : flt f.data.toList with
        | none =>
          have HF := hide (fun w (hm : Len w) => filter_no f w hfs hm hfl)
          clear hfl
          go_wp2_with (first
            | (go_at_call 8; refine ((unhide HV) _).mono ?_; rintro e w2 ⟨rfl, hb2⟩; obtain ⟨hc2, hd2⟩ := (unhide HX) _ hb2)
            | (go_at_call 13; refine ((unhide HF) _ ((unhide HGr).up hb2).2).mono ?_; rintro e w3 ⟨x, rfl, hx, hb3⟩)
            | (go_at_call 10; refine (num6 _ 5 _ (((unhide HGr).up hb2).up hb3).1 (unhide hx)).mono ?_; rintro e w4 ⟨rfl, hb4⟩))
          exact ⟨⟨k + 1, by omega, by omega, by go_num, bnext (bnext (bnext (unhide HBel) hb2) hb3) hb4⟩, by simp [intOf]; omega⟩
        | some q =>
          obtain ⟨g, f'⟩ := q
          have HF := hide (fun w (hm : Len w) => filter_yes f g f' w hfs hm hfl)
          cases hge : (bt g).toList.isEmpty
          · clear hfl
            go_wp2_with (first
              | (go_at_call 8; refine ((unhide HV) _).mono ?_; rintro e w2 ⟨rfl, hb2⟩; obtain ⟨hc2, hd2⟩ := (unhide HX) _ hb2)
              | (go_at_call 13; refine ((unhide HF) _ ((unhide HGr).up hb2).2).mono ?_; rintro e w3 ⟨rfl, hb3⟩)
              | (go_at_call 10; refine (num6_nil _ (((unhide HGr).up hb2).up hb3).1).mono ?_; rintro e w4 ⟨rfl, hb4⟩))
            exact ⟨⟨k + 1, by omega, by omega, by go_num, bnext (bnext (bnext (unhide HBel) hb2) hb3) hb4⟩, by simp [intOf]; omega⟩
          · obtain rfl : g = [] := empty_of hge
            obtain rfl := flt_plain hfl
            rw [bt_of] at HF
            have hbe : bt [] = ByteArray.empty := rfl
            rw [hbe] at HF
            clear hbe hge
            have hll : f.data.toList.length ≤ 3000 := by rw [size_len]; exact hf3
            have HF1 := hide (fun w (hm : Len w) => filter_yes (⟨#[36, 115, 104, 97, 114, 101, 47, 103, 47]⟩ ++ f : ByteArray) [103] f.data.toList w (by rw [ByteArray.size_append]; show 9 + _ ≤ _; omega) hm (by rw [ByteArray.data_append, Array.toList_append]; exact share1 hfl hll))
            have HF2 := hide (fun w (hm : Len w) => filter_no (⟨#[36, 115, 104, 97, 114, 101, 47, 47]⟩ ++ f : ByteArray) w (by rw [ByteArray.size_append]; show 8 + _ ≤ _; omega) hm (by rw [ByteArray.data_append, Array.toList_append]; exact share2 _))
            have HF3 := hide (fun w (hm : Len w) => filter_no (⟨#[36, 115, 104, 97, 114, 101, 47, 103, 43, 47]⟩ ++ f : ByteArray) w (by rw [ByteArray.size_append]; show 10 + _ ≤ _; omega) hm (by rw [ByteArray.data_append, Array.toList_append]; exact share3 _))
            have HF4 := hide (fun w (hm : Len w) => filter_no (⟨#[36, 115, 104, 97, 114, 101, 47, 103, 47, 36, 115, 104, 97, 114, 101, 47, 103, 47]⟩ ++ f : ByteArray) w (by rw [ByteArray.size_append]; show 18 + _ ≤ _; omega) hm (by rw [ByteArray.data_append, Array.toList_append]; exact share4 _))
            rw [bt_of] at HF1
            have hbg : bt [103] = ⟨#[103]⟩ := rfl
            rw [hbg] at HF1
            clear hfl hll hbg
            go_wp2_with (first
              | (go_at_call 8; refine ((unhide HV) _).mono ?_; rintro e w2 ⟨rfl, hb2⟩; obtain ⟨hc2, hd2⟩ := (unhide HX) _ hb2)
              | (go_at_call 13; refine ((unhide HF) _ ((unhide HGr).up hb2).2).mono ?_; rintro e w3 ⟨rfl, hb3⟩; have hG3 := hide (((unhide HGr).up hb2).up hb3))
              | (go_at_call 10; refine (num6_nil _ (unhide hG3).1).mono ?_; rintro e w4 ⟨rfl, hb4⟩; have hG4 := hide ((unhide hG3).up hb4); have HB4 : Hid (Below wr.heap.size wr w4) := bnext (bnext hb2 hb3) hb4; obtain ⟨hc4, hd4⟩ := (unhide HX) _ (unhide HB4); clear hG3 hb2 hb3 hb4)
              | (go_at_call 13; refine ((unhide HF1) _ (unhide hG4).2).mono ?_; rintro e w5 ⟨rfl, hb5⟩; have hG5 := hide ((unhide hG4).up hb5); have HB5 : Hid (Below wr.heap.size wr w5) := bnext (unhide HB4) hb5; obtain ⟨hc5, hd5⟩ := (unhide HX) _ (unhide HB5); clear hG4 hb5 HB4 hc4 hd4)
              | (go_at_call 13; refine ((unhide HF2) _ (unhide hG5).2).mono ?_; rintro e w6 ⟨x6, rfl, hx6, hb6⟩; have hG6 := hide ((unhide hG5).up hb6); have HB6 : Hid (Below wr.heap.size wr w6) := bnext (unhide HB5) hb6; obtain ⟨hc6, hd6⟩ := (unhide HX) _ (unhide HB6); clear hG5 hb6 HB5 hc5 hd5)
              | (go_at_call 13; refine ((unhide HF3) _ (unhide hG6).2).mono ?_; rintro e w7 ⟨x7, rfl, hx7, hb7⟩; have hG7 := hide ((unhide hG6).up hb7); have hj7 := hide ((unhide hx6).below hb7); have HB7 : Hid (Below wr.heap.size wr w7) := bnext (unhide HB6) hb7; obtain ⟨hc7, hd7⟩ := (unhide HX) _ (unhide HB7); clear hG6 hb7 HB6 hc6 hd6)
              | (go_at_call 13; refine ((unhide HF4) _ (unhide hG7).2).mono ?_; rintro e w8 ⟨x8, rfl, hx8, hb8⟩; have hG8 := hide ((unhide hG7).up hb8); have hj8 := hide ((unhide hj7).below hb8); have hk8 := hide ((unhide hx7).below hb8); have HB8 : Hid (Below wr.heap.size wr w8) := bnext (unhide HB7) hb8; obtain ⟨hc8, hd8⟩ := (unhide HX) _ (unhide HB8); clear hG7 hb8 HB7 hc7 hd7)
              | (go_at_call 10; refine (num6 _ 5 _ (unhide hG8).1 (unhide hj8)).mono ?_; rintro e w9 ⟨rfl, hb9⟩; have hG9 := hide ((unhide hG8).up hb9); have hk9 := hide ((unhide hk8).below hb9); have hx9 := hide ((unhide hx8).below hb9); have HB9 : Hid (Below wr.heap.size wr w9) := bnext (unhide HB8) hb9; obtain ⟨hc9, hd9⟩ := (unhide HX) _ (unhide HB9); clear hG8 hb9 HB8 hc8 hd8)
              | (go_at_call 10; refine (num6 _ 5 _ (unhide hG9).1 (unhide hk9)).mono ?_; rintro e w10 ⟨rfl, hb10⟩; have hG10 := hide ((unhide hG9).up hb10); have hx10 := hide ((unhide hx9).below hb10); have HB10 : Hid (Below wr.heap.size wr w10) := bnext (unhide HB9) hb10; obtain ⟨hc10, hd10⟩ := (unhide HX) _ (unhide HB10); clear hG9 hb10 HB9 hc9 hd9)
              | (go_at_call 10; refine (num6 _ 5 _ (unhide hG10).1 (unhide hx10)).mono ?_; rintro e w11 ⟨rfl, hb11⟩; have hG11 := hide ((unhide hG10).up hb11); have HB11 : Hid (Below wr.heap.size wr w11) := bnext (unhide HB10) hb11; clear hG10 hb11 HB10 hc10 hd10)
              | (go_at_call 10; refine (num6_nil _ (unhide hG11).1).mono ?_; rintro e w12 ⟨rfl, hb12⟩; have hG12 := hide ((unhide hG11).up hb12); have HB12 : Hid (Below wr.heap.size wr w12) := bnext (unhide HB11) hb12; clear hG11 hb12 HB11)
              | (go_at_call 10; refine (num6_nil _ (unhide hG12).1).mono ?_; rintro e w13 ⟨rfl, hb13⟩))
            exact ⟨⟨k + 1, by omega, by omega, by go_num, bnext (bnext (unhide HBel) (unhide HB12)) hb13⟩, by simp [intOf]; omega⟩
    · have HGr := hide ((unhide HG).up hbel)
      by_cases h1 : k < len
      · obtain rfl : k = 20 := by omega
        go_wp2_with (go_at_call 12; refine (wakes6 _ (unhide HGr)).mono ?_; rintro e w2 ⟨rfl, hb2⟩)
        go_ret
        exact ⟨rfl, bnext hbel hb2⟩
      · obtain rfl : k = len := by omega
        go_wp2_with (go_at_call 12; refine (wakes6 _ (unhide HGr)).mono ?_; rintro e w2 ⟨rfl, hb2⟩)
        go_ret
        exact ⟨rfl, bnext hbel hb2⟩
theorem shares_walk0 (ao : Option Addr) (cap : Nat) (w : World) (hg : Laid2 w) : Calls Tryd.prog 7 #[.slice ao 0 cap] w fun e w' => e = .returned (.bool true) ∧ Below w.heap.size w w' := by
  go_enter Tryd.func7, Tryd.ntmps7
  go_wp2
  go_loop [3] (fun i => i = .int .i64 0) (fun _ => 0)
  case atStart => rfl
  case round =>
    subst hrel
    go_wp2_with (go_at_call 12; refine (wakes6 _ hg).mono ?_; rintro e w2 ⟨rfl, hb2⟩)
    go_ret
    exact ⟨rfl, hb2⟩
end Go.Proofs.YtgnjpnhomkganaaDoor
