/- Proved here: the statement TopicLaws, called in any world whose listed variables are as laid, on any slice that reads, tells true and changes nothing that was there. -/
import Derived.Test.YtgnjpnhomkganaaDoorZQLawsP
namespace Go.Proofs.YtgnjpnhomkganaaDoor
open Go.RowKit

set_option maxRecDepth 100000 in
set_option maxHeartbeats 16000000 in
theorem laws_walk (b off len cap : Nat) (fs ss : Nat → ByteArray) (w : World) (hlen : len ≤ maxLen) (hg : Laid2 w) (hc : Twos w b off len fs ss) :
    Calls Tryd.prog 6 #[.slice (some ⟨b, off, none⟩) len cap] w fun e w' => e = .returned (.bool true) ∧ Below w.heap.size w w' := by
  unfold maxLen at hlen
  have HC := hide hc
  have HG := hide hg
  clear hc hg
  go_enter Tryd.func6, Tryd.ntmps6
  go_wp2
  go_loopw [3] (fun i wr => ∃ k : Nat, k ≤ len ∧ k ≤ 20 ∧ i = .int .i64 k ∧ Below w.heap.size w wr) (fun i _ => 20 - (intOf i).toNat)
  case atStart => exact ⟨0, Nat.zero_le _, by omega, rfl, Below.refl _ _⟩
  case round =>
    obtain ⟨k, hk, hk20, rfl, hbel⟩ := hrel
    by_cases hlt : k < len ∧ k < 20
    · obtain ⟨hlt, hlt20⟩ := hlt
      obtain ⟨hc0, hc1, hz0, hz1⟩ := (unhide HC) k hlt
      generalize hf0 : fs k = f at hc0 hz0
      generalize hs0 : ss k = s at hc1 hz1
      clear hf0 hs0
      have hcr := (hbel.cell (p := ⟨b, off + k * 2, none⟩) (cell_lt hc0)).trans hc0
      have hcs := (hbel.cell (p := ⟨b, off + k * 2 + 1, none⟩) (cell_lt hc1)).trans hc1
      have hbl : b < w.heap.size := cell_lt hc0
      have hsz := hbel.size
      have HBel := hide hbel
      have HCF := hide hc0
      have HCS := hide hc1
      clear hbel hc0 hc1
      have HV := hide (fun w => heavy6 f s w hz0 hz1)
      by_cases hh : 3000 < f.size + s.size
      · rw [decide_eq_true hh] at HV
        clear hh
        go_wp2_with (go_at_call 8; refine ((unhide HV) _).mono ?_; rintro e w2 ⟨rfl, hb2⟩)
        exact ⟨⟨k + 1, by omega, by omega, by go_num, (unhide HBel).trans (hb2.mono hsz)⟩, by simp [intOf]; omega⟩
      · rw [decide_eq_false hh] at HV
        have hfs : f.size ≤ 70000 := by omega
        have hss : s.size ≤ 70000 := by omega
        have hf3 : f.size ≤ 3000 := by omega
        have hs3 : s.size ≤ 3000 := by omega
        clear hh
        have HGr := hide ((unhide HG).up (unhide HBel))
        have HX : Hid (∀ W, Below wr.heap.size wr W → W.cell? ⟨b, off + k * 2, none⟩ = some (.string f) ∧ W.cell? ⟨b, off + k * 2 + 1, none⟩ = some (.string s)) := fun W hW =>
          ⟨(hW.cell (p := ⟨b, off + k * 2, none⟩) (cell_lt hcr)).trans hcr, (hW.cell (p := ⟨b, off + k * 2 + 1, none⟩) (cell_lt hcs)).trans hcs⟩
        have HNU := hide (fun w => name_use s w hss)
        cases hn : isName s.data.toList
        · have HN := hide (fun w => name_no s w hss hn)
          clear HNU hn
          go_wp2_with (first
            | (go_at_call 8; refine ((unhide HV) _).mono ?_; rintro e w2 ⟨rfl, hb2⟩)
            | (go_at_call 11; refine ((unhide HN) _).mono ?_; rintro e w3 ⟨x3, rfl, hx3, hb3⟩; have hG3 := hide (((unhide HGr).up hb2).up hb3))
            | (go_at_call 10; refine (num6 _ 5 _ (unhide hG3).1 (unhide hx3)).mono ?_; rintro e w4 ⟨rfl, hb4⟩))
          exact ⟨⟨k + 1, by omega, by omega, by go_num, bnext (bnext (bnext (unhide HBel) hb2) hb3) hb4⟩, by simp [intOf]; omega⟩
        · have HN := hide (fun w => name_yes s w hss hn)
          clear HNU
          cases hp : shr.isPrefixOf s.data.toList
          · have hl3 : s.data.toList.length ≤ 3000 := by rw [size_len]; exact hs3
            obtain ⟨hnf1, hnf2, hnf3, hnf4⟩ := name_facts hn
            have h0 : 0 < s.size := by
              rcases Nat.eq_zero_or_pos s.size with h | h
              · rw [← size_len] at h; exact absurd (List.length_eq_zero_iff.1 h) hnf2
              · exact h
            have HF := hide (fun w (hm : Len w) => filter_yes s [] s.data.toList w hss hm (flt_name hn hp))
            have HM1 := hide (fun w (hm : Len w) => match_yes s s w hss hss hm (may_self hn hp))
            have HM2 := hide (fun w (hm : Len w) => match_yes ⟨#[35]⟩ s w (by decide) hss hm (may_all hn))
            have HM3 := hide (fun w (hm : Len w) => match_use (s ++ ⟨#[47, 35]⟩) s w (by rw [ByteArray.size_append]; show _ + 2 ≤ _; omega) hss hm)
            have HM4 := hide (fun w (hm : Len w) => match_use (s ++ ⟨#[47, 35]⟩) (s ++ ⟨#[47, 120, 47, 121]⟩) w (by rw [ByteArray.size_append]; show _ + 2 ≤ _; omega) (by rw [ByteArray.size_append]; show _ + 4 ≤ _; omega) hm)
            obtain ⟨n, hn1, hn2, hn3⟩ := slash_at s.data.toList
            rw [size_len] at hn1
            have hpf := plus_facts (n := n) hn hl3 (by
              rcases hn3 with ⟨h1, h2⟩ | ⟨bb, h1, h2, h3, h4⟩
              · exact .inl ⟨h1, by rcases first_slash s.data.toList with ⟨h5, _⟩ | ⟨a, b, h5, _, h7⟩; exact h5; rw [h2] at h7; omega⟩
              · exact .inr ⟨_, bb, h1, fun hm => by
                  obtain ⟨j, hj, e⟩ := List.getElem_of_mem hm
                  have hj2 : j < n := by omega
                  exact hn2 j (by have := size_len s; omega) hj2 (by rw [← e, List.getElem_take]), h2.symm⟩)
            have hdat : ((⟨#[43]⟩ : ByteArray) ++ s.extract n s.size).data.toList = 43 :: s.data.toList.drop n := by
              rw [ByteArray.data_append, Array.toList_append, Lib.extract_to_end]; rfl
            have HM5 := hide (fun w (hm : Len w) => match_yes (⟨#[43]⟩ ++ s.extract n s.size) s w (by rw [ByteArray.size_append, ByteArray.size_extract]; show 1 + _ ≤ _; omega) hss hm (by rw [hdat]; exact hpf.1))
            have hd0 : decide (s.data.toList.getD 0 0 = 36) = (((s[0]'h0).toNat : Int) == 36) := by
              have e0 : s.data.toList.getD 0 0 = s[0]'h0 := by
                rw [List.getD_eq_getElem?_getD, Lib.data_getElem? s 0 h0]; rfl
              rw [e0, Bool.eq_iff_iff, decide_eq_true_eq, beq_iff_eq, ← UInt8.toNat_inj]; simp; omega
            have hbn : (!(((s[0]'h0).toNat : Int) == 36)) = (((s[0]'h0).toNat : Int) != 36) := rfl
            rw [hdat, hpf.2, hd0, hbn] at HM5
            rw [match_self hn] at HM1
            rw [show (⟨#[35]⟩ : ByteArray).data.toList = [35] from rfl, match_all hnf2, hd0, hbn] at HM2
            have e1 : (s ++ ⟨#[47, 35]⟩ : ByteArray).data.toList = s.data.toList ++ [47, 35] := by rw [ByteArray.data_append, Array.toList_append]
            have e2 : (s ++ ⟨#[47, 120, 47, 121]⟩ : ByteArray).data.toList = s.data.toList ++ [47, 120, 47, 121] := by rw [ByteArray.data_append, Array.toList_append]
            rw [e1, match_rest1 hnf4, Bool.and_true] at HM3
            rw [e1, e2, match_rest2 hnf4, Bool.and_true] at HM4
            generalize mayM (s.data.toList ++ [47, 35]) s.data.toList = mh at HM3
            generalize mayM (s.data.toList ++ [47, 35]) (s.data.toList ++ [47, 120, 47, 121]) = mj at HM4
            have hsl : n = s.size ∨ ∃ h : n < s.size, ((s[n].toNat : Int) == 47) = true := by
              rcases hn3 with ⟨h1, _⟩ | ⟨bb, h1, h2, _, _⟩
              · exact .inl (by rw [h1, size_len])
              · have hlt : n < s.size := by
                  have := congrArg List.length h1
                  rw [size_len, List.length_append, h2] at this
                  simp at this
                  omega
                refine .inr ⟨hlt, ?_⟩
                have h5 : s.data.toList[n]? = some 47 := by
                  rw [h1, List.getElem?_append_right (by omega), h2, Nat.sub_self]; rfl
                rw [Lib.data_getElem? s n hlt] at h5
                rw [Option.some.inj h5]; rfl
            have HNO : Hid (∀ j (h : j < s.size), j < n → s[j] ≠ 47) := fun j hj hjn e => hn2 j (by rw [size_len]; exact hj) hjn (by rw [← e]; simp; rfl)
            have hbe : bt [] = ByteArray.empty := rfl
            rw [hbe, bt_of] at HF
            have hsh : (s.size < 7) ∨ (7 ≤ s.size ∧ ((s.extract 0 7).toList == [36, 115, 104, 97, 114, 101, 47]) = false) := by
              rcases Nat.lt_or_ge s.size 7 with h7 | h7
              · exact .inl h7
              · refine .inr ⟨h7, ?_⟩
                rw [shr_take] at hp
                rw [Lib.toList_data, Lib.extract_from_zero]
                exact beq_eq_false_iff_ne.2 (of_decide_eq_false hp)
            clear hbe e1 e2 hdat hpf hn3 hn2 hn hp hnf1 hnf2 hnf3 hnf4 hl3 hd0 hbn
            have HSL := hide hsl
            clear hsl
            have hmm : mh = false ∨ (mh = true ∧ mj = false) ∨ (mh = true ∧ mj = true) := by cases mh <;> cases mj <;> simp
            rcases hmm with rfl | ⟨rfl, rfl⟩ | ⟨rfl, rfl⟩ <;> rcases hsh with h7 | ⟨h7, hx7⟩
            all_goals
              go_wp2_with (first
                | (go_at_call 8; refine ((unhide HV) _).mono ?_; rintro e w2 ⟨rfl, hb2⟩)
                | (go_at_call 11; refine ((unhide HN) _).mono ?_; rintro e w3 ⟨rfl, hb3⟩; have hG3 := hide (((unhide HGr).up hb2).up hb3))
                | (go_at_call 10; refine (num6_nil _ (unhide hG3).1).mono ?_; rintro e w4 ⟨rfl, hb4⟩; have hG4 := hide ((unhide hG3).up hb4); have HB4 : Hid (Below wr.heap.size wr w4) := bnext (bnext hb2 hb3) hb4; clear hG3 hb2 hb3 hb4)
                | (go_at_call 13; refine ((unhide HF) _ (unhide hG4).2).mono ?_; rintro e w5 ⟨rfl, hb5⟩; have hG5 := hide ((unhide hG4).up hb5); have HB5 : Hid (Below wr.heap.size wr w5) := bnext (unhide HB4) hb5; clear hG4 hb5 HB4)
                | (go_at_call 10; refine (num6_nil _ (unhide hG5).1).mono ?_; rintro e w6 ⟨rfl, hb6⟩; have hG6 := hide ((unhide hG5).up hb6); have HB6 : Hid (Below wr.heap.size wr w6) := bnext (unhide HB5) hb6; clear hG5 hb6 HB5)
                | (go_at_call 15; refine ((unhide HM1) _ (unhide hG6).2).mono ?_; rintro e w7 ⟨rfl, hb7⟩; have hG7 := hide ((unhide hG6).up hb7); have HB7 : Hid (Below wr.heap.size wr w7) := bnext (unhide HB6) hb7; clear hG6 hb7 HB6)
                | (go_at_call 15; refine ((unhide HM2) _ (unhide hG7).2).mono ?_; rintro e w8 ⟨rfl, hb8⟩; have hG8 := hide ((unhide hG7).up hb8); have HB8 : Hid (Below wr.heap.size wr w8) := bnext (unhide HB7) hb8; clear hG7 hb8 HB7)
                | (go_at_call 10; refine (num6_nil _ (unhide hG8).1).mono ?_; rintro e w9 ⟨rfl, hb9⟩; have hG9 := hide ((unhide hG8).up hb9); have HB9 : Hid (Below wr.heap.size wr w9) := bnext (unhide HB8) hb9; clear hG8 hb9 HB8)
                | (go_at_call 10; refine (num6_nil _ (unhide hG9).1).mono ?_; rintro e w10 ⟨rfl, hb10⟩; have hG10 := hide ((unhide hG9).up hb10); have HB10 : Hid (Below wr.heap.size wr w10) := bnext (unhide HB9) hb10; clear hG9 hb10 HB9)
                | (go_at_call 15; refine ((unhide HM3) _ (unhide hG10).2).mono ?_; rintro e w11 ⟨E11, rfl, hE11, hb11⟩; have hG11 := hide ((unhide hG10).up hb11); have HB11 : Hid (Below wr.heap.size wr w11) := bnext (unhide HB10) hb11; clear hG10 hb11 HB10)
                | (go_at_call 15; refine ((unhide HM4) _ (unhide hG11).2).mono ?_; rintro e w12 ⟨E12, rfl, hE12, hb12⟩; have hG12 := hide ((unhide hG11).up hb12); have HB12 : Hid (Below wr.heap.size wr w12) := bnext (unhide HB11) hb12; have hH12 := hide ((unhide hE11).below hb12); clear hG11 hb12 HB11)
                | (go_at_call 10; refine (num6 _ _ _ (unhide hG12).1 (unhide hH12)).mono ?_; rintro e w13 ⟨rfl, hb13⟩; have hG13 := hide ((unhide hG12).up hb13); have HB13 : Hid (Below wr.heap.size wr w13) := bnext (unhide HB12) hb13; have hJ13 := hide ((unhide hE12).below hb13); clear hG12 hb13 HB12; (try simp only [nN, if_true, Bool.false_eq_true, if_false]))
                | (go_at_call 10; refine (num6 _ _ _ (unhide hG13).1 (unhide hJ13)).mono ?_; rintro e w14 ⟨rfl, hb14⟩; have hG14 := hide ((unhide hG13).up hb14); have HB14 : Hid (Below wr.heap.size wr w14) := bnext (unhide HB13) hb14; clear hG13 hb14 HB13; (try simp only [nN, if_true, Bool.false_eq_true, if_false])))
              go_loop [16] (fun i => ∃ j : Nat, j ≤ n ∧ i = .int .i64 j) (fun i => n - (intOf i).toNat)
              case atStart => exact ⟨0, Nat.zero_le _, rfl⟩
              case round =>
                obtain ⟨j, hj, rfl⟩ := hrel
                by_cases hjn : j < n
                · have hjs : j < s.size := by omega
                  have hne : ((s[j].toNat : Int) == 47) = false := by
                    rw [beq_eq_false_iff_ne]
                    intro e
                    exact (unhide HNO) j hjs hjn (by rw [← UInt8.toNat_inj]; simp; omega)
                  go_wp2
                  go_round
                  case rel => exact ⟨j + 1, by omega, by go_num⟩
                  case measure => simp [intOf] <;> omega
                · obtain rfl : j = n := by omega
                  have hsl2 : s.size ≤ j ∨ ∃ h : j < s.size, ((s[j].toNat : Int) == 47) = true := by
                    rcases unhide HSL with h | h
                    · exact .inl (by omega)
                    · exact .inr h
                  rcases hsl2 with hje | ⟨hjl, hj47⟩
                  all_goals
                    go_wp2_with (first
                      | (go_at_call 15; refine ((unhide HM5) _ (unhide hG13).2).mono ?_; rintro e w15 ⟨rfl, hb15⟩; have hG15 := hide ((unhide hG13).up hb15); have HB15 : Hid (Below wr.heap.size wr w15) := bnext (unhide HB13) hb15)
                      | (go_at_call 15; refine ((unhide HM5) _ (unhide hG14).2).mono ?_; rintro e w15 ⟨rfl, hb15⟩; have hG15 := hide ((unhide hG14).up hb15); have HB15 : Hid (Below wr.heap.size wr w15) := bnext (unhide HB14) hb15)
                      | (go_at_call 10; refine (num6_nil _ (unhide hG15).1).mono ?_; rintro e w16 ⟨rfl, hb16⟩))
                    exact ⟨⟨k + 1, by omega, by omega, by go_num, bnext (bnext (unhide HBel) (unhide HB15)) hb16⟩, by simp [intOf]; omega⟩
          · have h7 : 7 ≤ s.size := by
              rcases Nat.lt_or_ge s.size 7 with h1 | h1
              · rw [shr_short _ (by rw [size_len]; exact h1)] at hp; cases hp
              · exact h1
            have hx7 : ((s.extract 0 7).toList == [36, 115, 104, 97, 114, 101, 47]) = true := by
              rw [shr_take] at hp
              rw [Lib.toList_data, Lib.extract_from_zero]
              exact beq_iff_eq.2 (of_decide_eq_true hp)
            clear hp hn
            cases hfl : flt s.data.toList with
            | none =>
              have HF := hide (fun w (hm : Len w) => filter_no s w hss hm hfl)
              clear hfl
              go_wp2_with (first
                | (go_at_call 8; refine ((unhide HV) _).mono ?_; rintro e w2 ⟨rfl, hb2⟩)
                | (go_at_call 11; refine ((unhide HN) _).mono ?_; rintro e w3 ⟨rfl, hb3⟩; have hG3 := hide (((unhide HGr).up hb2).up hb3))
                | (go_at_call 10; refine (num6_nil _ (unhide hG3).1).mono ?_; rintro e w4 ⟨rfl, hb4⟩; have hG4 := hide ((unhide hG3).up hb4); have HB4 : Hid (Below wr.heap.size wr w4) := bnext (bnext hb2 hb3) hb4; clear hG3 hb2 hb3 hb4)
                | (go_at_call 13; refine ((unhide HF) _ (unhide hG4).2).mono ?_; rintro e w5 ⟨x5, rfl, hx5, hb5⟩; have hG5 := hide ((unhide hG4).up hb5); have HB5 : Hid (Below wr.heap.size wr w5) := bnext (unhide HB4) hb5; clear hG4 hb5 HB4)
                | (go_at_call 10; refine (num6 _ 5 _ (unhide hG5).1 (unhide hx5)).mono ?_; rintro e w6 ⟨rfl, hb6⟩; have hG6 := hide ((unhide hG5).up hb6); have HB6 : Hid (Below wr.heap.size wr w6) := bnext (unhide HB5) hb6; have hx6 := hide ((unhide hx5).below hb6); clear hG5 hb6 HB5)
                | (go_at_call 10; refine (num6 _ 5 _ (unhide hG6).1 (unhide hx6)).mono ?_; rintro e w7 ⟨rfl, hb7⟩; have hG7 := hide ((unhide hG6).up hb7); have HB7 : Hid (Below wr.heap.size wr w7) := bnext (unhide HB6) hb7; clear hG6 hb7 HB6))
              exact ⟨⟨k + 1, by omega, by omega, by go_num, bnext (unhide HBel) (unhide HB7)⟩, by simp [intOf]; omega⟩
            | some q =>
              obtain ⟨g, f'⟩ := q
              have HF := hide (fun w (hm : Len w) => filter_yes s g f' w hss hm hfl)
              clear hfl
              go_wp2_with (first
                | (go_at_call 8; refine ((unhide HV) _).mono ?_; rintro e w2 ⟨rfl, hb2⟩)
                | (go_at_call 11; refine ((unhide HN) _).mono ?_; rintro e w3 ⟨rfl, hb3⟩; have hG3 := hide (((unhide HGr).up hb2).up hb3))
                | (go_at_call 10; refine (num6_nil _ (unhide hG3).1).mono ?_; rintro e w4 ⟨rfl, hb4⟩; have hG4 := hide ((unhide hG3).up hb4); have HB4 : Hid (Below wr.heap.size wr w4) := bnext (bnext hb2 hb3) hb4; clear hG3 hb2 hb3 hb4)
                | (go_at_call 13; refine ((unhide HF) _ (unhide hG4).2).mono ?_; rintro e w5 ⟨rfl, hb5⟩; have hG5 := hide ((unhide hG4).up hb5); have HB5 : Hid (Below wr.heap.size wr w5) := bnext (unhide HB4) hb5; clear hG4 hb5 HB4)
                | (go_at_call 10; refine (num6_nil _ (unhide hG5).1).mono ?_; rintro e w6 ⟨rfl, hb6⟩; have hG6 := hide ((unhide hG5).up hb6); have HB6 : Hid (Below wr.heap.size wr w6) := bnext (unhide HB5) hb6; clear hG5 hb6 HB5)
                | (go_at_call 10; refine (num6_nil _ (unhide hG6).1).mono ?_; rintro e w7 ⟨rfl, hb7⟩; have hG7 := hide ((unhide hG6).up hb7); have HB7 : Hid (Below wr.heap.size wr w7) := bnext (unhide HB6) hb7; clear hG6 hb7 HB6))
              exact ⟨⟨k + 1, by omega, by omega, by go_num, bnext (unhide HBel) (unhide HB7)⟩, by simp [intOf]; omega⟩
    · have HGr := hide ((unhide HG).up hbel)
      by_cases h1 : k < len
      · obtain rfl : k = 20 := by omega
        go_wp2_with (go_at_call 12; refine (wakes6 _ (unhide HGr)).mono ?_; rintro e w2 ⟨rfl, hb2⟩)
        go_ret
        exact ⟨rfl, bnext hbel hb2⟩
      · obtain rfl : k = len := by omega
        go_wp2_with (go_at_call 12; refine (wakes6 _ (unhide HGr)).mono ?_; rintro e w2 ⟨rfl, hb2⟩)
        go_ret
        exact ⟨rfl, bnext hbel hb2⟩
set_option maxRecDepth 100000 in
theorem laws_walk0 (ao : Option Addr) (cap : Nat) (w : World) (hg : Laid2 w) : Calls Tryd.prog 6 #[.slice ao 0 cap] w fun e w' => e = .returned (.bool true) ∧ Below w.heap.size w w' := by
  go_enter Tryd.func6, Tryd.ntmps6
  go_wp2
  go_loop [3] (fun i => i = .int .i64 0) (fun _ => 0)
  case atStart => rfl
  case round =>
    subst hrel
    go_wp2_with (go_at_call 12; refine (wakes6 _ hg).mono ?_; rintro e w2 ⟨rfl, hb2⟩)
    go_ret
    exact ⟨rfl, hb2⟩
end Go.Proofs.YtgnjpnhomkganaaDoor
