/- Proved here: the walk of TrieExact: whatever acts are asked, it answers true. -/
import Derived.Test.YtfmbncpefbpelaaGreatDoorM2
import Derived.Deep.CutRange
import Derived.Deep.CutBlock
namespace Go.Proofs.YtfmbncpefbpelaaGreatDoor.Y
open Go.RowKit Go.Maps
set_option maxRecDepth 100000

theorem law_nil (ao : Option Addr) (cap : Nat) (w : World) (hg : Laid2 w) : Calls Tryz.prog 3 #[.slice ao 0 cap] w fun e w' => e = .returned (.bool true) ∧ Below w.heap.size w w' := by
  have HH := hide (heavy_nil ao cap (fun _ => default) w)
  have HG := hide hg
  clear hg
  go_enter Tryz.func3, Tryz.ntmps3
  go_wp2_with fail
  refine (unhide HH).mono ?_
  rintro e w1 ⟨rr, rfl, _, hb1⟩
  have HB1 := hide hb1
  clear hb1 HH
  cases rr with
  | true =>
    go_wp2
    go_ret
    exact ⟨rfl, unhide HB1⟩
  | false =>
    go_wp2_with fail
    refine (new_any w1).mono ?_
    rintro e w2 ⟨rfl, _, hb2⟩
    have HB2 := hide ((unhide HB1).trans (hb2.mono (unhide HB1).size))
    clear hb2 HB1
    go_wp2_with fail
    refine wp_loop_rounds 1 ?_
    rw [rounds_succ]
    go_wp2_with fail
    refine (wakes7 w2 ((unhide HG).up (unhide HB2))).mono ?_
    rintro e w3 ⟨rfl, hb3⟩
    have HB3 := hide ((unhide HB2).trans (hb3.mono (unhide HB2).size))
    clear hb3 HB2
    go_wp2
    go_ret
    exact ⟨rfl, unhide HB3⟩
set_option maxHeartbeats 20000000 in
theorem law_cons (b off len cap : Nat) (az : Nat → Ac) (w : World) (hg : Laid2 w) (hl : len ≤ 140737488351232) (hz : ∀ k, k < len → (az k).c.size ≤ 140737488351232 ∧ (az k).s.f.size ≤ 140737488351232 ∧ (az k).nm.size ≤ 140737488351232) (h : ∀ k, k < len → AcAt w b (off + k * 8) (az k)) : Calls Tryz.prog 3 #[.slice (some ⟨b, off, none⟩) len cap] w fun e w' => e = .returned (.bool true) ∧ Below w.heap.size w w' := by
  have HH := hide (heavy_cons b off len cap az w hl hz h)
  have HG := hide hg
  have HA : Hid (∀ W k, k < len → Below w.heap.size w W → AcAt W b (off + k * 8) (az k)) := fun W k hk hW => (h k hk).bel hW (cell_lt (h k hk).1)
  clear hg h hz
  go_enter Tryz.func3, Tryz.ntmps3
  go_wp2_with fail
  refine (unhide HH).mono ?_
  rintro e w1 ⟨rr, rfl, hlight, hb1⟩
  have HB1 := hide hb1
  clear hb1 HH
  cases rr with
  | true =>
    clear hlight
    go_wp2
    go_ret
    exact ⟨rfl, unhide HB1⟩
  | false =>
    have HLT : Hid (∀ k, k < len → k < 60 → (az k).c.size ≤ 20000 ∧ (az k).s.f.size ≤ 20000 ∧ (az k).nm.size ≤ 20000) := fun k h1 h2 => by
      have := hlight rfl k h1 h2
      unfold acw at this
      omega
    clear hlight
    go_wp2_with fail
    refine (new_any w1).mono ?_
    rintro e w2 ⟨rfl, HTR, hb2⟩
    have HL0 : Hid (LR w w2 w1.heap.size (.slice none 0 0) [] (fun k => k = w1.heap.size) 0) := ⟨by
      have e : (fun x : Rw => x ∈ ([] : List Rw)) = fun _ => False := by funext x; simp
      rw [e]; exact unhide HTR, List.Pairwise.nil, World.ownsRow_nil _ _ _ _, (fun g hg => by cases hg), fun k hk => by rw [hk]; exact (unhide HB1).size, (unhide HB1).trans (hb2.mono (unhide HB1).size)⟩
    generalize w1.heap.size = T at HL0 ⊢
    clear hb2 HTR HB1
    go_wp2_with fail
    go_loopw [4, 5] (fun r i wr => ∃ (k : Nat) (R : List Rw) (F : Nat → Prop), k ≤ len ∧ k ≤ 60 ∧ i = .int .i64 k ∧ (∃ ao c, r = .slice ao R.length c) ∧ Hid (R.length ≤ k ∧ LR w wr T r R F (33 * k))) (fun _ i _ => len - (intOf i).toNat)
    case atStart => exact ⟨0, [], _, Nat.zero_le _, by decide, rfl, ⟨_, _, rfl⟩, ⟨Nat.le_refl _, unhide HL0⟩⟩
    case round =>
      clear HL0
      obtain ⟨k, R, F, hk, hk6, rfl, ⟨ao, c0, rfl⟩, HLR⟩ := hrel
      by_cases hlt : k < len
      · by_cases h60 : k < 60
        · obtain ⟨hRk, hLR⟩ := unhide HLR
          obtain ⟨a0, a1, a2, a3, a4, a5, a6, a7⟩ := (unhide HA) wr k hlt hLR.bel
          obtain ⟨z1, z2, z3⟩ := (unhide HLT) k hlt h60
          generalize az k = a at a0 a1 a2 a3 a4 a5 a6 a7 z1 z2 z3
          obtain ⟨w3, HW⟩ : ∃ w3, Hid (w3 = wr.alloc (.cells #[.int .i64 a.d, .string a.c, .string a.s.f, .int .i64 a.s.q, .bool a.s.nl, .bool a.s.ap, .int .i64 a.s.h, .string a.nm] 30)) := ⟨_, rfl⟩
          have hb3 : Below wr.heap.size wr w3 := by rw [unhide HW]; exact (Below.refl _ _).alloc (Nat.le_refl _) _
          have hL3 := hLR.bel2 hb3
          have HBX : Hid (BoxAt w3 wr.heap.size a) := by
            rw [unhide HW]
            refine ⟨?_, ?_, ?_, ?_, ?_, ?_, ?_, ?_⟩ <;> simp
          have HNX : Hid (¬ F wr.heap.size ∧ w.heap.size ≤ wr.heap.size) := ⟨fun e => absurd (hLR.tr.lt _ e) (Nat.lt_irrefl _), hLR.bel.size⟩
          have HFI := hide (find_any (.slice ao R.length c0) R a.c a.s.f w3 (by omega) (rows_in rfl hL3.row))
          have HL3 := hide hL3
          have bx := unhide HBX
          obtain ⟨x0, x1, x2, x3, x4, x5, x6, x7⟩ := bx
          simp only [Nat.zero_add] at x1 x2 x3 x4 x5 x6 x7
          clear hLR hb3 hL3 HLR
          go_wp2_with fail
          rw [← unhide HW]
          refine (unhide HFI).mono ?_
          rintro e w4 ⟨k0, there, rfl, HFD, hb4⟩
          have HL4 := hide ((unhide HL3).bel2 hb4)
          have HB4 : Hid (BoxAt w4 wr.heap.size a) := (unhide HBX).fr (Fr.of_below (F := fun _ => False) hb4) (fun e => e)
          obtain ⟨X, hX⟩ : ∃ X, Hid (X = wr.heap.size) := ⟨_, rfl⟩
          rw [← unhide hX] at HB4 HNX ⊢
          clear hb4 HL3 HBX HFI a0 a1 a2 a3 a4 a5 a6 a7 HW x0 x1 x2 x3 x4 x5 x6 x7
          have bx := unhide HB4
          obtain ⟨x0, x1, x2, x3, x4, x5, x6, x7⟩ := bx
          simp only [Nat.zero_add] at x1 x2 x3 x4 x5 x6 x7
          go_wp2_with fail
          refine (within_any a.d 7 w4 (by decide) (by decide)).mono ?_
          rintro e w' ⟨rfl, hw⟩
          obtain rfl := hw.symm
          clear hw
          have hz7 : wth a.d 7 < 7 := Nat.mod_lt _ (by decide)
          generalize wth a.d 7 = z at hz7
          go_upto_block 2 with fail
          go_cut [4, 9, 10, 11, 12, 13, 14, 15, 16, 17, 18, 19, 20, 21] from 27 to 204 (fun r s9 s10 s11 s12 s13 s14 s15 s16 s17 s18 s19 s20 s21 wx => ∃ (R' : List Rw) (F' : Nat → Prop) (ao7 : Option Addr) (c7 : Nat), r = .slice ao7 R'.length c7 ∧ Hid (R'.length ≤ k + 1 ∧ LR w wx T (.slice ao7 R'.length c7) R' F' (33 * (k + 1))))
          case first =>
            by_cases h4 : z = 4
            · subst h4
              as_aux_lemma =>
                have HRM := hide (remove_any a.c a.s.f (by omega) (by omega) ((unhide HG).up (unhide HL4).bel).2 (unhide HL4).tr ⟨by omega, by omega⟩)
                go_wp2_with fail
                refine (unhide HRM).mono ?_
                rintro e w5 ⟨had, rfl, hhad, htr, hfr⟩
                have hth : had = there := by
                  have e1 := find_had (unhide HL4).srt (unhide HFD)
                  have e2 : had = true ↔ _ := hhad
                  rw [Bool.eq_iff_iff, e2, e1]
                subst hth
                clear HRM
                cases had with
                | false =>
                  have HL7 := hide ((unhide HL4).rem0 hhad (by rw [if_neg (by decide)] at htr; exact htr) hfr)
                  have hR7 : R.length ≤ k + 1 := by omega
                  clear htr hfr hhad
                  go_wp2
                  go_meet
                  case rel => exact ⟨_, _, _, _, rfl, ⟨hR7, (unhide HL7).more (by omega)⟩⟩
                | true =>
                  have hF := unhide HFD
                  have hk0 : k0 < R.length := (hF.2.2.2.1 rfl).1
                  obtain ⟨⟨g, rfl⟩, hcp⟩ := (unhide HL4).blk (by omega)
                  obtain ⟨d1, d2, d3⟩ := del_is (unhide HL4).srt hF
                  rw [if_pos rfl] at htr
                  have HRI := hide (rows_in rfl (owns_fr (unhide HL4).row hfr (unhide HL4).sep))
                  have HN1 := hide (NR.lit w5)
                  have HTK : Hid (RowsIn (w5.alloc (.cells #[] 37)) (.slice (some ⟨g, 0, none⟩) k0 c0) (R.take k0)) := (rows_take (unhide HRI) k0 (by omega)).bel ((Below.refl _ _).alloc (Nat.le_refl _) _)
                  have HDR := hide (rows_drop (unhide HRI) (k0 + 1) (by omega))
                  have HLN : Hid (([] : List Rw).length + (R.take k0).length ≤ 1000000 ∧ ([] ++ R.take k0).length + (R.drop (k0 + 1)).length ≤ 1000000) := by
                    constructor <;> simp only [List.length_append, List.length_take, List.length_drop, List.length_nil] <;> omega
                  have hR7 : (R.take k0 ++ R.drop (k0 + 1)).length ≤ k + 1 := by omega
                  have HK : Hid (∀ v w6, NR w5 w6 v ([] ++ R.take k0 ++ R.drop (k0 + 1)) → LR w w6 T v (R.take k0 ++ R.drop (k0 + 1)) F (33 * k)) := fun v w6 hn => (unhide HL4).fresh htr hfr ⟨fun _ h => h, fun _ h => .inl h⟩ d2 (by omega) d1 hn
                  obtain ⟨R', HR'⟩ : ∃ R', Hid (R' = R.take k0 ++ R.drop (k0 + 1)) := ⟨_, rfl⟩
                  have HK : Hid (∀ v w6, NR w5 w6 v ([] ++ R.take k0 ++ R.drop (k0 + 1)) → LR w w6 T v R' F (33 * k)) := by rw [unhide HR']; exact unhide HK
                  rw [← unhide HR'] at hR7
                  clear HR'
                  clear htr hfr hhad d1 d2 d3 hF HFD HRI
                  by_cases hce : c0 = k0 + 1
                  · rw [if_pos hce] at HDR
                    subst hce
                    rw [Nat.sub_self, show R.length - (k0 + 1) = 0 from by omega] at HDR
                    go_wp2_with (first
                      | (at_builtin; refine wpList_nr w5 _ rfl _ _ rfl _ _ [] (R.take k0) rfl rfl (unhide HN1) (unhide HTK) (unhide HLN).1 ?_; intro v6 w6 HN6 hg6; have HD6 := hide ((unhide HDR).bel (unhide HN6).2))
                      | (at_builtin; go_loud (refine wpList_nr w5 _ rfl _ _ rfl _ _ _ (R.drop (k0 + 1)) rfl rfl (unhide HN6) (unhide HD6) (unhide HLN).2 ?_); intro v7 w7 HN7 hg7; have HL7 := hide ((unhide HK) v7 w7 (unhide HN7)); obtain ⟨ao7, c7, e7⟩ := (unhide HL7).shape; subst e7; clear HN6 HN7 hg6 hg7 HD6 HK HLN HTK HN1)
                      | fail)
                    go_meet
                    case rel => exact ⟨_, _, _, _, rfl, ⟨hR7, (unhide HL7).more (by omega)⟩⟩
                  · rw [if_neg hce, Nat.zero_add] at HDR
                    go_wp2_with (first
                      | (at_builtin; refine wpList_nr w5 _ rfl _ _ rfl _ _ [] (R.take k0) rfl rfl (unhide HN1) (unhide HTK) (unhide HLN).1 ?_; intro v6 w6 HN6 hg6; have HD6 := hide ((unhide HDR).bel (unhide HN6).2))
                      | (at_builtin; go_loud (refine wpList_nr w5 _ rfl _ _ rfl _ _ _ (R.drop (k0 + 1)) rfl rfl (unhide HN6) (unhide HD6) (unhide HLN).2 ?_); intro v7 w7 HN7 hg7; have HL7 := hide ((unhide HK) v7 w7 (unhide HN7)); obtain ⟨ao7, c7, e7⟩ := (unhide HL7).shape; subst e7; clear HN6 HN7 hg6 hg7 HD6 HK HLN HTK HN1)
                      | fail)
                    go_meet
                    case rel => exact ⟨_, _, _, _, rfl, ⟨hR7, (unhide HL7).more (by omega)⟩⟩
            · have q4 : ((z : Int) == 4) = false := beq_eq_false_iff_ne.2 (by omega)
              by_cases h5 : z = 5 ∨ z = 6
              · have q56 : ((z : Int) == 5) = true ∨ (((z : Int) == 5) = false ∧ ((z : Int) == 6) = true) := by
                  rcases h5 with h5 | h5
                  · exact .inl (by rw [h5]; rfl)
                  · exact .inr (by rw [h5]; exact ⟨rfl, rfl⟩)
                have HNM := hide (rname_any a.nm w4 (by omega))
                clear q56
                go_upto_if 145 with fail
                go_cut [145] from 146 to 147 (fun s145 wx => s145 = .bool true ∧ w4 = wx)
                case first =>
                  rcases h5 with rfl | rfl
                  · go_wp2
                    go_meet
                    case rel => exact ⟨rfl, rfl⟩
                  · go_wp2
                    go_meet
                    case rel => exact ⟨rfl, rfl⟩
                case rest =>
                  obtain ⟨rfl, rfl⟩ := hcut
                  clear h5
                  go_wp2_with fail
                  refine (unhide HNM).mono ?_
                  rintro e w5 ⟨rfl, hb5⟩
                  have HL5 := hide ((unhide HL4).bel2 hb5)
                  have HB5 : Hid (BoxAt w5 X a) := (unhide HB4).bel hb5
                  clear hb5 HL4 HB4 HNM x0 x1 x2 x3 x4 x5 x6 x7 HFD
                  obtain ⟨x0, x1, x2, x3, x4, x5, x6, x7⟩ := unhide HB5
                  simp only [Nat.zero_add] at x1 x2 x3 x4 x5 x6 x7
                  have hR7 : R.length ≤ k + 1 := by omega
                  cases hnm : isName a.nm.data.toList with
                  | false =>
                    have HMT := hide (match_no (w := w5) (T := T) a.nm (by omega) hnm)
                    clear hnm
                    go_wp2_with fail
                    refine (unhide HMT).mono ?_
                    rintro e w6 ⟨x, rfl, HE, hb6⟩
                    have HL6 := hide ((unhide HL5).bel2 hb6)
                    have HN6 := hide (num7 (.iface 86 x) 5 w6 ((unhide HG).up (unhide HL6).bel).1 (unhide HE))
                    clear hb6 HMT HE HL5 x0 x1 x2 x3 x4 x5 x6 x7 HB5
                    go_wp2_with fail
                    refine (unhide HN6).mono ?_
                    rintro e w7 ⟨rfl, hb7⟩
                    have HL8 := hide ((unhide HL6).bel2 hb7)
                    have HS := hide (same_any (.slice none 0 0) (.slice none 0 0) [] w7 (by decide) (rows_nil _) (rows_nil _))
                    clear hb7 HN6 HL6
                    go_wp2_with fail
                    refine (unhide HS).mono ?_
                    rintro e w8 ⟨rfl, hb8⟩
                    have HL7 := hide ((unhide HL8).bel2 hb8)
                    clear hb8 HL8 HS
                    go_wp2_with fail
                    refine wp_loop_rounds 1 ?_
                    rw [rounds_succ]
                    go_wp2
                    go_meet
                    case rel => exact ⟨_, _, _, _, rfl, ⟨hR7, (unhide HL7).more (by omega)⟩⟩
                  | true =>
                    have hpos := name_pos hnm
                    obtain ⟨P, HP⟩ : ∃ P : Rw → Bool, Hid (P = fun x => hits x.s.f.data.toList a.nm.data.toList) := ⟨_, rfl⟩
                    have HHT : Hid (∀ x, x ∈ R → ∀ W, Calls Tryz.prog 11 #[.string x.s.f, .string a.nm] W fun e w' => e = .returned (.bool (P x)) ∧ Below W.heap.size W w') := fun x hx W => by
                      rw [unhide HP]
                      exact hits_any x.s.f a.nm W ((unhide HL5).ok x hx).2.1 (by omega) hpos
                    have HMT : Hid (∀ W, LR w W T (.slice ao R.length c0) R F (33 * k) → Calls Tryz.prog 12 #[.pointer (some ⟨T, 0, none⟩), .string a.nm] W (MatEnd W (R.filter P))) := fun W h => by
                      rw [unhide HP]
                      exact match_yes a.nm (by omega) ((unhide HG).up h.bel).2 h.tr (fun x => Iff.rfl) h.srt (by omega) hnm
                    clear hnm hpos HP
                    go_wp2_with fail
                    go_loopw [10, 12] (fun v i wr => ∃ j : Nat, j ≤ R.length ∧ i = .int .i64 j ∧ Hid (NR w5 wr v ((R.take j).filter P))) (fun _ i _ => R.length - (intOf i).toNat)
                    case atStart => exact ⟨0, Nat.zero_le _, rfl, NR.nil w5⟩
                    case round =>
                      obtain ⟨j, hj, rfl, HNR⟩ := hrel
                      by_cases hlt2 : j < R.length
                      · obtain ⟨g, of2, rfl⟩ := (unhide HL5).some2 (by omega)
                        obtain ⟨u, hue⟩ : ∃ u, Hid (R.getD j default = u) := ⟨_, rfl⟩
                        have HUU : Hid (∀ W, Below w5.heap.size w5 W → RwAt W g (of2 + j * 6) u) := fun W hW => by
                          rw [← unhide hue]
                          exact ((unhide HL5).bel2 hW).at hlt2
                        have HXX : Hid (∀ W, Below w5.heap.size w5 W → BoxAt W X a) := fun W hW => (unhide HB5).bel hW
                        have HUM : Hid (u ∈ R) := by rw [← unhide hue]; exact getD_mem hlt2
                        have HYS : Hid (P u = true → (R.take (j + 1)).filter P = (R.take j).filter P ++ [u]) := fun e => take_yes hlt2 (unhide hue) e
                        have HNO : Hid (P u = false → (R.take (j + 1)).filter P = (R.take j).filter P) := fun e => take_no hlt2 (unhide hue) e
                        have hfl : ((R.take j).filter P).length + ([u] : List Rw).length ≤ 1000000 := by
                          have h1 := List.length_filter_le P (R.take j)
                          rw [List.length_take] at h1
                          simp only [List.length_cons, List.length_nil]
                          omega
                        have HFL := hide hfl
                        have HS0 : Hid (wr.cell? ⟨g, of2 + j * 6 + 1, none⟩ = some (.string u.s.f) ∧ wr.cell? ⟨X, 7, none⟩ = some (.string a.nm)) := ⟨((unhide HUU) wr (unhide HNR).2).2.1, by have := ((unhide HXX) wr (unhide HNR).2).2.2.2.2.2.2.2; simpa using this⟩
                        clear hfl x0 x1 x2 x3 x4 x5 x6 x7
                        go_wp2_with fail
                        refine wp_region_noPanic ?_
                        refine wp_region_held_drew (S := fun W => W.cell? ⟨g, of2 + j * 6 + 1, none⟩ = some (.string u.s.f) ∧ W.cell? ⟨X, 7, none⟩ = some (.string a.nm)) (by kernel_rfl) (unhide HS0) (fun hHeld => ?_)
                        refine rtk 0 (h := ?_)
                        refine rtk 1 (h := ?_)
                        refine rtk 2 (h := ?_)
                        refine rtk 3 (h := ?_)
                        refine rtk 4 (h := ?_)
                        refine rtk 5 (h := ?_)
                        refine rtk 6 (h := ?_)
                        refine rtk 7 (h := ?_)
                        refine rcl 8 (h := fun K hK => ?_)
                        go_simp
                        refine ((unhide HHT) u (unhide HUM) _).mono ?_
                        rintro e w6 ⟨rfl, hb6⟩
                        have HB6 : Hid (Below w5.heap.size w5 w6) := (below_drewN (unhide HNR).2 1).trans (hb6.mono (unhide HNR).2.size)
                        have hb7 : Below wr.heap.size wr w6 := (below_drewN (Below.refl _ _) 1).trans (hb6.mono (Nat.le_refl _))
                        have HN6 := hide ((unhide HNR).bel hb7)
                        have HS6 : Hid (w6.cell? ⟨g, of2 + j * 6 + 1, none⟩ = some (.string u.s.f) ∧ w6.cell? ⟨X, 7, none⟩ = some (.string a.nm)) := ⟨((unhide HUU) w6 (unhide HB6)).2.1, by have := ((unhide HXX) w6 (unhide HB6)).2.2.2.2.2.2.2; simpa using this⟩
                        refine hK.out _ _ (unhide HS6) (fun hHeld => ?_)
                        clear hK K hb6 hb7
                        refine wpAnyH_done (by kernel_rfl) ?_ _
                        refine NoPanic.normal ?_
                        cases hPu : P u with
                        | false =>
                          have HN7 := hide (unhide HN6)
                          rw [← (unhide HNO) hPu] at HN7
                          clear hPu HS6 HS0 HN6 HNR HUU HXX HYS HNO
                          go_wp2
                          go_roundw
                          case rel => exact ⟨j + 1, by omega, by go_num, HN7⟩
                          case measure => simp [intOf]; omega
                        | true =>
                          obtain ⟨y0, y1, y2, y3, y4, y5⟩ := (unhide HUU) w6 (unhide HB6)
                          have HN8 := hide ((unhide HN6).bel ((Below.refl _ _).alloc (Nat.le_refl _) (rO u)))
                          have HLT := hide (rows_lit w6 u)
                          have HY2 := hide ((unhide HYS) hPu)
                          clear hPu HS6 HS0 HN6 HNR HUU HXX HYS HNO
                          go_wp2_with (first
                            | (at_builtin; go_loud (refine wpList_nr w5 _ rfl _ _ rfl _ _ _ [u] rfl rfl (unhide HN8) (unhide HLT) (unhide HFL) ?_); intro v8 w8 HN9 hg8; rw [← unhide HY2] at HN9; clear hg8)
                            | fail)
                          go_roundw
                          case rel => exact ⟨j + 1, by omega, by go_num, HN9⟩
                          case measure => simp [intOf]; omega
                      · obtain rfl : j = R.length := by omega
                        rw [List.take_length] at HNR
                        obtain ⟨wq, rfl⟩ : ∃ wq, wq = wr := ⟨_, rfl⟩
                        have HL6 := hide ((unhide HL5).bel2 (unhide HNR).2)
                        have HBX := hide ((unhide HB5).bel (unhide HNR).2)
                        have HMM := hide ((unhide HMT) wq (unhide HL6))
                        have HFL : Hid ((R.filter P).length ≤ 1000000) := by
                          have h1 := List.length_filter_le P R
                          show _ ≤ _
                          omega
                        clear x0 x1 x2 x3 x4 x5 x6 x7
                        obtain ⟨x0, x1, x2, x3, x4, x5, x6, x7⟩ := unhide HBX
                        simp only [Nat.zero_add] at x1 x2 x3 x4 x5 x6 x7
                        generalize R.filter P = L at HNR HMM HFL
                        clear HMT HHT HL5 HB5 HBX
                        go_wp2_with fail
                        refine (unhide HMM).mono ?_
                        rintro e w7 ⟨hv, rfl, HOW, hb7⟩
                        have HW7 := hide (rows_in rfl ((unhide HNR).bel hb7).1)
                        have HB7 := hide hb7
                        have HN := hide (num7 .nilIface 0 w7 ((unhide HG).up ((unhide HL6).bel.trans (hb7.mono (unhide HL6).bel.size))).1 (.inl ⟨rfl, rfl⟩))
                        clear hb7 HMM HNR x0 x1 x2 x3 x4 x5 x6 x7
                        go_wp2_with fail
                        refine (unhide HN).mono ?_
                        rintro e w8 ⟨rfl, hb8⟩
                        have HB8 := hide ((unhide HB7).trans (hb8.mono (unhide HB7).size))
                        have HO8 := hide (owns_below (unhide HOW) hb8)
                        have HS := hide (same_any hv _ L w8 (unhide HFL) (rows_in rfl (unhide HO8)) ((unhide HW7).bel hb8))
                        clear hb8 HN HOW HB7 HW7
                        go_wp2_with fail
                        refine (unhide HS).mono ?_
                        rintro e w9 ⟨rfl, hb9⟩
                        have HB9 := hide ((unhide HB8).trans (hb9.mono (unhide HB8).size))
                        have HO9 := hide (owns_below (unhide HO8) hb9)
                        obtain ⟨ao9, c9, rfl, _, _⟩ := rows_in rfl (unhide HO9)
                        generalize hrow L = xs0 at HO9
                        generalize L.length = n9 at HO9 HFL
                        have hn9 := unhide HFL
                        clear hb9 HO8 HS HB8 HFL
                        go_wp2_with fail
                        go_loopw [15] (fun i wr => ∃ (j : Nat) (xs : List Value), j ≤ n9 ∧ i = .int .i64 j ∧ Hid (wr.ownsRow wq.heap.size 37 6 (.slice ao9 n9 c9) n9 xs ∧ Below wq.heap.size wq wr)) (fun i _ => n9 - (intOf i).toNat)
                        case atStart => exact ⟨0, _, Nat.zero_le _, rfl, ⟨unhide HO9, unhide HB9⟩⟩
                        case round =>
                          clear HO9 HB9
                          obtain ⟨j, xs, hj9, rfl, HOB⟩ := hrel
                          by_cases hlt3 : j < n9
                          · obtain ⟨g9, rfl, hg9, hc9⟩ := owns_some (unhide HOB).1 (by omega)
                            obtain ⟨⟨y0, hy0⟩, hf0⟩ := owns_cell (unhide HOB).1 (j * 6) (by omega)
                            obtain ⟨⟨y1, hy1⟩, hf1⟩ := owns_cell (unhide HOB).1 (j * 6 + 1) (by omega)
                            obtain ⟨⟨y2, hy2⟩, hf2⟩ := owns_cell (unhide HOB).1 (j * 6 + 2) (by omega)
                            obtain ⟨⟨y3, hy3⟩, hf3⟩ := owns_cell (unhide HOB).1 (j * 6 + 3) (by omega)
                            obtain ⟨⟨y4, hy4⟩, hf4⟩ := owns_cell (unhide HOB).1 (j * 6 + 4) (by omega)
                            obtain ⟨⟨y5, hy5⟩, hf5⟩ := owns_cell (unhide HOB).1 (j * 6 + 5) (by omega)
                            have HG9 := hide hg9
                            clear hg9
                            go_wp2
                            go_roundw
                            case rel => exact ⟨j + 1, _, by omega, by go_num, ⟨owns_set (owns_set (owns_set (owns_set (owns_set (owns_set (unhide HOB).1 (j * 6) _ (by omega)) (j * 6 + 1) _ (by omega)) (j * 6 + 2) _ (by omega)) (j * 6 + 3) _ (by omega)) (j * 6 + 4) _ (by omega)) (j * 6 + 5) _ (by omega), (((((((unhide HOB).2.setCell (unhide HG9) _).setCell (unhide HG9) _).setCell (unhide HG9) _).setCell (unhide HG9) _).setCell (unhide HG9) _).setCell (unhide HG9) _)⟩⟩
                            case measure => simp [intOf]; omega
                          · have HL7 := hide ((unhide HL6).bel2 (unhide HOB).2)
                            clear HOB HL6
                            go_wp2
                            go_meet
                            case rel => exact ⟨_, _, _, _, rfl, ⟨hR7, (unhide HL7).more (by omega)⟩⟩
              · have q5 : ((z : Int) == 5) = false := beq_eq_false_iff_ne.2 (by omega)
                have q6 : ((z : Int) == 6) = false := beq_eq_false_iff_ne.2 (by omega)
                cases hok : flt a.s.f.data.toList with
                | none =>
                  have hno : okF a.s.f = false := by unfold okF; rw [hok]; rfl
                  have HRF := hide (rfilter_no a.s.f w4 (by omega) hok)
                  clear hok
                  go_wp2_with fail
                  refine (unhide HRF).mono ?_
                  rintro e w5 ⟨g1, f1, rfl, hb5⟩
                  have HL5 := hide ((unhide HL4).bel2 hb5)
                  have HB5 : Hid (BoxAt w5 X a) := (unhide HB4).bel hb5
                  clear hb5 HL4 HB4 HRF x0 x1 x2 x3 x4 x5 x6 x7 HFD
                  obtain ⟨x0, x1, x2, x3, x4, x5, x6, x7⟩ := unhide HB5
                  simp only [Nat.zero_add] at x1 x2 x3 x4 x5 x6 x7
                  have hR7 : R.length ≤ k + 1 := by omega
                  have HAD := hide (add_no (w := w5) (T := T) a.c a.s (by omega) ((unhide HG).up (unhide HL5).bel).2 hno)
                  clear hno
                  go_wp2_with fail
                  refine (unhide HAD).mono ?_
                  rintro e w6 ⟨x, rfl, HE, hb6⟩
                  have HL6 := hide ((unhide HL5).bel2 hb6)
                  have HN6 := hide (num7 (.iface 86 x) 5 w6 ((unhide HG).up (unhide HL6).bel).1 (unhide HE))
                  clear hb6 HAD HL5 HB5 x0 x1 x2 x3 x4 x5 x6 x7
                  go_wp2_with fail
                  refine (unhide HN6).mono ?_
                  rintro e w7 ⟨rfl, hb7⟩
                  have HL8 := hide ((unhide HL6).bel2 hb7)
                  have HN8 := hide (num7 (.iface 86 x) 5 w7 ((unhide HG).up (unhide HL8).bel).1 ((unhide HE).below hb7))
                  clear hb7 HN6 HL6 HE
                  go_wp2_with fail
                  refine (unhide HN8).mono ?_
                  rintro e w8 ⟨rfl, hb8⟩
                  have HL7 := hide ((unhide HL8).bel2 hb8)
                  clear hb8 HL8 HN8
                  go_wp2
                  go_meet
                  case rel => exact ⟨_, _, _, _, rfl, ⟨hR7, (unhide HL7).more (by omega)⟩⟩
                | some gf =>
                  obtain ⟨g1, f1⟩ := gf
                  have hyes : okF a.s.f = true := by unfold okF; rw [hok]; rfl
                  have HRF := hide (rfilter_yes a.s.f g1 f1 w4 (by omega) hok)
                  clear hok
                  go_wp2_with fail
                  refine (unhide HRF).mono ?_
                  rintro e w5 ⟨rfl, hb5⟩
                  have HL5 := hide ((unhide HL4).bel2 hb5)
                  have HB5 : Hid (BoxAt w5 X a) := (unhide HB4).bel hb5
                  clear hb5 HL4 HB4 HRF x0 x1 x2 x3 x4 x5 x6 x7
                  obtain ⟨x0, x1, x2, x3, x4, x5, x6, x7⟩ := unhide HB5
                  simp only [Nat.zero_add] at x1 x2 x3 x4 x5 x6 x7
                  have HAD := hide (add_yes a.c a.s ⟨by show a.c.size ≤ _; omega, by show a.s.f.size ≤ _; omega, hyes⟩ ((unhide HG).up (unhide HL5).bel).2 (unhide HL5).tr ⟨by omega, by omega⟩ (by omega))
                  clear hyes
                  go_wp2_with fail
                  refine (unhide HAD).mono ?_
                  rintro e w6 ⟨had, rfl, hpost⟩
                  obtain ⟨hhad, F', htr, hext, hfr⟩ := hpost
                  have hth : had = there := by
                    have e1 := find_had (unhide HL5).srt (unhide HFD)
                    rw [Bool.eq_iff_iff, hhad, e1]
                  subst hth
                  have hb6 : Below w.heap.size w w6 := below_fr (unhide HL5).bel hfr (unhide HL5).low (unhide HL5).bel.size
                  have HN6 := hide (num7 .nilIface 0 w6 ((unhide HG).up hb6).1 (.inl ⟨rfl, rfl⟩))
                  have hB6 : BoxAt w6 X a := (unhide HB5).fr hfr (unhide HNX).1
                  have HP6 : Hid (TR w6 T (insS (fun x => x ∈ R) ⟨a.c, a.s⟩) (if had = true then (R.length : Int) else (R.length : Int) + 1) F' (33 * k + 33) ∧ Ext F F' w5 ∧ Fr F w5 w6 ∧ BoxAt w6 X a) := ⟨htr, hext, hfr, hB6⟩
                  clear htr hext hfr hB6 hhad hb6 HAD HB5 x0 x1 x2 x3 x4 x5 x6 x7
                  go_wp2_with fail
                  refine (unhide HN6).mono ?_
                  rintro e w7 ⟨rfl, hb7⟩
                  have HP7 : Hid (TR w7 T (insS (fun x => x ∈ R) ⟨a.c, a.s⟩) (if had = true then (R.length : Int) else (R.length : Int) + 1) F' (33 * k + 33) ∧ Ext F F' w5 ∧ Fr F w5 w7) := ⟨(unhide HP6).1.below hb7, (unhide HP6).2.1, (unhide HP6).2.2.1.trans (Fr.of_below hb7)⟩
                  have HB7 := hide ((unhide HP6).2.2.2.bel hb7)
                  clear hb7 HN6 HP6
                  obtain ⟨x0, x1, x2, x3, x4, x5, x6, x7⟩ := unhide HB7
                  simp only [Nat.zero_add] at x1 x2 x3 x4 x5 x6 x7
                  have HRW := hide (owns_fr (unhide HL5).row (unhide HP7).2.2 (unhide HL5).sep)
                  cases had with
                  | true =>
                    have hF := unhide HFD
                    obtain ⟨hk0, hkc, _⟩ := hF.2.2.2.1 rfl
                    obtain ⟨⟨g, rfl⟩, hcp⟩ := (unhide HL5).blk (by omega)
                    obtain ⟨d1, d2, d3⟩ := rep_is (y := ⟨a.c, a.s⟩) (unhide HL5).srt hF
                    obtain ⟨⟨y1, hy1⟩, hf1⟩ := owns_cell (unhide HRW) (k0 * 6 + 1) (by omega)
                    obtain ⟨⟨y2, hy2⟩, hf2⟩ := owns_cell (unhide HRW) (k0 * 6 + 2) (by omega)
                    obtain ⟨⟨y3, hy3⟩, hf3⟩ := owns_cell (unhide HRW) (k0 * 6 + 3) (by omega)
                    obtain ⟨⟨y4, hy4⟩, hf4⟩ := owns_cell (unhide HRW) (k0 * 6 + 4) (by omega)
                    obtain ⟨⟨y5, hy5⟩, hf5⟩ := owns_cell (unhide HRW) (k0 * 6 + 5) (by omega)
                    have HL7 : Hid (LR w (((((w7.setCell ⟨g, k0 * 6 + 1, none⟩ (.string a.s.f)).setCell ⟨g, k0 * 6 + 2, none⟩ (.int .i64 a.s.q)).setCell ⟨g, k0 * 6 + 3, none⟩ (.bool a.s.nl)).setCell ⟨g, k0 * 6 + 4, none⟩ (.bool a.s.ap)).setCell ⟨g, k0 * 6 + 5, none⟩ (.int .i64 a.s.h)) T (.slice (some ⟨g, 0, none⟩) R.length c0) (R.take k0 ++ [(⟨a.c, a.s⟩ : Rw)] ++ R.drop (k0 + 1)) F' (33 * k + 33)) :=
                      (unhide HL5).set (by have := (unhide HP7).1; rw [if_pos rfl] at this; exact this) (unhide HP7).2.2 (unhide HP7).2.1 (fr5 (fun k => (Value.slice (some ⟨g, 0, none⟩) R.length c0).ownBlock = some k) rfl _ _ _ _ _ _ _ _ _ _ _) d2 (by rw [d3]) d1 (set_row (y := ⟨a.c, a.s⟩) (unhide HRW) hk0 hkc)
                    obtain ⟨R', HR'⟩ : ∃ R', Hid (R' = R.take k0 ++ [(⟨a.c, a.s⟩ : Rw)] ++ R.drop (k0 + 1)) := ⟨_, rfl⟩
                    rw [← unhide HR'] at HL7 d3
                    have hR7 : R'.length ≤ k + 1 := by omega
                    have HD3 := hide d3
                    clear HR' d1 d2 d3 hF HFD hkc HP7 HRW HL5 HB7
                    go_wp2
                    go_meet
                    case rel => exact ⟨R', F', _, _, (by rw [unhide HD3]), ⟨hR7, (by rw [unhide HD3]; exact (unhide HL7).more (by omega))⟩⟩
                  | false =>
                    have hF := unhide HFD
                    have hk0 : k0 ≤ R.length := hF.1
                    obtain ⟨d1, d2, d3⟩ := ins_is (y := ⟨a.c, a.s⟩) (unhide HL5).srt hF
                    have HN1 := hide (NR.lit w7)
                    have HRI := hide (rows_in rfl (unhide HRW))
                    have HTK : Hid (RowsIn (w7.alloc (.cells #[] 37)) (.slice ao k0 c0) (R.take k0)) := (rows_take (unhide HRI) k0 (by omega)).bel ((Below.refl _ _).alloc (Nat.le_refl _) _)
                    have HLN : Hid (([] : List Rw).length + (R.take k0).length ≤ 1000000 ∧ ([] ++ R.take k0).length + [(⟨a.c, a.s⟩ : Rw)].length ≤ 1000000 ∧ ([] ++ R.take k0 ++ [(⟨a.c, a.s⟩ : Rw)]).length + (R.drop k0).length ≤ 1000000) := by
                      refine ⟨?_, ?_, ?_⟩ <;> simp only [List.length_append, List.length_take, List.length_drop, List.length_nil, List.length_cons] <;> omega
                    have hR7 : (R.take k0 ++ [(⟨a.c, a.s⟩ : Rw)] ++ R.drop k0).length ≤ k + 1 := by omega
                    have HK : Hid (∀ v w9, NR w7 w9 v ([] ++ R.take k0 ++ [(⟨a.c, a.s⟩ : Rw)] ++ R.drop k0) → LR w w9 T v (R.take k0 ++ [(⟨a.c, a.s⟩ : Rw)] ++ R.drop k0) F' (33 * k + 33)) := fun v w9 hn => (unhide HL5).fresh (by have := (unhide HP7).1; rw [if_neg (by decide)] at this; exact this) (unhide HP7).2.2 (unhide HP7).2.1 d2 (by omega) d1 hn
                    obtain ⟨R', HR'⟩ : ∃ R', Hid (R' = R.take k0 ++ [(⟨a.c, a.s⟩ : Rw)] ++ R.drop k0) := ⟨_, rfl⟩
                    have HK : Hid (∀ v w9, NR w7 w9 v ([] ++ R.take k0 ++ [(⟨a.c, a.s⟩ : Rw)] ++ R.drop k0) → LR w w9 T v R' F' (33 * k + 33)) := by rw [unhide HR']; exact unhide HK
                    rw [← unhide HR'] at hR7
                    clear HR' d1 d2 d3 hF HFD HP7 HRW
                    rcases (unhide HL5).two with ⟨rfl, rfl, _, rfl⟩ | ⟨g, rfl, hcp⟩
                    · obtain rfl : k0 = 0 := Nat.le_zero.1 hk0
                      have HDR : Hid (RowsIn w7 (.slice none 0 0) (([] : List Rw).drop 0)) := rows_nil _
                      clear HRI HL5 hk0
                      go_wp2_with (first
                        | (at_builtin; refine wpList_nr w7 _ rfl _ _ rfl _ _ [] (List.take 0 []) rfl rfl (unhide HN1) (unhide HTK) (unhide HLN).1 ?_; intro v8 w8 HN8 hg8; obtain ⟨z0, z1, z2, z3, z4, z5, z6, z7⟩ := (unhide HB7).bel (unhide HN8).2; simp only [Nat.zero_add] at z1 z2 z3 z4 z5 z6 z7; have HNA := hide ((unhide HN8).bel ((Below.refl _ _).alloc (Nat.le_refl _) (rO ⟨a.c, a.s⟩))); have HLT := hide (rows_lit w8 ⟨a.c, a.s⟩); clear hg8 HN8)
                        | (at_builtin; refine wpList_nr w7 _ rfl _ _ rfl _ _ _ [(⟨a.c, a.s⟩ : Rw)] rfl rfl (unhide HNA) (unhide HLT) (unhide HLN).2.1 ?_; intro v9 w9 HN9 hg9; have HD9 := hide ((unhide HDR).bel (unhide HN9).2); clear hg9 HNA HLT)
                        | (at_builtin; go_loud (refine wpList_nr w7 _ rfl _ _ rfl _ _ _ (List.drop 0 []) rfl rfl (unhide HN9) (unhide HD9) (unhide HLN).2.2 ?_); intro vA wA HNA hgA; have HL7 := hide ((unhide HK) vA wA (unhide HNA)); obtain ⟨ao7, c7, e7⟩ := (unhide HL7).shape; subst e7; clear HN9 HNA hgA HD9 HK HLN HTK HN1)
                        | fail)
                      go_meet
                      case rel => exact ⟨_, _, _, _, rfl, ⟨hR7, (unhide HL7).more (by omega)⟩⟩
                    · have HDR := hide (rows_drop (unhide HRI) k0 hk0)
                      clear HRI HL5
                      by_cases hce : c0 = k0
                      · rw [if_pos hce] at HDR
                        subst hce
                        rw [Nat.sub_self, show R.length - c0 = 0 from by omega] at HDR
                        go_wp2_with (first
                          | (at_builtin; refine wpList_nr w7 _ rfl _ _ rfl _ _ [] (List.take c0 R) rfl rfl (unhide HN1) (unhide HTK) (unhide HLN).1 ?_; intro v8 w8 HN8 hg8; obtain ⟨z0, z1, z2, z3, z4, z5, z6, z7⟩ := (unhide HB7).bel (unhide HN8).2; simp only [Nat.zero_add] at z1 z2 z3 z4 z5 z6 z7; have HNA := hide ((unhide HN8).bel ((Below.refl _ _).alloc (Nat.le_refl _) (rO ⟨a.c, a.s⟩))); have HLT := hide (rows_lit w8 ⟨a.c, a.s⟩); clear hg8 HN8)
                          | (at_builtin; refine wpList_nr w7 _ rfl _ _ rfl _ _ _ [(⟨a.c, a.s⟩ : Rw)] rfl rfl (unhide HNA) (unhide HLT) (unhide HLN).2.1 ?_; intro v9 w9 HN9 hg9; have HD9 := hide ((unhide HDR).bel (unhide HN9).2); clear hg9 HNA HLT)
                          | (at_builtin; go_loud (refine wpList_nr w7 _ rfl _ _ rfl _ _ _ (List.drop c0 R) rfl rfl (unhide HN9) (unhide HD9) (unhide HLN).2.2 ?_); intro vA wA HNA hgA; have HL7 := hide ((unhide HK) vA wA (unhide HNA)); obtain ⟨ao7, c7, e7⟩ := (unhide HL7).shape; subst e7; clear HN9 HNA hgA HD9 HK HLN HTK HN1)
                          | fail)
                        go_meet
                        case rel => exact ⟨_, _, _, _, rfl, ⟨hR7, (unhide HL7).more (by omega)⟩⟩
                      · rw [if_neg hce, Nat.zero_add] at HDR
                        go_wp2_with (first
                          | (at_builtin; refine wpList_nr w7 _ rfl _ _ rfl _ _ [] (List.take k0 R) rfl rfl (unhide HN1) (unhide HTK) (unhide HLN).1 ?_; intro v8 w8 HN8 hg8; obtain ⟨z0, z1, z2, z3, z4, z5, z6, z7⟩ := (unhide HB7).bel (unhide HN8).2; simp only [Nat.zero_add] at z1 z2 z3 z4 z5 z6 z7; have HNA := hide ((unhide HN8).bel ((Below.refl _ _).alloc (Nat.le_refl _) (rO ⟨a.c, a.s⟩))); have HLT := hide (rows_lit w8 ⟨a.c, a.s⟩); clear hg8 HN8)
                          | (at_builtin; refine wpList_nr w7 _ rfl _ _ rfl _ _ _ [(⟨a.c, a.s⟩ : Rw)] rfl rfl (unhide HNA) (unhide HLT) (unhide HLN).2.1 ?_; intro v9 w9 HN9 hg9; have HD9 := hide ((unhide HDR).bel (unhide HN9).2); clear hg9 HNA HLT)
                          | (at_builtin; go_loud (refine wpList_nr w7 _ rfl _ _ rfl _ _ _ (List.drop k0 R) rfl rfl (unhide HN9) (unhide HD9) (unhide HLN).2.2 ?_); intro vA wA HNA hgA; have HL7 := hide ((unhide HK) vA wA (unhide HNA)); obtain ⟨ao7, c7, e7⟩ := (unhide HL7).shape; subst e7; clear HN9 HNA hgA HD9 HK HLN HTK HN1)
                          | fail)
                        go_meet
                        case rel => exact ⟨_, _, _, _, rfl, ⟨hR7, (unhide HL7).more (by omega)⟩⟩
          case rest =>
            clear HL4 HB4 HFD x0 x1 x2 x3 x4 x5 x6 x7
            obtain ⟨R', F', ao7, c7, rfl, HL7⟩ := hcut
            have HCN := hide (count_any (unhide HL7).2.tr)
            go_wp2_with fail
            refine (unhide HCN).mono ?_
            rintro e w' ⟨rfl, hw⟩
            obtain rfl := hw.symm
            clear hw HCN
            go_wp2
            go_roundw
            case rel => first | exact ⟨k + 1, R', F', hlt, h60, by go_num, ⟨_, _, rfl⟩, HL7⟩ | ((repeat apply Exists.intro); exact ⟨⟨k + 1, R', F', hlt, h60, by go_num, ⟨_, _, rfl⟩, HL7⟩, rfl⟩)
            case measure => simp [intOf]; omega
        · obtain rfl : k = 60 := by omega
          have HBW := hide (unhide HLR).2.bel
          clear HLR
          go_wp2_with fail
          refine (wakes7 wr ((unhide HG).up (unhide HBW))).mono ?_
          rintro e w3 ⟨rfl, hb3⟩
          have HB3 := hide ((unhide HBW).trans (hb3.mono (unhide HBW).size))
          clear hb3 HBW
          go_wp2
          go_ret
          exact ⟨rfl, unhide HB3⟩
      · obtain rfl : k = len := by omega
        have HBW := hide (unhide HLR).2.bel
        clear HLR
        go_wp2_with fail
        refine (wakes7 wr ((unhide HG).up (unhide HBW))).mono ?_
        rintro e w3 ⟨rfl, hb3⟩
        have HB3 := hide ((unhide HBW).trans (hb3.mono (unhide HBW).size))
        clear hb3 HBW
        go_wp2
        go_ret
        exact ⟨rfl, unhide HB3⟩
end Go.Proofs.YtfmbncpefbpelaaGreatDoor.Y
