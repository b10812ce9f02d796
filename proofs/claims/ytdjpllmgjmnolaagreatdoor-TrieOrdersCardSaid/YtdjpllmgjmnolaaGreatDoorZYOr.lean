/- Proved here: the walk of TrieOrders: whatever acts are asked, it answers true. -/
import Derived.Test.YtdjpllmgjmnolaaGreatDoorM3
namespace Go.Proofs.YtdjpllmgjmnolaaGreatDoor.Y
open Go.RowKit Go.Maps
set_option maxRecDepth 100000

theorem srt_nb {L : List Rw} (h : Srt L) {q : Nat} (hq : q + 1 < L.length) : lt (L.getD q default) (L.getD (q + 1) default) := by
  have k := List.pairwise_iff_getElem.1 h q (q + 1) (by omega) hq (by omega)
  rw [List.getD_eq_getElem?_getD, List.getElem?_eq_getElem (by omega), List.getD_eq_getElem?_getD, List.getElem?_eq_getElem hq]
  exact k
set_option maxHeartbeats 20000000 in
theorem or_cons (b off len cap : Nat) (az : Nat → Ac) (w : World) (hg : Laid2 w) (hl : len ≤ 140737488351232) (hz : ∀ k, k < len → (az k).c.size ≤ 140737488351232 ∧ (az k).s.f.size ≤ 140737488351232 ∧ (az k).nm.size ≤ 140737488351232) (h : ∀ k, k < len → AcAt w b (off + k * 8) (az k)) : Calls Tryz.prog 4 #[.slice (some ⟨b, off, none⟩) len cap] w fun e w' => e = .returned (.bool true) ∧ Below w.heap.size w w' := by
  have HH := hide (heavy_cons b off len cap az w hl hz h)
  have HG := hide hg
  have HA : Hid (∀ W k, k < len → Below w.heap.size w W → AcAt W b (off + k * 8) (az k)) := fun W k hk hW => (h k hk).bel hW (cell_lt (h k hk).1)
  clear hg h hz
  go_enter Tryz.func4, Tryz.ntmps4
  go_wp2_with fail
  refine (unhide HH).mono ?_
  rintro e w1 ⟨rr, rfl, hlight, hb1⟩
  have HB1 := hide hb1
  clear hb1 HH
  cases rr with
  | true =>
    clear hlight
    go_wp2
    go_ret
    exact ⟨rfl, unhide HB1⟩
  | false =>
    have HLT : Hid (∀ k, k < len → k < 60 → (az k).c.size ≤ 20000 ∧ (az k).s.f.size ≤ 20000 ∧ (az k).nm.size ≤ 20000) := fun k h1 h2 => by
      have := hlight rfl k h1 h2
      unfold acw at this
      omega
    clear hlight
    go_wp2_with fail
    refine (new_any w1).mono ?_
    rintro e w2 ⟨rfl, HT1, hb2⟩
    have HB2 := hide ((unhide HB1).trans (hb2.mono (unhide HB1).size))
    clear hb2
    go_wp2_with fail
    refine (new_any w2).mono ?_
    rintro e w3 ⟨rfl, HT2, hb3⟩
    have HL0 : Hid (LO w w3 w1.heap.size w2.heap.size [] [] (fun k => k = w1.heap.size) (fun k => k = w2.heap.size) 0) := by
      have e : (fun x : Rw => x ∈ ([] : List Rw)) = fun _ => False := by funext x; simp
      have hlt := (unhide HT1).lt _ rfl
      refine ⟨by rw [e]; exact (unhide HT1).below hb3, by rw [e]; exact unhide HT2, List.Pairwise.nil, List.Pairwise.nil, ?_, ?_, ?_, (unhide HB2).trans (hb3.mono (unhide HB2).size)⟩
      · intro k hk; rw [hk]; exact (unhide HB1).size
      · intro k hk; rw [hk]; exact (unhide HB2).size
      · intro k h1 h2; omega
    generalize w1.heap.size = T1 at HL0 ⊢
    generalize w2.heap.size = T2 at HL0 ⊢
    clear hb3 HT1 HT2 HB1 HB2
    obtain ⟨n, hn, hnl, hn6⟩ : ∃ n : Nat, min (len : Int) 60 = n ∧ n ≤ len ∧ n ≤ 60 := ⟨min len 60, by omega, by omega, by omega⟩
    go_wp2_with fail
    have HLT2 : Hid (∀ k, k < n → (az k).c.size ≤ 20000 ∧ (az k).s.f.size ≤ 20000 ∧ (az k).nm.size ≤ 20000) := fun k h1 => (unhide HLT) k (by omega) (by omega)
    have HA2 : Hid (∀ W k, k < n → Below w.heap.size w W → AcAt W b (off + k * 8) (az k)) := fun W k h1 h2 => (unhide HA) W k (by omega) h2
    clear hn HLT HA
    go_loopw [6] (fun i wr => ∃ (k : Nat) (R1 R2 : List Rw) (F1 F2 : Nat → Prop), k ≤ n ∧ i = .int .i64 k ∧ Hid (R1.length ≤ k ∧ R2.length ≤ k ∧ In1 az k R1 ∧ In2 az n k R2 ∧ LO w wr T1 T2 R1 R2 F1 F2 (66 * k))) (fun i _ => n - (intOf i).toNat)
    case atStart => exact ⟨0, [], [], _, _, Nat.zero_le _, rfl, ⟨Nat.le_refl _, Nat.le_refl _, fun x => by simp, fun x => by simp; omega, unhide HL0⟩⟩
    case round =>
      clear HL0
      obtain ⟨k, R1, R2, F1, F2, hk, rfl, HLO⟩ := hrel
      by_cases hlt : k < n
      · obtain ⟨m, hm⟩ : ∃ m, m + k + 1 = n := ⟨n - k - 1, by omega⟩
        obtain ⟨hr1, hr2, hi1, hi2, hLO⟩ := unhide HLO
        have HI1 := hide hi1
        have HI2 := hide hi2
        have HA3 : Hid (∀ W, Below w.heap.size w W → AcAt W b (off + k * 8) (az k) ∧ AcAt W b (off + m * 8) (az m)) := fun W hW => ⟨(unhide HA2) W k hlt hW, (unhide HA2) W m (by omega) hW⟩
        obtain ⟨z1, z2, _⟩ := (unhide HLT2) k hlt
        obtain ⟨z4, z5, _⟩ := (unhide HLT2) m (by omega)
        have HS1 : Hid (∀ R1', (∀ x, x ∈ R1' ↔ (x ∈ R1 ∧ ¬ (okF (az k).s.f = true ∧ x.c = (az k).c ∧ x.s.f = (az k).s.f)) ∨ (okF (az k).s.f = true ∧ x = bare7 (az k).c (az k).s.f)) → In1 az (k + 1) R1') := fun R1' h => (unhide HI1).step h
        have HS2 : Hid (∀ R2', (∀ x, x ∈ R2' ↔ (x ∈ R2 ∧ ¬ (okF (az m).s.f = true ∧ x.c = (az m).c ∧ x.s.f = (az m).s.f)) ∨ (okF (az m).s.f = true ∧ x = bare7 (az m).c (az m).s.f)) → In2 az n (k + 1) R2') := fun R2' h => (unhide HI2).step hm h
        have ha := ((unhide HA3) wr hLO.bel).1
        generalize az k = a at HA3 HS1 z1 z2 ha
        generalize az m = a' at HA3 HS2 z4 z5
        obtain ⟨a0, a1, a2, a3, a4, a5, a6, a7⟩ := ha
        obtain ⟨w3, HW⟩ : ∃ w3, Hid (w3 = wr.alloc (.cells #[.string a.s.f, .int .i64 0, .bool false, .bool false, .int .i64 0] 28)) := ⟨_, rfl⟩
        have hb3 : Below wr.heap.size wr w3 := by rw [unhide HW]; exact (Below.refl _ _).alloc (Nat.le_refl _) _
        have HL3 := hide (hLO.bel2 hb3)
        have HBX : Hid (w3.cell? ⟨wr.heap.size, 0, none⟩ = some (.string a.s.f) ∧ w3.cell? ⟨wr.heap.size, 1, none⟩ = some (.int .i64 0) ∧ w3.cell? ⟨wr.heap.size, 2, none⟩ = some (.bool false) ∧ w3.cell? ⟨wr.heap.size, 3, none⟩ = some (.bool false) ∧ w3.cell? ⟨wr.heap.size, 4, none⟩ = some (.int .i64 0)) := by
          rw [unhide HW]
          refine ⟨?_, ?_, ?_, ?_, ?_⟩ <;> simp
        have HNX : Hid (¬ F1 wr.heap.size) := fun e => absurd (hLO.t1.lt _ e) (Nat.lt_irrefl _)
        have HS0 : Hid (w3.cell? ⟨b, off + k * 8 + 1, none⟩ = some (.string a.c)) := ((unhide HA3) w3 (unhide HL3).bel).1.2.1
        clear hi1 hi2 hLO hb3 HLO HI1 HI2
        go_wp2_with fail
        rw [← unhide HW]
        obtain ⟨X, hX⟩ : ∃ X, Hid (X = wr.heap.size) := ⟨_, rfl⟩
        rw [← unhide hX] at HBX HNX ⊢
        refine wp_region_noPanic ?_
        refine wp_region_held_drew (S := fun W => W.cell? ⟨b, off + k * 8 + 1, none⟩ = some (.string a.c) ∧ W.cell? ⟨X, 0, none⟩ = some (.string a.s.f) ∧ W.cell? ⟨X, 1, none⟩ = some (.int .i64 0) ∧ W.cell? ⟨X, 2, none⟩ = some (.bool false) ∧ W.cell? ⟨X, 3, none⟩ = some (.bool false) ∧ W.cell? ⟨X, 4, none⟩ = some (.int .i64 0)) (by kernel_rfl) ⟨unhide HS0, unhide HBX⟩ (fun hHeld => ?_)
        refine rtk 0 (h := ?_)
        refine rtk 1 (h := ?_)
        refine rtk 2 (h := ?_)
        refine rtk 3 (h := ?_)
        refine rtk 4 (h := ?_)
        refine rtk 5 (h := ?_)
        refine rtk 6 (h := ?_)
        refine rcl 7 (h := fun K hK => ?_)
        go_simp
        refine (((unhide HL3).bel2 (below_drewN (Below.refl _ _) 1)).add (unhide HG) a.c a.s.f (by omega) (by omega) (by omega) (by omega)).mono ?_
        rintro e w4 ⟨v4, rfl, R1', F1', hLO4, hfr4, hin4, hlen4⟩
        have HL4 := hide hLO4
        have HN4 := hide ((unhide HS1) R1' hin4)
        have hc4 : ∀ j v, w3.cell? ⟨X, j, none⟩ = some v → w4.cell? ⟨X, j, none⟩ = some v := fun j v hv => hfr4.cell (unhide HNX) (by exact hv)
        have HX4 : Hid (w4.cell? ⟨X, 0, none⟩ = some (.string a.s.f) ∧ w4.cell? ⟨X, 1, none⟩ = some (.int .i64 0) ∧ w4.cell? ⟨X, 2, none⟩ = some (.bool false) ∧ w4.cell? ⟨X, 3, none⟩ = some (.bool false) ∧ w4.cell? ⟨X, 4, none⟩ = some (.int .i64 0)) := ⟨hc4 _ _ (unhide HBX).1, hc4 _ _ (unhide HBX).2.1, hc4 _ _ (unhide HBX).2.2.1, hc4 _ _ (unhide HBX).2.2.2.1, hc4 _ _ (unhide HBX).2.2.2.2⟩
        refine hK.out _ _ ⟨((unhide HA3) w4 hLO4.bel).1.2.1, unhide HX4⟩ (fun hHeld => ?_)
        have hr3 : R1'.length ≤ k + 1 := by omega
        clear hK K hLO4 hfr4 hin4 hlen4 hc4 HS1
        refine wpAnyH_done (by kernel_rfl) ?_ _
        refine NoPanic.normal ?_
        have HS5 : Hid (w4.cell? ⟨b, off + m * 8 + 1, none⟩ = some (.string a'.c) ∧ w4.cell? ⟨b, off + m * 8 + 2, none⟩ = some (.string a'.s.f)) := ⟨((unhide HA3) w4 (unhide HL4).bel).2.2.1, ((unhide HA3) w4 (unhide HL4).bel).2.2.2.1⟩
        have hw1 : IntKind.i64.wrap ((n : Int) - 1) = ((m + k : Nat) : Int) := by rw [IntKind.wrap_i64]; omega
        have hw2 : IntKind.i64.wrap (m : Int) = (m : Int) := by rw [IntKind.wrap_i64]; omega
        go_wp2_with fail
        refine wp_region_noPanic ?_
        refine wp_region_held_drew (S := fun W => W.cell? ⟨b, off + m * 8 + 1, none⟩ = some (.string a'.c) ∧ W.cell? ⟨b, off + m * 8 + 2, none⟩ = some (.string a'.s.f)) (by kernel_rfl) (unhide HS5) (fun hHeld => ?_)
        refine rtk 0 (h := ?_)
        refine rtk 1 (h := ?_)
        refine rtk 2 (h := ?_)
        refine rtk 3 (v := .int .i64 ((m + k : Nat) : Int)) (hy := by refine Or.inl ⟨by rfl, ?_⟩; intro w hSw; go_simp; try rw [hw1]) (h := ?_)
        refine rtk 4 (h := ?_)
        refine rtk 5 (v := .int .i64 ((m : Nat) : Int)) (hy := by refine Or.inl ⟨by rfl, ?_⟩; intro w hSw; go_simp; try rw [hw2]) (h := ?_)
        refine rtk 6 (h := ?_)
        refine rtk 7 (h := ?_)
        refine rtk 8 (h := ?_)
        refine rtk 9 (h := ?_)
        refine rtk 10 (h := ?_)
        refine rtk 11 (v := .int .i64 ((m + k : Nat) : Int)) (hy := by refine Or.inl ⟨by rfl, ?_⟩; intro w hSw; go_simp; try rw [hw1]) (h := ?_)
        refine rtk 12 (h := ?_)
        refine rtk 13 (v := .int .i64 ((m : Nat) : Int)) (hy := by refine Or.inl ⟨by rfl, ?_⟩; intro w hSw; go_simp; try rw [hw2]) (h := ?_)
        refine rtk 14 (h := ?_)
        refine rtk 15 (h := ?_)
        refine rtk 16 (h := ?_)
        refine rtk 17 (h := ?_)
        refine rtk 18 (h := ?_)
        refine rcl 19 (h := fun K hK => ?_)
        go_simp
        refine ((((unhide HL4).bel2 (below_drewN (Below.refl _ _) 1)).swap).add (unhide HG) a'.c a'.s.f (by omega) (by omega) (by omega) (by omega)).mono ?_
        rintro e w5 ⟨v5, rfl, R2', F2', hLO5, _, hin5, hlen5⟩
        have HL5 := hide (hLO5.swap)
        have HN5 := hide ((unhide HS2) R2' hin5)
        refine hK.out _ _ ⟨((unhide HA3) w5 hLO5.bel).2.2.1, ((unhide HA3) w5 hLO5.bel).2.2.2.1⟩ (fun hHeld => ?_)
        have hr4 : R2'.length ≤ k + 1 := by omega
        clear hK K hLO5 hin5 hlen5 HS2
        refine wpAnyH_done (by kernel_rfl) ?_ _
        refine NoPanic.normal ?_
        go_wp2
        go_roundw
        case rel => exact ⟨k + 1, R1', R2', F1', F2', by omega, by go_num, ⟨hr3, hr4, unhide HN4, unhide HN5, (unhide HL5).more (by omega)⟩⟩
        case measure => simp [intOf]; omega
      · obtain rfl : k = n := by omega
        obtain ⟨hr1, hr2, hi1, hi2, hLO⟩ := unhide HLO
        obtain rfl := in_same hi1 hi2 hLO.s1 hLO.s2
        have HI := hide hi1
        have HL5 := hide hLO
        have HC1 := hide (count_any hLO.t1)
        have HC2 := hide (count_any hLO.t2)
        clear hi1 hi2 hLO HLO hr2
        go_wp2_with fail
        refine (unhide HC1).mono ?_
        rintro e wc ⟨rfl, hwc⟩
        obtain rfl := hwc.symm
        go_wp2_with fail
        refine (unhide HC2).mono ?_
        rintro e wc ⟨rfl, hwc⟩
        obtain rfl := hwc.symm
        clear HC1 HC2 hwc
        obtain ⟨wa, hwa⟩ : ∃ wa, wa = wr := ⟨wr, rfl⟩
        subst hwa
        go_wp2_with fail
        go_loopw [8] (fun i wr => ∃ j : Nat, j ≤ k ∧ i = .int .i64 j ∧ Hid (LO w wr T1 T2 R1 R1 F1 F2 (66 * k))) (fun i _ => k - (intOf i).toNat)
        case atStart => exact ⟨0, Nat.zero_le _, rfl, HL5⟩
        case round =>
          clear HL5
          obtain ⟨j, hj, rfl, HLO⟩ := hrel
          obtain ⟨wb, hwb⟩ : ∃ wb, wb = wr := ⟨wr, rfl⟩
          subst hwb
          by_cases hjk : j < k
          · have hi1 : (j : Int) < k := by omega
            obtain ⟨_, _, z3⟩ := (unhide HLT2) j hjk
            have HA3 : Hid (∀ W, Below w.heap.size w W → W.cell? ⟨b, off + j * 8 + 7, none⟩ = some (.string (az j).nm)) := fun W hW => ((unhide HA2) W j hjk hW).2.2.2.2.2.2.2
            generalize (az j).nm = nm at HA3 z3
            have x7 := (unhide HA3) wb (unhide HLO).bel
            cases hnm : isName nm.data.toList with
            | false =>
              have HM : Hid (∀ W T, Calls Tryz.prog 12 #[.pointer (some ⟨T, 0, none⟩), .string nm] W fun e w' => ∃ x, e = .returned (.tuple #[.slice none 0 0, .iface 86 x]) ∧ Hid (ErrX w' (.iface 86 x) 5) ∧ Below W.heap.size W w') := fun W T => match_no nm (by omega) hnm
              clear hnm
              go_wp2_with fail
              refine ((unhide HM) _ _).mono ?_
              rintro e w6 ⟨x, rfl, HE, hb6⟩
              have HL6 := hide ((unhide HLO).bel2 hb6)
              have x8 := (unhide HA3) w6 (unhide HL6).bel
              clear hb6 x7 HLO
              go_wp2_with fail
              refine ((unhide HM) _ _).mono ?_
              rintro e w7 ⟨y, rfl, HE2, hb7⟩
              have HL7 := hide ((unhide HL6).bel2 hb7)
              have HN7 := hide (num7 (.iface 86 x) 5 w7 ((unhide HG).up (unhide HL7).bel).1 ((unhide HE).below hb7))
              clear hb7 x8 HL6 HE HM
              go_wp2_with fail
              refine (unhide HN7).mono ?_
              rintro e w8 ⟨rfl, hb8⟩
              have HL8 := hide ((unhide HL7).bel2 hb8)
              have HN8 := hide (num7 (.iface 86 y) 5 w8 ((unhide HG).up (unhide HL8).bel).1 ((unhide HE2).below hb8))
              clear hb8 HL7 HN7 HE2
              go_wp2_with fail
              refine (unhide HN8).mono ?_
              rintro e w9 ⟨rfl, hb9⟩
              have HL9 := hide ((unhide HL8).bel2 hb9)
              have HS := hide (same_any (.slice none 0 0) (.slice none 0 0) [] w9 (by decide) (rows_nil _) (rows_nil _))
              clear hb9 HL8 HN8
              go_wp2_with fail
              refine (unhide HS).mono ?_
              rintro e w10 ⟨rfl, hb10⟩
              have HL10 := hide ((unhide HL9).bel2 hb10)
              clear hb10 HL9 HS
              go_wp2_with fail
              refine wp_loop_rounds 1 ?_
              rw [rounds_succ]
              go_wp2
              go_roundw
              case rel => exact ⟨j + 1, by omega, by go_num, HL10⟩
              case measure => simp [intOf]; omega
            | true =>
              obtain ⟨P, HP⟩ : ∃ P : Rw → Bool, Hid (P = fun x => hits x.s.f.data.toList nm.data.toList) := ⟨_, rfl⟩
              have HM : Hid (∀ W T F M, Below w.heap.size w W → TR W T (fun x => x ∈ R1) R1.length F M → Calls Tryz.prog 12 #[.pointer (some ⟨T, 0, none⟩), .string nm] W (MatEnd W (R1.filter P))) := fun W T F M hb ht => by
                rw [unhide HP]
                exact match_yes nm (by omega) ((unhide HG).up hb).2 ht (fun x => Iff.rfl) (unhide HLO).s1 (by omega) hnm
              have HTF : Hid (∀ u, u ∈ R1.filter P → ∃ g p : ByteArray, (∀ W, Below w.heap.size w W → Calls Tryz.prog 19 #[.string u.s.f] W fun e w' => e = .returned (.tuple #[.string g, .string p, .nilIface]) ∧ Below W.heap.size W w') ∧ (∀ W, Below w.heap.size w W → Calls Tryz.prog 20 #[.string p, .string nm] W fun e w' => e = .returned (.tuple #[.bool true, .nilIface]) ∧ Below W.heap.size W w')) := fun u hu => by
                obtain ⟨h1, h2⟩ := List.mem_filter.1 hu
                rw [unhide HP] at h2
                obtain ⟨g, p, t1, t2⟩ := tf_any u ((unhide HLO).ok u h1) nm (by omega) hnm h2
                exact ⟨g, p, fun W hW => t1 W ((unhide HG).up hW).2, fun W hW => t2 W ((unhide HG).up hW).2⟩
              have HST : Hid (Srt (R1.filter P)) := List.Pairwise.filter _ (unhide HLO).s1
              have hll : (R1.filter P).length ≤ k := Nat.le_trans (List.length_filter_le P R1) hr1
              have HM1 := hide ((unhide HM) wb T1 F1 _ (unhide HLO).bel (unhide HLO).t1)
              clear hnm HP
              go_wp2_with fail
              refine (unhide HM1).mono ?_
              rintro e w6 ⟨hv, rfl, HO6, hb6⟩
              have HL6 := hide ((unhide HLO).bel2 hb6)
              have HR6 := hide (rows_in rfl (unhide HO6))
              have x8 := (unhide HA3) w6 (unhide HL6).bel
              have HM2 := hide ((unhide HM) w6 T2 F2 _ (unhide HL6).bel (unhide HL6).t2)
              clear hb6 x7 HLO HM1 HM HO6
              go_wp2_with fail
              refine (unhide HM2).mono ?_
              rintro e w7 ⟨hv2, rfl, HO7, hb7⟩
              have HL7 := hide ((unhide HL6).bel2 hb7)
              have HR7 := hide (rows_in rfl (unhide HO7))
              have HX7 := hide ((unhide HR6).bel hb7)
              have HN : Hid (∀ W, Below w.heap.size w W → Calls Tryz.prog 13 #[.nilIface] W fun e w' => e = .returned (.int .i64 0) ∧ Below W.heap.size W w') := fun W hW => num7 .nilIface 0 W ((unhide HG).up hW).1 (.inl ⟨rfl, rfl⟩)
              have HN7 := hide ((unhide HN) w7 (unhide HL7).bel)
              clear hb7 x8 HL6 HR6 HM2 HO7
              go_wp2_with fail
              refine (unhide HN7).mono ?_
              rintro e w8 ⟨rfl, hb8⟩
              have HL8 := hide ((unhide HL7).bel2 hb8)
              have HR8 := hide ((unhide HR7).bel hb8)
              have HX8 := hide ((unhide HX7).bel hb8)
              have HN8 := hide ((unhide HN) w8 (unhide HL8).bel)
              clear hb8 HL7 HR7 HX7 HN7
              go_wp2_with fail
              refine (unhide HN8).mono ?_
              rintro e w9 ⟨rfl, hb9⟩
              have HL9 := hide ((unhide HL8).bel2 hb9)
              have HX9 := hide ((unhide HX8).bel hb9)
              have HS := hide (same_any hv hv2 (R1.filter P) w9 (by omega) (unhide HX9) ((unhide HR8).bel hb9))
              clear hb9 HL8 HX8 HR8 HN8
              go_wp2_with fail
              refine (unhide HS).mono ?_
              rintro e w10 ⟨rfl, hb10⟩
              have HL10 := hide ((unhide HL9).bel2 hb10)
              obtain ⟨ao, cp, rfl, _, hao⟩ := (unhide HX9).bel hb10
              clear hb10 HL9 HS HX9
              generalize R1.filter P = L at HTF HST hll hao
              have HAO := hide hao
              clear hao
              obtain ⟨ln, HLN⟩ : ∃ ln, Hid (L.length = ln) := ⟨_, rfl⟩
              rw [unhide HLN] at hll ⊢
              go_wp2_with fail
              go_loopw [13] (fun i wr => ∃ m : Nat, m ≤ ln ∧ i = .int .i64 m ∧ Hid (Below w10.heap.size w10 wr)) (fun i _ => ln - (intOf i).toNat)
              case atStart => exact ⟨0, Nat.zero_le _, rfl, Below.refl _ _⟩
              case round =>
                obtain ⟨m, hm, rfl, HBM⟩ := hrel
                have HLM := hide ((unhide HL10).bel2 (unhide HBM))
                by_cases hml : m < ln
                · obtain ⟨g, of2, rfl, HROW⟩ : ∃ g of2, ao = some ⟨g, of2, none⟩ ∧ Hid (∀ i, i < ln → RwAt w10 g (of2 + i * 6) (L.getD i default)) := by
                    rcases unhide HAO with ⟨_, e, _⟩ | ⟨g, of2, e, h⟩
                    · exfalso
                      have := unhide HLN
                      rw [e] at this
                      simp at this
                      omega
                    · exact ⟨g, of2, e, fun i hi => h i (by have := unhide HLN; omega)⟩
                  obtain ⟨u, hue⟩ : ∃ u, Hid (L.getD m default = u) := ⟨_, rfl⟩
                  have HU : Hid (∀ W, Below w10.heap.size w10 W → RwAt W g (of2 + m * 6) u) := fun W hW => by
                    rw [← unhide hue]
                    exact ((unhide HROW) m hml).bel hW
                  obtain ⟨gg, pp, hTF, hTM⟩ := (unhide HTF) u (by rw [← unhide hue]; exact getD_mem (by rw [unhide HLN]; exact hml))
                  have HFL := hide hTF
                  have HMT := hide hTM
                  have u1 := ((unhide HU) wr (unhide HBM)).2.1
                  clear hTF hTM
                  go_wp2_with fail
                  refine ((unhide HFL) _ (unhide HLM).bel).mono ?_
                  rintro e w11 ⟨rfl, hb11⟩
                  have HB11 := hide ((unhide HBM).trans (hb11.mono (unhide HBM).size))
                  have HL11 := hide ((unhide HL10).bel2 (unhide HB11))
                  clear hb11 u1 HFL HLM HBM
                  go_wp2_with fail
                  refine ((unhide HN) _ (unhide HL11).bel).mono ?_
                  rintro e w12 ⟨rfl, hb12⟩
                  have HB12 := hide ((unhide HB11).trans (hb12.mono (unhide HB11).size))
                  have HL12 := hide ((unhide HL10).bel2 (unhide HB12))
                  have x9 := (unhide HA3) w12 (unhide HL12).bel
                  clear hb12 HB11 HL11
                  go_wp2_with fail
                  refine ((unhide HMT) _ (unhide HL12).bel).mono ?_
                  rintro e w13 ⟨rfl, hb13⟩
                  have HB13 := hide ((unhide HB12).trans (hb13.mono (unhide HB12).size))
                  have HL13 := hide ((unhide HL10).bel2 (unhide HB13))
                  clear hb13 HB12 HL12 x9 HMT
                  cases m with
                  | zero =>
                    go_wp2_with fail
                    refine wp_region_noPanic ?_
                    refine wp_region_held_drew (S := fun _ => True) (by kernel_rfl) trivial (fun hHeld => ?_)
                    refine rtk 0 (h := ?_)
                    refine rcl 1 (h := fun K hK => ?_)
                    go_simp
                    refine ((unhide HN) _ (below_drewN (unhide HL13).bel 1)).mono ?_
                    rintro e w14 ⟨rfl, hb14⟩
                    have HB14 : Hid (Below w10.heap.size w10 w14) := (below_drewN (unhide HB13) 1).trans (hb14.mono (unhide HB13).size)
                    refine hK.out _ _ trivial (fun hHeld => ?_)
                    clear hK K hb14
                    refine rtk 2 (h := ?_)
                    refine rtk 3 (h := ?_)
                    refine rtk 4 (h := ?_)
                    refine rtk 5 (h := ?_)
                    refine rtk 6 (h := ?_)
                    refine rtk 7 (h := ?_)
                    refine rtk 8 (h := ?_)
                    refine rtk 9 (h := ?_)
                    refine rtk 10 (h := ?_)
                    refine rsk 11 (h := ?_)
                    refine rsk 12 (h := ?_)
                    refine rsk 13 (h := ?_)
                    refine rsk 14 (h := ?_)
                    refine rsk 15 (h := ?_)
                    refine rsk 16 (h := ?_)
                    refine rsk 17 (h := ?_)
                    refine rsk 18 (h := ?_)
                    refine rsk 19 (h := ?_)
                    refine rsk 20 (h := ?_)
                    refine rsk 21 (h := ?_)
                    refine rtk 22 (h := ?_)
                    refine rtk 23 (h := ?_)
                    refine wpAnyH_done (by kernel_rfl) ?_ _
                    refine NoPanic.normal ?_
                    clear HB13 HL13
                    go_wp2
                    go_roundw
                    case rel => exact ⟨1, by omega, by go_num, HB14⟩
                    case measure => simp [intOf]; omega
                  | succ q =>
                    obtain ⟨u', hue'⟩ : ∃ u, Hid (L.getD q default = u) := ⟨_, rfl⟩
                    have HU' : Hid (∀ W, Below w10.heap.size w10 W → RwAt W g (of2 + q * 6) u') := fun W hW => by
                      rw [← unhide hue']
                      exact ((unhide HROW) q (by omega)).bel hW
                    have hlt : lt u' u := by
                      rw [← unhide hue', ← unhide hue]
                      exact srt_nb (unhide HST) (by rw [unhide HLN]; exact hml)
                    have HBF : Hid (∀ W, Calls Tryz.prog 21 #[rv u', rv u] W fun e w' => e = .returned (.bool true) ∧ Below W.heap.size W w') := fun W => by
                      have := before_any u' u W
                      rw [decide_eq_true hlt] at this
                      exact this
                    have HS0 := hide (⟨(unhide HU') w13 (unhide HB13), (unhide HU) w13 (unhide HB13)⟩ : RwAt w13 g (of2 + q * 6) u' ∧ RwAt w13 g (of2 + (q + 1) * 6) u)
                    have hw1 : IntKind.i64.wrap (q : Int) = (q : Int) := by rw [IntKind.wrap_i64]; omega
                    have hm0 : (0 : Int) < ((q + 1 : Nat) : Int) := by omega
                    clear hlt
                    go_wp2_with fail
                    refine wp_region_noPanic ?_
                    refine wp_region_held_drew (S := fun W => RwAt W g (of2 + q * 6) u' ∧ RwAt W g (of2 + (q + 1) * 6) u) (by kernel_rfl) (unhide HS0) (fun hHeld => ?_)
                    unfold RwAt at hHeld ⊢
                    refine rtk 0 (h := ?_)
                    refine rcl 1 (h := fun K hK => ?_)
                    go_simp
                    refine ((unhide HN) _ (below_drewN (unhide HL13).bel 1)).mono ?_
                    rintro e w14 ⟨rfl, hb14⟩
                    have HB14 : Hid (Below w10.heap.size w10 w14) := (below_drewN (unhide HB13) 1).trans (hb14.mono (unhide HB13).size)
                    refine hK.out _ _ ⟨(unhide HU') w14 (unhide HB14), (unhide HU) w14 (unhide HB14)⟩ (fun hHeld => ?_)
                    clear hK K hb14
                    refine rtk 2 (h := ?_)
                    refine rtk 3 (h := ?_)
                    refine rtk 4 (h := ?_)
                    refine rtk 5 (h := ?_)
                    refine rtk 6 (h := ?_)
                    refine rtk 7 (h := ?_)
                    refine rtk 8 (h := ?_)
                    refine rtk 9 (h := ?_)
                    refine rtk 10 (h := ?_)
                    refine rtk 11 (h := ?_)
                    refine rtk 12 (h := ?_)
                    refine rtk 13 (v := .int .i64 ((q : Nat) : Int)) (hy := by refine Or.inl ⟨by rfl, ?_⟩; intro w hSw; go_simp; try rw [hw1]) (h := ?_)
                    refine rtk 14 (h := ?_)
                    refine rtk 15 (h := ?_)
                    refine rtk 16 (h := ?_)
                    refine rtk 17 (h := ?_)
                    refine rtk 18 (h := ?_)
                    refine rtk 19 (h := ?_)
                    refine rcl 20 (h := fun K hK => ?_)
                    go_simp
                    refine ((unhide HBF) _).mono ?_
                    rintro e w15 ⟨rfl, hb15⟩
                    have HB15 : Hid (Below w10.heap.size w10 w15) := (unhide HB14).trans (hb15.mono (unhide HB14).size)
                    refine hK.out _ _ ⟨(unhide HU') w15 (unhide HB15), (unhide HU) w15 (unhide HB15)⟩ (fun hHeld => ?_)
                    clear hK K hb15
                    refine rtk 21 (h := ?_)
                    refine rtk 22 (h := ?_)
                    refine rtk 23 (h := ?_)
                    refine wpAnyH_done (by kernel_rfl) ?_ _
                    refine NoPanic.normal ?_
                    clear HB13 HL13 HB14 HS0
                    go_wp2
                    go_roundw
                    case rel => exact ⟨q + 1 + 1, by omega, by go_num, HB15⟩
                    case measure => simp [intOf]; omega
                · obtain rfl : m = ln := by omega
                  go_wp2
                  go_roundw
                  case rel => exact ⟨j + 1, by omega, by go_num, HLM⟩
                  case measure => simp [intOf]; omega
          · obtain rfl : k = j := by omega
            have HF0 : Hid (Lft az k 0 R1) := Lft.of (unhide HI)
            clear HI
            go_wp2_with fail
            go_loopw [19] (fun i wr => ∃ (j : Nat) (R' : List Rw), j ≤ k ∧ i = .int .i64 j ∧ Hid (R'.length ≤ k ∧ Lft az k j R' ∧ LO w wr T1 T2 R' R1 F1 F2 (66 * k))) (fun i _ => k - (intOf i).toNat)
            case atStart => exact ⟨0, R1, Nat.zero_le _, rfl, ⟨hr1, unhide HF0, unhide HLO⟩⟩
            case round =>
              clear HF0 HLO
              obtain ⟨i, R', hi, rfl, HR⟩ := hrel
              by_cases hik : i < k
              · obtain ⟨z1, z2, _⟩ := (unhide HLT2) i hik
                obtain ⟨hrl, hlf, hLO⟩ := unhide HR
                have HA3 : Hid (∀ W, Below w.heap.size w W → W.cell? ⟨b, off + i * 8 + 1, none⟩ = some (.string (az i).c) ∧ W.cell? ⟨b, off + i * 8 + 2, none⟩ = some (.string (az i).s.f)) := fun W hW => ⟨((unhide HA2) W i hik hW).2.1, ((unhide HA2) W i hik hW).2.2.1⟩
                have HST : Hid (∀ R'', (∀ x, x ∈ R'' ↔ x ∈ R' ∧ ¬ (x.c = (az i).c ∧ x.s.f = (az i).s.f)) → Lft az k (i + 1) R'') := fun R'' h => hlf.step h
                have HL5 := hide hLO
                have HS0 := hide ((unhide HA3) wr hLO.bel)
                generalize (az i).c = c at HA3 HST HS0 z1
                generalize (az i).s.f = f at HA3 HST HS0 z2
                clear hlf hLO HR
                go_wp2_with fail
                refine wp_region_noPanic ?_
                refine wp_region_held_drew (S := fun W => W.cell? ⟨b, off + i * 8 + 1, none⟩ = some (.string c) ∧ W.cell? ⟨b, off + i * 8 + 2, none⟩ = some (.string f)) (by kernel_rfl) (unhide HS0) (fun hHeld => ?_)
                refine rtk 0 (h := ?_)
                refine rtk 1 (h := ?_)
                refine rtk 2 (h := ?_)
                refine rtk 3 (h := ?_)
                refine rtk 4 (h := ?_)
                refine rtk 5 (h := ?_)
                refine rtk 6 (h := ?_)
                refine rtk 7 (h := ?_)
                refine rtk 8 (h := ?_)
                refine rtk 9 (h := ?_)
                refine rtk 10 (h := ?_)
                refine rtk 11 (h := ?_)
                refine rcl 12 (h := fun K hK => ?_)
                go_simp
                refine (((unhide HL5).bel2 (below_drewN (Below.refl _ _) 1)).rem (unhide HG) c f (by omega) (by omega) (by omega)).mono ?_
                rintro e w4 ⟨v4, rfl, R4, hLO4, hfr4, hin4, hlen4⟩
                have HL6 := hide hLO4
                have HN4 := hide ((unhide HST) R4 hin4)
                refine hK.out _ _ ((unhide HA3) w4 hLO4.bel) (fun hHeld => ?_)
                have hr4 : R4.length ≤ k := by omega
                clear hK K hLO4 hfr4 hin4 hlen4 HST HL5 HS0
                refine wpAnyH_done (by kernel_rfl) ?_ _
                refine NoPanic.normal ?_
                go_wp2
                go_roundw
                case rel => exact ⟨i + 1, R4, by omega, by go_num, ⟨hr4, unhide HN4, unhide HL6⟩⟩
                case measure => simp [intOf]; omega
              · obtain rfl : k = i := by omega
                obtain ⟨_, hlf, hLO⟩ := unhide HR
                obtain rfl := hlf.done
                have HL5 := hide hLO
                have HM := hide (match_yes (w := wr) (T := T1) (R := []) ⟨#[97]⟩ (by decide) ((unhide HG).up hLO.bel).2 hLO.t1 (fun x => Iff.rfl) hLO.s1 (by decide) (by decide))
                clear hlf hLO HR
                go_wp2_with fail
                refine (unhide HM).mono ?_
                rintro e w6 ⟨hv, rfl, HO6, hb6⟩
                have HL6 := hide ((unhide HL5).bel2 hb6)
                obtain ⟨ao, cp, rfl, _, _⟩ := rows_in rfl (unhide HO6)
                have HC := hide (count_any (unhide HL6).t1)
                clear hb6 HL5 HM HO6
                simp only [List.filter_nil, List.length_nil] at HC ⊢
                go_wp2_with fail
                refine (unhide HC).mono ?_
                rintro e wc ⟨rfl, hwc⟩
                obtain rfl := hwc.symm
                have HN := hide (num7 .nilIface 0 w6 ((unhide HG).up (unhide HL6).bel).1 (.inl ⟨rfl, rfl⟩))
                clear HC
                go_wp2_with fail
                refine (unhide HN).mono ?_
                rintro e w8 ⟨rfl, hb8⟩
                have HB8 := hide ((unhide HL6).bel.trans (hb8.mono (unhide HL6).bel.size))
                have HW := hide (wakes7 w8 ((unhide HG).up (unhide HB8)))
                clear hb8 HN HL6
                go_wp2_with fail
                refine (unhide HW).mono ?_
                rintro e w9 ⟨rfl, hb9⟩
                have HB9 := hide ((unhide HB8).trans (hb9.mono (unhide HB8).size))
                clear hb9 HW
                go_wp2
                go_ret
                exact ⟨rfl, unhide HB9⟩
end Go.Proofs.YtdjpllmgjmnolaaGreatDoor.Y
