/- Proved here: the walk of dovecotelaw16.QuorumChanges: whatever lists it is handed, it returns true. Helper contract. -/
import Derived.Test.YtnflgfpicigajaaDoorZUCh
import Derived.Test.YtnflgfpicigajaaDoorZULw
import Derived.Test.YtnflgfpicigajaaDoorZKTk
namespace Go.Proofs.YtnflgfpicigajaaDoor.Qu
open Go.RowKit Nt
set_option maxRecDepth 100000

theorem u7_at {j : Nat} (h : j < 7) : U7.getD j 0 = (j : Int) + 1 := by
  match j, h with
  | 0, _ => rfl
  | 1, _ => rfl
  | 2, _ => rfl
  | 3, _ => rfl
  | 4, _ => rfl
  | 5, _ => rfl
  | 6, _ => rfl
/-- how many of the numbers below q, from 1 on -/
def uK (p : Int → Bool) (q : Nat) : Nat := cK U7 p (q - 1)
theorem uK_yes {p : Int → Bool} {q : Nat} (h1 : 1 ≤ q) (h7 : q ≤ 7) (hp : p (q : Int) = true) : uK p (q + 1) = uK p q + 1 := by
  obtain ⟨j, rfl⟩ : ∃ j, q = j + 1 := ⟨q - 1, by omega⟩
  have hj : j < 7 := by omega
  show cK U7 p (j + 1) = cK U7 p j + 1
  exact cK_yes (show j < U7.length from hj) (by rw [u7_at hj]; exact hp)
theorem uK_no {p : Int → Bool} {q : Nat} (h1 : 1 ≤ q) (h7 : q ≤ 7) (hp : p (q : Int) = false) : uK p (q + 1) = uK p q := by
  obtain ⟨j, rfl⟩ : ∃ j, q = j + 1 := ⟨q - 1, by omega⟩
  have hj : j < 7 := by omega
  show cK U7 p (j + 1) = cK U7 p j
  exact cK_no (show j < U7.length from hj) (by rw [u7_at hj]; exact hp)
theorem uK_le (p : Int → Bool) (q : Nat) : uK p q ≤ q := Nat.le_trans (cK_le U7 p (q - 1)) (by omega)
theorem atL_geq {l : List Int} {x z : Int} (h : AtL l x z) : decide (z ≥ 0) = decide (x ∈ l) := by
  rcases h with ⟨h1, h2, _⟩ | ⟨h1, rfl⟩
  · rw [decide_eq_true h1, decide_eq_true h2]
  · rw [decide_eq_false h1]; rfl
set_option maxHeartbeats 8000000 in
theorem changes16_walk (g off len cap : Nat) (f : Nat → Ak) (w : World) (hg : Laid w) (ha : AksIn w g off f len) :
    Calls Tryd.prog 7 #[.slice (some ⟨g, off, none⟩) len cap] w fun e w' => e = .returned (.bool true) ∧ Below w.heap.size w w' := by
  have HA := hide ha
  have HG := hide hg
  clear ha hg
  go_enter Tryd.func7, Tryd.ntmps7
  go_wp2
  go_loopw [3] (fun ii wr => ∃ k : Nat, k ≤ len ∧ ii = .int .i64 k ∧ Hid (Below w.heap.size w wr)) (fun ii _ => len - (intOf ii).toNat)
  case atStart => exact ⟨0, Nat.zero_le _, rfl, Below.refl _ _⟩
  case round =>
    obtain ⟨k, hk, rfl, HB⟩ := hrel
    by_cases h8 : k < len ∧ k < 8
    · obtain ⟨hlt, h8⟩ := h8
      obtain ⟨⟨q0, q1, q2, q3, q4⟩, ⟨hl1, hl2, hl3, hl4⟩, hs⟩ := (unhide HA) k hlt
      generalize f k = ak at q0 q1 q2 q3 q4 hl1 hl2 hl3 hl4 hs
      obtain ⟨⟨a1, n1, c1⟩, ⟨a2, n2, c2⟩, ⟨a3, n3, c3⟩, ⟨a4, n4, c4⟩, s, lm, lo, lv, lt⟩ := ak
      dsimp only at q0 q1 q2 q3 q4 hl1 hl2 hl3 hl4 hs
      unfold LsS at hl1 hl2 hl3 hl4
      dsimp only at hl1 hl2 hl3 hl4
      have HC : Hid (∀ W, Below w.heap.size w W → W.cell? ⟨g, off + k * 5, none⟩ = some (.slice a1 n1 c1) ∧ W.cell? ⟨g, off + k * 5 + 1, none⟩ = some (.slice a2 n2 c2) ∧ W.cell? ⟨g, off + k * 5 + 2, none⟩ = some (.slice a3 n3 c3) ∧ W.cell? ⟨g, off + k * 5 + 3, none⟩ = some (.slice a4 n4 c4) ∧ W.cell? ⟨g, off + k * 5 + 4, none⟩ = some (.string s)) := fun W hW =>
        ⟨(hW.cell (p := ⟨g, off + k * 5, none⟩) (cell_lt q0)).trans q0, (hW.cell (p := ⟨g, off + k * 5 + 1, none⟩) (cell_lt q1)).trans q1, (hW.cell (p := ⟨g, off + k * 5 + 2, none⟩) (cell_lt q2)).trans q2, (hW.cell (p := ⟨g, off + k * 5 + 3, none⟩) (cell_lt q3)).trans q3, (hW.cell (p := ⟨g, off + k * 5 + 4, none⟩) (cell_lt q4)).trans q4⟩
      have H1 := hide hl1
      have H2 := hide hl2
      have H3 := hide hl3
      have H4 := hide hl4
      have HV := hide (fun W => heavy_any a1 a2 a3 a4 n1 c1 n2 c2 n3 c3 n4 c4 s W hl1.2.2.2.1 hl2.2.2.2.1 hl3.2.2.2.1 hl4.2.2.2.1 hs)
      have hn1 := hl1.2.2.2.1
      clear q0 q1 q2 q3 q4 hl1 hl2 hl3 hl4 hs
      obtain ⟨q0, q1, q2, q3, q4⟩ := (unhide HC) _ (unhide HB)
      go_wp2_with fail
      refine (unhide HV _).mono ?_
      rintro e w1 ⟨⟨d, rfl, HD⟩, hb⟩
      have HB1 : Hid (Below w.heap.size w w1) := bnx (unhide HB) hb
      clear hb q0 q1 q2 q3 q4
      cases d
      · clear HD HV
        obtain ⟨q0, q1, q2, q3, q4⟩ := (unhide HC) _ (unhide HB1)
        go_wp2_with fail
        refine (rmem_any a1 n1 c1 lm _ ((unhide H1).below (unhide HB1))).mono ?_
        rintro e w2 ⟨rfl, qq, hw⟩
        have HB2 : Hid (Below w.heap.size w w2) := by show Below _ _ _; rw [hw]; exact below_drewN (unhide HB1) _
        clear hw q0 q1 q2 q3 q4
        by_cases hM : Mem lm
        · rw [decide_eq_true hM]
          have HM := hide hM
          clear hM
          go_wp2
          go_loopw [4] (fun aa wr => ∃ ka : Nat, ka ≤ 128 ∧ aa = .int .i64 ka ∧ Hid (Below w.heap.size w wr)) (fun aa _ => 128 - (intOf aa).toNat)
          case atStart => exact ⟨0, Nat.zero_le _, rfl, HB2⟩
          case round =>
            obtain ⟨wo, hwo⟩ : ∃ wo, wo = wr := ⟨wr, rfl⟩
            subst hwo
            obtain ⟨ka, hka, rfl, HB3⟩ := hrel
            by_cases hla : ka < 128
            · have HMS := hide (set_mem hla)
              have hsl : (setL ka).length ≤ 7 := setK_len ka 7
              have HST := hide (fun W => set_any ka W hla)
              go_wp2_with fail
              refine (unhide HST _).mono ?_
              rintro e w4 ⟨⟨ao, sn, sc, rfl, HO⟩, HBs⟩
              have HB4 : Hid (Below w.heap.size w w4) := bnx (unhide HB3) (unhide HBs)
              have hsn : (setL ka).length = sn := (unhide HO).ls.1
              rw [hsn] at hsl
              have hso : wo.heap.size ≤ w4.heap.size := (unhide HBs).size
              generalize setL ka = v at HMS HO hsn
              have HSN := hide hsn
              clear hsn HST
              have hchg := chg_unl (unhide HM) (unhide HMS)
              obtain ⟨d, hd⟩ : ∃ d, d = chgB lm v := ⟨_, rfl⟩
              have HEN := hide hd
              rw [← hd] at hchg
              have HDN := hide hchg
              have HEN2 := hide hd
              have HMS2 := HMS
              clear hd hchg HMS HBs
              go_wp2
              go_loopw [6, 7] (fun c i wi => ∃ j qq : Nat, (1 ≤ j ∧ j ≤ 8) ∧ i = .int .i64 j ∧ c = .int .i64 (uK (fun x => decide (x ∈ v) != decide (x ∈ lm)) j : Nat) ∧ wi = w4.drewN qq) (fun _ i _ => 9 - (intOf i).toNat)
              case atStart => exact ⟨1, 0, by omega, rfl, rfl, rfl⟩
              case round =>
                obtain ⟨j, qq, ⟨hj1, hj⟩, rfl, rfl, rfl⟩ := hrel
                by_cases hlj : j ≤ 7
                · have HY := hide (fun h => uK_yes (p := fun x => decide (x ∈ v) != decide (x ∈ lm)) hj1 hlj h)
                  have HN := hide (fun h => uK_no (p := fun x => decide (x ∈ v) != decide (x ∈ lm)) hj1 hlj h)
                  have hck := uK_le (fun x => decide (x ∈ v) != decide (x ∈ lm)) j
                  generalize uK (fun x => decide (x ∈ v) != decide (x ∈ lm)) j = c at HY HN hck ⊢
                  go_wp2_with fail
                  have HBd : Hid (Below w4.heap.size w4 ((w4.drewN qq).drew)) := below_drewN (below_drewN (Below.refl _ _) qq) 1
                  have HS : Hid (∀ W, Below w4.heap.size w4 W → W.cell? ⟨g, off + k * 5, none⟩ = some (.slice a1 n1 c1)) := fun W hW => ((unhide HC) _ (bnx (unhide HB4) hW)).1
                  refine wp_region_noPanic ?_
                  refine wp_region_held_drew (S := fun W => W.cell? ⟨g, off + k * 5, none⟩ = some (.slice a1 n1 c1)) (by kernel_rfl) ((unhide HS) _ (unhide HBd)) (fun hHeld => ?_)
                  refine rtk 0 (h := ?_)
                  refine rtk 1 (h := ?_)
                  refine rtk 4 (h := ?_)
                  refine rtk 5 (h := ?_)
                  refine rtk 6 (h := ?_)
                  refine rtk 7 (h := ?_)
                  refine rtk 8 (h := ?_)
                  refine rtk 9 (h := ?_)
                  refine rcl 2 (h := fun K hK => ?_)
                  go_simp
                  refine (in_any ao sn sc v (j : Int) _ ((unhide HO).ls.below (unhide HBd))).mono ?_
                  rintro e w6 ⟨⟨z, rfl, HZ⟩, hw6⟩
                  obtain rfl := hw6.symm
                  refine hK.out _ _ hHeld (fun hHeld2 => ?_)
                  clear hK K hHeld hw6
                  refine rtk 3 (h := ?_)
                  rw [atL_geq (unhide HZ)]
                  refine rcl 10 (h := fun K hK => ?_)
                  go_simp
                  refine (in_any a1 n1 c1 lm (j : Int) _ ((unhide H1).below (bnx (unhide HB4) (unhide HBd)))).mono ?_
                  rintro e w6 ⟨⟨z2, rfl, HZ2⟩, hw6⟩
                  obtain rfl := hw6.symm
                  refine hK.out _ _ hHeld2 (fun hHeld3 => ?_)
                  clear hK K hHeld2 hw6
                  refine rtk 11 (h := ?_)
                  rw [atL_geq (unhide HZ2)]
                  generalize decide ((j : Int) ∈ v) = pa at HY HN ⊢
                  generalize decide ((j : Int) ∈ lm) = pb at HY HN ⊢
                  refine rtk 12 (h := ?_)
                  refine wpAnyH_done (by kernel_rfl) ?_ _
                  refine NoPanic.normal ?_
                  clear hHeld3 HZ HZ2
                  cases pa <;> cases pb
                  · have HE := hide (unhide HN rfl)
                    clear HY HN
                    go_wp2
                    go_roundw
                    case rel => exact ⟨j + 1, _, by omega, by go_num, by rw [unhide HE], rfl⟩
                    case measure => simp [intOf]; omega
                  · have HE := hide (unhide HY rfl)
                    clear HY HN
                    go_wp2
                    go_roundw
                    case rel => exact ⟨j + 1, _, by omega, by go_num, by rw [unhide HE]; go_num, rfl⟩
                    case measure => simp [intOf]; omega
                  · have HE := hide (unhide HY rfl)
                    clear HY HN
                    go_wp2
                    go_roundw
                    case rel => exact ⟨j + 1, _, by omega, by go_num, by rw [unhide HE]; go_num, rfl⟩
                    case measure => simp [intOf]; omega
                  · have HE := hide (unhide HN rfl)
                    clear HY HN
                    go_wp2
                    go_roundw
                    case rel => exact ⟨j + 1, _, by omega, by go_num, by rw [unhide HE], rfl⟩
                    case measure => simp [intOf]; omega
                · obtain rfl : j = 8 := by omega
                  have HCC : Hid (uK (fun x => decide (x ∈ v) != decide (x ∈ lm)) 8 = unl v lm) := cK_all U7 _
                  have hck := uK_le (fun x => decide (x ∈ v) != decide (x ∈ lm)) 8
                  generalize uK (fun x => decide (x ∈ v) != decide (x ∈ lm)) 8 = c at HCC hck ⊢
                  have HBQ : Hid (Below w.heap.size w (w4.drewN qq)) := below_drewN (unhide HB4) _
                  have HLv : Hid (Ls (w4.drewN qq) ao sn sc v) := (unhide HO).ls
                  have HV0 : Hid (v = [] ↔ sn = 0) := by
                    show _ ↔ _
                    rw [← unhide HSN]
                    exact List.length_eq_zero_iff.symm
                  have HCH := hide (chg_any a1 ao n1 c1 sn sc lm v _ ((unhide H1).below (unhide HBQ)) (unhide HLv))
                  obtain ⟨q0, q1, q2, q3, q4⟩ := (unhide HC) _ (unhide HBQ)
                  generalize w4.drewN qq = w5 at HBQ HCH q0 q1 q2 q3 q4 ⊢
                  clear HLv HO HEN
                  go_wp2_with fail
                  refine (unhide HCH).mono ?_
                  rintro e w6 hr
                  have hr : e = .returned (.tuple #[.bool d, .nilIface]) ∧ Below w5.heap.size w5 w6 := by
                    rcases hr with ⟨_, _, h1, h2⟩ | ⟨h1, _⟩
                    · rw [← unhide HEN2] at h1; exact ⟨h1, h2⟩
                    · exact absurd ⟨unhide HM, unhide HMS2⟩ h1
                  obtain ⟨rfl, hb⟩ := hr
                  have HB6 : Hid (Below w.heap.size w w6) := bnx (unhide HBQ) hb
                  clear hb q0 q1 q2 q3 q4 HCH
                  go_wp2_with fail
                  refine (num_err _ 0 _ ((unhide HG).below (unhide HB6) (unhide HG).pos) ((ErrB.nil _).errX)).mono ?_
                  rintro e w9 ⟨rfl, hb⟩
                  have HB9 : Hid (Below w.heap.size w w9) := bnx (unhide HB6) hb
                  clear hb
                  by_cases hc1 : c = 1
                  · have hb1 : ((c : Int) == 1) = true := beq_iff_eq.2 (by omega)
                    have HC1 := hide hc1
                    clear hc1
                    by_cases hs0 : sn = 0
                    · have hd0 : d = false := by
                        cases d
                        · rfl
                        · exact absurd ((unhide HV0).2 hs0) ((unhide HDN).1 rfl).1
                      subst hd0
                      have hs1 : ¬ (0 : Int) < (sn : Int) := by omega
                      have hs2 : ¬ 0 < sn := by omega
                      clear hs0
                      go_wp2
                      go_roundw
                      case rel => exact ⟨ka + 1, by omega, by go_num, HB9⟩
                      case measure => simp [intOf]; omega
                    · have hd0 : d = true := (unhide HDN).2 ⟨fun h => hs0 ((unhide HV0).1 h), by rw [← unhide HCC]; exact unhide HC1⟩
                      subst hd0
                      have hs1 : (0 : Int) < (sn : Int) := by omega
                      have hs2 : 0 < sn := by omega
                      clear hs0
                      go_wp2
                      go_roundw
                      case rel => exact ⟨ka + 1, by omega, by go_num, HB9⟩
                      case measure => simp [intOf]; omega
                  · have hb1 : ((c : Int) == 1) = false := beq_eq_false_iff_ne.2 (by omega)
                    have hd0 : d = false := by
                      cases d
                      · rfl
                      · exact absurd ((unhide HCC).trans ((unhide HDN).1 rfl).2) hc1
                    subst hd0
                    clear hc1
                    go_wp2
                    go_roundw
                    case rel => exact ⟨ka + 1, by omega, by go_num, HB9⟩
                    case measure => simp [intOf]; omega
            · obtain rfl : ka = 128 := by omega
              go_wp2
              go_roundw
              case rel => exact ⟨k + 1, by omega, by go_num, HB3⟩
              case measure => simp [intOf]; omega
        · rw [decide_eq_false hM]
          clear hM
          go_wp2
          go_roundw
          case rel => exact ⟨k + 1, by omega, by go_num, HB2⟩
          case measure => simp [intOf]; omega
      · clear HD HV
        go_wp2
        go_roundw
        case rel => exact ⟨k + 1, by omega, by go_num, HB1⟩
        case measure => simp [intOf]; omega
    · have hend : ¬ (k : Int) < (len : Int) ∨ ¬ (k : Int) < 8 := by omega
      by_cases h9 : (k : Int) < (len : Int)
      · have h9b : ¬ (k : Int) < 8 := by omega
        go_wp2_with fail
        refine (wakes_any _ ((unhide HG).below (unhide HB) (unhide HG).pos)).mono ?_
        rintro e w9 ⟨rfl, hb9⟩
        have HB9 : Hid (Below w.heap.size w w9) := bnx (unhide HB) hb9
        clear hb9
        go_wp2
        go_ret
        exact ⟨rfl, unhide HB9⟩
      · go_wp2_with fail
        refine (wakes_any _ ((unhide HG).below (unhide HB) (unhide HG).pos)).mono ?_
        rintro e w9 ⟨rfl, hb9⟩
        have HB9 : Hid (Below w.heap.size w w9) := bnx (unhide HB) hb9
        clear hb9
        go_wp2
        go_ret
        exact ⟨rfl, unhide HB9⟩
theorem changes16_walk0 (ao : Option Addr) (cap : Nat) (w : World) (hg : Laid w) :
    Calls Tryd.prog 7 #[.slice ao 0 cap] w fun e w' => e = .returned (.bool true) ∧ Below w.heap.size w w' := by
  have HG := hide hg
  have HB : Hid (Below w.heap.size w w) := Below.refl _ _
  clear hg
  go_enter Tryd.func7, Tryd.ntmps7
  go_wp2
  refine wp_loop_rounds 1 ?_
  rw [rounds_succ]
  go_wp2_with fail
  refine (wakes_any _ ((unhide HG).below (unhide HB) (unhide HG).pos)).mono ?_
  rintro e w9 ⟨rfl, hb9⟩
  have HB9 : Hid (Below w.heap.size w w9) := bnx (unhide HB) hb9
  clear hb9
  go_wp2
  go_ret
  exact ⟨rfl, unhide HB9⟩
end Go.Proofs.YtnflgfpicigajaaDoor.Qu
