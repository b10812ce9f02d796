/- Proved here: the walk of dovecotelaw14.NetExact. Helper contract. -/
import Derived.Test.YtfgelagmjjjlgaaZNEp
import Derived.Test.YtfgelagmjjjlgaaZNPb
import Derived.Test.YtfgelagmjjjlgaaZNOr
import Derived.OwnWalk
import Derived.Lib.MinMax
namespace Go.Proofs.Ytfgelagmjjjlgaa.Nt
open Go.RowKit
set_option maxRecDepth 100000

set_option maxHeartbeats 8000000 in
theorem exact_walk (ao : Option Addr) (cap len : Nat) (f : Nat → Ac) (w : World) (ha : AcsAt w ao f len) : Calls Try.prog 3 #[.slice ao len cap] w fun e w' => e = .returned (.bool true) ∧ Below w.heap.size w w' := by
  have HA := hide ha
  have HH := hide (heavy_any ao cap len f w ha)
  clear ha
  go_enter Try.func3, Try.ntmps3
  go_wp2_with fail
  refine (unhide HH).mono ?_
  rintro e w1 ⟨⟨bb, rfl, hbb⟩, q, hw1⟩
  have HBB := hide hbb
  have HB1 : Hid (Below w.heap.size w w1) := by show Below _ _ _; rw [hw1]; exact below_drewN (Below.refl _ _) q
  have hs1 : w1.heap.size = w.heap.size := by rw [hw1]; rfl
  have HN := hide (new_any w1)
  rw [hs1] at HN
  clear hw1 hs1 HH hbb
  cases bb
  · go_wp2_with fail
    refine (unhide HN).mono ?_
    rintro e w2 ⟨rfl, hs2, hb2⟩
    have HS2 := hide hs2
    have HB2 : Hid (Below w.heap.size w w2) := (unhide HB1).trans hb2
    have HNOW : Hid (∀ k, k < len → k < 60 → 0 ≤ (f k).now ∧ (f k).now ≤ 1099511627776) := by first | exact (unhide HBB) rfl | exact (unhide HBB) trivial | exact unhide HBB
    clear hs2 hb2 HN HB1 HBB
    have HNP : Hid (NP w (w2.alloc (.cells #[.slice none 0 0, .slice none 0 0] 30)) w.heap.size w2.heap.size (.slice none 0 0) [] (.slice none 0 0) (.slice none 0 0) [] []) := NP.fresh (unhide HS2) (unhide HB2) ((Below.refl _ _).alloc (Nat.le_refl _) _) (Bx.new w2 [.slice none 0 0, .slice none 0 0] 30 _ rfl) (Nat.le_refl _)
    clear HS2 HB2
    go_wp2
    generalize w2.alloc (.cells #[.slice none 0 0, .slice none 0 0] 30) = w3 at HNP ⊢
    generalize w2.heap.size = r3 at HNP ⊢
    go_loopw [4, 5] (fun vr i wr => ∃ (k r : Nat) (v : Value) (ps : List Pc) (vL vA : Value) (qs : List Mq) (ats : List Int), k ≤ len ∧ k ≤ 60 ∧ vr = .pointer (some ⟨r, 0, none⟩) ∧ i = .int .i64 k ∧ Hid (NP w wr w.heap.size r v ps vL vA qs ats) ∧ Hid (ps.map it = (qs.map (·.r)).zip ats) ∧ Hid (ps.length ≤ 2 * k)) (fun _ i _ => len - (intOf i).toNat)
    case atStart => exact ⟨0, r3, _, [], _, _, [], [], Nat.zero_le _, Nat.zero_le _, rfl, rfl, HNP, rfl, Nat.le_refl _⟩
    case round =>
      clear HNP
      obtain ⟨k, r, v, ps, vL, vA, qs, ats, hk, hk60, rfl, rfl, HNP, HEQ, HPL⟩ := hrel
      have HQL : Hid (qs.length = ps.length) := by
        have h1 := congrArg List.length (unhide HEQ)
        rw [List.length_map, List.length_zip, List.length_map, ← (unhide HNP).ln] at h1
        show _ = _
        omega
      by_cases hlt : k < len
      · by_cases h2 : k < 60
        · obtain ⟨b, off, hao, hac⟩ := (unhide HA).get (unhide HNP).bel k hlt
          subst hao
          have HRG := hide hac.1
          have HSZ := hide hac.2.2
          have HQ : Hid (∀ W : World, Below w.heap.size w W → Rok W (f k).q) := fun W hW => by
            obtain ⟨_, _, _, h⟩ := (unhide HA).get hW k hlt
            exact h.2.1
          have HNW := hide ((unhide HNOW) k hlt h2)
          clear hac
          generalize f k = a at HRG HSZ HQ HNW
          go_upto_region 10 with fail
          iterate 10 go_step
          refine wpList_load_mid rfl 35 _ rfl b (off + k * 14) rfl (acs a) _ (unhide HRG) Try.underlying35 rfl act_size ?_
          simp only [Act.put, List.setIfInBounds_toArray, List.set_cons_zero, List.set_cons_succ]
          refine wpList_value rfl (act_alloc _ _ _ _ _ _) ?_
          simp only [Act.put, List.setIfInBounds_toArray, List.set_cons_zero, List.set_cons_succ]
          refine wpList_skip rfl (act_store _ _ _ _ _ _ _ a wr rfl rfl) ?_
          simp only [Act.put]
          have hal : Below wr.heap.size wr (wr.alloc (.cells (acs a).toArray 35)) := (Below.refl _ _).alloc (Nat.le_refl _) _
          have HX : Hid (Bx (wr.alloc (.cells (acs a).toArray 35)) wr.heap.size (acs a) 35) := Bx.new wr (acs a) 35 _ rfl
          have HNP1 := hide ((unhide HNP).below hal)
          have HXF : Hid (∀ g ∈ fp w.heap.size v ps, g < wr.heap.size) := fun g hg => ((unhide HNP).net.lt g hg).2
          have HXG : Hid (∀ g ∈ gp r vL vA qs, g < wr.heap.size) := fun g hg => ((unhide HNP).page.lt g hg).2
          have hxw : w.heap.size ≤ wr.heap.size := (unhide HNP).bel.size
          clear hal HNP HRG
          generalize wr.alloc (.cells (acs a).toArray 35) = w1 at HX HNP1 ⊢
          generalize wr.heap.size = X at HX HXF HXG hxw ⊢
          have c0 : w1.cell? ⟨X, 0, none⟩ = some (.int .i64 a.d) := (unhide HX).cell 0 _ rfl
          have HWI := hide (within_any a.d 9 w1 (by decide) (by decide))
          go_wp2_with fail
          refine (unhide HWI).mono ?_
          rintro e w2 ⟨rfl, hw2⟩
          obtain rfl := hw2.symm
          clear hw2 HWI c0
          generalize ((wth a.d 9 : Nat) : Int) = m
          by_cases h6 : m = 6
          · subst h6
            have HTK := hide (take_any w1 w.heap.size w.heap.size v ps a.now (unhide HNP1).net (by have := unhide HPL; omega) (unhide HNW).1 (by have := (unhide HNW).2; omega))
            have cn : w1.cell? ⟨X, 12, none⟩ = some (.int .i64 a.now) := (unhide HX).cell 12 _ rfl
            go_wp2_with fail
            refine (unhide HTK).mono ?_
            rintro e w4 ⟨vt, ts, v4, rs, rfl, ht⟩
            obtain ⟨b1, b2, b3, b4⟩ := (unhide ht).bk
            have HBK4 := hide b1
            have HSF := hide b2
            have HTD := hide (unhide ht).told
            have HRS := hide (unhide ht).rest
            have HNP4 := hide ((unhide HNP1).netS (unhide ht).net (unhide ht).fr b4)
            have HX4 := hide ((unhide HX).fr (unhide ht).fr (fun h => absurd ((unhide HXF) X h) (Nat.lt_irrefl _)))
            have HSG : Hid (∀ g ∈ bl vt ++ (ts.map (·.q)).flatMap qb, g ∉ gp r vL vA qs ∧ g < w4.heap.size) := fun g hg => ⟨fun e => by
              rcases b3 g hg with h | h
              · exact (unhide HNP1).sep g h e
              · have := ((unhide HNP1).page.lt g e).2; omega, (b1.lt g hg).2⟩
            have HTL : Hid (ts.length ≤ 120) := by
              have h1 := told_len (unhide HTD)
              have h2 := List.length_filter_le (fun x : It => decide (x.2 ≤ a.now)) (ps.map it)
              rw [List.length_map] at h1 h2
              have := unhide HPL
              show _ ≤ _
              omega
            have HRL : Hid (rs.length ≤ 2 * (k + 1)) := by
              have h1 := congrArg List.length (unhide HRS)
              have h2 := List.length_filter_le (fun x : It => !decide (x.2 ≤ a.now)) (ps.map it)
              rw [List.length_map] at h1 h2
              have := unhide HPL
              show _ ≤ _
              omega
            clear ht b1 b2 b3 b4 HTK cn HNP1 HX
            have cn : w4.cell? ⟨X, 12, none⟩ = some (.int .i64 a.now) := (unhide HX4).cell 12 _ rfl
            have HPT := hide (ptake_any w4 w.heap.size r vL vA qs ats a.now (unhide HNP4).page (unhide HNP4).ln (by have := unhide HPL; have := unhide HQL; omega))
            go_wp2_with fail
            refine (unhide HPT).mono ?_
            rintro e w5 ⟨vo, T, vL5, vA5, R, rfl, hp⟩
            have HNP5 := hide ((unhide HNP4).pageS (unhide hp).net (by rw [List.length_map, List.length_map]) (unhide hp).fr (unhide hp).ext)
            have HBK5 := hide ((unhide HBK4).fr (unhide hp).fr (fun g hg => ((unhide HSG) g hg).1))
            have HSG5 : Hid (∀ g ∈ bl vt ++ (ts.map (·.q)).flatMap qb, g ∉ gp r vL5 vA5 (R.map (·.1))) := fun g hg e => by
              rcases (unhide hp).ext g e with h | h
              · exact ((unhide HSG) g hg).1 h
              · have := ((unhide HSG) g hg).2; omega
            have HRP := hide (unhide hp).rps
            have HSM := hide (same_told (unhide HEQ) (unhide HTD) (unhide hp).told)
            have HEQz : Hid (rs.map it = ((R.map (·.1)).map (·.r)).zip (R.map (·.2))) := by
              show _ = _
              rw [zip_back, (unhide hp).rest, unhide HRS, unhide HEQ]
            clear hp HPT cn HNP4 HX4 HSG HBK4 HTD HRS HEQ
            have HE := hide (eqrs_same vt vo (ts.map (·.q)) (T.map (·.1.1)) w5 (unhide HSM) (unhide HBK5).rps (unhide HRP) (by rw [List.length_map]; have := unhide HTL; omega))
            go_wp2_with fail
            refine (unhide HE).mono ?_
            rintro e w6 ⟨rfl, hb6⟩
            have HNP6 := hide ((unhide HNP5).below hb6)
            have HBK6 := hide ((unhide HBK5).below hb6)
            clear hb6 HE HNP5 HBK5 HRP HSM
            have HSP := hide (rpcs_sp w.heap.size vt (ts.map (·.q)) w6 (unhide HNP6).bel.size (by rw [List.length_map]; have := unhide HTL; omega) (unhide HBK6).row (unhide HBK6).own (unhide HBK6).nd)
            go_wp2_with fail
            refine (unhide HSP).mono ?_
            rintro e w7 ⟨rfl, hf7⟩
            have HNPz := hide ((unhide HNP6).fr hf7 (fun g hg hg2 => (unhide HSF) g hg2 hg) (fun g hg hg2 => (unhide HSG5) g hg2 hg) (fun g hg => ((unhide HBK6).lt g hg).1))
            have HPLz := HRL
            clear hf7 HSP HNP6 HBK6 HSF HSG5 HPL HQL HXF HXG
            have HNPd : Hid (NP w w7.drew _ r _ _ _ _ _ _) := (unhide HNPz).below (below_drewN (Below.refl _ _) 1)
            obtain ⟨aL, cL, hvL⟩ := owns_slice (unhide HNPd).page.rl
            have hC := (unhide HNPd).page.box.cell 0 _ rfl
            rw [hvL] at hC
            have hLL := congrArg List.length (unhide HEQz)
            rw [List.length_map, List.length_zip, List.length_map, ← (unhide HNPz).ln, Nat.min_self] at hLL
            rw [← hLL] at hC
            have HCT := hide (count_any w7.drew _ _ _ _ (unhide HNPd).net)
            clear hLL hvL
            generalize List.length _ = M at hC HCT
            clear HNPz
            go_upto_region 26 with fail
            refine wp_region_noPanic ?_
            refine wp_region_held_drew (S := fun W => W.cell? ⟨r, 0, none⟩ = some (.slice aL M cL)) (by kernel_rfl) hC (fun hHeld => ?_)
            refine rtk 0 (h := ?_)
            refine rtk 2 (h := ?_)
            refine rtk 3 (h := ?_)
            refine rtk 4 (h := ?_)
            refine rtk 5 (h := ?_)
            refine rtk 6 (h := ?_)
            refine rcl 1 (h := fun K hK => ?_)
            go_simp
            refine (unhide HCT).mono ?_
            rintro e wc ⟨rfl, hwc⟩
            obtain rfl := hwc.symm
            clear hwc
            go_simp
            refine hK.out _ _ hC (fun hHeld => ?_)
            clear hK K
            refine rtk 7 (h := ?_)
            refine wpAnyH_done (by kernel_rfl) ?_ _
            refine NoPanic.normal ?_
            clear hC hHeld HCT
            go_wp2
            go_roundw
            case rel => exact ⟨k + 1, _, _, _, _, _, _, _, by omega, by omega, rfl, by go_num, HNPd, HEQz, HPLz⟩
            case measure => simp [intOf]; omega
          · by_cases h7 : m = 7
            · subst h7
              clear h6
              have HTK := hide (take_any w1 w.heap.size w.heap.size v ps a.now (unhide HNP1).net (by have := unhide HPL; omega) (unhide HNW).1 (by have := (unhide HNW).2; omega))
              have cn : w1.cell? ⟨X, 12, none⟩ = some (.int .i64 a.now) := (unhide HX).cell 12 _ rfl
              go_wp2_with fail
              refine (unhide HTK).mono ?_
              rintro e w4 ⟨vt, ts, v4, rs, rfl, ht⟩
              obtain ⟨b1, b2, b3, b4⟩ := (unhide ht).bk
              have HBK4 := hide b1
              have HSF := hide b2
              have HTD := hide (unhide ht).told
              have HRS := hide (unhide ht).rest
              have HNP4 := hide ((unhide HNP1).netS (unhide ht).net (unhide ht).fr b4)
              have HX4 := hide ((unhide HX).fr (unhide ht).fr (fun h => absurd ((unhide HXF) X h) (Nat.lt_irrefl _)))
              have HSG : Hid (∀ g ∈ bl vt ++ (ts.map (·.q)).flatMap qb, g ∉ gp r vL vA qs ∧ g < w4.heap.size) := fun g hg => ⟨fun e => by
                rcases b3 g hg with h | h
                · exact (unhide HNP1).sep g h e
                · have := ((unhide HNP1).page.lt g e).2; omega, (b1.lt g hg).2⟩
              have HTL : Hid (ts.length ≤ 120) := by
                have h1 := told_len (unhide HTD)
                have h2 := List.length_filter_le (fun x : It => decide (x.2 ≤ a.now)) (ps.map it)
                rw [List.length_map] at h1 h2
                have := unhide HPL
                show _ ≤ _
                omega
              have HRL : Hid (rs.length ≤ 2 * (k + 1)) := by
                have h1 := congrArg List.length (unhide HRS)
                have h2 := List.length_filter_le (fun x : It => !decide (x.2 ≤ a.now)) (ps.map it)
                rw [List.length_map] at h1 h2
                have := unhide HPL
                show _ ≤ _
                omega
              clear ht b1 b2 b3 b4 HTK cn HNP1 HX
              have cn : w4.cell? ⟨X, 12, none⟩ = some (.int .i64 a.now) := (unhide HX4).cell 12 _ rfl
              have HPT := hide (ptake_any w4 w.heap.size r vL vA qs ats a.now (unhide HNP4).page (unhide HNP4).ln (by have := unhide HPL; have := unhide HQL; omega))
              go_wp2_with fail
              refine (unhide HPT).mono ?_
              rintro e w5 ⟨vo, T, vL5, vA5, R, rfl, hp⟩
              have HNP5 := hide ((unhide HNP4).pageS (unhide hp).net (by rw [List.length_map, List.length_map]) (unhide hp).fr (unhide hp).ext)
              have HBK5 := hide ((unhide HBK4).fr (unhide hp).fr (fun g hg => ((unhide HSG) g hg).1))
              have HSG5 : Hid (∀ g ∈ bl vt ++ (ts.map (·.q)).flatMap qb, g ∉ gp r vL5 vA5 (R.map (·.1))) := fun g hg e => by
                rcases (unhide hp).ext g e with h | h
                · exact ((unhide HSG) g hg).1 h
                · have := ((unhide HSG) g hg).2; omega
              have HRP := hide (unhide hp).rps
              have HSM := hide (same_told (unhide HEQ) (unhide HTD) (unhide hp).told)
              have HEQz : Hid (rs.map it = ((R.map (·.1)).map (·.r)).zip (R.map (·.2))) := by
                show _ = _
                rw [zip_back, (unhide hp).rest, unhide HRS, unhide HEQ]
              clear hp HPT cn HNP4 HX4 HSG HBK4 HTD HRS HEQ
              have HE := hide (eqrs_same vt vo (ts.map (·.q)) (T.map (·.1.1)) w5 (unhide HSM) (unhide HBK5).rps (unhide HRP) (by rw [List.length_map]; have := unhide HTL; omega))
              go_wp2_with fail
              refine (unhide HE).mono ?_
              rintro e w6 ⟨rfl, hb6⟩
              have HNP6 := hide ((unhide HNP5).below hb6)
              have HBK6 := hide ((unhide HBK5).below hb6)
              clear hb6 HE HNP5 HBK5 HRP HSM
              have HSP := hide (rpcs_sp w.heap.size vt (ts.map (·.q)) w6 (unhide HNP6).bel.size (by rw [List.length_map]; have := unhide HTL; omega) (unhide HBK6).row (unhide HBK6).own (unhide HBK6).nd)
              go_wp2_with fail
              refine (unhide HSP).mono ?_
              rintro e w7 ⟨rfl, hf7⟩
              have HNPz := hide ((unhide HNP6).fr hf7 (fun g hg hg2 => (unhide HSF) g hg2 hg) (fun g hg hg2 => (unhide HSG5) g hg2 hg) (fun g hg => ((unhide HBK6).lt g hg).1))
              have HPLz := HRL
              clear hf7 HSP HNP6 HBK6 HSF HSG5 HPL HQL HXF HXG
              have HNPd : Hid (NP w w7.drew _ r _ _ _ _ _ _) := (unhide HNPz).below (below_drewN (Below.refl _ _) 1)
              obtain ⟨aL, cL, hvL⟩ := owns_slice (unhide HNPd).page.rl
              have hC := (unhide HNPd).page.box.cell 0 _ rfl
              rw [hvL] at hC
              have hLL := congrArg List.length (unhide HEQz)
              rw [List.length_map, List.length_zip, List.length_map, ← (unhide HNPz).ln, Nat.min_self] at hLL
              rw [← hLL] at hC
              have HCT := hide (count_any w7.drew _ _ _ _ (unhide HNPd).net)
              clear hLL hvL
              generalize List.length _ = M at hC HCT
              clear HNPz
              go_upto_region 26 with fail
              refine wp_region_noPanic ?_
              refine wp_region_held_drew (S := fun W => W.cell? ⟨r, 0, none⟩ = some (.slice aL M cL)) (by kernel_rfl) hC (fun hHeld => ?_)
              refine rtk 0 (h := ?_)
              refine rtk 2 (h := ?_)
              refine rtk 3 (h := ?_)
              refine rtk 4 (h := ?_)
              refine rtk 5 (h := ?_)
              refine rtk 6 (h := ?_)
              refine rcl 1 (h := fun K hK => ?_)
              go_simp
              refine (unhide HCT).mono ?_
              rintro e wc ⟨rfl, hwc⟩
              obtain rfl := hwc.symm
              clear hwc
              go_simp
              refine hK.out _ _ hC (fun hHeld => ?_)
              clear hK K
              refine rtk 7 (h := ?_)
              refine wpAnyH_done (by kernel_rfl) ?_ _
              refine NoPanic.normal ?_
              clear hC hHeld HCT
              go_wp2
              go_roundw
              case rel => exact ⟨k + 1, _, _, _, _, _, _, _, by omega, by omega, rfl, by go_num, HNPd, HEQz, HPLz⟩
              case measure => simp [intOf]; omega
            · by_cases h8 : m = 8
              · subst h8
                clear h6 h7
                have HCL := hide (clear_any w1 _ _ v ps (unhide HNP1).net)
                go_wp2_with fail
                refine (unhide HCL).mono ?_
                rintro e w4 ⟨rfl, hs4, hf4⟩
                have hb4 : Below w.heap.size w w4 := Fr.bel (unhide HNP1).bel hf4 (fun i hi => by omega) (unhide HNP1).bel.size
                have HZ : ∃ (vz vLz vAz : Value) (pz : List Pc) (qz : List Mq) (zz : List Int), Hid (NP w (w4.alloc (.cells #[.slice none 0 0, .slice none 0 0] 30)) w.heap.size w4.heap.size vz pz vLz vAz qz zz) ∧ Hid (pz.map it = (qz.map (·.r)).zip zz) ∧ Hid (pz.length ≤ 2 * (k + 1)) := ⟨.slice none 0 0, .slice none 0 0, .slice none 0 0, [], [], [], NP.fresh hs4 hb4 ((Below.refl _ _).alloc (Nat.le_refl _) _) (Bx.new w4 [.slice none 0 0, .slice none 0 0] 30 _ rfl) (Nat.le_refl _), rfl, Nat.zero_le _⟩
                clear hs4 hf4 hb4 HCL HNP1 HX HXF HXG HPL HQL HEQ
                obtain ⟨vz, vLz, vAz, pz, qz, zz, HNPz, HEQz, HPLz⟩ := HZ
                go_upto_region 26 with fail
                generalize w4.alloc (.cells #[.slice none 0 0, .slice none 0 0] 30) = w5 at HNPz ⊢
                generalize w4.heap.size = r4 at HNPz ⊢
                have HNPd : Hid (NP w w5.drew _ r4 _ _ _ _ _ _) := (unhide HNPz).below (below_drewN (Below.refl _ _) 1)
                obtain ⟨aL, cL, hvL⟩ := owns_slice (unhide HNPd).page.rl
                have hC := (unhide HNPd).page.box.cell 0 _ rfl
                rw [hvL] at hC
                have hLL := congrArg List.length (unhide HEQz)
                rw [List.length_map, List.length_zip, List.length_map, ← (unhide HNPz).ln, Nat.min_self] at hLL
                rw [← hLL] at hC
                have HCT := hide (count_any w5.drew _ _ _ _ (unhide HNPd).net)
                clear hLL hvL
                generalize List.length _ = M at hC HCT
                clear HNPz
                go_upto_region 26 with fail
                refine wp_region_noPanic ?_
                refine wp_region_held_drew (S := fun W => W.cell? ⟨r4, 0, none⟩ = some (.slice aL M cL)) (by kernel_rfl) hC (fun hHeld => ?_)
                refine rtk 0 (h := ?_)
                refine rtk 2 (h := ?_)
                refine rtk 3 (h := ?_)
                refine rtk 4 (h := ?_)
                refine rtk 5 (h := ?_)
                refine rtk 6 (h := ?_)
                refine rcl 1 (h := fun K hK => ?_)
                go_simp
                refine (unhide HCT).mono ?_
                rintro e wc ⟨rfl, hwc⟩
                obtain rfl := hwc.symm
                clear hwc
                go_simp
                refine hK.out _ _ hC (fun hHeld => ?_)
                clear hK K
                refine rtk 7 (h := ?_)
                refine wpAnyH_done (by kernel_rfl) ?_ _
                refine NoPanic.normal ?_
                clear hC hHeld HCT
                go_wp2
                go_roundw
                case rel => exact ⟨k + 1, _, _, _, _, _, _, _, by omega, by omega, rfl, by go_num, HNPd, HEQz, HPLz⟩
                case measure => simp [intOf]; omega
              · have h6d : decide (m = 6) = false := decide_eq_false h6
                have h7d : decide (m = 7) = false := decide_eq_false h7
                have h8d : decide (m = 8) = false := decide_eq_false h8
                go_upto_region 12 with fail
                iterate 4 go_step
                refine wpList_load_mid rfl 33 _ rfl X 1 rfl (mcs a.q) _ (act_mid (unhide HX)) Try.underlying33 rfl rpc_size ?_
                simp only [Act.put, List.setIfInBounds_toArray, List.set_cons_zero, List.set_cons_succ]
                have HCP := hide (copyr_any a.q w1 ((unhide HQ) _ (unhide HNP1).bel) (unhide HSZ))
                go_wp2_with fail
                refine (unhide HCP).mono ?_
                rintro e w2 ⟨p, rfl, hcp, hb2⟩
                go_simp
                iterate 1 go_step
                refine wpList_value rfl (rpc_alloc _ _ _ _ _ _) ?_
                simp only [Act.put, List.setIfInBounds_toArray, List.set_cons_zero, List.set_cons_succ]
                refine wpList_skip rfl (rpc_store _ _ _ _ _ _ _ p w2 rfl rfl) ?_
                simp only [Act.put]
                have hal : Below w2.heap.size w2 (w2.alloc (.cells (mcs p).toArray 33)) := (Below.refl _ _).alloc (Nat.le_refl _) _
                have HY : Hid (Bx (w2.alloc (.cells (mcs p).toArray 33)) w2.heap.size (mcs p) 33) := Bx.new w2 (mcs p) 33 _ rfl
                have HX3 := hide (((unhide HX).below hb2).below hal)
                have HNP3 := hide (((unhide HNP1).below hb2).below hal)
                have HPR : Hid (p.r = a.q.r) := (unhide hcp).1
                have HM3 : Hid (MqOwn (w2.alloc (.cells (mcs p).toArray 33)) w1.heap.size p) := (unhide hcp).2.1.below hal
                have HPF : Hid (∀ g ∈ qb p, w1.heap.size ≤ g ∧ g < w2.heap.size) := fun g hg => (unhide hcp).2.1.blk g hg
                have hxz : X < w1.heap.size := (unhide HX).lt
                have hzy : w1.heap.size ≤ w2.heap.size := hb2.size
                have hy3 : w2.heap.size < (w2.alloc (.cells (mcs p).toArray 33)).heap.size := (unhide HY).lt
                clear hal hb2 hcp HCP HX HNP1 h6 h7 h8 h6d h7d h8d
                generalize w2.alloc (.cells (mcs p).toArray 33) = w3 at HY HX3 HNP3 HM3 hy3 ⊢
                generalize w2.heap.size = Y at HY HPF hzy hy3 ⊢
                generalize w1.heap.size = Z at HM3 HPF hxz hzy
                go_upto_region 13 with fail
                iterate 4 go_step
                refine wpList_load_mid rfl 33 _ rfl Y 0 rfl (mcs p) _ (unhide HY).range Try.underlying33 rfl rpc_size ?_
                simp only [Act.put, List.setIfInBounds_toArray, List.set_cons_zero, List.set_cons_succ]
                have cn : w3.cell? ⟨X, 12, none⟩ = some (.int .i64 a.now) := (unhide HX3).cell 12 _ rfl
                have cp : w3.cell? ⟨X, 13, none⟩ = some (.int .i64 a.pick) := (unhide HX3).cell 13 _ rfl
                have HFP : Hid (∀ g ∈ qb p, g ∉ fp w.heap.size v ps) := fun g hg hg2 => by
                  have := (unhide HXF) g hg2
                  have := (unhide HPF) g hg
                  omega
                have HP := hide (put_any w3 w.heap.size w.heap.size v ps p a.now a.pick (unhide HNP3).net (fun w' hf => ((unhide HM3).fr hf (unhide HFP)).rok) (by rw [unhide HPR]; exact unhide HSZ) (unhide HNW).1 (unhide HNW).2)
                go_wp2_with fail
                refine (unhide HP).mono ?_
                rintro e w4 ⟨rfl, v4, ps4, hs4, hf4, he4, hit4⟩
                have HNP4 := hide ((unhide HNP3).netS hs4 hf4 he4)
                have HX4 := hide ((unhide HX3).fr hf4 (fun h => absurd ((unhide HXF) X h) (Nat.lt_irrefl _)))
                have HY4 := hide ((unhide HY).fr hf4 (fun h => by have := (unhide HXF) Y h; omega))
                have HM4 := hide ((unhide HM3).fr hf4 (unhide HFP))
                have HIT := hide hit4
                have HF4 : Hid (∀ g ∈ qb p, g ∉ fp w.heap.size v4 ps4) := fun g hg hg2 => by
                  rcases he4 g hg2 with h | h
                  · exact (unhide HFP) g hg h
                  · have := (unhide HPF) g hg; omega
                have HG4 : Hid (∀ g ∈ qb p, g ∉ gp r vL vA qs) := fun g hg hg2 => by
                  have := (unhide HXG) g hg2
                  have := (unhide HPF) g hg
                  omega
                have hz4 : Z ≤ w4.heap.size := by have := hf4.size; omega
                clear hs4 hf4 he4 hit4 HP HX3 HY HM3 HNP3 HFP cn cp
                obtain ⟨ve, hve⟩ : ∃ ve, ve = p.es.v := ⟨_, rfl⟩
                have HVE := hide hve
                have c8 : w4.cell? ⟨Y, 8, none⟩ = some ve := by rw [hve]; exact (unhide HY4).cell 8 _ rfl
                have HEN := hide (entries_sp Z ve p.r.ents.length w4 hz4 (unhide HM4).2.2.1 ⟨_, by rw [hve]; exact (unhide HM4).1⟩)
                clear hve
                go_wp2_with fail
                refine (unhide HEN).mono ?_
                rintro e w5 ⟨rfl, hsf⟩
                rw [unhide HVE] at hsf
                have hin : ∀ g, p.es.v.ownBlock = some g → g ∈ qb p := fun g hg => List.mem_append.2 (.inl (mem_bl.2 hg))
                have HNP5 := hide ((unhide HNP4).fr hsf.fr (fun g hg e => (unhide HF4) g (hin g e) hg) (fun g hg e => (unhide HG4) g (hin g e) hg) (fun g e => by have := (unhide HPF) g (hin g e); omega))
                have HX5 := hide ((unhide HX4).fr hsf.fr (fun e => by have := (unhide HPF) X (hin X e); omega))
                have HY5 := hide ((unhide HY4).fr hsf.fr (fun e => by have := (unhide HPF) Y (hin Y e); omega))
                have HM5 : Hid (OwnE w5 Z 3 1 p.ms.v p.r.mems.length) := OwnE.sf ⟨_, (unhide HM4).2.1⟩ hsf
                have HMZ : Hid (p.r.mems.length ≤ 17592186043904) := (unhide HM4).2.2.2
                have hz5 : Z ≤ w5.heap.size := by have := hsf.fr.size; omega
                clear hsf hin HEN c8 HVE HNP4 HX4 HY4 HM4
                obtain ⟨vm, hvm⟩ : ∃ vm, vm = p.ms.v := ⟨_, rfl⟩
                have HVM := hide hvm
                have c9 : w5.cell? ⟨Y, 9, none⟩ = some vm := by rw [hvm]; exact (unhide HY5).cell 9 _ rfl
                have HNU := hide (numbers_sp Z vm p.r.mems.length w5 hz5 (unhide HMZ) (by rw [hvm]; exact unhide HM5))
                clear hvm
                go_wp2_with fail
                refine (unhide HNU).mono ?_
                rintro e w6 ⟨rfl, hsf⟩
                rw [unhide HVM] at hsf
                have hin : ∀ g, p.ms.v.ownBlock = some g → g ∈ qb p := fun g hg => List.mem_append.2 (.inr (mem_bl.2 hg))
                have HNP6 := hide ((unhide HNP5).fr hsf.fr (fun g hg e => (unhide HF4) g (hin g e) hg) (fun g hg e => (unhide HG4) g (hin g e) hg) (fun g e => by have := (unhide HPF) g (hin g e); omega))
                have HX6 := hide ((unhide HX5).fr hsf.fr (fun e => by have := (unhide HPF) X (hin X e); omega))
                clear hsf hin HNU c9 HVM HNP5 HX5 HY5 HM5 HMZ hz4 hz5
                go_upto_region 16 with fail
                iterate 7 go_step
                refine wpList_load_mid rfl 33 _ rfl X 1 rfl (mcs a.q) _ (act_mid (unhide HX6)) Try.underlying33 rfl rpc_size ?_
                simp only [Act.put, List.setIfInBounds_toArray, List.set_cons_zero, List.set_cons_succ]
                have cn : w6.cell? ⟨X, 12, none⟩ = some (.int .i64 a.now) := (unhide HX6).cell 12 _ rfl
                have cp : w6.cell? ⟨X, 13, none⟩ = some (.int .i64 a.pick) := (unhide HX6).cell 13 _ rfl
                have HRP := hide (rput_any w6 w.heap.size r vL vA qs ats a.q a.now a.pick (unhide HNP6).page (unhide HNP6).ln (fun w' hf => (unhide HQ) w' (Fr.bel (unhide HNP6).bel hf (fun g hg => ((unhide HNP6).page.lt g hg).1) (unhide HNP6).bel.size)) (unhide HSZ) (unhide HNW).1 (unhide HNW).2)
                go_wp2_with fail
                refine (unhide HRP).mono ?_
                rintro e w7 ⟨rfl, vL7, vA7, qs7, ats7, k1, k2, k3, k4, k5⟩
                have HNPz := hide ((unhide HNP6).pageS k1 k2 k3 k4)
                have HEQz : Hid (ps4.map it = (qs7.map (·.r)).zip ats7) := by
                  show _ = _
                  rw [unhide HIT, k5, unhide HPR, unhide HEQ]
                have HPLz : Hid (ps4.length ≤ 2 * (k + 1)) := by
                  have h1 := congrArg List.length (unhide HIT)
                  have h2 := putI_len (ps.map it) p.r a.now a.pick
                  rw [List.length_map] at h1 h2
                  have := unhide HPL
                  show _ ≤ _
                  omega
                clear k1 k2 k3 k4 k5 HRP cn cp HNP6 HX6 HF4 HG4 HIT HPR HEQ HPL HQL HPF HXF HXG hxz hzy hy3
                have HNPd : Hid (NP w w7.drew _ r _ _ _ _ _ _) := (unhide HNPz).below (below_drewN (Below.refl _ _) 1)
                obtain ⟨aL, cL, hvL⟩ := owns_slice (unhide HNPd).page.rl
                have hC := (unhide HNPd).page.box.cell 0 _ rfl
                rw [hvL] at hC
                have hLL := congrArg List.length (unhide HEQz)
                rw [List.length_map, List.length_zip, List.length_map, ← (unhide HNPz).ln, Nat.min_self] at hLL
                rw [← hLL] at hC
                have HCT := hide (count_any w7.drew _ _ _ _ (unhide HNPd).net)
                clear hLL hvL
                generalize List.length _ = M at hC HCT
                clear HNPz
                go_upto_region 26 with fail
                refine wp_region_noPanic ?_
                refine wp_region_held_drew (S := fun W => W.cell? ⟨r, 0, none⟩ = some (.slice aL M cL)) (by kernel_rfl) hC (fun hHeld => ?_)
                refine rtk 0 (h := ?_)
                refine rtk 2 (h := ?_)
                refine rtk 3 (h := ?_)
                refine rtk 4 (h := ?_)
                refine rtk 5 (h := ?_)
                refine rtk 6 (h := ?_)
                refine rcl 1 (h := fun K hK => ?_)
                go_simp
                refine (unhide HCT).mono ?_
                rintro e wc ⟨rfl, hwc⟩
                obtain rfl := hwc.symm
                clear hwc
                go_simp
                refine hK.out _ _ hC (fun hHeld => ?_)
                clear hK K
                refine rtk 7 (h := ?_)
                refine wpAnyH_done (by kernel_rfl) ?_ _
                refine NoPanic.normal ?_
                clear hC hHeld HCT
                go_wp2
                go_roundw
                case rel => exact ⟨k + 1, _, _, _, _, _, _, _, by omega, by omega, rfl, by go_num, HNPd, HEQz, HPLz⟩
                case measure => simp [intOf]; omega
        · have hk6 : k = 60 := by omega
          have h2d : decide ((k : Int) < 60) = false := decide_eq_false (by omega)
          have h2z : ¬ (k : Int) < 60 := by omega
          have HBL := hide (unhide HNP).bel
          have HWK := hide (wakes_any wr)
          clear hk6
          go_wp2_with fail
          refine (unhide HWK).mono ?_
          rintro e w8 ⟨rfl, hb8⟩
          have HB8 : Hid (Below w.heap.size w w8) := bnx (unhide HBL) hb8
          clear hb8 HWK HBL
          go_wp2
          go_ret
          exact ⟨rfl, unhide HB8⟩
      · have HBL := hide (unhide HNP).bel
        have HWK := hide (wakes_any wr)
        go_wp2_with fail
        refine (unhide HWK).mono ?_
        rintro e w8 ⟨rfl, hb8⟩
        have HB8 : Hid (Below w.heap.size w w8) := bnx (unhide HBL) hb8
        clear hb8 HWK HBL
        go_wp2
        go_ret
        exact ⟨rfl, unhide HB8⟩
  · go_wp2
    go_ret
    exact ⟨rfl, unhide HB1⟩
end Go.Proofs.Ytfgelagmjjjlgaa.Nt
