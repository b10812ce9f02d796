/- Proved here: the walk of dovecotelaw14.NetOnce. Helper contract. -/
import Derived.Test.YtfgelagmjjjlgaaZNOp
import Derived.Test.YtfgelagmjjjlgaaZNOr
import Derived.OwnWalk
import Derived.Lib.MinMax
namespace Go.Proofs.Ytfgelagmjjjlgaa.Nt
open Go.RowKit
set_option maxRecDepth 100000

set_option maxHeartbeats 8000000 in
theorem once_walk (ao : Option Addr) (cap len : Nat) (f : Nat → Ac) (w : World) (ha : AcsAt w ao f len) : Calls Try.prog 4 #[.slice ao len cap] w fun e w' => e = .returned (.bool true) ∧ Below w.heap.size w w' := by
  obtain ⟨i0, hi, hz0, hz1, hz2⟩ := info_parts infoN
  have HA := hide ha
  have HH := hide (heavy_any ao cap len f w ha)
  clear ha
  go_enter Try.func4, Try.ntmps4
  go_wp2_with fail
  refine (unhide HH).mono ?_
  rintro e w1 ⟨⟨bb, rfl, _⟩, q, hw1⟩
  have HB1 : Hid (Below w.heap.size w w1) := by show Below _ _ _; rw [hw1]; exact below_drewN (Below.refl _ _) q
  have hs1 : w1.heap.size = w.heap.size := by rw [hw1]; rfl
  have HN := hide (new_any w1)
  rw [hs1] at HN
  clear hw1 hs1 HH
  cases bb
  · go_wp2_with fail
    refine (unhide HN).mono ?_
    rintro e w2 ⟨rfl, hs2, hb2⟩
    have HS2 := hide hs2
    have HB2 : Hid (Below w.heap.size w w2) := (unhide HB1).trans hb2
    clear hs2 hb2 HN HB1
    obtain ⟨count, hcount⟩ : ∃ count, count = min len 60 := ⟨_, rfl⟩
    have hc1 : count ≤ len := by omega
    have hc2 : count ≤ 60 := by omega
    have hmin : min (len : Int) 60 = (count : Int) := by omega
    clear hcount
    go_upto_region 7 with fail
    iterate 4 go_step
    refine wpList_make_full _ rfl _ _ 28 rfl w.heap.size 3 i0 _ 1 Try.underlying28 hi hz0 hz1 .i64 .i64 _ _ count rfl rfl rfl rfl (by rw [hz2]; omega) (by unfold maxLen; omega) (unhide HB2).size ?_
    intro w3 hown3 hgrow3
    have hb3 : Below w2.heap.size w2 w3 := ⟨hgrow3.os, hgrow3.tape, hgrow3.output, hgrow3.size, fun k hk => hgrow3.block k hk (by simp)⟩
    have HS3 := hide ((unhide HS2).below hb3)
    have HB3 : Hid (Below w.heap.size w w3) := bnx (unhide HB2) hb3
    have HO3 : Hid (w3.ownsRow w.heap.size 3 1 (.slice (some ⟨w2.heap.size, 0, none⟩) count count) count ((List.replicate count (0 : Int)).map (Value.int .i64))) := by
      show World.ownsRow _ _ _ _ _ _ _
      rw [show (Value.int .i64 0).cells = #[.int .i64 0] from rfl, toList_madeCells_one, Nat.mul_one] at hown3
      rw [List.map_replicate]
      exact hown3
    have hlt5 : w2.heap.size < w3.heap.size := (owns_blk (unhide HO3) _ rfl).2
    have HF5 : Hid (∀ g ∈ fp w.heap.size (.slice none 0 0) [], g < w2.heap.size) := fun g hg => ((unhide HS2).lt g hg).2
    clear hown3 hgrow3 hb3 HS2 HB2
    simp only [Act.put, List.setIfInBounds_toArray, List.set_cons_zero, List.set_cons_succ]
    go_upto_region 8 with fail
    iterate 4 go_step
    refine wpList_make_full _ rfl _ _ 28 rfl w.heap.size 3 i0 _ 1 Try.underlying28 hi hz0 hz1 .i64 .i64 _ _ count rfl rfl rfl rfl (by rw [hz2]; omega) (by unfold maxLen; omega) (unhide HB3).size ?_
    intro w4 hown4 hgrow4
    have hb4 : Below w3.heap.size w3 w4 := ⟨hgrow4.os, hgrow4.tape, hgrow4.output, hgrow4.size, fun k hk => hgrow4.block k hk (by simp)⟩
    have HON : Hid (OnW w w4 w2.heap.size w3.heap.size count count count (wl (fun j => (f j).pick) count 0) (List.replicate count 0) (.slice none 0 0) []) := by
      refine ⟨(unhide HS3).below hb4, by rw [wl_zero]; exact owns_below (unhide HO3) hb4, ?_, fun e => ?_, fun e => ?_, by omega, bnx (unhide HB3) hb4⟩
      · rw [show (Value.int .i64 0).cells = #[.int .i64 0] from rfl, toList_madeCells_one, Nat.mul_one] at hown4
        rw [List.map_replicate]
        exact hown4
      · have := (unhide HF5) _ e; omega
      · have := (unhide HF5) _ e; omega
    simp only [Act.put, List.setIfInBounds_toArray, List.set_cons_zero, List.set_cons_succ]
    clear hown4 hgrow4 hb4 HS3 HB3 HO3 HF5
    generalize w3.heap.size = g6 at HON hlt5 ⊢
    generalize w2.heap.size = g5 at HON hlt5 ⊢
    clear hlt5
    go_wp2
    go_loopw [7] (fun i wr => ∃ k : Nat, k ≤ count ∧ i = .int .i64 k ∧ ∃ v ps, Hid (OnW w wr g5 g6 count count count (wl (fun j => (f j).pick) count k) (List.replicate count 0) v ps) ∧ Hid (ps.map it = onI (fun j => (f j).pick) k)) (fun i _ => count - (intOf i).toNat)
    case atStart => exact ⟨0, Nat.zero_le _, rfl, _, [], HON, rfl⟩
    case round =>
      clear HON
      obtain ⟨k, hk, rfl, v, ps, HON, HIT⟩ := hrel
      by_cases hlt : k < count
      · obtain ⟨b, off, hao, hac⟩ := (unhide HA).get (unhide HON).bel k (by omega)
        subst hao
        have e13 : wr.cell? ⟨b, off + k * 14 + 13, none⟩ = some (.int .i64 (f k).pick) := hac.1 13 _ rfl
        have HP := hide (put_any wr w.heap.size w.heap.size v ps (qk 4 (k : Nat)) 100 (f k).pick (unhide HON).net (fun w' _ => qk_rok 4 k w') (qk_szs 4 k) (by decide) (by decide))
        have HM := hide (fun (W : World) => mod_any (f k).pick 4 W (by decide) (by decide))
        have hbl : b < wr.heap.size := cell_lt e13
        have HWM : Hid (wt (f k).pick = if dr (f k).pick 4 = 0 then 1 else if dr (f k).pick 4 = 2 then 1 else if dr (f k).pick 4 = 3 then 2 else 0) := rfl
        have HRR : Hid (0 ≤ dr (f k).pick 4 ∧ dr (f k).pick 4 < 4) := dr_range (by decide)
        have HPI := hide (onI_put (fun j => (f j).pick) k (by omega))
        clear hac
        go_upto_region 12 with fail
        iterate 7 go_step
        refine wpList_value rfl (rpc_buildkt _ _ _ _ _ _ _ 4 (k : Nat) rfl rfl _) ?_
        simp only [Act.put, List.setIfInBounds_toArray, List.set_cons_zero, List.set_cons_succ]
        go_wp2_with fail
        refine (unhide HP).mono ?_
        rintro e w5 ⟨rfl, v5, ps5, hs5, hf5, he5, hit5⟩
        have HON2 := hide ((unhide HON).step hs5 hf5 he5)
        have HIT5 : Hid (ps5.map it = onI (fun j => (f j).pick) (k + 1)) := by
          show _ = _
          rw [hit5, unhide HIT]
          exact unhide HPI
        have e13' : w5.cell? ⟨b, off + k * 14 + 13, none⟩ = some (.int .i64 (f k).pick) := by
          obtain ⟨b', off', hao', hac'⟩ := (unhide HA).get (unhide HON2).bel k (by omega)
          cases hao'
          exact hac'.1 13 _ rfl
        clear hs5 hf5 he5 hit5 HP HON HIT HPI e13 hbl
        go_wp2_with fail
        refine ((unhide HM) _).mono ?_
        rintro e w6 ⟨rfl, q6, hw6⟩
        have HON3 : Hid (OnW w w6 g5 g6 count count count (wl (fun j => (f j).pick) count k) (List.replicate count 0) v5 ps5) := by
          have h6 := unhide HON2
          show OnW _ _ _ _ _ _ _ _ _ _ _
          rw [hw6]
          exact ⟨h6.net.below (below_drewN (Below.refl _ _) q6), h6.want, h6.got, h6.s5, h6.s6, h6.ne, below_drewN h6.bel q6⟩
        clear hw6 HM HON2 e13'
        generalize dr (f k).pick 4 = m at HWM HRR
        obtain ⟨hm0, hm4⟩ := unhide HRR
        have hcase : m = 0 ∨ m = 2 ∨ m = 3 ∨ m = 1 := by omega
        clear HRR hm0 hm4
        rcases hcase with hcase | hcase | hcase | hcase
        · have hm' : m = 0 := hcase
          subst hm'
          have HWT : Hid (wt (f k).pick = 1) := by show _ = _; rw [unhide HWM]; rfl
          have ck := (unhide HON3).want.cellAt k (by omega)
          have fk := (unhide HON3).want.frozenAt k
          obtain ⟨uk, huk⟩ : ∃ uk, w6.cell? ⟨g5, k, none⟩ = some uk := ⟨_, by rw [ck]; exact List.getElem?_eq_getElem (by rw [List.length_map, wl_len]; omega)⟩
          clear ck
          have HON4 := hide ((unhide HON3).setW k 1)
          have HON5 : Hid (OnW w (w6.setCell ⟨g5, k, none⟩ (.int .i64 1)) g5 g6 count count count (wl (fun j => (f j).pick) count (k + 1)) (List.replicate count 0) v5 ps5) := by
            have := wl_set (fun j => (f j).pick) count k
            rw [show wt ((fun j => (f j).pick) k) = 1 from unhide HWT] at this
            show OnW _ _ _ _ _ _ _ _ _ _ _
            rw [← this]
            exact unhide HON4
          clear HON3 HON4 HWT HWM
          go_wp2
          go_roundw
          case rel => exact ⟨k + 1, by omega, by go_num, v5, ps5, HON5, HIT5⟩
          case measure => simp [intOf]; omega
        · have hm' : m = 2 := hcase
          subst hm'
          have HWT : Hid (wt (f k).pick = 1) := by show _ = _; rw [unhide HWM]; rfl
          have ck := (unhide HON3).want.cellAt k (by omega)
          have fk := (unhide HON3).want.frozenAt k
          obtain ⟨uk, huk⟩ : ∃ uk, w6.cell? ⟨g5, k, none⟩ = some uk := ⟨_, by rw [ck]; exact List.getElem?_eq_getElem (by rw [List.length_map, wl_len]; omega)⟩
          clear ck
          have HON4 := hide ((unhide HON3).setW k 1)
          have HON5 : Hid (OnW w (w6.setCell ⟨g5, k, none⟩ (.int .i64 1)) g5 g6 count count count (wl (fun j => (f j).pick) count (k + 1)) (List.replicate count 0) v5 ps5) := by
            have := wl_set (fun j => (f j).pick) count k
            rw [show wt ((fun j => (f j).pick) k) = 1 from unhide HWT] at this
            show OnW _ _ _ _ _ _ _ _ _ _ _
            rw [← this]
            exact unhide HON4
          clear HON3 HON4 HWT HWM
          go_wp2
          go_roundw
          case rel => exact ⟨k + 1, by omega, by go_num, v5, ps5, HON5, HIT5⟩
          case measure => simp [intOf]; omega
        · have hm' : m = 3 := hcase
          subst hm'
          have HWT : Hid (wt (f k).pick = 2) := by show _ = _; rw [unhide HWM]; rfl
          have ck := (unhide HON3).want.cellAt k (by omega)
          have fk := (unhide HON3).want.frozenAt k
          obtain ⟨uk, huk⟩ : ∃ uk, w6.cell? ⟨g5, k, none⟩ = some uk := ⟨_, by rw [ck]; exact List.getElem?_eq_getElem (by rw [List.length_map, wl_len]; omega)⟩
          clear ck
          have HON4 := hide ((unhide HON3).setW k 2)
          have HON5 : Hid (OnW w (w6.setCell ⟨g5, k, none⟩ (.int .i64 2)) g5 g6 count count count (wl (fun j => (f j).pick) count (k + 1)) (List.replicate count 0) v5 ps5) := by
            have := wl_set (fun j => (f j).pick) count k
            rw [show wt ((fun j => (f j).pick) k) = 2 from unhide HWT] at this
            show OnW _ _ _ _ _ _ _ _ _ _ _
            rw [← this]
            exact unhide HON4
          clear HON3 HON4 HWT HWM
          go_wp2
          go_roundw
          case rel => exact ⟨k + 1, by omega, by go_num, v5, ps5, HON5, HIT5⟩
          case measure => simp [intOf]; omega
        · have hm' : m = 1 := hcase
          subst hm'
          have HON5 : Hid (OnW w w6 g5 g6 count count count (wl (fun j => (f j).pick) count (k + 1)) (List.replicate count 0) v5 ps5) := by
            show OnW _ _ _ _ _ _ _ _ _ _ _
            rw [← wl_same (fun j => (f j).pick) count k (by show wt (f k).pick = 0; rw [unhide HWM]; rfl)]
            exact unhide HON3
          clear HON3 HWM
          go_wp2
          go_roundw
          case rel => exact ⟨k + 1, by omega, by go_num, v5, ps5, HON5, HIT5⟩
          case measure => simp [intOf]; omega
      · have hkc : count = k := by omega
        subst hkc
        have hltz : ¬ (count : Int) < (count : Int) := by omega
        clear hlt hk
        have hps : ps.length ≤ 1000000 := by
          have := congrArg List.length (unhide HIT)
          rw [List.length_map] at this
          have := onI_len (fun j => (f j).pick) count
          omega
        have HT := hide (take_any wr w.heap.size w.heap.size v ps 100 (unhide HON).net hps (by decide) (by decide))
        clear hps
        go_wp2_with fail
        refine (unhide HT).mono ?_
        rintro e w5 ⟨vt, ts, v5, rs, rfl, ht⟩
        have hfil : (onI (fun j => (f j).pick) count).filter (fun x => decide (x.2 ≤ 100)) = [] := by
          rw [List.filter_eq_nil_iff]
          intro x hx
          have := (onI_mem hx).2.1
          simp only [decide_eq_true_eq]
          omega
        have hts : ts = [] := by
          have h1 := (unhide ht).told
          rw [unhide HIT, hfil] at h1
          simpa using told_nil' h1
        subst hts
        obtain ⟨a5, c5, rfl⟩ := owns_slice (unhide ht).row
        have HIR : Hid (rs.map it = onI (fun j => (f j).pick) count) := by
          show _ = _
          rw [(unhide ht).rest, unhide HIT, List.filter_eq_self]
          intro x hx
          have := (onI_mem hx).2.1
          simp only [Bool.not_eq_true', decide_eq_false_iff_not]
          omega
        have HON2 : Hid (OnW w w5 g5 g6 count count count (wl (fun j => (f j).pick) count count) (gl count (fun _ => 0)) v5 rs) := by
          show OnW _ _ _ _ _ _ _ _ _ _ _
          rw [gl_zero]
          exact (unhide HON).step (unhide ht).net (unhide ht).fr (fun g hg => (unhide ht).ext g (List.mem_append.2 (.inr (List.mem_append.2 (.inr hg)))))
        have HST : Hid (OnSt (fun j => (f j).pick) count (fun _ => 0) (rs.map it) 101) := by
          show OnSt _ _ _ _ _
          rw [unhide HIR]
          exact OnSt.start _ _
        have HPL : Hid (rs.length ≤ 1000000) := by
          have := congrArg List.length (unhide HIR)
          rw [List.length_map] at this
          have := onI_len (fun j => (f j).pick) count
          show _ ≤ _
          omega
        clear ht HT HON HIT HIR hfil
        go_wp2
        go_loopw [8] (fun i wr => ∃ t : Nat, 101 ≤ t ∧ t ≤ 111 ∧ i = .int .i64 t ∧ ∃ G v ps, Hid (OnW w wr g5 g6 count count count (wl (fun j => (f j).pick) count count) (gl count G) v ps) ∧ Hid (OnSt (fun j => (f j).pick) count G (ps.map it) t) ∧ Hid (ps.length ≤ 1000000)) (fun i _ => 111 - (intOf i).toNat)
        case atStart => exact ⟨101, by omega, by omega, rfl, _, v5, rs, HON2, HST, HPL⟩
        case round =>
          clear HON2 HST HPL
          obtain ⟨t, ht1, ht2, rfl, G, v, ps, HON, HST, HPL⟩ := hrel
          by_cases hlt : t ≤ 110
          · have HT := hide (take_any wr w.heap.size w.heap.size v ps (t : Nat) (unhide HON).net (unhide HPL) (by omega) (by omega))
            go_wp2_with fail
            refine (unhide HT).mono ?_
            rintro e w6 ⟨vt, ts, v6, rs6, rfl, htk⟩
            have HON2 := hide ((unhide HON).step (unhide htk).net (unhide htk).fr (fun g hg => (unhide htk).ext g (List.mem_append.2 (.inr (List.mem_append.2 (.inr hg))))))
            have HNX : Hid (∀ G', (∀ j, j < count → G' j = G j + (cn (ts.map it) j : Int)) → OnSt (fun j => (f j).pick) count G' (rs6.map it) ((t + 1 : Nat) : Int)) := fun G' hG' => by
              have := (unhide HST).next (told_perm (unhide htk).told) (unhide htk).rest hG'
              simpa using this
            have HAB : Hid (∀ x ∈ ts.map it, ∃ j, j < count ∧ x.1 = (qk 4 (j : Nat)).r) := fun x hx => ((unhide HST).mem x (List.mem_filter.1 ((told_perm (unhide htk).told).mem_iff.1 hx)).1).1
            have HSUM : Hid (∀ j, j < count → 0 ≤ G j ∧ G j + (cn (ts.map it) j : Int) ≤ 2) := fun j hj => by
              obtain ⟨h1, h2⟩ := (unhide HST).sum j hj
              have e1 := cn_perm (told_perm (unhide htk).told) j
              have e2 := cn_split (ps.map it) (fun x => decide (x.2 ≤ (t : Int))) j
              have e3 := wt_le (f j).pick
              exact ⟨h1, by omega⟩
            have HRL : Hid (rs6.length ≤ 1000000) := by
              have h1 := (unhide htk).rest
              have := congrArg List.length h1
              rw [List.length_map] at this
              have h2 := List.length_filter_le (fun x : It => !decide (x.2 ≤ (t : Int))) (ps.map it)
              rw [List.length_map] at h2
              have := unhide HPL
              show _ ≤ _
              omega
            have HMB : Hid (ts.length ≤ 1000000) := by
              have h1 := (told_perm (unhide htk).told).length_eq
              rw [List.length_map] at h1
              have h2 := List.length_filter_le (fun x : It => decide (x.2 ≤ (t : Int))) (ps.map it)
              rw [List.length_map] at h2
              have := unhide HPL
              show _ ≤ _
              omega
            have HROW := hide (unhide htk).row
            have hsep : ∀ g, vt.ownBlock = some g → g ≠ g6 := fun g hg e => by
              subst e
              rcases (unhide htk).ext g (List.mem_append.2 (.inl (mem_bl.2 hg))) with k1 | k1
              · exact (unhide HON).s6 k1
              · have := (owns_blk (unhide HON).got g rfl).2; omega
            have HSEP := hide hsep
            obtain ⟨at6, ct6, hvt⟩ := owns_slice (unhide htk).row
            subst hvt
            generalize hM : ts.length = M at HROW HSEP
            have hMb : M ≤ 1000000 := by rw [← hM]; exact unhide HMB
            have HM := hide hM
            clear HMB htk HT HON HST HPL hsep hM
            go_wp2
            go_loopw [10] (fun i wr => ∃ k : Nat, k ≤ M ∧ i = .int .i64 k ∧ ∃ G', Hid (OnW w wr g5 g6 count count count (wl (fun j => (f j).pick) count count) (gl count G') v6 rs6) ∧ Hid (wr.ownsRow w.heap.size 33 11 (.slice at6 M ct6) M (mrow (ts.map (·.q)))) ∧ Hid (∀ j, j < count → G' j = G j + (cn ((ts.map it).take k) j : Int))) (fun i _ => M - (intOf i).toNat)
            case atStart => exact ⟨0, Nat.zero_le _, rfl, G, HON2, HROW, fun j hj => by simp [cn]⟩
            case round =>
              clear HON2 HROW
              obtain ⟨k, hk, rfl, G', HON2, HROW, HGG⟩ := hrel
              by_cases hltk : k < M
              · have hkt : k < ts.length := by rw [unhide HM]; exact hltk
                have hka : k < (ts.map it).length := by rw [List.length_map]; exact hkt
                obtain ⟨jt, hjt, hje⟩ := (unhide HAB) (ts.map it)[k] (List.getElem_mem hka)
                have hq : (ts.map (·.q))[k]? = some ts[k].q := by rw [List.getElem?_map, List.getElem?_eq_getElem hkt]; rfl
                have hqr : ts[k].q.r = (qk 4 (jt : Nat)).r := by rw [List.getElem_map] at hje; exact hje
                obtain ⟨gt, hat⟩ : ∃ gt, at6 = some ⟨gt, 0, none⟩ := by
                  rcases (unhide HROW).2 with ⟨_, h2⟩ | ⟨gt, _, _, e, _⟩
                  · omega
                  · simp only [Value.slice.injEq] at e
                    exact ⟨gt, e.1⟩
                subst hat
                have t0 : wr.cell? ⟨gt, k * 11, none⟩ = some (.int .i64 4) := by
                  have h1 := (unhide HROW).cellAt (k * 11 + 0) (by omega)
                  rw [mrow_get _ k _ hq 0 (by omega)] at h1
                  rw [show wr.cell? ⟨gt, k * 11, none⟩ = wr.cell? ⟨gt, k * 11 + 0, none⟩ from rfl, h1]
                  show some (Value.int .i64 ts[k].q.r.kind) = _
                  rw [hqr]; rfl
                have t3 : wr.cell? ⟨gt, k * 11 + 3, none⟩ = some (.int .i64 (jt : Nat)) := by
                  rw [(unhide HROW).cellAt (k * 11 + 3) (by omega), mrow_get _ k _ hq 3 (by omega)]
                  show some (Value.int .i64 ts[k].q.r.term) = _
                  rw [hqr]; rfl
                have tg : wr.cell? ⟨g6, jt, none⟩ = some (.int .i64 (G' jt)) := by
                  rw [(unhide HON2).got.cellAt jt (by omega)]
                  exact gl_get count G' jt hjt
                have tf := (unhide HON2).got.frozenAt jt
                have HTK := hide (fun (j : Nat) => cn_take (ts.map it) k hka jt j hje)
                have HU : Hid (0 ≤ G' jt ∧ G' jt ≤ 2) := by
                  have h1 := (unhide HGG) jt hjt
                  have h2 := (unhide HSUM) jt hjt
                  have h3 := cn_le ((ts.map it).take k) (ts.map it) (List.take_sublist _ _) jt
                  show _ ∧ _
                  omega
                obtain ⟨hu0, hu2⟩ := unhide HU
                have hwu : IntKind.i64.wrap (G' jt + 1) = G' jt + 1 := by rw [IntKind.wrap_i64]; omega
                have HON3 := hide ((unhide HON2).setG jt (G' jt + 1))
                have HROW3 := hide (owns_fr (unhide HROW) (set_fr (F := fun x => x = g6) (j := jt) (v := .int .i64 (G' jt + 1)) rfl) (fun g hg e => (unhide HSEP) g hg e))
                have HON4 : Hid (OnW w (wr.setCell ⟨g6, jt, none⟩ (.int .i64 (G' jt + 1))) g5 g6 count count count (wl (fun j => (f j).pick) count count) (gl count (fun j => if j = jt then G' jt + 1 else G' j)) v6 rs6) := by
                  show OnW _ _ _ _ _ _ _ _ _ _ _
                  rw [← gl_set count G' (fun j => if j = jt then G' jt + 1 else G' j) jt (G' jt + 1) (fun j _ => rfl)]
                  exact unhide HON3
                have HGG4 : Hid (∀ j, j < count → (fun j => if j = jt then G' jt + 1 else G' j) j = G j + (cn ((ts.map it).take (k + 1)) j : Int)) := fun j hj => by
                  have h1 := (unhide HTK) j
                  have h2 := (unhide HGG) j hj
                  dsimp only
                  rw [h1]
                  by_cases e : j = jt
                  · subst e; rw [if_pos rfl, if_pos rfl]; omega
                  · rw [if_neg e, if_neg e]; omega
                have hjz : ¬ ((jt : Nat) : Int) < 0 := by omega
                have hjc : decide (((jt : Nat) : Int) ≥ (count : Int)) = false := decide_eq_false (by omega)
                have hjlt : ((jt : Nat) : Int) < (count : Int) := by omega
                clear HON3 HTK HU HON2 HROW HGG hq hqr hje hkt hka
                generalize G' jt = u at tg hu0 hu2 hwu HON4 HROW3 HGG4
                go_wp2
                generalize wr.setCell ⟨g6, jt, none⟩ (.int .i64 (u + 1)) = w7 at HON4 HROW3 ⊢
                go_roundw
                case rel => exact ⟨k + 1, by omega, by go_num, _, HON4, HROW3, HGG4⟩
                case measure => simp [intOf]; omega
              · have hkm : (ts.map it).take k = ts.map it := List.take_of_length_le (by rw [List.length_map, unhide HM]; omega)
                rw [hkm] at HGG
                have HST2 := hide ((unhide HNX) G' (unhide HGG))
                clear hkm HGG HNX HAB HSUM HROW HSEP
                go_wp2
                go_roundw
                case rel => exact ⟨t + 1, by omega, by omega, by go_num, G', v6, rs6, HON2, HST2, HRL⟩
                case measure => simp [intOf]; omega
          · have hp : ps = [] := by
              cases ps with
              | nil => rfl
              | cons p r =>
                have h1 := (unhide HST).mem (it p) (by simp)
                omega
            subst hp
            have HEQ : Hid (gl count G = wl (fun j => (f j).pick) count count) := by
              show _ = _
              rw [wl_gl]
              refine gl_ext count _ _ (fun j hj => ?_)
              have := ((unhide HST).sum j hj).2
              simpa [cn] using this
            have HN5 : Hid (Nms wr (.slice (some ⟨g5, 0, none⟩) count count) (wl (fun j => (f j).pick) count count)) := nms_of_owns (B := w.heap.size) (e := 3) (by rw [wl_len]; exact (unhide HON).want)
            have HN6 : Hid (Nms wr (.slice (some ⟨g6, 0, none⟩) count count) (wl (fun j => (f j).pick) count count)) := by
              show Nms _ _ _
              rw [← unhide HEQ]
              exact nms_of_owns (B := w.heap.size) (e := 3) (by rw [gl_len]; exact (unhide HON).got)
            have HE := hide (eqn_any _ _ _ _ wr (unhide HN5) (unhide HN6))
            have HNET := hide (unhide HON).net
            have HBL := hide (unhide HON).bel
            clear HON HST HEQ HN5 HN6 HPL
            go_wp2_with fail
            refine (unhide HE).mono ?_
            rintro e w6 ⟨he, q6, hw6⟩
            have he' : e = .returned (.bool true) := by rw [he]; simp
            subst he'
            have HB6 : Hid (Below w.heap.size w w6) := by show Below _ _ _; rw [hw6]; exact below_drewN (unhide HBL) q6
            have HS6 : Hid (NS w6 w.heap.size w.heap.size v []) := by show NS _ _ _ _ _; rw [hw6]; exact (unhide HNET).below (below_drewN (Below.refl _ _) q6)
            have HC := hide (count_any w6 _ _ _ [] (unhide HS6))
            clear he hw6 HE HNET HBL
            go_wp2_with fail
            refine (unhide HC).mono ?_
            rintro e w7 ⟨rfl, hw7⟩
            obtain rfl := hw7.symm
            clear hw7 HC
            have HWK := hide (wakes_any w6)
            go_wp2_with fail
            refine (unhide HWK).mono ?_
            rintro e w8 ⟨rfl, hb8⟩
            have HB8 : Hid (Below w.heap.size w w8) := bnx (unhide HB6) hb8
            clear hb8 HWK HB6 HS6
            go_wp2
            go_ret
            exact ⟨rfl, unhide HB8⟩
  · go_wp2
    go_ret
    exact ⟨rfl, unhide HB1⟩
end Go.Proofs.Ytfgelagmjjjlgaa.Nt
