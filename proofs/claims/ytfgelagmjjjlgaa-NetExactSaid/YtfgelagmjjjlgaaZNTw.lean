/- Proved here: the contract of net's Take: the walk. Helper contract. -/
import Derived.Test.YtfgelagmjjjlgaaZNTk
namespace Go.Proofs.Ytfgelagmjjjlgaa.Nt
open Go.RowKit
set_option maxRecDepth 100000

set_option maxHeartbeats 8000000 in
theorem take_any (w : World) (B n : Nat) (v : Value) (ps : List Pc) (now : Int) (h : NS w B n v ps) (hl : ps.length ≤ 1000000) (h0 : 0 ≤ now) (h1 : now ≤ 2199023255552) :
    Calls Try.prog 9 #[.pointer (some ⟨n, 0, none⟩), .int .i64 now] w fun e w' => ∃ vt ts v' rs, e = .returned vt ∧ Hid (Taken w B n v ps now w' vt ts v' rs) := by
  obtain ⟨i0, hi, hz0, hz1, hz2⟩ := info_parts infoPc
  obtain ⟨j0, ji, jz0, jz1, jz2⟩ := info_parts infoR
  have HS := hide h
  obtain ⟨ao, cap, hv⟩ := h.shape
  subst hv
  have c0 := h.box.cell 0 _ rfl
  have hnw := h.box.lt
  clear h
  generalize hpl : ps.length = L at c0 hl
  have HPL := hide hpl
  clear hpl
  go_enter Try.func9, Try.ntmps9
  go_wp2
  clear c0
  go_loopw [5, 6, 17] (fun vc vr i wr => ∃ k : Nat, k ≤ L ∧ i = .int .i64 k ∧ Hid (Two w wr vc vr ((ps.take k).filter (has now)) ((ps.take k).filter (fun p => !has now p)))) (fun _ _ i _ => L - (intOf i).toNat)
  case atStart => exact ⟨0, Nat.zero_le _, rfl, World.ownsRow_nil _ _ _ _, World.ownsRow_nil _ _ _ _, fun g hg => by simp [bl, Value.ownBlock] at hg, Below.refl _ _⟩
  case round =>
    obtain ⟨k, hk, rfl, HTW⟩ := hrel
    by_cases hlt : k < L
    · have HKL : Hid (k < ps.length) := by show _ < _; rw [unhide HPL]; exact hlt
      have HF1 := hide (filter_snoc ps (has now) k (unhide HKL))
      have HF2 := hide (filter_snoc ps (fun p => !has now p) k (unhide HKL))
      have hmem : ps.getD k default ∈ ps := by rw [List.getD_eq_getElem?_getD, List.getElem?_eq_getElem (unhide HKL)]; exact List.getElem_mem (unhide HKL)
      have HOK := hide ((unhide HS).ok _ hmem)
      obtain ⟨g, hao⟩ : ∃ g, ao = some ⟨g, 0, none⟩ := by
        rcases (unhide HS).row.2 with ⟨_, e⟩ | ⟨g, cap', cur, e, _⟩
        · have := unhide HKL; omega
        · simp only [Value.slice.injEq] at e
          exact ⟨g, e.1⟩
      subst hao
      have hrg0 := pcs_range (by have := (unhide HS).row; rw [unhide HPL] at this; exact this) k (unhide HKL) (unhide HPL)
      have HRG := hide (range_below hrg0 (unhide HTW).bel)
      generalize ps.getD k default = p at HF1 HF2 HOK HRG
      clear hmem hrg0
      have HLC : Hid (((ps.take k).filter (has now)).length ≤ k ∧ ((ps.take k).filter (fun p => !has now p)).length ≤ k) := ⟨Nat.le_trans (List.length_filter_le _ _) (List.length_take_le _ _), Nat.le_trans (List.length_filter_le _ _) (List.length_take_le _ _)⟩
      generalize (ps.take k).filter (has now) = cs at HTW HF1 HLC
      generalize (ps.take k).filter (fun p => !has now p) = rs at HTW HF2 HLC
      obtain ⟨hlc, hlr⟩ := unhide HLC
      go_upto_region 4 with fail
      iterate 4 go_step
      refine wpList_load_mid rfl 53 _ rfl g (k * 13) rfl (pcs p) _ (unhide HRG) Try.underlying53 rfl par_size ?_
      simp only [Act.put, List.setIfInBounds_toArray, List.set_cons_zero, List.set_cons_succ]
      refine wpList_value rfl (par_alloc _ _ _ _ _ _) ?_
      simp only [Act.put, List.setIfInBounds_toArray, List.set_cons_zero, List.set_cons_succ]
      refine wpList_skip rfl (par_store _ _ _ _ _ _ _ p wr rfl rfl) ?_
      simp only [Act.put]
      have HX : Hid (Bx (wr.alloc (.cells (pcs p).toArray 53)) wr.heap.size (pcs p) 53) := Bx.new wr (pcs p) 53 _ rfl
      have HTW1 := hide ((unhide HTW).below ((Below.refl _ _).alloc (Nat.le_refl _) (.cells (pcs p).toArray 53)))
      generalize wr.alloc (.cells (pcs p).toArray 53) = w1 at HX HTW1 ⊢
      generalize wr.heap.size = X at HX ⊢
      clear HTW HRG HLC
      go_upto_region 5 with fail
      go_step
      refine wpList_load_mid rfl 53 _ rfl X 0 rfl (pcs p) _ (unhide HX).range Try.underlying53 rfl par_size ?_
      simp only [Act.put, List.setIfInBounds_toArray, List.set_cons_zero, List.set_cons_succ]
      have HHC := hide (hc_any p now w1 (unhide HOK) h0 h1)
      go_wp2_with fail
      refine (unhide HHC).mono ?_
      rintro e w2 ⟨rfl, hb2⟩
      have HX2 := hide ((unhide HX).below hb2)
      have HTW2 := hide ((unhide HTW1).below hb2)
      have hBw : w.heap.size ≤ w2.heap.size := (unhide HTW2).bel.size
      have HHP : Hid (has now p = decide (p.put + p.delay ≤ now)) := rfl
      clear hb2 HHC HX HTW1
      generalize decide (p.put + p.delay ≤ now) = bb at HHP ⊢
      cases bb
      · go_upto_region 7 with fail
        iterate 4 go_step
        refine wpList_load_mid rfl 53 _ rfl X 0 rfl (pcs p) _ (unhide HX2).range Try.underlying53 rfl par_size ?_
        simp only [Act.put, List.setIfInBounds_toArray, List.set_cons_zero, List.set_cons_succ]
        refine wpList_value rfl (par_slice _ _ _ _ _ _ p rfl _) ?_
        simp only [Act.put, List.setIfInBounds_toArray, List.set_cons_zero, List.set_cons_succ]
        have HX3 : Hid (Bx (w2.alloc (.cells (pcs p).toArray 53)) w2.heap.size (pcs p) 53) := Bx.new w2 (pcs p) 53 _ rfl
        have HTW3 := hide ((unhide HTW2).below ((Below.refl _ _).alloc (Nat.le_refl _) (.cells (pcs p).toArray 53)))
        have hsz3 : w2.heap.size + 1 ≤ (w2.alloc (.cells (pcs p).toArray 53)).heap.size := by simp
        generalize w2.alloc (.cells (pcs p).toArray 53) = w3 at HX3 HTW3 hsz3 ⊢
        refine wpList_append_own_at _ rfl _ _ 48 rfl w.heap.size 53 i0 _ 13 144 Try.underlying48 hi hz0 hz1 hz2 rfl (by decide) _ _ _ rfl (unhide HTW3).r ⟨w2.heap.size, 0, none⟩ 1 1 (pcs p) rfl rfl (pcs_cells (unhide HX3)) (pcs_one _) (by unfold maxLen; omega) (by omega) (by omega) ?_
        intro v' w4 hown hgrow _ hat
        have HTW4 : Hid (Two w w4 u5 v' ((ps.take (k + 1)).filter (has now)) ((ps.take (k + 1)).filter (fun p => !has now p))) := by
          rw [unhide HF1, unhide HF2, unhide HHP, if_neg (by simp), if_pos (by simp), List.append_nil]
          exact ((unhide HTW3).swap.more hown hgrow hat).swap
        clear hown hgrow hat HTW3 HTW2 HX3 HX2 HF1 HF2
        simp only [Act.put, List.setIfInBounds_toArray, List.set_cons_zero, List.set_cons_succ]
        go_wp2
        go_roundw
        case rel => exact ⟨k + 1, by omega, by go_num, HTW4⟩
        case measure => simp [intOf]; omega
      · go_upto_region 6 with fail
        iterate 4 go_step
        refine wpList_load_mid rfl 53 _ rfl X 0 rfl (pcs p) _ (unhide HX2).range Try.underlying53 rfl par_size ?_
        simp only [Act.put, List.setIfInBounds_toArray, List.set_cons_zero, List.set_cons_succ]
        refine wpList_value rfl (par_slice _ _ _ _ _ _ p rfl _) ?_
        simp only [Act.put, List.setIfInBounds_toArray, List.set_cons_zero, List.set_cons_succ]
        have HX3 : Hid (Bx (w2.alloc (.cells (pcs p).toArray 53)) w2.heap.size (pcs p) 53) := Bx.new w2 (pcs p) 53 _ rfl
        have HTW3 := hide ((unhide HTW2).below ((Below.refl _ _).alloc (Nat.le_refl _) (.cells (pcs p).toArray 53)))
        have hsz3 : w2.heap.size + 1 ≤ (w2.alloc (.cells (pcs p).toArray 53)).heap.size := by simp
        generalize w2.alloc (.cells (pcs p).toArray 53) = w3 at HX3 HTW3 hsz3 ⊢
        refine wpList_append_own_at _ rfl _ _ 48 rfl w.heap.size 53 i0 _ 13 144 Try.underlying48 hi hz0 hz1 hz2 rfl (by decide) _ _ _ rfl (unhide HTW3).c ⟨w2.heap.size, 0, none⟩ 1 1 (pcs p) rfl rfl (pcs_cells (unhide HX3)) (pcs_one _) (by unfold maxLen; omega) (by omega) (by omega) ?_
        intro v' w4 hown hgrow _ hat
        have HTW4 : Hid (Two w w4 v' u6 ((ps.take (k + 1)).filter (has now)) ((ps.take (k + 1)).filter (fun p => !has now p))) := by
          rw [unhide HF1, unhide HF2, unhide HHP, if_pos rfl, if_neg (by simp), List.append_nil]
          exact (unhide HTW3).more hown hgrow hat
        clear hown hgrow hat HTW3 HTW2 HX3 HX2 HF1 HF2
        simp only [Act.put, List.setIfInBounds_toArray, List.set_cons_zero, List.set_cons_succ]
        go_wp2
        go_roundw
        case rel => exact ⟨k + 1, by omega, by go_num, HTW4⟩
        case measure => simp [intOf]; omega
    · have hkl : ps.take k = ps := List.take_of_length_le (by have := unhide HPL; omega)
      rw [hkl] at HTW
      have HLT : Hid ((ps.filter (has now)).length ≤ L) := by show _ ≤ _; rw [← unhide HPL]; exact List.length_filter_le _ _
      clear hkl
      generalize hcs : ps.filter (has now) = cs at HTW HLT
      generalize hrs : ps.filter (fun p => !has now p) = rs at HTW
      have HCS := hide hcs
      have HRS := hide hrs
      clear hcs hrs
      have hlt2 := unhide HLT
      clear HLT
      obtain ⟨ar, cr, hur⟩ := owns_slice (unhide HTW).r
      subst hur
      have c0 : wr.cell? ⟨n, 0, none⟩ = some (.slice ao L cap) := by have := ((unhide HS).below (unhide HTW).bel).box.cell 0 _ rfl; rw [unhide HPL] at this; exact this
      have f0 := ((unhide HS).below (unhide HTW).bel).box.frz 0
      have hbw : w.heap.size ≤ wr.heap.size := (unhide HTW).bel.size
      go_upto_region 10 with fail
      have hfr : Fr (fun k => k = n) wr (wr.setCell ⟨n, 0, none⟩ (.slice ar rs.length cr)) := set_fr rfl
      have HC3 := hide (owns_fr (unhide HTW).c hfr (fun g hg => by have := (owns_blk (unhide HTW).c g hg).1; omega))
      have HR3 := hide (owns_fr (unhide HTW).r hfr (fun g hg => by have := (owns_blk (unhide HTW).r g hg).1; omega))
      have HX3 : Hid (Bx (wr.setCell ⟨n, 0, none⟩ (.slice ar rs.length cr)) n [.slice ar rs.length cr] 50) := ((unhide HS).below (unhide HTW).bel).box.set 0 _ (by simp)
      have HF3 : Hid (Fr (fun k => k = n) w (wr.setCell ⟨n, 0, none⟩ (.slice ar rs.length cr))) := (Fr.of_below (unhide HTW).bel).trans hfr
      have HSEP := hide (unhide HTW).sep
      have hb3 : w.heap.size ≤ (wr.setCell ⟨n, 0, none⟩ (.slice ar rs.length cr)).heap.size := Nat.le_trans hbw hfr.size
      generalize wr.setCell ⟨n, 0, none⟩ (.slice ar rs.length cr) = w3 at HC3 HR3 HX3 HF3 hb3 ⊢
      clear hfr c0 f0 HTW hbw
      have HSO := hide (sortp_any (unhide HC3) (by omega))
      go_wp2_with fail
      refine (unhide HSO).mono ?_
      rintro e w4 ⟨rfl, hso⟩
      obtain ⟨T, hT1, hT2, hT3, hT4⟩ := unhide hso
      have hfr : Fr (fun k => k ∈ bl u5) w3 w4 := Fr.of_grown hT4 (fun g e => mem_bl.2 e)
      have hc5 : ∀ g ∈ bl u5, w.heap.size ≤ g := fun g hg => (owns_blk (unhide HC3) g (mem_bl.1 hg)).1
      have HR4 := hide (owns_fr (unhide HR3) hfr (fun g hg e => (unhide HSEP) g e (mem_bl.2 hg)))
      have HX4 : Hid (Bx w4 n [.slice ar rs.length cr] 50) := (unhide HX3).fr hfr (fun e => by have := hc5 n e; omega)
      have HF4 : Hid (Fr (fun k => k = n) w w4) := (unhide HF3).trans' hfr (fun i hi hg => by have := hc5 i hg; omega)
      have hTl : (T.map (·.1)).length = cs.length := by rw [List.length_map, hT1.length_eq, List.length_zipIdx]
      have hTm : ∀ p ∈ T.map (·.1), p ∈ cs := fun p hp => by
        obtain ⟨x, hx, rfl⟩ := List.mem_map.1 hp
        have := List.mem_map_of_mem (f := Prod.fst) (hT1.mem_iff.1 hx)
        simpa using this
      have HTP : Hid ((T.map (·.1)).Perm cs) := by
        have := hT1.map Prod.fst
        rw [show cs.zipIdx.map Prod.fst = cs from by simp] at this
        exact this
      have HTD : Hid (Told ((ps.map it).filter (fun x => decide (x.2 ≤ now))) ((T.map (·.1)).map it)) := told_of (unhide HS).ok (by rw [unhide HCS]; exact hT1) hT2
      have HT4 := hide hT3
      generalize T.map (·.1) = ts at hTl hTm HTP HTD HT4
      have HTL := hide hTl
      have hb4 : w.heap.size ≤ w4.heap.size := (unhide HF4).size
      clear hso hT1 hT2 hT3 hT4 hfr hc5 hTl HC3 HR3 HX3 HF3 hb3 HSO hTm
      obtain ⟨ac, cc, huc⟩ := owns_slice (unhide HT4)
      generalize hcl : cs.length = M at HTL hlt2 huc HT4
      subst huc
      have HCL := hide hcl
      clear hcl
      go_wp2
      go_loopw [9, 41] (fun vt i wr => ∃ k : Nat, k ≤ M ∧ i = .int .i64 k ∧ Hid (wr.ownsRow w4.heap.size 33 11 vt k (mrow ((ts.take k).map (·.q)))) ∧ Hid (Below w4.heap.size w4 wr)) (fun _ i _ => M - (intOf i).toNat)
      case atStart => exact ⟨0, Nat.zero_le _, rfl, World.ownsRow_nil _ _ _ _, Below.refl _ _⟩
      case round =>
        obtain ⟨k, hk2, rfl, HVT, HBT⟩ := hrel
        by_cases hltk : k < M
        · have HKL : Hid (k < ts.length) := by show _ < _; rw [unhide HTL]; exact hltk
          obtain ⟨g, hac⟩ : ∃ g, ac = some ⟨g, 0, none⟩ := by
            rcases (unhide HT4).2 with ⟨e, h2⟩ | ⟨g, cap', cur, e, _⟩
            · omega
            · simp only [Value.slice.injEq] at e
              exact ⟨g, e.1⟩
          subst hac
          have HRG := hide (range_below (pcs_range (unhide HT4) k (unhide HKL) (unhide HTL)) (unhide HBT))
          have HSN : Hid (mrow ((ts.take (k + 1)).map (·.q)) = mrow ((ts.take k).map (·.q)) ++ mcs (ts.getD k default).q) := by
            show _ = _
            rw [List.take_succ_eq_append_getElem (unhide HKL), List.map_append, mrow_app, List.getD_eq_getElem?_getD, List.getElem?_eq_getElem (unhide HKL)]
            simp [mrow]
          generalize ts.getD k default = p at HRG HSN
          have hbt : w4.heap.size ≤ wr.heap.size := (unhide HBT).size
          go_upto_region 14 with fail
          iterate 4 go_step
          refine wpList_load_mid rfl 53 _ rfl g (k * 13) rfl (pcs p) _ (unhide HRG) Try.underlying53 rfl par_size ?_
          simp only [Act.put, List.setIfInBounds_toArray, List.set_cons_zero, List.set_cons_succ]
          refine wpList_value rfl (par_alloc _ _ _ _ _ _) ?_
          simp only [Act.put, List.setIfInBounds_toArray, List.set_cons_zero, List.set_cons_succ]
          refine wpList_skip rfl (par_store _ _ _ _ _ _ _ p wr rfl rfl) ?_
          simp only [Act.put]
          have hal : Below wr.heap.size wr (wr.alloc (.cells (pcs p).toArray 53)) := (Below.refl _ _).alloc (Nat.le_refl _) _
          have HX : Hid (Bx (wr.alloc (.cells (pcs p).toArray 53)) wr.heap.size (pcs p) 53) := Bx.new wr (pcs p) 53 _ rfl
          have HVT1 := hide (owns_below (unhide HVT) hal)
          have HBT1 : Hid (Below w4.heap.size w4 (wr.alloc (.cells (pcs p).toArray 53))) := bnx (unhide HBT) hal
          generalize wr.alloc (.cells (pcs p).toArray 53) = w5 at HX HVT1 HBT1 hal ⊢
          generalize wr.heap.size = X at HX ⊢
          clear HVT HBT HRG hal hbt
          go_upto_region 15 with fail
          iterate 7 go_step
          refine wpList_load_mid rfl 33 _ rfl X 0 rfl (mcs p.q) _ (pc_head (unhide HX)) Try.underlying33 rfl rpc_size ?_
          simp only [Act.put, List.setIfInBounds_toArray, List.set_cons_zero, List.set_cons_succ]
          refine wpList_value rfl (rpc_slice _ _ _ _ _ _ p.q rfl _) ?_
          simp only [Act.put, List.setIfInBounds_toArray, List.set_cons_zero, List.set_cons_succ]
          have hal : Below w5.heap.size w5 (w5.alloc (.cells (mcs p.q).toArray 33)) := (Below.refl _ _).alloc (Nat.le_refl _) _
          have HX3 : Hid (Bx (w5.alloc (.cells (mcs p.q).toArray 33)) w5.heap.size (mcs p.q) 33) := Bx.new w5 (mcs p.q) 33 _ rfl
          have HVT2 := hide (owns_below (unhide HVT1) hal)
          have HBT2 : Hid (Below w4.heap.size w4 (w5.alloc (.cells (mcs p.q).toArray 33))) := bnx (unhide HBT1) hal
          have hb6 := (unhide HBT2).size
          generalize w5.alloc (.cells (mcs p.q).toArray 33) = w6 at HX3 HVT2 HBT2 hb6 ⊢
          refine wpList_append_own _ rfl _ _ 27 rfl w4.heap.size 33 j0 _ 11 128 Try.underlying27 ji jz0 jz1 jz2 rfl (by decide) _ _ _ rfl (unhide HVT2) ⟨w5.heap.size, 0, none⟩ 1 1 (mcs p.q) rfl rfl (mcs_cells (unhide HX3)) (mcs_one _) (by unfold maxLen; omega) (by omega) hb6 ?_
          intro v' w7 hown hgrow _
          have HVT3 : Hid (w7.ownsRow w4.heap.size 33 11 v' (k + 1) (mrow ((ts.take (k + 1)).map (·.q)))) := by show World.ownsRow _ _ _ _ _ _ _; rw [unhide HSN]; exact hown
          have HBT3 : Hid (Below w4.heap.size w4 w7) := (unhide HBT2).grown hgrow hb6 (fun k hk => (owns_blk (unhide HVT2) k hk).1)
          clear hown hgrow hal HX3 HVT2 HBT2 HVT1 HBT1 HX hb6
          simp only [Act.put, List.setIfInBounds_toArray, List.set_cons_zero, List.set_cons_succ]
          go_wp2
          go_roundw
          case rel => exact ⟨k + 1, by omega, by go_num, HVT3, HBT3⟩
          case measure => simp [intOf]; omega
        · have hkm : k = M := by omega
          subst hkm
          have htt : ts.take k = ts := List.take_of_length_le (by have := unhide HTL; omega)
          rw [htt] at HVT
          clear htt
          have HFIN : Hid (Taken w B n (.slice ao L cap) ps now wr u9 ts (.slice ar rs.length cr) rs) := by
            have HSa := unhide HS
            rw [unhide HPL] at HSa
            have hb : Below w4.heap.size w4 wr := unhide HBT
            have hF : Fr (fun k => k = n) w wr := (unhide HF4).trans (Fr.of_below hb)
            have hperm : (ts ++ rs).Perm ps := by
              have h1 := List.filter_append_perm (has now) ps
              rw [unhide HCS] at h1
              have h3 : ps.filter (fun x => !has now x) = rs := unhide HRS
              rw [h3] at h1
              exact (List.Perm.append_right rs (unhide HTP)).trans h1
            have hmem : ∀ p, p ∈ ts ∨ p ∈ rs → p ∈ ps := fun p hp => hperm.mem_iff.1 (List.mem_append.2 hp)
            obtain ⟨n1, n2⟩ := List.nodup_cons.1 HSa.nd
            obtain ⟨n3, n4, n5⟩ := List.nodup_append.1 n2
            have hpbs : ((ts ++ rs).flatMap pb).Nodup := ((hperm.flatMap_right pb).nodup_iff).2 n4
            rw [List.flatMap_append] at hpbs
            obtain ⟨m1, m2, m3⟩ := List.nodup_append.1 hpbs
            have old : ∀ p, p ∈ ts ∨ p ∈ rs → ∀ g ∈ pb p, g < w.heap.size ∧ g ≠ n := fun p hp g hg => by
              have hin := hmem p hp
              refine ⟨(HSa.lt g (mem_fp.2 (.inr (.inr ⟨p, hin, hg⟩)))).2, fun e => ?_⟩
              subst e
              exact n1 (List.mem_append.2 (.inr (List.mem_flatMap.2 ⟨p, hin, hg⟩)))
            have oldm : ∀ g, g ∈ ts.flatMap pb ∨ g ∈ rs.flatMap pb → g < w.heap.size ∧ g ≠ n := fun g hg => by
              rcases hg with hg | hg
              · obtain ⟨p, hp, h2⟩ := List.mem_flatMap.1 hg; exact old p (.inl hp) g h2
              · obtain ⟨p, hp, h2⟩ := List.mem_flatMap.1 hg; exact old p (.inr hp) g h2
            have hvr : ∀ g ∈ bl (Value.slice ar rs.length cr), w.heap.size ≤ g ∧ g < w4.heap.size := fun g hg => owns_blk (unhide HR4) g (mem_bl.1 hg)
            have hvt : ∀ g ∈ bl u9, w4.heap.size ≤ g := fun g hg => (owns_blk (unhide HVT) g (mem_bl.1 hg)).1
            have hown : ∀ p, p ∈ ts ∨ p ∈ rs → MqOwn wr B p.q := fun p hp => (HSa.own p (hmem p hp)).fr hF (fun g hg e => (old p hp g hg).2 e)
            have hndr : (fp n (.slice ar rs.length cr) rs).Nodup := by
              unfold fp
              refine List.nodup_cons.2 ⟨fun h => ?_, List.nodup_append.2 ⟨bl_nodup _, m2, fun x hx y hy e => ?_⟩⟩
              · rcases List.mem_append.1 h with h | h
                · have := (hvr n h).1; omega
                · exact (oldm n (.inr h)).2 rfl
              · subst e
                have := (hvr x hx).1
                have := (oldm x (.inr hy)).1
                omega
            refine ⟨⟨(unhide HX4).below hb, HSa.low, owns_mono (owns_below (unhide HR4) hb) (by have := HSa.low; omega), fun p hp => hown p (.inr hp), fun p hp => HSa.ok p (hmem p (.inr hp)), hndr⟩, ?_, fun p hp => hown p (.inl hp), hF.weak (fun k e => by rw [e]; exact mem_fp.2 (.inl rfl)), ?_, ?_, unhide HTD, ?_⟩
            · rw [unhide HTL]; exact owns_mono (unhide HVT) (by have := HSa.low; omega)
            · intro g hg
              rcases List.mem_append.1 hg with hg | hg
              · have := hvt g hg; exact .inr (by omega)
              · rcases List.mem_append.1 hg with hg | hg
                · obtain ⟨p, hp, h2⟩ := List.mem_flatMap.1 hg
                  exact .inl (mem_fp.2 (.inr (.inr ⟨p, hmem p (.inl hp), h2⟩)))
                · rcases mem_fp.1 hg with e | hg | ⟨p, hp, h2⟩
                  · exact .inl (mem_fp.2 (.inl e))
                  · exact .inr (hvr g hg).1
                  · exact .inl (mem_fp.2 (.inr (.inr ⟨p, hmem p (.inr hp), h2⟩)))
            · refine List.nodup_append.2 ⟨bl_nodup _, List.nodup_append.2 ⟨m1, hndr, fun x hx y hy e => ?_⟩, fun x hx y hy e => ?_⟩
              · subst e
                rcases mem_fp.1 hy with e | hy | ⟨p, hp, h2⟩
                · exact (oldm x (.inl hx)).2 e
                · have := (hvr x hy).1; have := (oldm x (.inl hx)).1; omega
                · exact m3 x hx x (List.mem_flatMap.2 ⟨p, hp, h2⟩) rfl
              · subst e
                have h1 := hvt x hx
                rcases List.mem_append.1 hy with hy | hy
                · have := (oldm x (.inl hy)).1; omega
                · rcases mem_fp.1 hy with e | hy | ⟨p, hp, h2⟩
                  · omega
                  · have := (hvr x hy).2; omega
                  · have := (old p (.inr hp) x h2).1; omega
            · rw [← unhide HRS, List.filter_map]; rfl
          clear HVT HBT HTD HTP HX4 HF4 HR4 HT4
          go_wp2
          go_ret
          exact ⟨u9, ts, .slice ar rs.length cr, rs, rfl, HFIN⟩
end Go.Proofs.Ytfgelagmjjjlgaa.Nt
