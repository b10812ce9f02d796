/- Proved here: dovecoteref0.CopyRpc copies a message to memory of its own. Helper contract. -/
import Derived.Test.YtmmhdhpocjnlbaaGreatDoorZJDc
import Derived.Test.YtmmhdhpocjnlbaaGreatDoorZESp
import Derived.Test.YtmmhdhpocjnlbaaGreatDoorZNNm
import Derived.Test.YtmmhdhpocjnlbaaGreatDoorZJEq
namespace Go.Proofs.YtmmhdhpocjnlbaaGreatDoor.Jr
open Go.RowKit Nt Et Qu
set_option maxRecDepth 100000

/-- a copy in memory of its own -/
def CpIs (w : World) (B : Nat) (r : Rp) (q : Mq) : Prop := q.r = r ∧ MqOwn w B q
set_option maxHeartbeats 4000000 in
theorem copyr_any (q : Mq) (w : World) (h : Rok w q) (hz : Szs q.r) :
    Calls Tryz.prog 6 #[.agg (mcs q).toArray] w fun e w' => ∃ p, e = .returned (.agg (mcs p).toArray) ∧ Hid (CpIs w' w.heap.size q.r p) ∧ Hid (Below w.heap.size w w') := by
  have HR := hide h
  have HZ := hide hz
  clear h hz
  obtain ⟨B, hB⟩ : ∃ B, B = w.heap.size := ⟨_, rfl⟩
  obtain ⟨wa, hwa⟩ : ∃ wa, wa = (w.alloc (.cells (mcs q).toArray 27)).alloc (.cells rz.toArray 27) := ⟨_, rfl⟩
  have hsz : wa.heap.size = B + 2 := by rw [hwa, hB]; simp
  have HA : Hid (Bx wa B (mcs q) 27) := by
    show Bx _ _ _ _
    rw [hwa]
    exact (Bx.new w (mcs q) 27 B hB).below ((Below.refl _ _).alloc (Nat.le_refl _) _)
  have HC : Hid (Bx wa (B + 1) rz 27) := by
    show Bx _ _ _ _
    rw [hwa]
    exact Bx.new _ rz 27 _ (by rw [hB]; simp)
  have HBa : Hid (Below w.heap.size w wa) := by
    show Below _ _ _
    rw [hwa]
    exact ((Below.refl _ _).alloc (Nat.le_refl _) _).alloc (by simp) _
  go_enter Tryz.func6, Tryz.ntmps6
  go_upto_region 1 with fail
  change Code.wp _ _ _ _ ((w.alloc (.cells (mcs q).toArray 27)).alloc (.cells rz.toArray 27))
  rw [← hwa, ← hB]
  have hB1 : w.heap.size ≤ B := by omega
  have hB2 : B ≤ w.heap.size := by omega
  clear hwa hB
  go_step
  refine wpList_load_mid rfl 27 _ rfl B 0 rfl (mcs q) _ (unhide HA).range Tryz.underlying27 rfl rpc_size ?_
  simp only [Act.put, List.setIfInBounds_toArray, List.set_cons_zero, List.set_cons_succ]
  refine Nt.wpList_value rfl (rpc_alloc _ _ _ _ _ _) ?_
  simp only [Act.put, List.setIfInBounds_toArray, List.set_cons_zero, List.set_cons_succ]
  refine Nt.wpList_skip rfl (rpc_store _ _ _ _ _ _ _ q wa rfl rfl) ?_
  simp only [Act.put]
  have HX : Hid (Bx (wa.alloc (.cells (mcs q).toArray 27)) (B + 2) (mcs q) 27) := Bx.new wa (mcs q) 27 _ hsz.symm
  have hal : Below wa.heap.size wa (wa.alloc (.cells (mcs q).toArray 27)) := (Below.refl _ _).alloc (Nat.le_refl _) _
  have HA1 := hide ((unhide HA).below hal)
  have HC1 := hide ((unhide HC).below hal)
  have HB1 : Hid (Below w.heap.size w (wa.alloc (.cells (mcs q).toArray 27))) := bnx (unhide HBa) hal
  have hsz1 : B + 3 ≤ (wa.alloc (.cells (mcs q).toArray 27)).heap.size := by simp [hsz]
  rw [hsz]
  generalize wa.alloc (.cells (mcs q).toArray 27) = w1 at HX HA1 HC1 HB1 hsz1 ⊢
  clear hal HA HC HBa hsz
  have c8 := (unhide HA1).cell 8 (.slice q.ea q.en q.ec) rfl
  go_wp2_with fail
  refine (Nt.cope_own _ q.r.ents w1 ((unhide HR).1.ens.below (unhide HB1)) (unhide HZ).1).mono ?_
  rintro e w2 ⟨v2, rfl, ho, hb⟩
  obtain ⟨a2, c2, rfl⟩ := owns_slice (unhide ho)
  have HO := hide (unhide ho)
  have hsz2 := hb.size
  have HX2 := hide ((unhide HX).below hb)
  have HA2 := hide ((unhide HA1).below hb)
  have HC2 := hide ((unhide HC1).below hb)
  have HB2 : Hid (Below w.heap.size w w2) := bnx (unhide HB1) hb
  clear hb ho c8 HX HA1 HC1 HB1
  have c8 := (unhide HX2).cell 8 (.slice q.ea q.en q.ec) rfl
  have f8 := (unhide HX2).frz 8
  go_upto_region 3 with fail
  have hfr : Fr (fun k => k = B + 2) w2 (w2.setCell ⟨B + 2, 8, none⟩ (.slice a2 q.r.ents.length c2)) := set_fr rfl
  have HX3 : Hid (Bx (w2.setCell ⟨B + 2, 8, none⟩ (.slice a2 q.r.ents.length c2)) (B + 2) (mcs ⟨q.r, a2, q.r.ents.length, c2, q.ma, q.mn, q.mc⟩) 27) := (unhide HX2).set 8 _ (by rw [mcs_len]; omega)
  have HA3 := hide ((unhide HA2).fr hfr (by omega))
  have HC3 := hide ((unhide HC2).fr hfr (by omega))
  have HB3 : Hid (Below w.heap.size w (w2.setCell ⟨B + 2, 8, none⟩ (.slice a2 q.r.ents.length c2))) := Fr.bel (unhide HB2) hfr (fun i hi => by omega) (unhide HB2).size
  have HO3 := hide (owns_fr (unhide HO) hfr (fun g hg => by have := (owns_blk (unhide HO) g hg).1; omega))
  have hsz3 := hfr.size
  generalize w2.setCell ⟨B + 2, 8, none⟩ (.slice a2 q.r.ents.length c2) = w3 at HX3 HA3 HC3 HB3 HO3 hsz3 ⊢
  clear hfr c8 f8 HX2 HA2 HC2 HB2 HO
  have c9 := (unhide HA3).cell 9 (.slice q.ma q.mn q.mc) rfl
  go_wp2_with fail
  refine (cpn_own _ q.r.mems w3 ((unhide HR).nms.below (unhide HB3)) (unhide HZ).2).mono ?_
  rintro e w4 ⟨v4, rfl, ho, hb⟩
  obtain ⟨a4, c4, rfl⟩ := owns_slice (unhide ho)
  have HM := hide (unhide ho)
  have HX4 := hide ((unhide HX3).below hb)
  have HC4 := hide ((unhide HC3).below hb)
  have HB4 : Hid (Below w.heap.size w w4) := bnx (unhide HB3) hb
  have HO4 := hide (owns_below (unhide HO3) hb)
  have hsz4 := hb.size
  clear hb ho c9 HX3 HA3 HC3 HB3 HO3
  have c9 := (unhide HX4).cell 9 (.slice q.ma q.mn q.mc) rfl
  have f9 := (unhide HX4).frz 9
  go_upto_region 4 with fail
  have hfr : Fr (fun k => k = B + 2) w4 (w4.setCell ⟨B + 2, 9, none⟩ (.slice a4 q.r.mems.length c4)) := set_fr rfl
  have HX5 : Hid (Bx (w4.setCell ⟨B + 2, 9, none⟩ (.slice a4 q.r.mems.length c4)) (B + 2) (mcs ⟨q.r, a2, q.r.ents.length, c2, a4, q.r.mems.length, c4⟩) 27) := (unhide HX4).set 9 _ (by rw [mcs_len]; omega)
  have HC5 := hide ((unhide HC4).fr hfr (by omega))
  have HB5 : Hid (Below w.heap.size w (w4.setCell ⟨B + 2, 9, none⟩ (.slice a4 q.r.mems.length c4))) := Fr.bel (unhide HB4) hfr (fun i hi => by omega) (unhide HB4).size
  have HO5 := hide (owns_fr (unhide HO4) hfr (fun g hg => by have := (owns_blk (unhide HO4) g hg).1; omega))
  have HM5 := hide (owns_fr (unhide HM) hfr (fun g hg => by have := (owns_blk (unhide HM) g hg).1; omega))
  generalize w4.setCell ⟨B + 2, 9, none⟩ (.slice a4 q.r.mems.length c4) = w5 at HX5 HC5 HB5 HO5 HM5 ⊢
  clear hfr c9 f9 HX4 HC4 HB4 HO4 HM
  go_step
  refine wpList_load_mid rfl 27 _ rfl (B + 2) 0 rfl (mcs ⟨q.r, a2, q.r.ents.length, c2, a4, q.r.mems.length, c4⟩) _ (unhide HX5).range Tryz.underlying27 rfl rpc_size ?_
  simp only [Act.put, List.setIfInBounds_toArray, List.set_cons_zero, List.set_cons_succ]
  refine wpList_store_mid rfl 27 _ _ rfl (B + 1) 0 (mcs ⟨q.r, a2, q.r.ents.length, c2, a4, q.r.mems.length, c4⟩).toArray rfl rfl ((unhide HC5).there _ (Nat.le_refl _)) rpc_size (mcs_all _) ?_
  simp only [Act.put]
  have hfr : Fr (fun k => k = B + 1) w5 (w5.setCells (B + 1) 0 (mcs ⟨q.r, a2, q.r.ents.length, c2, a4, q.r.mems.length, c4⟩)) := setCells_fr (F := fun k => k = B + 1) (B + 1) rfl _ _ _
  have HRG := hide (World.rangeAt_setCells_same w5 (B + 1) 0 (mcs ⟨q.r, a2, q.r.ents.length, c2, a4, q.r.mems.length, c4⟩) ((unhide HC5).there _ (Nat.le_refl _)))
  have HB6 : Hid (Below w.heap.size w (w5.setCells (B + 1) 0 (mcs ⟨q.r, a2, q.r.ents.length, c2, a4, q.r.mems.length, c4⟩))) := Fr.bel (unhide HB5) hfr (fun i hi => by omega) (unhide HB5).size
  have HO6 := hide (owns_fr (unhide HO5) hfr (fun g hg => by have := (owns_blk (unhide HO5) g hg).1; omega))
  have HM6 := hide (owns_fr (unhide HM5) hfr (fun g hg => by have := (owns_blk (unhide HM5) g hg).1; omega))
  generalize w5.setCells (B + 1) 0 (mcs ⟨q.r, a2, q.r.ents.length, c2, a4, q.r.mems.length, c4⟩) = w6 at HRG HB6 HO6 HM6 ⊢
  clear hfr HX5 HC5 HB5 HO5 HM5
  go_wp2
  refine bodyPost_ret (res_r (B := B + 1) (q := ⟨q.r, a2, q.r.ents.length, c2, a4, q.r.mems.length, c4⟩) rfl rfl (unhide HRG)) rfl ?_
  exact ⟨_, rfl, ⟨rfl, ⟨owns_mono (unhide HO6) (by omega), owns_mono (unhide HM6) (by omega), (unhide HZ).1, (unhide HZ).2⟩⟩, HB6⟩
end Go.Proofs.YtmmhdhpocjnlbaaGreatDoor.Jr
