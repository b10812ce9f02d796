/- Proved here: rpc.Decode and Encode: what they tell. Helper contracts. -/
import Derived.Test.YtmmhdhpocjnlbaaGreatDoorZJDc
import Derived.Test.YtmmhdhpocjnlbaaGreatDoorZJWw
import Derived.Test.YtmmhdhpocjnlbaaGreatDoorZJCk
namespace Go.Proofs.YtmmhdhpocjnlbaaGreatDoor.Jr
open Go.RowKit Nt Et Qu
set_option maxRecDepth 100000

theorem es_of_owns {w : World} {B : Nat} {e : TypeId} {ao : Option Addr} {n cap : Nat} {l : List En} (h : w.ownsRow B e 4 (.slice ao n cap) n (ecs l)) (hx : n ≤ 3518437208780) : Es w ao n cap l := by
  have hl : l.length = n := by have := h.1; rw [ecs_length] at this; omega
  rcases h.2 with ⟨h1, h2⟩ | ⟨g, cap', cur, hv, hB, hg, h1, h2, h3, h4⟩
  · cases h1
    exact ⟨hl, by omega, ⟨by decide, fun _ => rfl⟩, hx, .inl h2⟩
  · cases hv
    refine ⟨hl, h1, ⟨h2, fun e => by cases e⟩, hx, .inr ⟨g, 0, rfl, fun k hk => ?_⟩⟩
    obtain ⟨q0, q1, q2, q3⟩ := ecs_get l k hk
    refine ⟨?_, ?_, ?_, ?_⟩
    · rw [Nat.zero_add, h.cellAt (k * 4) (by omega)]; exact q0
    · rw [Nat.zero_add, h.cellAt (k * 4 + 1) (by omega)]; exact q1
    · rw [Nat.zero_add, h.cellAt (k * 4 + 2) (by omega)]; exact q2
    · rw [Nat.zero_add, h.cellAt (k * 4 + 3) (by omega)]; exact q3
theorem MqOwn.rok {w : World} {B : Nat} {q : Mq} (h : MqOwn w B q) : Rok w q := ⟨es_of_owns h.1 h.2.2.1, ls_of_owns h.2.1 h.2.2.2⟩
/-- what Decode tells of bytes -/
def DcIs (l : List Int) (d : Bool) (m : Rp) : Prop := ∃ dr mr, RdIs l dr mr ∧ d = (dr && mayB mr) ∧ m = if d = true then mr else rp0
theorem dcis_ex (l : List Int) : ∃ d m, DcIs l d m := by
  obtain ⟨dr, mr, h⟩ := rdis_ex l
  exact ⟨_, _, dr, mr, h, rfl, rfl⟩
theorem RdIs.of_msg {l : List Int} {m : Rp} {z : St} (h : MsgIs (some l) m z) : RdIs l (decide (z = some [])) (if decide (z = some []) = true then m else rp0) := ⟨m, z, h, rfl, rfl⟩
theorem dc_wb {m : Rp} (h : mayB m = true) : DcIs (wb m) true m := by
  have hm := msg_app (may_fit h) []
  rw [List.append_nil] at hm
  refine ⟨true, m, ⟨m, _, hm, by simp, rfl⟩, by rw [h]; rfl, rfl⟩
theorem dc_more {m : Rp} (h : mayB m = true) : DcIs (wb m ++ [0]) false rp0 := by
  have hm := msg_app (may_fit h) [0]
  exact ⟨false, rp0, ⟨m, _, hm, by simp, rfl⟩, rfl, rfl⟩
theorem dc_less {m : Rp} (h : mayB m = true) {k : Nat} (hk : k < (wb m).length) : DcIs ((wb m).take k) false rp0 := by
  obtain ⟨d, r, m0, z, hm, hd, hr⟩ := rdis_ex ((wb m).take k)
  have hz : ¬ z = some [] := fun e => by subst e; exact msg_less (may_fit h) hk hm
  have hdf : d = false := by rw [hd, decide_eq_false hz]
  refine ⟨d, r, ⟨m0, z, hm, hd, hr⟩, by rw [hdf]; rfl, rfl⟩
theorem dc_inv {l : List Int} {m : Rp} (h8 : R8 l) (h : DcIs l true m) : l = wb m ∧ mayB m = true := by
  obtain ⟨dr, mr, ⟨m0, z, hm, hd, hr⟩, h1, h2⟩ := h
  have h3 : dr = true ∧ mayB mr = true := by
    cases dr with
    | false => simp at h1
    | true => exact ⟨rfl, by simpa using h1.symm⟩
  obtain ⟨rfl, h4⟩ := h3
  rw [if_pos rfl] at h2 hr
  subst h2
  subst hr
  have hz : z = some [] := of_decide_eq_true hd.symm
  subst hz
  obtain ⟨e, _⟩ := msg_inv (fun l' e => by cases e; exact h8) hm
  exact ⟨by have := Option.some.inj e; rw [List.append_nil] at this; exact this, h4⟩
theorem er_set {w : World} {R : Nat} {cs : List Value} (hb : Bx w R cs 27) (vs : List Value) : ∀ (d : Nat) (v : Value) (n : Int), (∀ g u, w.cell? ⟨g, 1, none⟩ = some u → g = R → ∃ z, u = .int .i64 z) → Er w d v n → Er (w.setCells R 0 vs) d v n
  | 0, _, _, _, h => h
  | d + 1, v, n, hz, ⟨g, u, h1, h2, h3⟩ => by
    refine ⟨g, u, h1, ?_, er_set hb vs d u n hz h3⟩
    by_cases hg : g = R
    · obtain ⟨z, rfl⟩ := hz g u h2 hg
      exfalso
      cases d with
      | zero => cases h3
      | succ d => obtain ⟨_, _, e, _⟩ := h3; cases e
    · exact (setCells_fr (F := fun k => k = R) R rfl vs 0 w).cell hg h2
theorem errx_set {w : World} {R : Nat} {q : Mq} {E : Value} {n : Int} (h : ErrX w E n) (hb : Bx w R (mcs q) 27) (vs : List Value) : ErrX (w.setCells R 0 vs) E n := by
  rcases h with h | ⟨d, hd, h⟩
  · exact .inl h
  · refine .inr ⟨d, hd, er_set hb vs d E n (fun g u hc hg => ?_) h⟩
    subst hg
    have := hb.cell 1 _ rfl
    rw [hc] at this
    exact ⟨_, Option.some.inj this⟩
/-- what Decode answers -/
def DcR (d : Bool) (m : Rp) (e : Ending) (w w' : World) : Prop := ∃ (q : Mq) (E : Value), e = .returned (.tuple #[.agg (mcs q).toArray, E]) ∧ Hid (q.r = m ∧ MqOwn w' w.heap.size q) ∧ Hid (ErI w' d E) ∧ Hid (Below w.heap.size w w')
set_option maxHeartbeats 4000000 in
theorem dec_any (v : Value) (l : List Int) (d : Bool) (m : Rp) (w : World) (hv : Byt w v l) (hr : DcIs l d m) :
    Calls Tryz.prog 11 #[v] w fun e w' => DcR d m e w w' := by
  obtain ⟨dr, mr, hrd, hd, hm⟩ := hr
  have HD := hide hd
  have HM := hide hm
  obtain ⟨R, hR⟩ : ∃ R, R = w.heap.size := ⟨_, rfl⟩
  have HBR : Hid (Bx (w.alloc (.cells rz.toArray 27)) R rz 27) := Bx.new w rz 27 R hR
  have HW0 : Hid (Below w.heap.size w (w.alloc (.cells rz.toArray 27))) := al_below _ _
  have HC := hide (read_any v l dr mr _ (hv.below (unhide HW0)) hrd)
  obtain ⟨ao, cap, rfl, _, _⟩ := hv.form
  clear hd hm hv hrd
  go_enter Tryz.func11, Tryz.ntmps11
  go_upto_region 1 with fail
  change Code.wp _ _ _ _ (w.alloc (.cells rz.toArray 27))
  rw [← hR]
  have hRw : w.heap.size ≤ R := by omega
  have hRv : R ≤ w.heap.size := by omega
  clear hR
  generalize w.alloc (.cells rz.toArray 27) = w0 at HBR HW0 HC ⊢
  go_wp2_with fail
  refine (unhide HC).mono ?_
  rintro e w2 ⟨q, E, rfl, HQ, hE, HB2⟩
  have HBR2 := hide ((unhide HBR).below (unhide HB2))
  have HW2 : Hid (Below w.heap.size w w2) := bnx (unhide HW0) (unhide HB2)
  have HO2 : Hid (MqOwn w2 w.heap.size q) := (unhide HQ).2.mono (unhide HW0).size
  have HQR : Hid (q.r = mr) := (unhide HQ).1
  have HEE := hide hE
  obtain ⟨M, hM⟩ : ∃ M, M = w2.heap.size := ⟨_, rfl⟩
  have HMB : Hid (Bx (w2.alloc (.cells (mcs q).toArray 27)) M (mcs q) 27) := Bx.new _ _ _ _ hM
  have HBR3 := hide ((unhide HBR2).below (al_below w2 (.cells (mcs q).toArray 27)))
  have HW3 : Hid (Below w.heap.size w (w2.alloc (.cells (mcs q).toArray 27))) := bnx (unhide HW2) (al_below _ _)
  have HO3 := hide ((unhide HO2).below (al_below w2 (.cells (mcs q).toArray 27)))
  have hRM : R < M := by rw [hM]; exact (unhide HBR2).lt
  have hEf : ∃ t x, E = .nilIface ∨ E = .iface t x := by
    rcases hE with ⟨_, h⟩ | ⟨_, h⟩
    · exact ⟨0, .nilIface, .inl h⟩
    · exact ⟨_, _, .inr h⟩
  clear hE HC HQ HB2
  go_simp
  go_step
  go_step
  go_step
  go_step
  go_step
  go_step
  go_step
  go_step
  go_step
  go_step
  refine Nt.wpList_value rfl (rpc_alloc _ _ _ _ _ _) ?_
  simp only [Act.put, List.setIfInBounds_toArray, List.set_cons_zero, List.set_cons_succ]
  refine Nt.wpList_skip rfl (rpc_store _ _ _ _ _ _ _ q w2 rfl rfl) ?_
  simp only [Act.put]
  rw [← hM]
  clear hM HO2 HBR2 HW2
  generalize w2.alloc (.cells (mcs q).toArray 27) = w3 at HMB HBR3 HW3 HO3 ⊢
  rcases unhide HEE with ⟨hdr, rfl⟩ | ⟨hdr, rfl⟩
  · have HRK := hide (unhide HO3).rok
    obtain ⟨b, hb⟩ : ∃ b, b = mayB mr := ⟨_, rfl⟩
    have HDB : Hid (d = b) := by show _ = _; rw [unhide HD, hdr, hb]; rfl
    have HC := hide (Check_any q w3 (unhide HRK))
    rw [unhide HQR, ← hb] at HC
    clear hb hdr HEE hEf
    go_upto_region 4 with fail
    go_step
    refine wpList_load_mid rfl 27 _ rfl M 0 rfl (mcs q) _ (unhide HMB).range Tryz.underlying27 rfl rpc_size ?_
    simp only [Act.put, List.setIfInBounds_toArray, List.set_cons_zero, List.set_cons_succ]
    go_wp2_with fail
    refine (unhide HC).mono ?_
    rintro e w4 ⟨E2, rfl, HE2, HB4⟩
    have HMB4 := hide ((unhide HMB).below (unhide HB4))
    have HBR4 := hide ((unhide HBR3).below (unhide HB4))
    have HW4 : Hid (Below w.heap.size w w4) := bnx (unhide HW3) (unhide HB4)
    have HO4 := hide ((unhide HO3).below (unhide HB4))
    clear HC HMB HBR3 HW3 HO3 HRK HB4
    rcases (unhide HE2).2 with ⟨hb, rfl⟩ | ⟨hb, t, x, rfl⟩
    · have HDT : Hid (d = true) := (unhide HDB).trans hb
      have HQM : Hid (q.r = m) := by show _ = _; rw [unhide HM, unhide HDT, unhide HQR]; rfl
      clear hb HE2
      go_upto_region 7 with fail
      go_step
      refine wpList_load_mid rfl 27 _ rfl M 0 rfl (mcs q) _ (unhide HMB4).range Tryz.underlying27 rfl rpc_size ?_
      simp only [Act.put, List.setIfInBounds_toArray, List.set_cons_zero, List.set_cons_succ]
      refine wpList_store_mid rfl 27 _ _ rfl R 0 (mcs q).toArray rfl rfl ((unhide HBR4).there _ (Nat.le_refl _)) rpc_size (mcs_all _) ?_
      simp only [Act.put]
      have HRG := hide (World.rangeAt_setCells_same w4 R 0 (mcs q) ((unhide HBR4).there _ (Nat.le_refl _)))
      have hfr : Fr (fun k => k = R) w4 (w4.setCells R 0 (mcs q)) := setCells_fr (F := fun k => k = R) R rfl _ _ _
      have HWe : Hid (Below w.heap.size w (w4.setCells R 0 (mcs q))) := Fr.bel (unhide HW4) hfr (fun i hi => by omega) (unhide HW4).size
      have HOE := hide ((unhide HO4).set (unhide HBR4) 0 (mcs q))
      clear hfr HMB4 HBR4 HW4 HO4
      generalize w4.setCells R 0 (mcs q) = we at HRG HWe HOE ⊢
      go_wp2
      refine bodyPost_ret (res_re (B := R) (q := q) (E := .nilIface) rfl rfl rfl (unhide HRG)) rfl ?_
      exact ⟨q, _, rfl, ⟨unhide HQM, unhide HOE⟩, by show ErI _ _ _; rw [unhide HDT]; exact eri_nil _, HWe⟩
    · have HDF : Hid (d = false) := (unhide HDB).trans hb
      have HQM : Hid (mq0.r = m) := by show _ = _; rw [unhide HM, unhide HDF]; rfl
      clear HMB4
      go_upto_region 6 with fail
      go_step
      refine Nt.wpList_value rfl (rpc_build0 _ _ _ _ _ _) ?_
      simp only [Act.put, List.setIfInBounds_toArray, List.set_cons_zero, List.set_cons_succ]
      go_step
      go_step
      go_step
      refine wpList_store_mid rfl 27 _ _ rfl R 0 (mcs mq0).toArray rfl rfl ((unhide HBR4).there _ (Nat.le_refl _)) rpc_size (mcs_all _) ?_
      simp only [Act.put]
      have HRG := hide (World.rangeAt_setCells_same w4 R 0 (mcs mq0) ((unhide HBR4).there _ (Nat.le_refl _)))
      have hfr : Fr (fun k => k = R) w4 (w4.setCells R 0 (mcs mq0)) := setCells_fr (F := fun k => k = R) R rfl _ _ _
      have HWe : Hid (Below w.heap.size w (w4.setCells R 0 (mcs mq0))) := Fr.bel (unhide HW4) hfr (fun i hi => by omega) (unhide HW4).size
      have HEE : Hid (ErI (w4.setCells R 0 (mcs mq0)) false (.iface t x)) := by
        have h1 := unhide HE2
        rw [hb] at h1
        exact ⟨errx_set h1.1 (unhide HBR4) _, .inr ⟨rfl, _, _, rfl⟩⟩
      clear hfr HBR4 HW4 HO4 HE2 hb
      generalize w4.setCells R 0 (mcs mq0) = we at HRG HWe HEE ⊢
      go_wp2
      refine bodyPost_ret (res_re (B := R) (q := mq0) (E := .iface t x) rfl rfl rfl (unhide HRG)) rfl ?_
      exact ⟨mq0, _, rfl, ⟨unhide HQM, own0 _ _⟩, by show ErI _ _ _; rw [unhide HDF]; exact unhide HEE, HWe⟩
  · have HDF : Hid (d = false) := by show _ = _; rw [unhide HD, hdr]; rfl
    have HQM : Hid (mq0.r = m) := by show _ = _; rw [unhide HM, unhide HDF]; rfl
    have HC := hide (fault_d 61 (.int .i64 1) w3 ⟨0, by omega, rfl⟩)
    clear HMB HEE hEf hdr
    go_upto_region 3 with fail
    go_step
    refine Nt.wpList_value rfl (rpc_build0 _ _ _ _ _ _) ?_
    simp only [Act.put, List.setIfInBounds_toArray, List.set_cons_zero, List.set_cons_succ]
    go_wp2_with fail
    refine (unhide HC).mono ?_
    rintro e w4 ⟨y, rfl, HX, HB4⟩
    have HBR4 := hide ((unhide HBR3).below (unhide HB4))
    have HW4 : Hid (Below w.heap.size w w4) := bnx (unhide HW3) (unhide HB4)
    clear HC HBR3 HW3 HO3 HB4
    go_simp
    go_step
    refine wpList_store_mid rfl 27 _ _ rfl R 0 (mcs mq0).toArray rfl rfl ((unhide HBR4).there _ (Nat.le_refl _)) rpc_size (mcs_all _) ?_
    simp only [Act.put]
    have HRG := hide (World.rangeAt_setCells_same w4 R 0 (mcs mq0) ((unhide HBR4).there _ (Nat.le_refl _)))
    have hfr : Fr (fun k => k = R) w4 (w4.setCells R 0 (mcs mq0)) := setCells_fr (F := fun k => k = R) R rfl _ _ _
    have HWe : Hid (Below w.heap.size w (w4.setCells R 0 (mcs mq0))) := Fr.bel (unhide HW4) hfr (fun i hi => by omega) (unhide HW4).size
    have HEE : Hid (ErI (w4.setCells R 0 (mcs mq0)) false (.iface 64 y)) := ⟨errx_set (unhide HX) (unhide HBR4) _, .inr ⟨rfl, _, _, rfl⟩⟩
    clear hfr HBR4 HW4 HX
    generalize w4.setCells R 0 (mcs mq0) = we at HRG HWe HEE ⊢
    go_wp2
    refine bodyPost_ret (res_re (B := R) (q := mq0) (E := .iface 64 y) rfl rfl rfl (unhide HRG)) rfl ?_
    exact ⟨mq0, _, rfl, ⟨unhide HQM, own0 _ _⟩, by show ErI _ _ _; rw [unhide HDF]; exact unhide HEE, HWe⟩
/-- what Encode answers -/
def EcR (b : Bool) (m : Rp) (e : Ending) (w w' : World) : Prop := ∃ (v : Value) (E : Value), e = .returned (.tuple #[v, E]) ∧ Hid (RowB w' w.heap.size v (if b = true then wb m else [])) ∧ Hid (ErI w' b E) ∧ Hid (Below w.heap.size w w')
set_option maxHeartbeats 4000000 in
theorem enc_any (q : Mq) (b : Bool) (w : World) (h : Rok w q) (hb : b = mayB q.r) :
    Calls Tryz.prog 7 #[.agg (mcs q).toArray] w fun e w' => EcR b q.r e w w' := by
  obtain ⟨⟨k, f, t, te, ix, lt, co, ok, es, ms, dt⟩, ea, en, ec, ma, mn, mcp⟩ := q
  show Calls Tryz.prog 7 #[.agg #[.int .i64 k, .int .i64 f, .int .i64 t, .int .i64 te, .int .i64 ix, .int .i64 lt, .int .i64 co, .bool ok, .slice ea en ec, .slice ma mn mcp, .string dt]] w _
  have HBB := hide hb
  obtain ⟨B, hB⟩ : ∃ B, B = w.heap.size := ⟨_, rfl⟩
  have HB : Hid (Bx (w.alloc (.cells #[.int .i64 k, .int .i64 f, .int .i64 t, .int .i64 te, .int .i64 ix, .int .i64 lt, .int .i64 co, .bool ok, .slice ea en ec, .slice ma mn mcp, .string dt] 27)) B [.int .i64 k, .int .i64 f, .int .i64 t, .int .i64 te, .int .i64 ix, .int .i64 lt, .int .i64 co, .bool ok, .slice ea en ec, .slice ma mn mcp, .string dt] 27) := Bx.new w [.int .i64 k, .int .i64 f, .int .i64 t, .int .i64 te, .int .i64 ix, .int .i64 lt, .int .i64 co, .bool ok, .slice ea en ec, .slice ma mn mcp, .string dt] 27 B hB
  have HW : Hid (Below w.heap.size w (w.alloc (.cells #[.int .i64 k, .int .i64 f, .int .i64 t, .int .i64 te, .int .i64 ix, .int .i64 lt, .int .i64 co, .bool ok, .slice ea en ec, .slice ma mn mcp, .string dt] 27))) := al_below _ _
  have HK := hide (h.below (unhide HW))
  have HC := hide (Check_any ⟨⟨k, f, t, te, ix, lt, co, ok, es, ms, dt⟩, ea, en, ec, ma, mn, mcp⟩ _ (unhide HK))
  dsimp only at hb
  rw [← hb] at HC
  change Hid (Calls _ _ #[.agg #[.int .i64 k, .int .i64 f, .int .i64 t, .int .i64 te, .int .i64 ix, .int .i64 lt, .int .i64 co, .bool ok, .slice ea en ec, .slice ma mn mcp, .string dt]] _ _) at HC
  clear h hb
  go_enter Tryz.func7, Tryz.ntmps7
  go_upto_region 1 with fail
  change Code.wp _ _ _ _ (w.alloc (.cells #[.int .i64 k, .int .i64 f, .int .i64 t, .int .i64 te, .int .i64 ix, .int .i64 lt, .int .i64 co, .bool ok, .slice ea en ec, .slice ma mn mcp, .string dt] 27))
  rw [← hB]
  generalize w.alloc (.cells #[.int .i64 k, .int .i64 f, .int .i64 t, .int .i64 te, .int .i64 ix, .int .i64 lt, .int .i64 co, .bool ok, .slice ea en ec, .slice ma mn mcp, .string dt] 27) = W at HB HW HK HC ⊢
  clear hB
  have c0 := (unhide HB).cell 0 _ rfl
  have c1 := (unhide HB).cell 1 _ rfl
  have c2 := (unhide HB).cell 2 _ rfl
  have c3 := (unhide HB).cell 3 _ rfl
  have c4 := (unhide HB).cell 4 _ rfl
  have c5 := (unhide HB).cell 5 _ rfl
  have c6 := (unhide HB).cell 6 _ rfl
  have c7 := (unhide HB).cell 7 _ rfl
  have c8 := (unhide HB).cell 8 _ rfl
  have c9 := (unhide HB).cell 9 _ rfl
  have c10 := (unhide HB).cell 10 _ rfl
  go_wp2_with fail
  refine (unhide HC).mono ?_
  rintro e w2 ⟨E, rfl, HE, HB2⟩
  have HBx := hide ((unhide HB).below (unhide HB2))
  have HW2 : Hid (Below w.heap.size w w2) := bnx (unhide HW) (unhide HB2)
  have HK2 := hide ((unhide HK).below (unhide HB2))
  clear HB HW HK HC HB2 c0 c1 c2 c3 c4 c5 c6 c7 c8 c9 c10
  rcases (unhide HE).2 with ⟨rfl, rfl⟩ | ⟨rfl, t', x', rfl⟩
  · have HFT := hide (may_fit (unhide HBB).symm)
    have HWA := hide (write_any k f t te ix lt co ok ea ma en ec mn mcp es ms dt w2 (unhide HK2) (unhide HFT))
    have c0 := (unhide HBx).cell 0 _ rfl
    have c1 := (unhide HBx).cell 1 _ rfl
    have c2 := (unhide HBx).cell 2 _ rfl
    have c3 := (unhide HBx).cell 3 _ rfl
    have c4 := (unhide HBx).cell 4 _ rfl
    have c5 := (unhide HBx).cell 5 _ rfl
    have c6 := (unhide HBx).cell 6 _ rfl
    have c7 := (unhide HBx).cell 7 _ rfl
    have c8 := (unhide HBx).cell 8 _ rfl
    have c9 := (unhide HBx).cell 9 _ rfl
    have c10 := (unhide HBx).cell 10 _ rfl
    clear HE
    go_wp2_with fail
    refine (unhide HWA).mono ?_
    rintro e w3 ⟨v, rfl, HO, HB3⟩
    have HO3 : Hid (RowB w3 w.heap.size v (if true = true then wb ⟨k, f, t, te, ix, lt, co, ok, es, ms, dt⟩ else [])) := by
      show RowB _ _ _ _
      rw [if_pos rfl]
      exact owns_mono (unhide HO) (unhide HW2).size
    have HW3 : Hid (Below w.heap.size w w3) := bnx (unhide HW2) (unhide HB3)
    obtain ⟨av, cv, rfl⟩ := owns_slice (unhide HO)
    clear HO HB3 HWA c0 c1 c2 c3 c4 c5 c6 c7 c8 c9 c10
    go_wp2
    go_returns
    exact ⟨_, _, rfl, HO3, eri_nil _, HW3⟩
  · clear HBx HK2
    go_wp2
    go_returns
    exact ⟨_, _, rfl, World.ownsRow_nil _ _ _ _, HE, HW2⟩
end Go.Proofs.YtmmhdhpocjnlbaaGreatDoor.Jr
