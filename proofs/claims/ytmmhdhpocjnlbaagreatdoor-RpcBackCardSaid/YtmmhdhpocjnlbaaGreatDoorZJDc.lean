/- Proved here: rpc's read: the message that bytes are. Helper contracts. -/
import Derived.Test.YtmmhdhpocjnlbaaGreatDoorZJMs
namespace Go.Proofs.YtmmhdhpocjnlbaaGreatDoor.Jr
open Go.RowKit Nt Et Qu
set_option maxRecDepth 100000

theorem below_of_fr {F : Nat → Prop} {B : Nat} {w a b : World} (h : Below B w a) (k : Fr F a b) (hF : ∀ i, F i → B ≤ i) (hB : B ≤ a.heap.size) : Below B w b := Fr.bel h k hF hB
theorem MqOwn.fr {F : Nat → Prop} {w w' : World} {B : Nat} {q : Mq} (h : MqOwn w B q) (hf : Fr F w w') (hF : ∀ k, F k → k < B) : MqOwn w' B q :=
  ⟨owns_fr h.1 hf (fun g hg hk => by have h1 := (owns_blk h.1 g hg).1; have h2 := hF g hk; omega), owns_fr h.2.1 hf (fun g hg hk => by have h1 := (owns_blk h.2.1 g hg).1; have h2 := hF g hk; omega), h.2.2⟩
theorem MqOwn.below {w w' : World} {B : Nat} {q : Mq} (h : MqOwn w B q) (hb : Below w.heap.size w w') : MqOwn w' B q := ⟨owns_below h.1 hb, owns_below h.2.1 hb, h.2.2⟩
theorem MqOwn.mono {w : World} {B B' : Nat} {q : Mq} (h : MqOwn w B q) (hb : B' ≤ B) : MqOwn w B' q := ⟨owns_mono h.1 hb, owns_mono h.2.1 hb, h.2.2⟩
/-- rows that do not lie in a block of messages stay when one is set -/
theorem MqOwn.set {w : World} {B R : Nat} {q : Mq} {cs : List Value} (h : MqOwn w B q) (hb : Bx w R cs 27) (o : Nat) (vs : List Value) : MqOwn (w.setCells R o vs) B q := by
  have hf : Fr (fun k => k = R) w (w.setCells R o vs) := setCells_fr (F := fun k => k = R) R rfl _ _ _
  refine ⟨owns_fr h.1 hf (fun g hg hk => ?_), owns_fr h.2.1 hf (fun g hg hk => ?_), h.2.2⟩
  · rcases h.1.2 with ⟨e, _⟩ | ⟨g', cap, cur, e, _, hgg, _⟩
    · rw [e] at hg; cases hg
    · rw [e] at hg
      have e2 : g' = g := Option.some.inj (show some g' = some g from hg)
      subst e2
      subst hk
      have := hb.symm.trans hgg
      simp only [Option.some.injEq, Obj.cells.injEq] at this
      exact absurd this.2.1 (by decide)
  · rcases h.2.1.2 with ⟨e, _⟩ | ⟨g', cap, cur, e, _, hgg, _⟩
    · rw [e] at hg; cases hg
    · rw [e] at hg
      have e2 : g' = g := Option.some.inj (show some g' = some g from hg)
      subst e2
      subst hk
      have := hb.symm.trans hgg
      simp only [Option.some.injEq, Obj.cells.injEq] at this
      exact absurd this.2.1 (by decide)
theorem own0 (w : World) (B : Nat) : MqOwn w B mq0 := ⟨World.ownsRow_nil _ _ _ _, World.ownsRow_nil _ _ _ _, by decide, by decide⟩
/-- what bytes are read as: whether just these are a message, and it -/
def RdIs (l : List Int) (d : Bool) (m : Rp) : Prop := ∃ m0 z, MsgIs (some l) m0 z ∧ d = decide (z = some []) ∧ m = if d = true then m0 else rp0
theorem rdis_ex (l : List Int) : ∃ d m, RdIs l d m := by
  obtain ⟨k, s1, h1⟩ : ∃ a b, nu 1 (some l) = (a, b) := ⟨_, _, rfl⟩
  obtain ⟨f, s2, h2⟩ : ∃ a b, nu 1 s1 = (a, b) := ⟨_, _, rfl⟩
  obtain ⟨t, s3, h3⟩ : ∃ a b, nu 1 s2 = (a, b) := ⟨_, _, rfl⟩
  obtain ⟨ok, s4, h4⟩ : ∃ a b, fg s3 = (a, b) := ⟨_, _, rfl⟩
  obtain ⟨te, s5, h5⟩ : ∃ a b, nu 5 s4 = (a, b) := ⟨_, _, rfl⟩
  obtain ⟨ix, s6, h6⟩ : ∃ a b, nu 5 s5 = (a, b) := ⟨_, _, rfl⟩
  obtain ⟨lt, s7, h7⟩ : ∃ a b, nu 5 s6 = (a, b) := ⟨_, _, rfl⟩
  obtain ⟨co, s8, h8⟩ : ∃ a b, nu 5 s7 = (a, b) := ⟨_, _, rfl⟩
  obtain ⟨n, s9, h9⟩ : ∃ a b, nu 1 s8 = (a, b) := ⟨_, _, rfl⟩
  obtain ⟨es, sa, ha⟩ : ∃ a b, ens ix s9 n.toNat = (a, b) := ⟨_, _, rfl⟩
  obtain ⟨kk, sb', hb⟩ : ∃ a b, nu 1 sa = (a, b) := ⟨_, _, rfl⟩
  obtain ⟨mm, sc, hc⟩ : ∃ a b, mms sb' kk.toNat = (a, b) := ⟨_, _, rfl⟩
  obtain ⟨dt, sd, hd⟩ : ∃ a b, tx 4 sc = (a, b) := ⟨_, _, rfl⟩
  exact ⟨_, _, ⟨k, f, t, te, ix, lt, co, ok, es, mm, dt⟩, sd, ⟨_, _, _, _, _, _, _, _, _, _, _, _, _, _, h1, h2, h3, h4, h5, h6, h7, h8, h9, ha, hb, hc, hd⟩, rfl, rfl⟩
/-- what read tells -/
def ReR (d : Bool) (m : Rp) (e : Ending) (w w' : World) : Prop := ∃ (q : Mq) (E : Value), e = .returned (.tuple #[.agg (mcs q).toArray, E]) ∧ Hid (q.r = m ∧ MqOwn w' w.heap.size q) ∧ ((d = true ∧ E = .nilIface) ∨ (d = false ∧ E = errF)) ∧ Hid (Below w.heap.size w w')
set_option maxHeartbeats 4000000 in
theorem read_any (v : Value) (l : List Int) (d : Bool) (m : Rp) (w : World) (hv : Byt w v l) (hr : RdIs l d m) :
    Calls Tryz.prog 30 #[v] w fun e w' => ReR d m e w w' := by
  obtain ⟨m0, z, hm, hd, hmm⟩ := hr
  have HMS := hide hm
  have HD := hide hd
  have HM := hide hmm
  obtain ⟨ao, cap, rfl, hcap, hmx⟩ := hv.form
  obtain ⟨R, hR⟩ : ∃ R, R = w.heap.size := ⟨_, rfl⟩
  have HBR : Hid (Bx (w.alloc (.cells rz.toArray 27)) R rz 27) := Bx.new w rz 27 R hR
  have HW0 : Hid (Below w.heap.size w (w.alloc (.cells rz.toArray 27))) := (Below.refl _ _).alloc (Nat.le_refl _) _
  have HV0 := hide (hv.below (unhide HW0))
  clear hm hd hmm hv
  go_enter Tryz.func30, Tryz.ntmps30
  go_upto_region 1 with fail
  change Code.wp _ _ _ _ (w.alloc (.cells rz.toArray 27))
  rw [← hR]
  have hRw : w.heap.size ≤ R := by omega
  have hRv : R ≤ w.heap.size := by omega
  clear hR
  generalize w.alloc (.cells rz.toArray 27) = w0 at HBR HW0 HV0 ⊢
  obtain ⟨r, hrr⟩ : ∃ r, r = w0.heap.size := ⟨_, rfl⟩
  have HBN : Hid (ByN w0 r (.slice ao l.length cap) l) := by show ByN _ _ _ _; rw [hrr]; exact ByN.of (unhide HV0)
  have hRr : R < r := by rw [hrr]; exact (unhide HBR).lt
  have HB1 : Hid (Bx (w0.alloc (.cells #[.slice ao l.length cap, .nilIface] 68)) r [.slice ao l.length cap, .nilIface] 68) := Bx.new _ _ _ _ hrr
  have HF1 : Fr (fun _ => False) w0 (w0.alloc (.cells #[.slice ao l.length cap, .nilIface] 68)) := Fr.alloc _ _ _
  have HRD1 : Hid (RdAt (w0.alloc (.cells #[.slice ao l.length cap, .nilIface] 68)) r (some l)) := ⟨_, _, unhide HB1, .inr ⟨l, rfl, (unhide HBN).fr HF1 (fun _ _ h => h), rfl⟩⟩
  have HBR1 := hide ((unhide HBR).fr HF1 (fun h => h))
  have HW1 : Hid (Below w.heap.size w (w0.alloc (.cells #[.slice ao l.length cap, .nilIface] 68))) := bnx (unhide HW0) ((Below.refl _ _).alloc (Nat.le_refl _) _)
  have hr1 : r < (w0.alloc (.cells #[.slice ao l.length cap, .nilIface] 68)).heap.size := (unhide HB1).lt
  go_upto_region 2 with fail
  rw [← hrr]
  clear HB1 HF1 HBN HV0 HBR HW0 hrr
  generalize w0.alloc (.cells #[.slice ao l.length cap, .nilIface] 68) = w1 at HRD1 HBR1 HW1 hr1 ⊢
  go_wp2_with fail
  refine (message_any r (some l) w1 hr1 (unhide HRD1)).mono ?_
  rintro e w2 ⟨q, z', rfl, HM2, HO2, HRD2, HF2⟩
  obtain ⟨hq, hz⟩ := (unhide HMS).one (unhide HM2)
  subst hz
  have HQ : Hid (q.r = m0) := hq.symm
  clear hq HM2
  have HBR2 := hide ((unhide HBR1).fr (unhide HF2) (by omega))
  have HW2 : Hid (Below w.heap.size w w2) := Fr.bel (unhide HW1) (unhide HF2) (fun i hi => by omega) (unhide HW1).size
  have hs12 := (unhide HF2).size
  obtain ⟨M, hM⟩ : ∃ M, M = w2.heap.size := ⟨_, rfl⟩
  have hal : Below w2.heap.size w2 (w2.alloc (.cells (mcs q).toArray 27)) := (Below.refl _ _).alloc (Nat.le_refl _) _
  have HMB : Hid (Bx (w2.alloc (.cells (mcs q).toArray 27)) M (mcs q) 27) := Bx.new _ _ _ _ hM
  have HBR3 := hide ((unhide HBR2).below hal)
  have HW3 : Hid (Below w.heap.size w (w2.alloc (.cells (mcs q).toArray 27))) := bnx (unhide HW2) hal
  have HO3 := hide (((unhide HO2).mono (show w.heap.size ≤ w1.heap.size by omega)).below hal)
  have HRD3 := hide ((unhide HRD2).fr (Fr.of_below (F := fun _ => False) hal) (fun _ _ h => h))
  have hrM : r < M := by omega
  go_simp
  go_step
  refine Nt.wpList_value rfl (rpc_alloc _ _ _ _ _ _) ?_
  simp only [Act.put, List.setIfInBounds_toArray, List.set_cons_zero, List.set_cons_succ]
  refine Nt.wpList_skip rfl (rpc_store _ _ _ _ _ _ _ q w2 rfl rfl) ?_
  simp only [Act.put]
  rw [← hM]
  clear hM hal HO2 HRD2 HBR2 HW2 HBR1 HW1 HRD1 HF2 hs12
  generalize w2.alloc (.cells (mcs q).toArray 27) = w3 at HMB HBR3 HW3 HO3 HRD3 ⊢
  obtain ⟨rv, ev, hb, hc⟩ := unhide HRD3
  have HB3 := hide hb
  clear hb HRD3
  rcases hc with ⟨hz, rfl, rfl⟩ | ⟨lr, hz, hn, rfl⟩
  · have hdf : d = false := by rw [unhide HD, hz]; rfl
    have HDF := hide hdf
    clear hdf
    subst hz
    have c0 := (unhide HB3).cell 0 _ rfl
    have c1e := (unhide HB3).cell 1 _ rfl
    have c1 := (unhide HB3).cell 1 _ rfl
    have hmz : Hid (mq0.r = m) := by show _ = _; rw [unhide HM, unhide HDF]; rfl
    go_upto_region 6 with fail
    refine wp_region_noPanic ?_
    refine wp_region_held_drew (S := fun W => W.cell? ⟨r, 1, none⟩ = some errF) (by kernel_rfl) c1 (fun hH => ?_)
    refine rtk 0 (v := .agg (mcs mq0).toArray) (hy := .inl ⟨by rfl, fun w _ => rpc_build0 _ _ _ _ _ _⟩) (h := ?_)
    refine rtk 1 (h := ?_)
    refine rtk 2 (h := ?_)
    have HRd : Hid (Bx w3.drew R rz 27) := unhide HBR3
    have HBd : Hid (Bx w3.drew r _ 68) := unhide HB3
    have HWd : Hid (Below w.heap.size w w3.drew) := below_drewN (unhide HW3) 1
    clear c1 HB3 HBR3 HW3
    generalize w3.drew = wd at HRd HBd HWd hH ⊢
    refine rcl 3 (h := fun K hK => ?_)
    rw [if_pos (by rfl)]
    refine wp_store_mid 27 _ _ rfl R 0 (mcs mq0).toArray rfl rfl ((unhide HRd).there _ (Nat.le_refl _)) rpc_size (mcs_all _) ?_
    have hfr : Fr (fun k => k = R) wd (wd.setCells R 0 (mcs mq0)) := setCells_fr (F := fun k => k = R) R rfl _ _ _
    have HBe := hide ((unhide HBd).fr hfr (by omega))
    have HWe : Hid (Below w.heap.size w (wd.setCells R 0 (mcs mq0))) := Fr.bel (unhide HWd) hfr (fun i hi => by omega) (unhide HWd).size
    have HRG := hide (World.rangeAt_setCells_same wd R 0 (mcs mq0) ((unhide HRd).there _ (Nat.le_refl _)))
    refine hK.out _ _ ((unhide HBe).cell 1 _ rfl) (fun hHe => ?_)
    clear hK K hH hfr HRd HBd HWd
    generalize wd.setCells R 0 (mcs mq0) = we at HBe HWe HRG hHe ⊢
    refine rcl 4 (h := fun K hK => ?_)
    go_simp
    refine hK.out _ _ hHe (fun _ => ?_)
    clear hK K hHe
    refine wpAnyH_done (by kernel_rfl) ?_ _
    refine NoPanic.normal ?_
    go_wp2
    refine bodyPost_ret (res_re (B := R) (q := mq0) (E := errF) rfl rfl rfl (unhide HRG)) rfl ?_
    exact ⟨mq0, errF, rfl, ⟨unhide hmz, own0 _ _⟩, .inr ⟨unhide HDF, rfl⟩, HWe⟩
  · obtain ⟨ao2, cap2, rfl, hcap2, hmx2⟩ := hn.1.form
    by_cases hl : lr.length = 0
    · have hlr : lr = [] := List.length_eq_zero_iff.1 hl
      subst hlr
      have HDT : Hid (d = true) := by show _ = _; rw [unhide HD, hz]; simp
      have HQM : Hid (q.r = m) := by show _ = _; rw [unhide HM, unhide HDT, unhide HQ]; rfl
      clear hz hn hl
      have c0 := (unhide HB3).cell 0 _ rfl
      have c1 := (unhide HB3).cell 1 _ rfl
      go_upto_region 7 with fail
      go_step
      refine wpList_load_mid rfl 27 _ rfl M 0 rfl (mcs q) _ (unhide HMB).range Tryz.underlying27 rfl rpc_size ?_
      simp only [Act.put, List.setIfInBounds_toArray, List.set_cons_zero, List.set_cons_succ]
      refine wpList_store_mid rfl 27 _ _ rfl R 0 (mcs q).toArray rfl rfl ((unhide HBR3).there _ (Nat.le_refl _)) rpc_size (mcs_all _) ?_
      simp only [Act.put]
      have hfr : Fr (fun k => k = R) w3 (w3.setCells R 0 (mcs q)) := setCells_fr (F := fun k => k = R) R rfl _ _ _
      have HRG := hide (World.rangeAt_setCells_same w3 R 0 (mcs q) ((unhide HBR3).there _ (Nat.le_refl _)))
      have HOE := hide ((unhide HO3).set (unhide HBR3) 0 (mcs q))
      have HWe : Hid (Below w.heap.size w (w3.setCells R 0 (mcs q))) := Fr.bel (unhide HW3) hfr (fun i hi => by omega) (unhide HW3).size
      clear hfr c0 c1 HMB HBR3 HW3 HO3 HB3
      generalize w3.setCells R 0 (mcs q) = we at HRG HOE HWe ⊢
      go_wp2
      refine bodyPost_ret (res_re (B := R) (q := q) (E := .nilIface) rfl rfl rfl (unhide HRG)) rfl ?_
      exact ⟨q, .nilIface, rfl, ⟨unhide HQM, unhide HOE⟩, .inl ⟨unhide HDT, rfl⟩, HWe⟩
    · have hl1 : (0 : Int) < (lr.length : Int) := by omega
      have hne : lr ≠ [] := fun e => hl (by rw [e]; rfl)
      have HDF : Hid (d = false) := by show _ = _; rw [unhide HD, hz]; simp [hne]
      clear hz hn hne
      have c0 := (unhide HB3).cell 0 _ rfl
      have c1e := (unhide HB3).cell 1 _ rfl
      have f1 := (unhide HB3).frz 1
      go_upto_region 5 with fail
      have hfr : Fr (fun k => k = r) w3 (w3.setCell ⟨r, 1, none⟩ errF) := set_fr rfl
      have HB4 := hide ((unhide HB3).set 1 errF (by simp))
      have HBR4 := hide ((unhide HBR3).fr hfr (by omega))
      have HW4 : Hid (Below w.heap.size w (w3.setCell ⟨r, 1, none⟩ errF)) := Fr.bel (unhide HW3) hfr (fun i hi => by omega) (unhide HW3).size
      clear hfr c0 c1e f1 HMB HBR3 HW3 HO3 HB3
      generalize w3.setCell ⟨r, 1, none⟩ errF = w4 at HB4 HBR4 HW4 ⊢
      change Hid (Bx w4 r [.slice ao2 lr.length cap2, errF] 68) at HB4
      have c1 := (unhide HB4).cell 1 _ rfl
      have hmz : Hid (mq0.r = m) := by show _ = _; rw [unhide HM, unhide HDF]; rfl
      go_upto_region 6 with fail
      refine wp_region_noPanic ?_
      refine wp_region_held_drew (S := fun W => W.cell? ⟨r, 1, none⟩ = some errF) (by kernel_rfl) c1 (fun hH => ?_)
      refine rtk 0 (v := .agg (mcs mq0).toArray) (hy := .inl ⟨by rfl, fun w _ => rpc_build0 _ _ _ _ _ _⟩) (h := ?_)
      refine rtk 1 (h := ?_)
      refine rtk 2 (h := ?_)
      have HRd : Hid (Bx w4.drew R rz 27) := unhide HBR4
      have HBd : Hid (Bx w4.drew r _ 68) := unhide HB4
      have HWd : Hid (Below w.heap.size w w4.drew) := below_drewN (unhide HW4) 1
      clear c1 HB4 HBR4 HW4
      generalize w4.drew = wd at HRd HBd HWd hH ⊢
      refine rcl 3 (h := fun K hK => ?_)
      rw [if_pos (by rfl)]
      refine wp_store_mid 27 _ _ rfl R 0 (mcs mq0).toArray rfl rfl ((unhide HRd).there _ (Nat.le_refl _)) rpc_size (mcs_all _) ?_
      have hfr : Fr (fun k => k = R) wd (wd.setCells R 0 (mcs mq0)) := setCells_fr (F := fun k => k = R) R rfl _ _ _
      have HBe := hide ((unhide HBd).fr hfr (by omega))
      have HWe : Hid (Below w.heap.size w (wd.setCells R 0 (mcs mq0))) := Fr.bel (unhide HWd) hfr (fun i hi => by omega) (unhide HWd).size
      have HRG := hide (World.rangeAt_setCells_same wd R 0 (mcs mq0) ((unhide HRd).there _ (Nat.le_refl _)))
      refine hK.out _ _ ((unhide HBe).cell 1 _ rfl) (fun hHe => ?_)
      clear hK K hH hfr HRd HBd HWd
      generalize wd.setCells R 0 (mcs mq0) = we at HBe HWe HRG hHe ⊢
      refine rcl 4 (h := fun K hK => ?_)
      go_simp
      refine hK.out _ _ hHe (fun _ => ?_)
      clear hK K hHe
      refine wpAnyH_done (by kernel_rfl) ?_ _
      refine NoPanic.normal ?_
      go_wp2
      refine bodyPost_ret (res_re (B := R) (q := mq0) (E := errF) rfl rfl rfl (unhide HRG)) rfl ?_
      exact ⟨mq0, errF, rfl, ⟨unhide hmz, own0 _ _⟩, .inr ⟨unhide HDF, rfl⟩, HWe⟩
end Go.Proofs.YtmmhdhpocjnlbaaGreatDoor.Jr
