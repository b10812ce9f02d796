/- Proved here: helpers, one text behind the other. -/
import Derived.Test.YtemedclhglkfjaaGreatDoorM39
import Derived.Test.YtemedclhglkfjaaGreatDoorM48
import Derived.Test.YtemedclhglkfjaaGreatDoorZKTk
import Derived.Deep.Cut
import Derived.Deep.CutBlock
import Derived.Deep.RegionHeld3
set_option maxHeartbeats 20000000
namespace Go.Proofs.YtemedclhglkfjaaGreatDoor.K.W
open Go.RowKit
open Go.Proofs.YtemedclhglkfjaaGreatDoor.K
set_option maxRecDepth 100000
def Up (B : Nat) (w : World) (Φ : World -> Prop) : Prop := ∀ W,w.heap.size <= W.heap.size -> (∀ k,B <= k -> k < w.heap.size -> W.heap[k]? = w.heap[k]?) -> Φ W
theorem Up.below {B : Nat} {w w' : World} {Φ : World -> Prop} (h : Up B w Φ) (hb : Below w.heap.size w w') : Up B w' Φ := fun W hs hk => h W (Nat.le_trans hb.size hs) (fun k h1 h2 => (hk k h1 (Nat.lt_of_lt_of_le h2 hb.size)).trans (hb.block k h2))
theorem Up.set {B : Nat} {w : World} {Φ : World -> Prop} (h : Up B w Φ) {X i : Nat} {v : Value} (hX : X < B) : Up B (w.setCell ⟨X,i,none⟩ v) Φ := fun W hs hk => h W (by simpa [World.setCell] using hs) (fun k h1 h2 => (hk k h1 (by simpa [World.setCell] using h2)).trans (Below.heap_setCell _ _ _ _ (by show k ≠ X; omega)))
theorem Up.weaken {B C : Nat} {w : World} {Φ : World -> Prop} (h : Up B w Φ) (hB : C <= B) : Up C w Φ := fun W hs hk => h W hs (fun k h1 h2 => hk k (Nat.le_trans hB h1) h2)
theorem up_owns {B : Nat} {w : World} {e : TypeId} {s : Nat} {v : Value} {n : Nat} {xs : List Value} (h : w.ownsRow B e s v n xs) : Up B w (fun W => W.ownsRow B e s v n xs) := fun W _ hk => by
 refine ⟨h.1,?_⟩
 rcases h.2 with h1 | ⟨g,cap,cur,hv,hB,hg,rest⟩
 ·exact .inl h1
 ·exact .inr ⟨g,cap,cur,hv,hB,(hk g hB (Array.getElem?_eq_some_iff.1 hg).1).trans hg,rest⟩
theorem Up.map {B : Nat} {w : World} {Φ Ψ : World -> Prop} (h : Up B w Φ) (f : ∀ W,Φ W -> Ψ W) : Up B w Ψ := fun W hs hk => f W (h W hs hk)
theorem up_ws {B : Nat} {w : World} {v : Value} {qs : List Wq} (h : OwnWs w B v qs) : Up B w (fun W => OwnWs W B v qs) := fun W hs hk => ⟨up_owns h.row W hs hk,fun q hq => ⟨up_owns (h.prp q hq).1 W hs hk,(h.prp q hq).2⟩⟩
theorem sl_of {w : World} {B : Nat} {e : TypeId} {s : Nat} {v : Value} {n : Nat} {xs : List Value} (h : w.ownsRow B e s v n xs) : ∃ y : Sl,v = y.val := by
 obtain ⟨ao,cap,rfl⟩ := owns_slice h
 exact ⟨⟨ao,n,cap⟩,rfl⟩
abbrev slz : Sl := ⟨none,0,0⟩
theorem copyp_up (v : Value) (l : List Pr) (w : World) (h : Prp w v l) (hmx : l.length <= 1000000) : Calls Tryz.prog 17 #[v] w fun e w' => ∃ y : Sl,e = .returned y.val /\ Hid (Up w.heap.size w' (fun W => Prp W y.val l)) /\ Below w.heap.size w w' := by
 refine (copyp_own v l w h hmx).mono ?_
 rintro e w' ⟨v',rfl,ho,hb⟩
 obtain ⟨y,rfl⟩ := sl_of (uh ho)
 exact ⟨y,rfl,(up_owns (uh ho)).map (fun W h => Go.Proofs.YtemedclhglkfjaaGreatDoor.prp_of_owns h),hb⟩
theorem cpn_up (v : Value) (l : List Int) (w : World) (h : Nms w v l) (hmx : l.length <= 1000000) : Calls Tryz.prog 21 #[v] w fun e w' => ∃ y : Sl,e = .returned y.val /\ Hid (Up w.heap.size w' (fun W => Nms W y.val l)) /\ Below w.heap.size w w' := by
 obtain ⟨ao,cap,rfl,-,hc⟩ := h
 rcases hc with rfl | ⟨b,off,rfl,hc⟩
 ·refine (cpn_nil ao cap w).mono ?_
  rintro e w' ⟨rfl,rfl⟩
  exact ⟨slz,rfl,fun W _ _ => ⟨none,0,rfl,by simp,.inl rfl⟩,Below.refl _ _⟩
 ·refine (cpn_core b off cap l _ w rfl (by omega) hc).mono ?_
  rintro e w' ⟨v',rfl,ho,hb⟩
  obtain ⟨y,rfl⟩ := sl_of (uh ho)
  exact ⟨y,rfl,(up_owns (uh ho)).map (fun W h => nms_of_owns h),hb⟩
theorem cps_up (v : Value) (l : List ByteArray) (w : World) (h : Txs w v l) (hmx : l.length <= 1000000) : Calls Tryz.prog 19 #[v] w fun e w' => ∃ y : Sl,e = .returned y.val /\ Hid (Up w.heap.size w' (fun W => Txs W y.val l)) /\ Below w.heap.size w w' := by
 obtain ⟨ao,cap,rfl,-,hc⟩ := h
 rcases hc with rfl | ⟨b,off,rfl,hc⟩
 ·refine (cps_nil ao cap w).mono ?_
  rintro e w' ⟨rfl,rfl⟩
  exact ⟨slz,rfl,fun W _ _ => ⟨none,0,rfl,by simp,.inl rfl⟩,Below.refl _ _⟩
 ·refine (cps_core b off cap l _ w rfl (by omega) hc).mono ?_
  rintro e w' ⟨v',rfl,ho,hb⟩
  obtain ⟨y,rfl⟩ := sl_of (uh ho)
  exact ⟨y,rfl,(up_owns (uh ho)).map (fun W h => txs_of_owns h),hb⟩
theorem cpb_up (v : Value) (l : List Sb) (w : World) (h : Sbs w v l) (hmx : l.length <= 1000000) : Calls Tryz.prog 20 #[v] w fun e w' => ∃ y : Sl,e = .returned y.val /\ Hid (Up w.heap.size w' (fun W => Sbs W y.val l)) /\ Below w.heap.size w w' := by
 obtain ⟨ao,cap,rfl,-,hc⟩ := h
 rcases hc with rfl | ⟨b,off,rfl,hc⟩
 ·refine (cpb_nil ao cap w).mono ?_
  rintro e w' ⟨rfl,rfl⟩
  exact ⟨slz,rfl,fun W _ _ => ⟨none,0,rfl,by simp,.inl rfl⟩,Below.refl _ _⟩
 ·refine (cpb_core b off cap l _ w rfl (by omega) hc).mono ?_
  rintro e w' ⟨v',rfl,ho,hb⟩
  obtain ⟨y,rfl⟩ := sl_of (uh ho)
  exact ⟨y,rfl,(up_owns (uh ho)).map (fun W h => sbs_own h),hb⟩
def WsOk (l : List Wl) : Prop := l.length <= 1000000 /\ ∀ k,k < l.length -> (l.getD k wl0).props.length <= 1000000
theorem cpws_up (v : Value) (l : List Wl) (w : World) (h : Wls w v l) (hmx : WsOk l) : Calls Tryz.prog 18 #[v] w fun e w' => ∃ y : Sl,e = .returned y.val /\ Hid (Up w.heap.size w' (fun W => Wls W y.val l)) /\ Below w.heap.size w w' := by
 obtain ⟨ao,cap,rfl,_,hc⟩ := h
 rcases hc with rfl | ⟨b,off,rfl,hc⟩
 ·refine (cpws_nil ao cap w).mono ?_
  rintro e w' ⟨rfl,rfl⟩
  exact ⟨slz,rfl,fun W _ _ => ⟨none,0,rfl,by simp,.inl rfl⟩,Below.refl _ _⟩
 ·refine (cpws_core b off cap l _ w rfl (by have := hmx.1; omega) hc hmx.2).mono ?_
  rintro e w' ⟨v',qs,rfl,ho,hb⟩
  obtain ⟨y,rfl⟩ := sl_of (uh ho).1.row
  exact ⟨y,rfl,(up_ws (uh ho).1).map (fun W h => by have := h.wls; rw [(uh ho).2] at this; exact this),hb⟩
structure CpOk (P : Pa) : Prop where
 props : P.props.length <= 1000000
 wills : WsOk P.wills
 user : P.user.length <= 1000000
 pass : P.pass.length <= 1000000
 subs : P.subs.length <= 1000000
 filters : P.filters.length <= 1000000
 codes : P.codes.length <= 1000000
theorem res_pk1 {fn : Func} {a : Tmp} (h : fn.results = #[.cell a 30]) {tmps : Array Value} {w : World} {B : Nat} {q : Pkv} (ha : tmps[a]?.getD undef = .pointer (some ⟨B,0,none⟩)) (hq : Pk w B q) : (results fn tmps).run Tryz.prog w = .ok q.val w := by
 have k := run_loadVar_mid (P := Tryz.prog) w B 0 30 q.cells _ hq.range Tryz.underlying30 rfl packet_size
 simp [results,h,ha,asAddr,k]
 rfl
theorem setCells_other (R : Nat) (k : Nat) (h : k ≠ R) : ∀ (cs : List Value) (i : Nat) (w : World),(w.setCells R i cs).heap[k]? = w.heap[k]?
 | [],_,_ => rfl
 | v :: r,i,w => (setCells_other R k h r (i + 1) (w.setCell ⟨R,i,none⟩ v)).trans (Below.heap_setCell _ _ _ _ (by show k ≠ R; exact h))
theorem setCells_size (R : Nat) : ∀ (cs : List Value) (i : Nat) (w : World),(w.setCells R i cs).heap.size = w.heap.size
 | [],_,_ => rfl
 | v :: r,i,w => (setCells_size R r (i + 1) (w.setCell ⟨R,i,none⟩ v)).trans (by simp [World.setCell])
theorem cpp_any (q : Pkv) (P : Pa) (w : World) (hR : RPk w q P) (hL : CpOk P) : Calls Tryz.prog 7 #[q.val] w fun e w' => ∃ q',e = .returned (Pkv.val q') /\ Hid (RPk w' q' P) /\ Below w.heap.size w w' := by
 have HR := zh hR
 have HL := zh hL
 clear hR hL
 have HM0 : Hid (Pk ((w.alloc (.cells q.cells.toArray 30)).alloc (.cells pkz.cells.toArray 30)) w.heap.size q) := (pk_new w q).below (bal _ _)
 have HM1 : Hid (MS w (((w.alloc (.cells q.cells.toArray 30)).alloc (.cells pkz.cells.toArray 30)).alloc (.cells q.cells.toArray 30)) w.heap.size (w.heap.size + 2) q q) := by
  have b1 : Below w.heap.size w (w.alloc (.cells q.cells.toArray 30)) := bal _ _
  have b2 := b1.alloc (by simp) (.cells pkz.cells.toArray 30)
  have b3 := b2.alloc (by simp <;> omega) (.cells q.cells.toArray 30)
  refine ⟨b3,⟨Nat.le_refl _,by omega,by omega⟩,(uh HM0).below (bal _ _),?_⟩
  have k := pk_new ((w.alloc (.cells q.cells.toArray 30)).alloc (.cells pkz.cells.toArray 30)) q
  rw [show ((w.alloc (.cells q.cells.toArray 30)).alloc (.cells pkz.cells.toArray 30)).heap.size = w.heap.size + 2 from by simp] at k
  exact k
 have HN1 : Hid (MS w (((w.alloc (.cells q.cells.toArray 30)).alloc (.cells pkz.cells.toArray 30)).alloc (.cells q.cells.toArray 30)) (w.heap.size + 1) (w.heap.size + 2) pkz q) := by
  refine ⟨(uh HM1).bel,⟨by omega,by omega,by omega⟩,?_,(uh HM1).px⟩
  have k := pk_new (w.alloc (.cells q.cells.toArray 30)) pkz
  rw [show (w.alloc (.cells q.cells.toArray 30)).heap.size = w.heap.size + 1 from by simp] at k
  exact k.below (bal _ _)
 have hX1 : w.heap.size + 2 + 1 <= (((w.alloc (.cells q.cells.toArray 30)).alloc (.cells pkz.cells.toArray 30)).alloc (.cells q.cells.toArray 30)).heap.size := by simp
 have HWS : Hid (((w.alloc (.cells q.cells.toArray 30)).alloc (.cells pkz.cells.toArray 30)).heap.size = w.heap.size + 2) := by show _ = _; simp
 go_enter Tryz.func7,Tryz.ntmps7
 go_upto_region 1 with fail
 change Code.wp _ _ _ _ ((w.alloc (.cells q.cells.toArray 30)).alloc (.cells pkz.cells.toArray 30))
 generalize (w.alloc (.cells q.cells.toArray 30)).alloc (.cells pkz.cells.toArray 30) = wa at HM0 HM1 HN1 hX1 HWS |-
 go_step
 refine wpList_load_mid rfl 30 _ rfl w.heap.size 0 rfl q.cells _ (uh HM0).range Tryz.underlying30 rfl packet_size ?_
 simp only [Act.put,List.setIfInBounds_toArray,List.set_cons_zero,List.set_cons_succ]
 refine Go.Proofs.YtemedclhglkfjaaGreatDoor.wpList_value rfl (mpacket_alloc _ _ _ _ _ _) ?_
 simp only [Act.put,List.setIfInBounds_toArray,List.set_cons_zero,List.set_cons_succ]
 refine Go.Proofs.YtemedclhglkfjaaGreatDoor.wpList_skip rfl (mpacket_store _ _ _ _ _ _ _ q wa rfl rfl) ?_
 simp only [Act.put]
 rw [uh HWS]
 generalize wa.alloc (.cells q.cells.toArray 30) = w1 at HM1 HN1 hX1 |-
 have HRX : Hid (w.heap.size + 1 < w.heap.size + 2) := Nat.lt_succ_self _
 generalize w.heap.size + 2 = X at HM1 HN1 hX1 HRX |-
 generalize w.heap.size + 1 = R at HN1 HRX |-
 clear HM0 HWS
 generalize hBB : w.heap.size = B at HM1 |-
 have HBB := zh hBB
 clear hBB
 have c7 := (uh HM1).pb.props
 go_wp2_with fail
 refine (copyp_up _ P.props w1 ((uh HR).below (uh HM1).bel).props (uh HL).props).mono ?_
 rintro e v2 ⟨y2,rfl,hu,hb⟩
 have hsz2 : w1.heap.size <= v2.heap.size := hb.size
 have HMv : Hid (MS w v2 B X q q) := (uh HM1).below hb
 have HNv : Hid (MS w v2 R X pkz q) := (uh HN1).below hb
 have HUv0 : Hid (Up (X + 1) v2 (fun W => Prp W y2.val P.props)) := (uh hu).weaken hX1
 clear hb hu c7 HM1 HN1
 have d7 := (uh HMv).px.props
 have e7 := (uh HMv).px.props_f
 go_upto_region 3 with fail
 have HM2 := zh ((uh HMv).wi_props y2)
 have HN2 := zh ((uh HNv).wi_props y2)
 have HU0 := zh ((uh HUv0).set (X := X) (i := 7) (v := y2.val) (Nat.lt_succ_self X))
 clear HUv0
 have hX2 : X + 1 <= (v2.setCell ⟨X,7,none⟩ y2.val).heap.size := by simpa [World.setCell] using Nat.le_trans hX1 hsz2
 generalize v2.setCell ⟨X,7,none⟩ y2.val = w2 at HM2 HN2 hX2 HU0 |-
 obtain ⟨x2,hx2⟩ : ∃ x,x = q.wi_props y2 := ⟨_,rfl⟩
 rw [<- hx2] at HM2 HN2
 have HX2 := zh hx2
 clear hx2 d7 e7 HMv HNv
 have c11 := (uh HM2).pb.wills
 go_wp2_with fail
 refine (cpws_up _ P.wills w2 ((uh HR).below (uh HM2).bel).wills (uh HL).wills).mono ?_
 rintro e v3 ⟨y3,rfl,hu,hb⟩
 have hsz3 : w2.heap.size <= v3.heap.size := hb.size
 have HMv : Hid (MS w v3 B X q x2) := (uh HM2).below hb
 have HNv : Hid (MS w v3 R X pkz x2) := (uh HN2).below hb
 have HUv1 : Hid (Up (X + 1) v3 (fun W => Wls W y3.val P.wills)) := (uh hu).weaken hX2
 have HUv0 := zh ((uh HU0).below hb)
 clear HU0
 clear hb hu c11 HM2 HN2
 have d11 := (uh HMv).px.wills
 have e11 := (uh HMv).px.wills_f
 go_upto_region 4 with fail
 have HM3 := zh ((uh HMv).wi_wills y3)
 have HN3 := zh ((uh HNv).wi_wills y3)
 have HU0 := zh ((uh HUv0).set (X := X) (i := 11) (v := y3.val) (Nat.lt_succ_self X))
 clear HUv0
 have HU1 := zh ((uh HUv1).set (X := X) (i := 11) (v := y3.val) (Nat.lt_succ_self X))
 clear HUv1
 have hX3 : X + 1 <= (v3.setCell ⟨X,11,none⟩ y3.val).heap.size := by simpa [World.setCell] using Nat.le_trans hX2 hsz3
 generalize v3.setCell ⟨X,11,none⟩ y3.val = w3 at HM3 HN3 hX3 HU0 HU1 |-
 obtain ⟨x3,hx3⟩ : ∃ x,x = x2.wi_wills y3 := ⟨_,rfl⟩
 rw [<- hx3] at HM3 HN3
 have HX3 := zh hx3
 clear hx3 d11 e11 HMv HNv
 have c12 := (uh HM3).pb.user
 go_wp2_with fail
 refine (cps_up _ P.user w3 ((uh HR).below (uh HM3).bel).user (uh HL).user).mono ?_
 rintro e v4 ⟨y4,rfl,hu,hb⟩
 have hsz4 : w3.heap.size <= v4.heap.size := hb.size
 have HMv : Hid (MS w v4 B X q x3) := (uh HM3).below hb
 have HNv : Hid (MS w v4 R X pkz x3) := (uh HN3).below hb
 have HUv2 : Hid (Up (X + 1) v4 (fun W => Txs W y4.val P.user)) := (uh hu).weaken hX3
 have HUv0 := zh ((uh HU0).below hb)
 clear HU0
 have HUv1 := zh ((uh HU1).below hb)
 clear HU1
 clear hb hu c12 HM3 HN3
 have d12 := (uh HMv).px.user
 have e12 := (uh HMv).px.user_f
 go_upto_region 5 with fail
 have HM4 := zh ((uh HMv).wi_user y4)
 have HN4 := zh ((uh HNv).wi_user y4)
 have HU0 := zh ((uh HUv0).set (X := X) (i := 12) (v := y4.val) (Nat.lt_succ_self X))
 clear HUv0
 have HU1 := zh ((uh HUv1).set (X := X) (i := 12) (v := y4.val) (Nat.lt_succ_self X))
 clear HUv1
 have HU2 := zh ((uh HUv2).set (X := X) (i := 12) (v := y4.val) (Nat.lt_succ_self X))
 clear HUv2
 have hX4 : X + 1 <= (v4.setCell ⟨X,12,none⟩ y4.val).heap.size := by simpa [World.setCell] using Nat.le_trans hX3 hsz4
 generalize v4.setCell ⟨X,12,none⟩ y4.val = w4 at HM4 HN4 hX4 HU0 HU1 HU2 |-
 obtain ⟨x4,hx4⟩ : ∃ x,x = x3.wi_user y4 := ⟨_,rfl⟩
 rw [<- hx4] at HM4 HN4
 have HX4 := zh hx4
 clear hx4 d12 e12 HMv HNv
 have c13 := (uh HM4).pb.pass
 go_wp2_with fail
 refine (cps_up _ P.pass w4 ((uh HR).below (uh HM4).bel).pass (uh HL).pass).mono ?_
 rintro e v5 ⟨y5,rfl,hu,hb⟩
 have hsz5 : w4.heap.size <= v5.heap.size := hb.size
 have HMv : Hid (MS w v5 B X q x4) := (uh HM4).below hb
 have HNv : Hid (MS w v5 R X pkz x4) := (uh HN4).below hb
 have HUv3 : Hid (Up (X + 1) v5 (fun W => Txs W y5.val P.pass)) := (uh hu).weaken hX4
 have HUv0 := zh ((uh HU0).below hb)
 clear HU0
 have HUv1 := zh ((uh HU1).below hb)
 clear HU1
 have HUv2 := zh ((uh HU2).below hb)
 clear HU2
 clear hb hu c13 HM4 HN4
 have d13 := (uh HMv).px.pass
 have e13 := (uh HMv).px.pass_f
 go_upto_region 6 with fail
 have HM5 := zh ((uh HMv).wi_pass y5)
 have HN5 := zh ((uh HNv).wi_pass y5)
 have HU0 := zh ((uh HUv0).set (X := X) (i := 13) (v := y5.val) (Nat.lt_succ_self X))
 clear HUv0
 have HU1 := zh ((uh HUv1).set (X := X) (i := 13) (v := y5.val) (Nat.lt_succ_self X))
 clear HUv1
 have HU2 := zh ((uh HUv2).set (X := X) (i := 13) (v := y5.val) (Nat.lt_succ_self X))
 clear HUv2
 have HU3 := zh ((uh HUv3).set (X := X) (i := 13) (v := y5.val) (Nat.lt_succ_self X))
 clear HUv3
 have hX5 : X + 1 <= (v5.setCell ⟨X,13,none⟩ y5.val).heap.size := by simpa [World.setCell] using Nat.le_trans hX4 hsz5
 generalize v5.setCell ⟨X,13,none⟩ y5.val = w5 at HM5 HN5 hX5 HU0 HU1 HU2 HU3 |-
 obtain ⟨x5,hx5⟩ : ∃ x,x = x4.wi_pass y5 := ⟨_,rfl⟩
 rw [<- hx5] at HM5 HN5
 have HX5 := zh hx5
 clear hx5 d13 e13 HMv HNv
 have c16 := (uh HM5).pb.subs
 go_wp2_with fail
 refine (cpb_up _ P.subs w5 ((uh HR).below (uh HM5).bel).subs (uh HL).subs).mono ?_
 rintro e v6 ⟨y6,rfl,hu,hb⟩
 have hsz6 : w5.heap.size <= v6.heap.size := hb.size
 have HMv : Hid (MS w v6 B X q x5) := (uh HM5).below hb
 have HNv : Hid (MS w v6 R X pkz x5) := (uh HN5).below hb
 have HUv4 : Hid (Up (X + 1) v6 (fun W => Sbs W y6.val P.subs)) := (uh hu).weaken hX5
 have HUv0 := zh ((uh HU0).below hb)
 clear HU0
 have HUv1 := zh ((uh HU1).below hb)
 clear HU1
 have HUv2 := zh ((uh HU2).below hb)
 clear HU2
 have HUv3 := zh ((uh HU3).below hb)
 clear HU3
 clear hb hu c16 HM5 HN5
 have d16 := (uh HMv).px.subs
 have e16 := (uh HMv).px.subs_f
 go_upto_region 7 with fail
 have HM6 := zh ((uh HMv).wi_subs y6)
 have HN6 := zh ((uh HNv).wi_subs y6)
 have HU0 := zh ((uh HUv0).set (X := X) (i := 16) (v := y6.val) (Nat.lt_succ_self X))
 clear HUv0
 have HU1 := zh ((uh HUv1).set (X := X) (i := 16) (v := y6.val) (Nat.lt_succ_self X))
 clear HUv1
 have HU2 := zh ((uh HUv2).set (X := X) (i := 16) (v := y6.val) (Nat.lt_succ_self X))
 clear HUv2
 have HU3 := zh ((uh HUv3).set (X := X) (i := 16) (v := y6.val) (Nat.lt_succ_self X))
 clear HUv3
 have HU4 := zh ((uh HUv4).set (X := X) (i := 16) (v := y6.val) (Nat.lt_succ_self X))
 clear HUv4
 have hX6 : X + 1 <= (v6.setCell ⟨X,16,none⟩ y6.val).heap.size := by simpa [World.setCell] using Nat.le_trans hX5 hsz6
 generalize v6.setCell ⟨X,16,none⟩ y6.val = w6 at HM6 HN6 hX6 HU0 HU1 HU2 HU3 HU4 |-
 obtain ⟨x6,hx6⟩ : ∃ x,x = x5.wi_subs y6 := ⟨_,rfl⟩
 rw [<- hx6] at HM6 HN6
 have HX6 := zh hx6
 clear hx6 d16 e16 HMv HNv
 have c17 := (uh HM6).pb.filters
 go_wp2_with fail
 refine (cps_up _ P.filters w6 ((uh HR).below (uh HM6).bel).filters (uh HL).filters).mono ?_
 rintro e v7 ⟨y7,rfl,hu,hb⟩
 have hsz7 : w6.heap.size <= v7.heap.size := hb.size
 have HMv : Hid (MS w v7 B X q x6) := (uh HM6).below hb
 have HNv : Hid (MS w v7 R X pkz x6) := (uh HN6).below hb
 have HUv5 : Hid (Up (X + 1) v7 (fun W => Txs W y7.val P.filters)) := (uh hu).weaken hX6
 have HUv0 := zh ((uh HU0).below hb)
 clear HU0
 have HUv1 := zh ((uh HU1).below hb)
 clear HU1
 have HUv2 := zh ((uh HU2).below hb)
 clear HU2
 have HUv3 := zh ((uh HU3).below hb)
 clear HU3
 have HUv4 := zh ((uh HU4).below hb)
 clear HU4
 clear hb hu c17 HM6 HN6
 have d17 := (uh HMv).px.filters
 have e17 := (uh HMv).px.filters_f
 go_upto_region 8 with fail
 have HM7 := zh ((uh HMv).wi_filters y7)
 have HN7 := zh ((uh HNv).wi_filters y7)
 have HU0 := zh ((uh HUv0).set (X := X) (i := 17) (v := y7.val) (Nat.lt_succ_self X))
 clear HUv0
 have HU1 := zh ((uh HUv1).set (X := X) (i := 17) (v := y7.val) (Nat.lt_succ_self X))
 clear HUv1
 have HU2 := zh ((uh HUv2).set (X := X) (i := 17) (v := y7.val) (Nat.lt_succ_self X))
 clear HUv2
 have HU3 := zh ((uh HUv3).set (X := X) (i := 17) (v := y7.val) (Nat.lt_succ_self X))
 clear HUv3
 have HU4 := zh ((uh HUv4).set (X := X) (i := 17) (v := y7.val) (Nat.lt_succ_self X))
 clear HUv4
 have HU5 := zh ((uh HUv5).set (X := X) (i := 17) (v := y7.val) (Nat.lt_succ_self X))
 clear HUv5
 have hX7 : X + 1 <= (v7.setCell ⟨X,17,none⟩ y7.val).heap.size := by simpa [World.setCell] using Nat.le_trans hX6 hsz7
 generalize v7.setCell ⟨X,17,none⟩ y7.val = w7 at HM7 HN7 hX7 HU0 HU1 HU2 HU3 HU4 HU5 |-
 obtain ⟨x7,hx7⟩ : ∃ x,x = x6.wi_filters y7 := ⟨_,rfl⟩
 rw [<- hx7] at HM7 HN7
 have HX7 := zh hx7
 clear hx7 d17 e17 HMv HNv
 have c18 := (uh HM7).pb.codes
 go_wp2_with fail
 refine (cpn_up _ P.codes w7 ((uh HR).below (uh HM7).bel).codes (uh HL).codes).mono ?_
 rintro e v8 ⟨y8,rfl,hu,hb⟩
 have hsz8 : w7.heap.size <= v8.heap.size := hb.size
 have HMv : Hid (MS w v8 B X q x7) := (uh HM7).below hb
 have HNv : Hid (MS w v8 R X pkz x7) := (uh HN7).below hb
 have HUv6 : Hid (Up (X + 1) v8 (fun W => Nms W y8.val P.codes)) := (uh hu).weaken hX7
 have HUv0 := zh ((uh HU0).below hb)
 clear HU0
 have HUv1 := zh ((uh HU1).below hb)
 clear HU1
 have HUv2 := zh ((uh HU2).below hb)
 clear HU2
 have HUv3 := zh ((uh HU3).below hb)
 clear HU3
 have HUv4 := zh ((uh HU4).below hb)
 clear HU4
 have HUv5 := zh ((uh HU5).below hb)
 clear HU5
 clear hb hu c18 HM7 HN7
 have d18 := (uh HMv).px.codes
 have e18 := (uh HMv).px.codes_f
 go_upto_region 9 with fail
 have HM8 := zh ((uh HMv).wi_codes y8)
 have HN8 := zh ((uh HNv).wi_codes y8)
 have HU0 := zh ((uh HUv0).set (X := X) (i := 18) (v := y8.val) (Nat.lt_succ_self X))
 clear HUv0
 have HU1 := zh ((uh HUv1).set (X := X) (i := 18) (v := y8.val) (Nat.lt_succ_self X))
 clear HUv1
 have HU2 := zh ((uh HUv2).set (X := X) (i := 18) (v := y8.val) (Nat.lt_succ_self X))
 clear HUv2
 have HU3 := zh ((uh HUv3).set (X := X) (i := 18) (v := y8.val) (Nat.lt_succ_self X))
 clear HUv3
 have HU4 := zh ((uh HUv4).set (X := X) (i := 18) (v := y8.val) (Nat.lt_succ_self X))
 clear HUv4
 have HU5 := zh ((uh HUv5).set (X := X) (i := 18) (v := y8.val) (Nat.lt_succ_self X))
 clear HUv5
 have HU6 := zh ((uh HUv6).set (X := X) (i := 18) (v := y8.val) (Nat.lt_succ_self X))
 clear HUv6
 have hX8 : X + 1 <= (v8.setCell ⟨X,18,none⟩ y8.val).heap.size := by simpa [World.setCell] using Nat.le_trans hX7 hsz8
 generalize v8.setCell ⟨X,18,none⟩ y8.val = w8 at HM8 HN8 hX8 HU0 HU1 HU2 HU3 HU4 HU5 HU6 |-
 obtain ⟨x8,hx8⟩ : ∃ x,x = x7.wi_codes y8 := ⟨_,rfl⟩
 rw [<- hx8] at HM8 HN8
 have HX8 := zh hx8
 clear hx8 d18 e18 HMv HNv
 go_step
 refine wpList_load_mid rfl 30 _ rfl X 0 rfl x8.cells _ (uh HM8).px.range Tryz.underlying30 rfl packet_size ?_
 simp only [Act.put,List.setIfInBounds_toArray,List.set_cons_zero,List.set_cons_succ]
 refine wpList_store_mid rfl 30 _ _ rfl R 0 x8.cells.toArray rfl rfl ((uh HN8).pb.there _) packet_size (Pkv.ones' _) ?_
 simp only [Act.put]
 have HPS := zh ((uh HN8).pb.stored x8)
 have HBS : Hid (Below w.heap.size w (w8.setCells R 0 x8.cells)) := setCells_below (uh HN8).bel (uh HN8).lo.1
 have HFIN : Hid (RPk (w8.setCells R 0 x8.cells) x8 P) := by
  rw [uh HX8,uh HX7,uh HX6,uh HX5,uh HX4,uh HX3,uh HX2]
  have hk : ∀ k,X + 1 <= k -> k < w8.heap.size -> (w8.setCells R 0 x8.cells).heap[k]? = w8.heap[k]? := fun k h1 _ => setCells_other _ _ (by have := uh HRX; omega) _ _ _
  have hz : w8.heap.size <= (w8.setCells R 0 x8.cells).heap.size := Nat.le_of_eq (setCells_size _ _ _ _).symm
  rw [uh HX8,uh HX7,uh HX6,uh HX5,uh HX4,uh HX3,uh HX2] at hk hz
  exact ⟨(uh HR).sc,(uh HU0) _ hz hk,(uh HU1) _ hz hk,(uh HU2) _ hz hk,(uh HU3) _ hz hk,(uh HU4) _ hz hk,(uh HU5) _ hz hk,(uh HU6) _ hz hk⟩
 generalize w8.setCells R 0 x8.cells = w9 at HPS HBS HFIN |-
 clear HU0 HU1 HU2 HU3 HU4 HU5 HU6 HM8 HN8
 go_wp2
 refine bodyPost_ret (res_pk1 (B := R) (q := x8) rfl rfl (uh HPS)) rfl ?_
 exact ⟨_,rfl,HFIN,uh HBS⟩
end Go.Proofs.YtemedclhglkfjaaGreatDoor.K.W
namespace Go.Proofs.YtemedclhglkfjaaGreatDoor.K.W
open Go.RowKit
open Go.Proofs.YtemedclhglkfjaaGreatDoor.K
set_option maxRecDepth 100000
theorem bnk {w a b : World} (h : Below w.heap.size w a) (h2 : Below a.heap.size a b) : Below w.heap.size w b := h.trans (h2.mono h.size)
theorem wr (x : Int) (h : -9223372036854775808 <= x /\ x <= 9223372036854775807) : IntKind.i64.wrap x = x := by
 rw [IntKind.wrap_i64]; omega
theorem sum3 (m a b r : Int) (h0 : 0 <= m /\ m <= 1000000000000) (h1 : 0 <= a /\ a <= 3000000000) (h2 : 0 <= b /\ b <= 3000000000) (h3 : 0 <= r /\ r <= 3000000000) : IntKind.i64.wrap (IntKind.i64.wrap (IntKind.i64.wrap (m + a) + b) + r) = m + a + b + r := by
 rw [wr (m + a) (by omega),wr (m + a + b) (by omega),wr (m + a + b + r) (by omega)]
theorem sum10 (a b c r d e f g h i : Int) (h0 : 0 <= a /\ a <= 3000000000) (h1 : 0 <= b /\ b <= 3000000000) (h2 : 0 <= c /\ c <= 3000000000) (h3 : 0 <= r /\ r <= 3000000000) (h4 : 0 <= d /\ d <= 3000000000) (h5 : 0 <= e /\ e <= 3000000000) (h6 : 0 <= f /\ f <= 3000000000) (h7 : 0 <= g /\ g <= 3000000000) (h8 : 0 <= h /\ h <= 3000000000) (h9 : 0 <= i /\ i <= 3000000000) :
  IntKind.i64.wrap (IntKind.i64.wrap (IntKind.i64.wrap (IntKind.i64.wrap (IntKind.i64.wrap (IntKind.i64.wrap (IntKind.i64.wrap (IntKind.i64.wrap (IntKind.i64.wrap (a + b) + c) + r) + d) + IntKind.i64.wrap (10 * e)) + IntKind.i64.wrap (10 * f)) + IntKind.i64.wrap (10 * g)) + IntKind.i64.wrap (10 * h)) + IntKind.i64.wrap (10 * i)) = a + b + c + r + d + 10 * e + 10 * f + 10 * g + 10 * h + 10 * i := by
 rw [wr (10 * e) (by omega),wr (10 * f) (by omega),wr (10 * g) (by omega),wr (10 * h) (by omega),wr (10 * i) (by omega),wr (a + b) (by omega),wr (a + b + c) (by omega),wr (a + b + c + r) (by omega),wr (a + b + c + r + d) (by omega),wr (a + b + c + r + d + 10 * e) (by omega),wr (a + b + c + r + d + 10 * e + 10 * f) (by omega),wr (a + b + c + r + d + 10 * e + 10 * f + 10 * g) (by omega),wr (a + b + c + r + d + 10 * e + 10 * f + 10 * g + 10 * h) (by omega),wr (a + b + c + r + d + 10 * e + 10 * f + 10 * g + 10 * h + 10 * i) (by omega)]
def UbP (l : List Pr) : Prop := l.length <= 1048576 /\ ∀ k,k < l.length -> (at0 l k).2.2.1.size <= 1048576 /\ (at0 l k).2.2.2.size <= 1048576
def UbT (l : List ByteArray) : Prop := l.length <= 1048576 /\ ∀ k,k < l.length -> (l.getD k ⟨#[]⟩).size <= 1048576
structure Ub (P : Pa) : Prop where
 texts : P.topic.size <= 1048576 /\ P.payload.size <= 1048576 /\ P.client.size <= 1048576
 props : UbP P.props
 wills : P.wills.length <= 1048576 /\ ∀ k,k < P.wills.length -> (P.wills.getD k wl0).topic.size <= 1048576 /\ (P.wills.getD k wl0).payload.size <= 1048576 /\ UbP (P.wills.getD k wl0).props
 user : UbT P.user
 pass : UbT P.pass
 subs : P.subs.length <= 1048576 /\ ∀ k,k < P.subs.length -> (P.subs.getD k sb0).filter.size <= 1048576
 filters : UbT P.filters
 codes : P.codes.length <= 1048576
theorem pw_core (b off cap : Nat) (l : List Pr) (len : Nat) (w : World) (hlen : l.length = len) (hl : PrAt w b off l) (hu : UbP l) :
  Calls Tryz.prog 16 #[.slice (some ⟨b,off,none⟩) len cap] w fun e w' => ∃ r : Int,e = .returned (.int .i64 r) /\ 0 <= r /\ r <= 3000000000 /\ Below w.heap.size w w' := by
 have hmx : len <= 1048576 := hlen ▸ hu.1
 have HL := zh hl
 have HLEN := zh hlen
 have HU := zh hu
 clear hl hlen hu
 go_enter Tryz.func16,Tryz.ntmps16
 go_wp2
 go_loopw [3,4] (fun n i wr => ∃ (k q : Nat) (z : Int),k <= len /\ k <= 1000 /\ i = .int .i64 k /\ n = .int .i64 z /\ 0 <= z /\ z <= 1048576 + k * 2097152 /\ wr = w.drewN q) (fun _ i _ => 1000 - (intOf i).toNat)
 case atStart => exact ⟨0,0,len,Nat.zero_le _,by omega,rfl,rfl,by omega,by omega,rfl⟩
 case round =>
  obtain ⟨k,q,z,hk,hk1,rfl,rfl,hz1,hz2,rfl⟩ := hrel
  by_cases hlt : k < len /\ k < 1000
  ·obtain ⟨hlt,hlt1⟩ := hlt
   obtain ⟨-,-,h2,h3⟩ := (uh HL) k (by rw [uh HLEN]; exact hlt)
   obtain ⟨hs1,hs2⟩ := (uh HU).2 k (by rw [uh HLEN]; exact hlt)
   generalize at0 l k = p at h2 h3 hs1 hs2
   obtain ⟨id,n,s,t⟩ := p
   simp only at h2 h3 hs1 hs2
   go_wp2
   go_quiet (fail)
   go_wp2
   go_roundw
   case rel => exact ⟨k + 1,_,z + s.size + t.size,by omega,by omega,by go_num,by go_num,by omega,by omega,rfl⟩
   case measure => simp [intOf]; omega
  ·by_cases hlt1 : k < len
   ·obtain rfl : k = 1000 := by omega
    go_wp2
    go_ret
    exact ⟨_,rfl,hz1,by omega,below_drewN (Below.refl _ _) q⟩
   ·go_wp2
    go_ret
    exact ⟨_,rfl,hz1,by omega,below_drewN (Below.refl _ _) q⟩
theorem pw_any (v : Value) (l : List Pr) (w : World) (h : Prp w v l) (hu : UbP l) : Calls Tryz.prog 16 #[v] w fun e w' => ∃ r : Int,e = .returned (.int .i64 r) /\ 0 <= r /\ r <= 3000000000 /\ Below w.heap.size w w' := by
 obtain ⟨ao,cap,rfl,rfl | ⟨b,off,rfl,hc⟩⟩ := h
 ·clear hu
  go_enter Tryz.func16,Tryz.ntmps16
  go_wp2
  refine wp_loop_rounds 1 ?_
  rw [rounds_succ]
  go_wp2
  go_ret
  exact ⟨_,rfl,by decide,by decide,Below.refl _ _⟩
 ·exact pw_core b off cap l _ w rfl hc hu
def WtPost (P : Pa) (w : World) (e : Ending) (w' : World) : Prop := ∃ N : Int,e = .returned (.int .i64 N) /\ (10 * (P.user.length : Int) + 10 * P.pass.length + 10 * P.filters.length + P.codes.length + P.payload.size) <= N /\ N <= 1000000000000 /\ Below w.heap.size w w'
theorem wt_any (q : Pkv) (P : Pa) (w : World) (hR : RPk w q P) (hU : Ub P) : Calls Tryz.prog 6 #[q.val] w (WtPost P w) := by
 have HR := zh hR
 have HU := zh hU
 obtain ⟨-,-,-,-,k4,-,k6,k8,-⟩ := hR.sc
 obtain ⟨n7,n11,n12,n13,n16,n17,n18⟩ := hR.cnt.ns
 have t4 : q.topic.size <= 1048576 := by rw [k4]; exact hU.texts.1
 have t6 : q.payload.size <= 1048576 := by rw [k6]; exact hU.texts.2.1
 have t8 : q.client.size <= 1048576 := by rw [k8]; exact hU.texts.2.2
 have m7 : q.props.n <= 1048576 := by rw [n7]; exact hU.props.1
 have m11 : q.wills.n <= 1048576 := by rw [n11]; exact hU.wills.1
 have m12 : q.user.n <= 1048576 := by rw [n12]; exact hU.user.1
 have m13 : q.pass.n <= 1048576 := by rw [n13]; exact hU.pass.1
 have m16 : q.subs.n <= 1048576 := by rw [n16]; exact hU.subs.1
 have m17 : q.filters.n <= 1048576 := by rw [n17]; exact hU.filters.1
 have m18 : q.codes.n <= 1048576 := by rw [n18]; exact hU.codes
 have HLL : Hid ((10 * (P.user.length : Int) + 10 * P.pass.length + 10 * P.filters.length + P.codes.length + P.payload.size) = 10 * (q.user.n : Int) + 10 * q.pass.n + 10 * q.filters.n + q.codes.n + q.payload.size) := by show _ = _; rw [n12,n13,n17,n18,k6]
 have HBA : Hid (Below w.heap.size w (w.alloc (.cells q.cells.toArray 30))) := bal _ _
 have HP := zh (pk_new w q)
 clear hR hU k4 k6 k8 n7 n11 n12 n13 n16 n17 n18
 show Calls _ _ _ _ (WtPost P w)
 unfold WtPost
 have hL0 : 0 <= (10 * (P.user.length : Int) + 10 * P.pass.length + 10 * P.filters.length + P.codes.length + P.payload.size) := by omega
 generalize (10 * (P.user.length : Int) + 10 * P.pass.length + 10 * P.filters.length + P.codes.length + P.payload.size) = L at HLL hL0 |-
 go_enter Tryz.func6,Tryz.ntmps6
 go_upto_region 1 with fail
 change Code.wp _ _ _ _ (w.alloc (.cells q.cells.toArray 30))
 generalize w.alloc (.cells q.cells.toArray 30) = wa at HBA HP |-
 generalize hBB : w.heap.size = B at HP |-
 have HBB := zh hBB
 clear hBB
 have HK : Hid (∀ W : World,Below wa.heap.size wa W -> W.cell? ⟨B,4,none⟩ = some (.string q.topic) /\ W.cell? ⟨B,6,none⟩ = some (.string q.payload) /\ W.cell? ⟨B,8,none⟩ = some (.string q.client) /\ W.cell? ⟨B,7,none⟩ = some (q.props.val) /\ W.cell? ⟨B,18,none⟩ = some (q.codes.val) /\ W.cell? ⟨B,11,none⟩ = some (q.wills.val) /\ W.cell? ⟨B,16,none⟩ = some (q.subs.val) /\ W.cell? ⟨B,17,none⟩ = some (q.filters.val) /\ W.cell? ⟨B,12,none⟩ = some (q.user.val) /\ W.cell? ⟨B,13,none⟩ = some (q.pass.val)) := fun W hW => by
  have k := (uh HP).below hW
  exact ⟨k.topic,k.payload,k.client,k.props,k.codes,k.wills,k.subs,k.filters,k.user,k.pass⟩
 refine wp_region_noPanic ?_
 refine wp_region_held_drew (S := (fun w' => w'.cell? ⟨B,4,none⟩ = some (.string q.topic) /\ w'.cell? ⟨B,6,none⟩ = some (.string q.payload) /\ w'.cell? ⟨B,8,none⟩ = some (.string q.client) /\ w'.cell? ⟨B,7,none⟩ = some (q.props.val) /\ w'.cell? ⟨B,18,none⟩ = some (q.codes.val) /\ w'.cell? ⟨B,11,none⟩ = some (q.wills.val) /\ w'.cell? ⟨B,16,none⟩ = some (q.subs.val) /\ w'.cell? ⟨B,17,none⟩ = some (q.filters.val) /\ w'.cell? ⟨B,12,none⟩ = some (q.user.val) /\ w'.cell? ⟨B,13,none⟩ = some (q.pass.val))) (by kernel_rfl) ((uh HK) _ (below_drewN (Below.refl _ _) 1)) (fun hHeld => ?_)
 refine rtk 0 (h := ?_)
 refine rtk 1 (h := ?_)
 refine rtk 2 (h := ?_)
 refine rtk 3 (h := ?_)
 refine rtk 4 (h := ?_)
 refine rtk 5 (h := ?_)
 refine rtk 6 (h := ?_)
 refine rtk 7 (h := ?_)
 refine rtk 8 (h := ?_)
 refine rtk 9 (h := ?_)
 refine rtk 10 (h := ?_)
 refine rtk 11 (h := ?_)
 refine rtk 12 (h := ?_)
 refine rtk 15 (h := ?_)
 refine rtk 16 (h := ?_)
 refine rtk 17 (h := ?_)
 refine rtk 19 (h := ?_)
 refine rtk 20 (h := ?_)
 refine rtk 21 (h := ?_)
 refine rtk 22 (h := ?_)
 refine rtk 24 (h := ?_)
 refine rtk 25 (h := ?_)
 refine rtk 26 (h := ?_)
 refine rtk 27 (h := ?_)
 refine rtk 29 (h := ?_)
 refine rtk 30 (h := ?_)
 refine rtk 31 (h := ?_)
 refine rtk 32 (h := ?_)
 refine rtk 34 (h := ?_)
 refine rtk 35 (h := ?_)
 refine rtk 36 (h := ?_)
 refine rtk 37 (h := ?_)
 refine rtk 39 (h := ?_)
 refine rtk 40 (h := ?_)
 refine rtk 41 (h := ?_)
 refine rtk 42 (h := ?_)
 refine rcl 13 (h := fun K hK => ?_)
 go_simp
 refine (pw_any _ P.props _ (((uh HR).below (bnk (uh HBA) (below_drewN (Below.refl _ _) 1))).props) (uh HU).props).mono ?_
 rintro e w2 ⟨r2,rfl,hr2,hr3,hb2⟩
 have HB2 := zh (bnk (below_drewN (Below.refl _ _) 1) hb2)
 clear hb2
 refine hK.out _ _ ((uh HK) _ (uh HB2)) (fun hHeld => ?_)
 clear hK K
 refine rtk 14 (h := ?_)
 refine rtk 18 (h := ?_)
 refine rtk 23 (h := ?_)
 refine rtk 28 (h := ?_)
 refine rtk 33 (h := ?_)
 refine rtk 38 (h := ?_)
 refine rtk 43 (h := ?_)
 refine rcl 44 (h := fun K hK => ?_)
 go_simp
 refine hK.out _ _ ((uh HK) _ (uh HB2)) (fun hHeld => ?_)
 clear hK K
 refine wpAnyH_done (by kernel_rfl) ?_ _
 refine NoPanic.normal ?_
 go_upto_block 0 with fail
 go_cut [3] from 9 (fun s3 wx => ∃ N : Int,s3 = .int .i64 N /\ L <= N /\ N <= 410000000000 /\ Hid (Below wa.heap.size wa wx))
 case first =>
  have c11 := ((uh HP).below (uh HB2)).wills
  have HLS := zh ((uh HR).below (bnk (uh HBA) (uh HB2))).wills
  obtain ⟨lao,wc0,hlv,-,hlc⟩ := uh HLS
  rw [hlv] at c11
  have HUF := zh (uh HU).wills
  generalize hln : P.wills.length = nw at c11
  have HLN := zh hln
  have HLC := zh hlc
  have hlb : nw <= 1048576 := by rw [<- hln]; exact (uh HUF).1
  clear hln hlc hlv HLS
  go_wp2
  go_loopw [3,4] (fun n i wr => ∃ (k : Nat) (N : Int),n = .int .i64 N /\ i = .int .i64 k /\ k <= nw /\ k <= 100 /\ L <= N /\ N <= 10000000000 + k * 4000000000 /\ Hid (Below w2.heap.size w2 wr)) (fun _ i _ => 100 - (intOf i).toNat)
  case atStart => exact ⟨0,_,rfl,rfl,Nat.zero_le _,by omega,by have := uh HLL; rw [sum10 _ _ _ _ _ _ _ _ _ _ (by omega) (by omega) (by omega) (by omega) (by omega) (by omega) (by omega) (by omega) (by omega) (by omega)]; omega,by rw [sum10 _ _ _ _ _ _ _ _ _ _ (by omega) (by omega) (by omega) (by omega) (by omega) (by omega) (by omega) (by omega) (by omega) (by omega)]; omega,Below.refl _ _⟩
  case round =>
   obtain ⟨k,M,rfl,rfl,hk,hk1,hM1,hM2,HBEL⟩ := hrel
   have x11 := ((uh HBEL).cell (cell_lt c11)).trans c11
   by_cases hlt : k < nw
   ·by_cases hlt1 : k < 100
    ·rcases uh HLC with h0 | ⟨lb,lo,rfl,hat⟩
     ·exfalso
      have := uh HLN
      rw [h0] at this
      simp at this
      omega
     have hkl : k < P.wills.length := by rw [uh HLN]; exact hlt
     have hu := (hat k hkl).below (uh HBEL)
     have hsz := (uh HUF).2 k hkl
     generalize P.wills.getD k wl0 = u at hu hsz
     obtain ⟨ao,n,c,⟨y0,y1,-,-,y4⟩,hpu,-⟩ := hu
     obtain ⟨hs0,hs1,hs2⟩ := hsz
     have HPU := zh hpu
     have HUU := zh hs2
     have HK5 : Hid (∀ W : World,Below wr.heap.size wr W -> W.cell? ⟨B,11,none⟩ = some (.slice (some ⟨lb,lo,none⟩) nw wc0) /\ W.cell? ⟨lb,lo + k * 5,none⟩ = some (.string u.topic) /\ W.cell? ⟨lb,lo + k * 5 + 1,none⟩ = some (.string u.payload) /\ W.cell? ⟨lb,lo + k * 5 + 4,none⟩ = some (.slice ao n c)) := fun W hW => ⟨(hW.cell (cell_lt x11)).trans x11,(hW.cell (cell_lt y0)).trans y0,(hW.cell (cell_lt y1)).trans y1,(hW.cell (cell_lt y4)).trans y4⟩
     clear hat hpu hs2 y0 y1 y4
     go_wp2_with fail
     refine wp_region_noPanic ?_
     refine wp_region_held_drew (S := (fun w' => w'.cell? ⟨B,11,none⟩ = some (.slice (some ⟨lb,lo,none⟩) nw wc0) /\ w'.cell? ⟨lb,lo + k * 5,none⟩ = some (.string u.topic) /\ w'.cell? ⟨lb,lo + k * 5 + 1,none⟩ = some (.string u.payload) /\ w'.cell? ⟨lb,lo + k * 5 + 4,none⟩ = some (.slice ao n c))) (by kernel_rfl) ((uh HK5) _ (below_drewN (Below.refl _ _) 1)) (fun hHeld => ?_)
     refine rtk 0 (h := ?_)
     refine rtk 1 (h := ?_)
     refine rtk 2 (h := ?_)
     refine rtk 3 (h := ?_)
     refine rtk 4 (h := ?_)
     refine rtk 5 (h := ?_)
     refine rtk 6 (h := ?_)
     refine rtk 7 (h := ?_)
     refine rtk 8 (h := ?_)
     refine rtk 9 (h := ?_)
     refine rtk 10 (h := ?_)
     refine rtk 11 (h := ?_)
     refine rtk 12 (h := ?_)
     refine rtk 13 (h := ?_)
     refine rtk 14 (h := ?_)
     refine rtk 15 (h := ?_)
     refine rtk 16 (h := ?_)
     refine rtk 17 (h := ?_)
     refine rtk 18 (h := ?_)
     refine rtk 19 (h := ?_)
     refine rtk 20 (h := ?_)
     refine rtk 21 (h := ?_)
     refine rtk 22 (h := ?_)
     refine rcl 23 (h := fun K hK => ?_)
     go_simp
     refine (pw_any _ u.props _ ((uh HPU).below (below_drewN (Below.refl _ _) 1)) (uh HUU)).mono ?_
     rintro e w5 ⟨r5,rfl,hr5,hr6,hb5⟩
     have HB5 := zh (bnk (below_drewN (Below.refl _ _) 1) hb5)
     clear hb5
     refine hK.out _ _ ((uh HK5) _ (uh HB5)) (fun hHeld => ?_)
     clear hK K
     refine rtk 24 (h := ?_)
     refine rcl 25 (h := fun K hK => ?_)
     go_simp
     refine hK.out _ _ ((uh HK5) _ (uh HB5)) (fun hHeld => ?_)
     clear hK K
     refine wpAnyH_done (by kernel_rfl) ?_ _
     refine NoPanic.normal ?_
     have HBE2 : Hid (Below w2.heap.size w2 w5) := bnk (uh HBEL) (uh HB5)
     go_wp2
     go_roundw
     case rel => exact ⟨k + 1,_,rfl,by go_num,by omega,by omega,by rw [sum3 _ _ _ _ (by omega) (by omega) (by omega) (by omega)]; omega,by rw [sum3 _ _ _ _ (by omega) (by omega) (by omega) (by omega)]; omega,HBE2⟩
     case measure => simp [intOf]; omega
    ·obtain rfl : k = 100 := by omega
     go_wp2
     go_meet
     case rel => exact ⟨M,rfl,hM1,by omega,bnk (uh HB2) (uh HBEL)⟩
   ·obtain rfl : k = nw := by omega
    go_wp2
    go_meet
    case rel => exact ⟨M,rfl,hM1,by omega,bnk (uh HB2) (uh HBEL)⟩
 case rest =>
  obtain ⟨N,rfl,hN1,hN2,HBX⟩ := hcut
  go_upto_block 2 with fail
  go_cut [3] from 9 (fun s3 wx => ∃ N : Int,s3 = .int .i64 N /\ L <= N /\ N <= 410110000000 /\ Hid (Below wa.heap.size wa wx))
  case first =>
   have HPK := zh ((uh HP).below (uh HBX))
   have c16 := (uh HPK).subs
   have HLS := zh ((uh HR).below (bnk (uh HBA) (uh HBX))).subs
   obtain ⟨lao,lcap,hlv,-,hlc⟩ := uh HLS
   rw [hlv] at c16
   have HUF := zh (uh HU).subs
   generalize hln : P.subs.length = ln at c16
   have HLN := zh hln
   have HLC := zh hlc
   have hlb : ln <= 1048576 := by rw [<- hln]; exact (uh HUF).1
   clear hln hlc hlv HLS
   go_wp2
   go_loopw [3,5] (fun n i wr => ∃ (k : Nat) (N : Int),n = .int .i64 N /\ i = .int .i64 k /\ k <= ln /\ k <= 100 /\ L <= N /\ N <= 410000000000 + k * 1048576 /\ wr = wc) (fun _ i _ => 100 - (intOf i).toNat)
   case atStart => exact ⟨0,N,rfl,rfl,Nat.zero_le _,by omega,hN1,by omega,rfl⟩
   case round =>
    obtain ⟨k,M,rfl,rfl,hk,hk1,hM1,hM2,hw⟩ := hrel
    obtain rfl := hw.symm
    clear hw
    by_cases hlt : k < ln
    ·by_cases hlt1 : k < 100
     ·rcases uh HLC with h0 | ⟨lb,lo,rfl,hat⟩
      ·exfalso
       have := uh HLN
       rw [h0] at this
       simp at this
       omega
      have hkl : k < P.subs.length := by rw [uh HLN]; exact hlt
      have ck := (hat k hkl).1
      have hsz := (uh HUF).2 k hkl
      generalize (P.subs.getD k sb0).filter = sx at ck hsz
      clear hat
      go_wp2
      go_roundw
      case rel => exact ⟨k + 1,_,rfl,by go_num,by omega,by omega,by first | omega | (rw [wr _ (by omega)]; omega),by first | omega | (rw [wr _ (by omega)]; omega),by first | trivial | rfl⟩
      case measure => simp [intOf]; omega
     ·obtain rfl : k = 100 := by omega
      go_wp2
      go_meet
      case rel => exact ⟨M,rfl,hM1,by omega,HBX⟩
    ·obtain rfl : k = ln := by omega
     go_wp2
     go_meet
     case rel => exact ⟨M,rfl,hM1,by omega,HBX⟩
  case rest =>
   obtain ⟨N,rfl,hN1,hN2,HBX⟩ := hcut
   go_upto_block 4 with fail
   go_cut [3] from 9 (fun s3 wx => ∃ N : Int,s3 = .int .i64 N /\ L <= N /\ N <= 410220000000 /\ Hid (Below wa.heap.size wa wx))
   case first =>
    have HPK := zh ((uh HP).below (uh HBX))
    have c17 := (uh HPK).filters
    have HLS := zh ((uh HR).below (bnk (uh HBA) (uh HBX))).filters
    obtain ⟨lao,lcap,hlv,-,hlc⟩ := uh HLS
    rw [hlv] at c17
    have HUF := zh (uh HU).filters
    generalize hln : P.filters.length = ln at c17
    have HLN := zh hln
    have HLC := zh hlc
    have hlb : ln <= 1048576 := by rw [<- hln]; exact (uh HUF).1
    clear hln hlc hlv HLS
    go_wp2
    go_loopw [3,6] (fun n i wr => ∃ (k : Nat) (N : Int),n = .int .i64 N /\ i = .int .i64 k /\ k <= ln /\ k <= 100 /\ L <= N /\ N <= 410110000000 + k * 1048576 /\ wr = wc) (fun _ i _ => 100 - (intOf i).toNat)
    case atStart => exact ⟨0,N,rfl,rfl,Nat.zero_le _,by omega,hN1,by omega,rfl⟩
    case round =>
     obtain ⟨k,M,rfl,rfl,hk,hk1,hM1,hM2,hw⟩ := hrel
     obtain rfl := hw.symm
     clear hw
     by_cases hlt : k < ln
     ·by_cases hlt1 : k < 100
      ·rcases uh HLC with h0 | ⟨lb,lo,rfl,hat⟩
       ·exfalso
        have := uh HLN
        rw [h0] at this
        simp at this
        omega
       have hkl : k < P.filters.length := by rw [uh HLN]; exact hlt
       have ck := hat k hkl
       have hsz := (uh HUF).2 k hkl
       generalize P.filters.getD k ⟨#[]⟩ = sx at ck hsz
       clear hat
       go_wp2
       go_roundw
       case rel => exact ⟨k + 1,_,rfl,by go_num,by omega,by omega,by first | omega | (rw [wr _ (by omega)]; omega),by first | omega | (rw [wr _ (by omega)]; omega),by first | trivial | rfl⟩
       case measure => simp [intOf]; omega
      ·obtain rfl : k = 100 := by omega
       go_wp2
       go_meet
       case rel => exact ⟨M,rfl,hM1,by omega,HBX⟩
     ·obtain rfl : k = ln := by omega
      go_wp2
      go_meet
      case rel => exact ⟨M,rfl,hM1,by omega,HBX⟩
   case rest =>
    obtain ⟨N,rfl,hN1,hN2,HBX⟩ := hcut
    go_upto_block 6 with fail
    go_cut [3] from 9 (fun s3 wx => ∃ N : Int,s3 = .int .i64 N /\ L <= N /\ N <= 410330000000 /\ Hid (Below wa.heap.size wa wx))
    case first =>
     have HPK := zh ((uh HP).below (uh HBX))
     have c12 := (uh HPK).user
     have HLS := zh ((uh HR).below (bnk (uh HBA) (uh HBX))).user
     obtain ⟨lao,lcap,hlv,-,hlc⟩ := uh HLS
     rw [hlv] at c12
     have HUF := zh (uh HU).user
     generalize hln : P.user.length = ln at c12
     have HLN := zh hln
     have HLC := zh hlc
     have hlb : ln <= 1048576 := by rw [<- hln]; exact (uh HUF).1
     clear hln hlc hlv HLS
     go_wp2
     go_loopw [3,7] (fun n i wr => ∃ (k : Nat) (N : Int),n = .int .i64 N /\ i = .int .i64 k /\ k <= ln /\ k <= 100 /\ L <= N /\ N <= 410220000000 + k * 1048576 /\ wr = wc) (fun _ i _ => 100 - (intOf i).toNat)
     case atStart => exact ⟨0,N,rfl,rfl,Nat.zero_le _,by omega,hN1,by omega,rfl⟩
     case round =>
      obtain ⟨k,M,rfl,rfl,hk,hk1,hM1,hM2,hw⟩ := hrel
      obtain rfl := hw.symm
      clear hw
      by_cases hlt : k < ln
      ·by_cases hlt1 : k < 100
       ·rcases uh HLC with h0 | ⟨lb,lo,rfl,hat⟩
        ·exfalso
         have := uh HLN
         rw [h0] at this
         simp at this
         omega
        have hkl : k < P.user.length := by rw [uh HLN]; exact hlt
        have ck := hat k hkl
        have hsz := (uh HUF).2 k hkl
        generalize P.user.getD k ⟨#[]⟩ = sx at ck hsz
        clear hat
        go_wp2
        go_roundw
        case rel => exact ⟨k + 1,_,rfl,by go_num,by omega,by omega,by first | omega | (rw [wr _ (by omega)]; omega),by first | omega | (rw [wr _ (by omega)]; omega),by first | trivial | rfl⟩
        case measure => simp [intOf]; omega
       ·obtain rfl : k = 100 := by omega
        go_wp2
        go_meet
        case rel => exact ⟨M,rfl,hM1,by omega,HBX⟩
      ·obtain rfl : k = ln := by omega
       go_wp2
       go_meet
       case rel => exact ⟨M,rfl,hM1,by omega,HBX⟩
    case rest =>
     obtain ⟨N,rfl,hN1,hN2,HBX⟩ := hcut
     go_upto_block 8 with fail
     go_cut [3] from 9 (fun s3 wx => ∃ N : Int,s3 = .int .i64 N /\ L <= N /\ N <= 410440000000 /\ Hid (Below wa.heap.size wa wx))
     case first =>
      have HPK := zh ((uh HP).below (uh HBX))
      have c13 := (uh HPK).pass
      have HLS := zh ((uh HR).below (bnk (uh HBA) (uh HBX))).pass
      obtain ⟨lao,lcap,hlv,-,hlc⟩ := uh HLS
      rw [hlv] at c13
      have HUF := zh (uh HU).pass
      generalize hln : P.pass.length = ln at c13
      have HLN := zh hln
      have HLC := zh hlc
      have hlb : ln <= 1048576 := by rw [<- hln]; exact (uh HUF).1
      clear hln hlc hlv HLS
      go_wp2
      go_loopw [3,8] (fun n i wr => ∃ (k : Nat) (N : Int),n = .int .i64 N /\ i = .int .i64 k /\ k <= ln /\ k <= 100 /\ L <= N /\ N <= 410330000000 + k * 1048576 /\ wr = wc) (fun _ i _ => 100 - (intOf i).toNat)
      case atStart => exact ⟨0,N,rfl,rfl,Nat.zero_le _,by omega,hN1,by omega,rfl⟩
      case round =>
       obtain ⟨k,M,rfl,rfl,hk,hk1,hM1,hM2,hw⟩ := hrel
       obtain rfl := hw.symm
       clear hw
       by_cases hlt : k < ln
       ·by_cases hlt1 : k < 100
        ·rcases uh HLC with h0 | ⟨lb,lo,rfl,hat⟩
         ·exfalso
          have := uh HLN
          rw [h0] at this
          simp at this
          omega
         have hkl : k < P.pass.length := by rw [uh HLN]; exact hlt
         have ck := hat k hkl
         have hsz := (uh HUF).2 k hkl
         generalize P.pass.getD k ⟨#[]⟩ = sx at ck hsz
         clear hat
         go_wp2
         go_roundw
         case rel => exact ⟨k + 1,_,rfl,by go_num,by omega,by omega,by first | omega | (rw [wr _ (by omega)]; omega),by first | omega | (rw [wr _ (by omega)]; omega),by first | trivial | rfl⟩
         case measure => simp [intOf]; omega
        ·obtain rfl : k = 100 := by omega
         go_wp2
         go_meet
         case rel => exact ⟨M,rfl,hM1,by omega,HBX⟩
       ·obtain rfl : k = ln := by omega
        go_wp2
        go_meet
        case rel => exact ⟨M,rfl,hM1,by omega,HBX⟩
     case rest =>
      obtain ⟨N,rfl,hN1,hN2,HBX⟩ := hcut
      go_wp2
      go_ret
      exact ⟨N,rfl,hN1,by omega,bnk (uh HBA) (uh HBX)⟩
end Go.Proofs.YtemedclhglkfjaaGreatDoor.K.W
