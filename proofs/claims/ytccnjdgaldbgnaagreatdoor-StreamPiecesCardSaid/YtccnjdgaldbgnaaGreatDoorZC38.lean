/- Proved here: helpers, one text behind the other. -/
import Derived.Test.YtccnjdgaldbgnaaGreatDoorZC35
import Derived.Test.YtccnjdgaldbgnaaGreatDoorZC37
import Derived.Test.YtccnjdgaldbgnaaGreatDoorZC36
import Derived.Test.YtccnjdgaldbgnaaGreatDoorZC7
set_option maxHeartbeats 20000000
namespace Go.Proofs.YtccnjdgaldbgnaaGreatDoor.K
open Go.RowKit
set_option maxRecDepth 100000
theorem pk_none {w0 w:World} {W:Nat} {p:Pkv} (h:WQ w0 w W p (some []) 0) (hf:Fit p)  (hk:p.kind≠1/\p.kind≠2/\p.kind≠3/\p.kind≠4/\p.kind≠5/\p.kind≠6/\p.kind≠7/\p.kind≠8/\p.kind≠9/\p.kind≠10/\p.kind≠11/\p.kind≠14/\p.kind≠15) :
  Calls Tryz.prog 20 #[.pointer (some ⟨W,0,none⟩)] w (GPost w0 W p ((some []).bind (sMust (emp (p)))) (0)):=by
 have hkc:=h.pk.kind
 obtain⟨k1,k2,k3,k4,k5,k6,k7,k8,k9,k10,k11,k14,k15⟩:=hk
 have k1:=beq_false_of_ne k1
 have k2:=beq_false_of_ne k2
 have k3:=beq_false_of_ne k3
 have k4:=beq_false_of_ne k4
 have k5:=beq_false_of_ne k5
 have k6:=beq_false_of_ne k6
 have k7:=beq_false_of_ne k7
 have k8:=beq_false_of_ne k8
 have k9:=beq_false_of_ne k9
 have k10:=beq_false_of_ne k10
 have k11:=beq_false_of_ne k11
 have k14:=beq_false_of_ne k14
 have k15:=beq_false_of_ne k15
 have HQ:=zh h
 clear h
 go_enter Tryz.func20,Tryz.ntmps20
 have HF:=zh (uh HQ).wf
 clear HQ
 go_upto_region 25 with fail
 iterate 13 go_step
 refine wpList_load_mid rfl 45 _ rfl W 0 rfl (p).cells _ (uh HF).pk.range Tryz.underlying45 rfl packet_size ?_
 simp only[Act.put,List.setIfInBounds_toArray,List.set_cons_zero,List.set_cons_succ]
 go_wp2_with fail
 refine (empty_any (p) hf _).mono ?_
 rintro e x1 ⟨rfl,hx1⟩
 have HFa:=zh ((uh HF).below hx1)
 clear hx1 HF
 go_wp2_with fail
 refine (must_f (uh HFa) (emp (p))).mono ?_
 rintro e x2 ⟨rfl,hx2⟩
 have HFb:=zh hx2
 clear hx2 HFa
 go_wp2
 go_end0
 exact⟨rfl,uh HFb⟩
theorem pk_reason {w0 w:World} {W:Nat} {p:Pkv} (h:WQ w0 w W p (some []) 0) (hf:Fit p) (l:List Pr) (hP:Prp w0 p.props.val l) (hmx:l.length<=4398046511104) (hsm:Go.Proofs.YtccnjdgaldbgnaaGreatDoor.Small l) (hk:p.kind=14\/p.kind=15) :
  Calls Tryz.prog 20 #[.pointer (some ⟨W,0,none⟩)] w (GPost w0 W p.no_code.no_props (((some []).bind (sReason p.code p.kind l)).bind (sMust (emp (p.no_code.no_props)))) (0+5000001)):=by
 have hkc:=h.pk.kind
 have HP:=zh hP
 have HSM:=zh hsm
 clear hP hsm
 have HQ:=zh h
 have HKK:=zh hk
 rcases hk with hk | hk <;> rw[hk]at hkc <;> clear hk h
 all_goals (
  go_enter Tryz.func20,Tryz.ntmps20
  go_wp2_with fail
  refine (reason_f (uh HQ) l (uh HP) hmx (uh HSM) p.code rfl hf.nums.2.2.2 (by omega)).mono ?_
  rintro e w1 ⟨rfl,hq1⟩
  have HF:=zh hq1
  clear hq1 HQ hkc
  go_upto_region 25 with fail
  iterate 13 go_step
  refine wpList_load_mid rfl 45 _ rfl W 0 rfl (p.no_code.no_props).cells _ (uh HF).pk.range Tryz.underlying45 rfl packet_size ?_
  simp only[Act.put,List.setIfInBounds_toArray,List.set_cons_zero,List.set_cons_succ]
  go_wp2_with fail
  refine (empty_any (p.no_code.no_props) hf.no_code.no_props _).mono ?_
  rintro e x1 ⟨rfl,hx1⟩
  have HFa:=zh ((uh HF).below hx1)
  clear hx1 HF
  go_wp2_with fail
  refine (must_f (uh HFa) (emp (p.no_code.no_props))).mono ?_
  rintro e x2 ⟨rfl,hx2⟩
  have HFb:=zh hx2
  clear hx2 HFa
  go_wp2
  go_end0
  exact⟨rfl,uh HFb⟩)
theorem pk_ack {w0 w:World} {W:Nat} {p:Pkv} (h:WQ w0 w W p (some []) 0) (hf:Fit p) (l:List Pr) (hP:Prp w0 p.props.val l) (hmx:l.length<=4398046511104) (hsm:Go.Proofs.YtccnjdgaldbgnaaGreatDoor.Small l) (hk:p.kind=4\/p.kind=5\/p.kind=6\/p.kind=7) :
  Calls Tryz.prog 20 #[.pointer (some ⟨W,0,none⟩)] w (GPost w0 W p.no_id.no_code.no_props ((((some []).bind (sAdd (in16 p.id && p.id != 0) (b2 p.id))).bind (sReason p.code p.kind l)).bind (sMust (emp (p.no_id.no_code.no_props)))) (0+2+5000001)):=by
 have hkc:=h.pk.kind
 have HP:=zh hP
 have HSM:=zh hsm
 clear hP hsm
 have HQ:=zh h
 have HKK:=zh hk
 rcases hk with hk | hk | hk | hk <;> rw[hk]at hkc <;> clear hk h
 all_goals (
  go_enter Tryz.func20,Tryz.ntmps20
  go_wp2_with fail
  refine (take_id_q (uh HQ) p.id rfl).mono ?_
  rintro e w1 ⟨rfl,hq1⟩
  have HQ1:=zh hq1
  clear hq1 HQ hkc
  go_wp2_with fail
  refine (id_q (uh HQ1) p.id hf.nums.2.1 (by omega)).mono ?_
  rintro e w2 ⟨rfl,hq2,-⟩
  have HQ2:=zh hq2
  have HG2:=zh (Ge2.of_add (some []) (in16 p.id && p.id != 0) (show 2<=(b2 p.id).length from Nat.le_refl _))
  clear hq2 HQ1
  go_wp2_with fail
  refine (reason_f (uh HQ2) l (uh HP) hmx (uh HSM) p.code rfl hf.nums.2.2.2 (by omega)).mono ?_
  rintro e w3 ⟨rfl,hq3⟩
  have HF:=zh hq3
  clear hq3 HQ2 HG2
  go_upto_region 25 with fail
  iterate 13 go_step
  refine wpList_load_mid rfl 45 _ rfl W 0 rfl (p.no_id.no_code.no_props).cells _ (uh HF).pk.range Tryz.underlying45 rfl packet_size ?_
  simp only[Act.put,List.setIfInBounds_toArray,List.set_cons_zero,List.set_cons_succ]
  go_wp2_with fail
  refine (empty_any (p.no_id.no_code.no_props) hf.no_id.no_code.no_props _).mono ?_
  rintro e x1 ⟨rfl,hx1⟩
  have HFa:=zh ((uh HF).below hx1)
  clear hx1 HF
  go_wp2_with fail
  refine (must_f (uh HFa) (emp (p.no_id.no_code.no_props))).mono ?_
  rintro e x2 ⟨rfl,hx2⟩
  have HFb:=zh hx2
  clear hx2 HFa
  go_wp2
  go_end0
  exact⟨rfl,uh HFb⟩)
theorem ge2_ones (a b:Int):Ge2 (((some []).bind (sAdd (in8 a) [a % 256])).bind (sAdd (in8 b) [b % 256])):=fun l e=>by
 cases ha:in8 a
 ·rw[ha]at e;cases e
 ·cases hb:in8 b
  ·rw[ha,hb]at e;cases e
  ·rw[ha,hb]at e;cases e;simp
theorem pk_connack {w0 w:World} {W:Nat} {p:Pkv} (h:WQ w0 w W p (some []) 0) (hf:Fit p) (l:List Pr) (hP:Prp w0 p.props.val l) (hmx:l.length<=4398046511104) (hsm:Go.Proofs.YtccnjdgaldbgnaaGreatDoor.Small l) (hk:p.kind=2) :
  Calls Tryz.prog 20 #[.pointer (some ⟨W,0,none⟩)] w (GPost w0 W p.no_session.no_code.no_props (((((some []).bind (sAdd (in8 (fv p.session 1)) [fv p.session 1 % 256])).bind (sAdd (in8 p.code) [p.code % 256])).bind (sAdd (okP p.kind l) (pbs l))).bind (sMust (emp (p.no_session.no_code.no_props)))) (0+1+1+5000000)):=by
 have hkc:=h.pk.kind
 have HP:=zh hP
 have HSM:=zh hsm
 clear hP hsm
 have HQ:=zh h
 rw[hk]at hkc
 have HK8:=zh hk
 clear h hk
 go_enter Tryz.func20,Tryz.ntmps20
 go_wp2_with fail
 refine (take_session_q (uh HQ) p.session rfl).mono ?_
 rintro e w1 ⟨rfl,hq1⟩
 have HQ1:=zh hq1
 clear hq1 HQ hkc
 go_wp2_with fail
 refine (flag_is p.session 1 _).mono ?_
 rintro e w2 ⟨rfl,hw2⟩
 obtain rfl:=hw2.symm
 clear hw2
 have hfv:-9223372036854775808<=fv p.session 1/\fv p.session 1<=9223372036854775807:=by unfold fv;split <;> decide
 go_wp2_with fail
 refine (one_q (uh HQ1) (fv p.session 1) hfv (by omega)).mono ?_
 rintro e w3 ⟨rfl,hq3,-⟩
 have HQ3:=zh hq3
 clear hq3 HQ1
 go_wp2_with fail
 refine (take_code_q (uh HQ3) p.code rfl).mono ?_
 rintro e w4 ⟨rfl,hq4⟩
 have HQ4:=zh hq4
 clear hq4 HQ3
 go_wp2_with fail
 refine (one_q (uh HQ4) p.code hf.nums.2.2.2 (by omega)).mono ?_
 rintro e w5 ⟨rfl,hq5,-⟩
 have HQ5:=zh hq5
 have HG5:=zh (ge2_ones (fv p.session 1) p.code)
 clear hq5 HQ4
 go_wp2_with fail
 have HQd:=zh ((uh HQ5).below (below_drewN (Below.refl _ _) 1))
 clear HQ5
 refine wp_region_noPanic ?_
 refine wp_region_held_drew (S:=fun w'=>w'.cell? ⟨W,0,none⟩=some (.int .i64 p.kind)) (by kernel_rfl) (uh HQd).pk.kind (fun hHeld=>?_)
 refine rtk 0 (h:=?_)
 refine rtk 1 (h:=?_)
 refine rtk 2 (h:=?_)
 refine rtk 3 (h:=?_)
 refine rtk 5 (h:=?_)
 refine rtk 6 (h:=?_)
 refine rtk 7 (h:=?_)
 refine rtk 8 (h:=?_)
 refine rcl 4 (h:=fun K hK=>?_)
 go_simp
 refine (take_props_q (uh HQd) p.props rfl).mono ?_
 rintro e wp1 ⟨rfl,hqp⟩
 have HQp:=zh hqp
 clear hqp HQd
 refine hK.out _ _ (uh HQp).pk.kind (fun hHeld=>?_)
 clear hK K
 refine rcl 9 (h:=fun K hK=>?_)
 go_simp
 refine (props_q (uh HQp) p.props.val l p.kind ((uh HP).below (uh HQp).bel) hmx (uh HSM) (uh HG5).one (by omega)).mono ?_
 rintro e wp2 ⟨rfl,hqp,-⟩
 have HQ6:=zh hqp
 clear hqp HQp
 refine hK.out _ _ (uh HQ6).pk.kind (fun hHeld=>?_)
 clear hK K
 refine wpAnyH_done (by kernel_rfl) ?_ _
 refine NoPanic.normal ?_
 have HF:=zh (uh HQ6).wf
 clear HQ6
 go_upto_region 25 with fail
 iterate 13 go_step
 refine wpList_load_mid rfl 45 _ rfl W 0 rfl (p.no_session.no_code.no_props).cells _ (uh HF).pk.range Tryz.underlying45 rfl packet_size ?_
 simp only[Act.put,List.setIfInBounds_toArray,List.set_cons_zero,List.set_cons_succ]
 go_wp2_with fail
 refine (empty_any (p.no_session.no_code.no_props) hf.no_session.no_code.no_props _).mono ?_
 rintro e x1 ⟨rfl,hx1⟩
 have HFa:=zh ((uh HF).below hx1)
 clear hx1 HF
 go_wp2_with fail
 refine (must_f (uh HFa) (emp (p.no_session.no_code.no_props))).mono ?_
 rintro e x2 ⟨rfl,hx2⟩
 have HFb:=zh hx2
 clear hx2 HFa
 go_wp2
 go_end0
 exact⟨rfl,uh HFb⟩
theorem pk_subs {w0 w:World} {W:Nat} {p:Pkv} (h:WQ w0 w W p (some []) 0) (hf:Fit p) (l:List Pr) (hP:Prp w0 p.props.val l) (hmx:l.length<=4398046511104) (hsm:Go.Proofs.YtccnjdgaldbgnaaGreatDoor.Small l) (ss:List Sb) (hS:Sbs w0 p.subs.val ss) (hz:∀ k,k < ss.length->(ss.getD k sb0).filter.size<=4611686018427387904) (c:Nat) (hc:70001<=c) (hm:5000002+ss.length * c<=4611686018427300000) (hk:p.kind=8) :
  Calls Tryz.prog 20 #[.pointer (some ⟨W,0,none⟩)] w (GPost w0 W p.no_id.no_props.no_subs ((((((some []).bind (sAdd (in16 p.id && p.id != 0) (b2 p.id))).bind (sAdd (okP p.kind l) (pbs l))).bind (sMust (mc ss.length))).bind (sEach sSub ss)).bind (sMust (emp (p.no_id.no_props.no_subs)))) (5000002+ss.length * c)):=by
 have hkc:=h.pk.kind
 have HP:=zh hP
 have HSM:=zh hsm
 clear hP hsm
 have HS:=zh hS
 have HZ:=zh hz
 clear hS hz
 have HQ:=zh h
 rw[hk]at hkc
 have HK8:=zh hk
 clear h hk
 go_enter Tryz.func20,Tryz.ntmps20
 go_wp2_with fail
 refine (take_id_q (uh HQ) p.id rfl).mono ?_
 rintro e w1 ⟨rfl,hq1⟩
 have HQ1:=zh hq1
 clear hq1 HQ hkc
 go_wp2_with fail
 refine (id_q (uh HQ1) p.id hf.nums.2.1 (by omega)).mono ?_
 rintro e w2 ⟨rfl,hq2,-⟩
 have HQ2:=zh hq2
 have HG2:=zh (Ge2.of_add (some []) (in16 p.id && p.id != 0) (show 2<=(b2 p.id).length from Nat.le_refl _))
 clear hq2 HQ1
 go_wp2_with fail
 have HQd:=zh ((uh HQ2).below (below_drewN (Below.refl _ _) 1))
 clear HQ2
 refine wp_region_noPanic ?_
 refine wp_region_held_drew (S:=fun w'=>w'.cell? ⟨W,0,none⟩=some (.int .i64 p.kind)) (by kernel_rfl) (uh HQd).pk.kind (fun hHeld=>?_)
 refine rtk 0 (h:=?_)
 refine rtk 1 (h:=?_)
 refine rtk 2 (h:=?_)
 refine rtk 3 (h:=?_)
 refine rtk 5 (h:=?_)
 refine rtk 6 (h:=?_)
 refine rtk 7 (h:=?_)
 refine rtk 8 (h:=?_)
 refine rcl 4 (h:=fun K hK=>?_)
 go_simp
 refine (take_props_q (uh HQd) p.props rfl).mono ?_
 rintro e wp1 ⟨rfl,hqp⟩
 have HQp:=zh hqp
 clear hqp HQd
 refine hK.out _ _ (uh HQp).pk.kind (fun hHeld=>?_)
 clear hK K
 refine rcl 9 (h:=fun K hK=>?_)
 go_simp
 refine (props_q (uh HQp) p.props.val l p.kind ((uh HP).below (uh HQp).bel) hmx (uh HSM) (uh HG2).one (by omega)).mono ?_
 rintro e wp2 ⟨rfl,hqp,-⟩
 have HQ3:=zh hqp
 clear hqp HQp
 refine hK.out _ _ (uh HQ3).pk.kind (fun hHeld=>?_)
 clear hK K
 refine wpAnyH_done (by kernel_rfl) ?_ _
 refine NoPanic.normal ?_
 have HG3:=zh ((uh HG2).add (okP p.kind l) (pbs l))
 clear HG2
 go_wp2_with fail
 refine (wl_subs (uh HQ3) (uh HK8) ss (uh HS) (uh HZ) (uh HG3) c hc (by omega)).mono ?_
 rintro e w5 ⟨rfl,hq5⟩
 have HF:=zh (hq5.wf.mono (show _<=5000002+ss.length * c from by omega))
 clear hq5 HQ3 HG3
 go_upto_region 25 with fail
 iterate 13 go_step
 refine wpList_load_mid rfl 45 _ rfl W 0 rfl (p.no_id.no_props.no_subs).cells _ (uh HF).pk.range Tryz.underlying45 rfl packet_size ?_
 simp only[Act.put,List.setIfInBounds_toArray,List.set_cons_zero,List.set_cons_succ]
 go_wp2_with fail
 refine (empty_any (p.no_id.no_props.no_subs) hf.no_id.no_props.no_subs _).mono ?_
 rintro e x1 ⟨rfl,hx1⟩
 have HFa:=zh ((uh HF).below hx1)
 clear hx1 HF
 go_wp2_with fail
 refine (must_f (uh HFa) (emp (p.no_id.no_props.no_subs))).mono ?_
 rintro e x2 ⟨rfl,hx2⟩
 have HFb:=zh hx2
 clear hx2 HFa
 go_wp2
 go_end0
 exact⟨rfl,uh HFb⟩
theorem pk_filters {w0 w:World} {W:Nat} {p:Pkv} (h:WQ w0 w W p (some []) 0) (hf:Fit p) (l:List Pr) (hP:Prp w0 p.props.val l) (hmx:l.length<=4398046511104) (hsm:Go.Proofs.YtccnjdgaldbgnaaGreatDoor.Small l) (ss:List ByteArray) (hS:Txs w0 p.filters.val ss) (hz:∀ k,k < ss.length->(ss.getD k ⟨#[]⟩).size<=4611686018427387904) (c:Nat) (hc:70001<=c) (hm:5000002+ss.length * c<=4611686018427300000) (hk:p.kind=10) :
  Calls Tryz.prog 20 #[.pointer (some ⟨W,0,none⟩)] w (GPost w0 W p.no_id.no_props.no_filters ((((((some []).bind (sAdd (in16 p.id && p.id != 0) (b2 p.id))).bind (sAdd (okP p.kind l) (pbs l))).bind (sMust (mc ss.length))).bind (sEach sTx ss)).bind (sMust (emp (p.no_id.no_props.no_filters)))) (5000002+ss.length * c)):=by
 have hkc:=h.pk.kind
 have HP:=zh hP
 have HSM:=zh hsm
 clear hP hsm
 have HS:=zh hS
 have HZ:=zh hz
 clear hS hz
 have HQ:=zh h
 rw[hk]at hkc
 have HK8:=zh hk
 clear h hk
 go_enter Tryz.func20,Tryz.ntmps20
 go_wp2_with fail
 refine (take_id_q (uh HQ) p.id rfl).mono ?_
 rintro e w1 ⟨rfl,hq1⟩
 have HQ1:=zh hq1
 clear hq1 HQ hkc
 go_wp2_with fail
 refine (id_q (uh HQ1) p.id hf.nums.2.1 (by omega)).mono ?_
 rintro e w2 ⟨rfl,hq2,-⟩
 have HQ2:=zh hq2
 have HG2:=zh (Ge2.of_add (some []) (in16 p.id && p.id != 0) (show 2<=(b2 p.id).length from Nat.le_refl _))
 clear hq2 HQ1
 go_wp2_with fail
 have HQd:=zh ((uh HQ2).below (below_drewN (Below.refl _ _) 1))
 clear HQ2
 refine wp_region_noPanic ?_
 refine wp_region_held_drew (S:=fun w'=>w'.cell? ⟨W,0,none⟩=some (.int .i64 p.kind)) (by kernel_rfl) (uh HQd).pk.kind (fun hHeld=>?_)
 refine rtk 0 (h:=?_)
 refine rtk 1 (h:=?_)
 refine rtk 2 (h:=?_)
 refine rtk 3 (h:=?_)
 refine rtk 5 (h:=?_)
 refine rtk 6 (h:=?_)
 refine rtk 7 (h:=?_)
 refine rtk 8 (h:=?_)
 refine rcl 4 (h:=fun K hK=>?_)
 go_simp
 refine (take_props_q (uh HQd) p.props rfl).mono ?_
 rintro e wp1 ⟨rfl,hqp⟩
 have HQp:=zh hqp
 clear hqp HQd
 refine hK.out _ _ (uh HQp).pk.kind (fun hHeld=>?_)
 clear hK K
 refine rcl 9 (h:=fun K hK=>?_)
 go_simp
 refine (props_q (uh HQp) p.props.val l p.kind ((uh HP).below (uh HQp).bel) hmx (uh HSM) (uh HG2).one (by omega)).mono ?_
 rintro e wp2 ⟨rfl,hqp,-⟩
 have HQ3:=zh hqp
 clear hqp HQp
 refine hK.out _ _ (uh HQ3).pk.kind (fun hHeld=>?_)
 clear hK K
 refine wpAnyH_done (by kernel_rfl) ?_ _
 refine NoPanic.normal ?_
 have HG3:=zh ((uh HG2).add (okP p.kind l) (pbs l))
 clear HG2
 go_wp2_with fail
 refine (wl_filters (uh HQ3) (uh HK8) ss (uh HS) (uh HZ) (uh HG3) c hc (by omega)).mono ?_
 rintro e w5 ⟨rfl,hq5⟩
 have HF:=zh (hq5.wf.mono (show _<=5000002+ss.length * c from by omega))
 clear hq5 HQ3 HG3
 go_upto_region 25 with fail
 iterate 13 go_step
 refine wpList_load_mid rfl 45 _ rfl W 0 rfl (p.no_id.no_props.no_filters).cells _ (uh HF).pk.range Tryz.underlying45 rfl packet_size ?_
 simp only[Act.put,List.setIfInBounds_toArray,List.set_cons_zero,List.set_cons_succ]
 go_wp2_with fail
 refine (empty_any (p.no_id.no_props.no_filters) hf.no_id.no_props.no_filters _).mono ?_
 rintro e x1 ⟨rfl,hx1⟩
 have HFa:=zh ((uh HF).below hx1)
 clear hx1 HF
 go_wp2_with fail
 refine (must_f (uh HFa) (emp (p.no_id.no_props.no_filters))).mono ?_
 rintro e x2 ⟨rfl,hx2⟩
 have HFb:=zh hx2
 clear hx2 HFa
 go_wp2
 go_end0
 exact⟨rfl,uh HFb⟩
theorem pk_codes {w0 w:World} {W:Nat} {p:Pkv} (h:WQ w0 w W p (some []) 0) (hf:Fit p) (l:List Pr) (hP:Prp w0 p.props.val l) (hmx:l.length<=4398046511104) (hsm:Go.Proofs.YtccnjdgaldbgnaaGreatDoor.Small l) (ss:List Int) (hS:Nms w0 p.codes.val ss) (hz:∀ k,k < ss.length->-9223372036854775808<=ss.getD k 0/\ss.getD k 0<=9223372036854775807) (c:Nat) (hc:70001<=c) (hm:5000002+ss.length * c<=4611686018427300000) (hk:p.kind=9\/p.kind=11) :
  Calls Tryz.prog 20 #[.pointer (some ⟨W,0,none⟩)] w (GPost w0 W p.no_id.no_props.no_codes ((((((some []).bind (sAdd (in16 p.id && p.id != 0) (b2 p.id))).bind (sAdd (okP p.kind l) (pbs l))).bind (sMust (mc ss.length))).bind (sEach sCode ss)).bind (sMust (emp (p.no_id.no_props.no_codes)))) (5000002+ss.length * c)):=by
 have hkc:=h.pk.kind
 have HP:=zh hP
 have HSM:=zh hsm
 clear hP hsm
 have HS:=zh hS
 have HZ:=zh hz
 clear hS hz
 have HQ:=zh h
 have HKK:=zh hk
 rcases hk with hk | hk <;> rw[hk]at hkc <;> clear hk h
 all_goals (
  go_enter Tryz.func20,Tryz.ntmps20
  go_wp2_with fail
  refine (take_id_q (uh HQ) p.id rfl).mono ?_
  rintro e w1 ⟨rfl,hq1⟩
  have HQ1:=zh hq1
  clear hq1 HQ hkc
  go_wp2_with fail
  refine (id_q (uh HQ1) p.id hf.nums.2.1 (by omega)).mono ?_
  rintro e w2 ⟨rfl,hq2,-⟩
  have HQ2:=zh hq2
  have HG2:=zh (Ge2.of_add (some []) (in16 p.id && p.id != 0) (show 2<=(b2 p.id).length from Nat.le_refl _))
  clear hq2 HQ1
  go_wp2_with fail
  have HQd:=zh ((uh HQ2).below (below_drewN (Below.refl _ _) 1))
  clear HQ2
  refine wp_region_noPanic ?_
  refine wp_region_held_drew (S:=fun w'=>w'.cell? ⟨W,0,none⟩=some (.int .i64 p.kind)) (by kernel_rfl) (uh HQd).pk.kind (fun hHeld=>?_)
  refine rtk 0 (h:=?_)
  refine rtk 1 (h:=?_)
  refine rtk 2 (h:=?_)
  refine rtk 3 (h:=?_)
  refine rtk 5 (h:=?_)
  refine rtk 6 (h:=?_)
  refine rtk 7 (h:=?_)
  refine rtk 8 (h:=?_)
  refine rcl 4 (h:=fun K hK=>?_)
  go_simp
  refine (take_props_q (uh HQd) p.props rfl).mono ?_
  rintro e wp1 ⟨rfl,hqp⟩
  have HQp:=zh hqp
  clear hqp HQd
  refine hK.out _ _ (uh HQp).pk.kind (fun hHeld=>?_)
  clear hK K
  refine rcl 9 (h:=fun K hK=>?_)
  go_simp
  refine (props_q (uh HQp) p.props.val l p.kind ((uh HP).below (uh HQp).bel) hmx (uh HSM) (uh HG2).one (by omega)).mono ?_
  rintro e wp2 ⟨rfl,hqp,-⟩
  have HQ3:=zh hqp
  clear hqp HQp
  refine hK.out _ _ (uh HQ3).pk.kind (fun hHeld=>?_)
  clear hK K
  refine wpAnyH_done (by kernel_rfl) ?_ _
  refine NoPanic.normal ?_
  have HG3:=zh ((uh HG2).add (okP p.kind l) (pbs l))
  clear HG2
  go_wp2_with fail
  refine (wl_codes (uh HQ3) (show p.kind≠8/\p.kind≠10 from by have:=uh HKK;omega) ss (uh HS) (uh HZ) (uh HG3) c hc (by omega)).mono ?_
  rintro e w5 ⟨rfl,hq5⟩
  have HF:=zh (hq5.wf.mono (show _<=5000002+ss.length * c from by omega))
  clear hq5 HQ3 HG3
  go_upto_region 25 with fail
  iterate 13 go_step
  refine wpList_load_mid rfl 45 _ rfl W 0 rfl (p.no_id.no_props.no_codes).cells _ (uh HF).pk.range Tryz.underlying45 rfl packet_size ?_
  simp only[Act.put,List.setIfInBounds_toArray,List.set_cons_zero,List.set_cons_succ]
  go_wp2_with fail
  refine (empty_any (p.no_id.no_props.no_codes) hf.no_id.no_props.no_codes _).mono ?_
  rintro e x1 ⟨rfl,hx1⟩
  have HFa:=zh ((uh HF).below hx1)
  clear hx1 HF
  go_wp2_with fail
  refine (must_f (uh HFa) (emp (p.no_id.no_props.no_codes))).mono ?_
  rintro e x2 ⟨rfl,hx2⟩
  have HFb:=zh hx2
  clear hx2 HFa
  go_wp2
  go_end0
  exact⟨rfl,uh HFb⟩)
theorem pk_pub_pos {w0 w:World} {W:Nat} {p:Pkv} (h:WQ w0 w W p (some []) 0) (hf:Fit p) (l:List Pr) (hP:Prp w0 p.props.val l) (hmx:l.length<=4398046511104) (hsm:Go.Proofs.YtccnjdgaldbgnaaGreatDoor.Small l) (hto:p.topic.size<=4611686018427387904) (hpy:p.payload.size<=1073741824) (hq:0 < p.qos) (hk:p.kind=3) :
  Calls Tryz.prog 20 #[.pointer (some ⟨W,0,none⟩)] w (GPost w0 W p.no_dup.no_retain.no_topic.no_qos.no_id.no_props.no_payload ((sPub p.topic p.qos p.id p.kind l p.payload []).bind (sMust (emp (p.no_dup.no_retain.no_topic.no_qos.no_id.no_props.no_payload)))) (2000000000)):=by
 have hkc:=h.pk.kind
 have HP:=zh hP
 have HSM:=zh hsm
 clear hP hsm
 have HHQ:=zh hq
 clear hq
 have HQ:=zh h
 rw[hk]at hkc
 have HK8:=zh hk
 clear h hk
 go_enter Tryz.func20,Tryz.ntmps20
 go_wp2_with fail
 refine (pub_pos (uh HQ) l (uh HP) hmx (uh HSM) hto hpy hf.nums.2.1 (uh HHQ)).mono ?_
 rintro e w1 ⟨rfl,hq1⟩
 have HF:=zh hq1
 clear hq1 HQ hkc
 go_upto_region 25 with fail
 iterate 13 go_step
 refine wpList_load_mid rfl 45 _ rfl W 0 rfl (p.no_dup.no_retain.no_topic.no_qos.no_id.no_props.no_payload).cells _ (uh HF).pk.range Tryz.underlying45 rfl packet_size ?_
 simp only[Act.put,List.setIfInBounds_toArray,List.set_cons_zero,List.set_cons_succ]
 go_wp2_with fail
 refine (empty_any (p.no_dup.no_retain.no_topic.no_qos.no_id.no_props.no_payload) hf.no_dup.no_retain.no_topic.no_qos.no_id.no_props.no_payload _).mono ?_
 rintro e x1 ⟨rfl,hx1⟩
 have HFa:=zh ((uh HF).below hx1)
 clear hx1 HF
 go_wp2_with fail
 refine (must_f (uh HFa) (emp (p.no_dup.no_retain.no_topic.no_qos.no_id.no_props.no_payload))).mono ?_
 rintro e x2 ⟨rfl,hx2⟩
 have HFb:=zh hx2
 clear hx2 HFa
 go_wp2
 go_end0
 exact⟨rfl,uh HFb⟩
theorem pk_pub_zero {w0 w:World} {W:Nat} {p:Pkv} (h:WQ w0 w W p (some []) 0) (hf:Fit p) (l:List Pr) (hP:Prp w0 p.props.val l) (hmx:l.length<=4398046511104) (hsm:Go.Proofs.YtccnjdgaldbgnaaGreatDoor.Small l) (hto:p.topic.size<=4611686018427387904) (hpy:p.payload.size<=1073741824) (hq:¬ 0 < p.qos) (hk:p.kind=3) :
  Calls Tryz.prog 20 #[.pointer (some ⟨W,0,none⟩)] w (GPost w0 W p.no_dup.no_retain.no_topic.no_qos.no_props.no_payload ((sPub p.topic p.qos p.id p.kind l p.payload []).bind (sMust (emp (p.no_dup.no_retain.no_topic.no_qos.no_props.no_payload)))) (2000000000)):=by
 have hkc:=h.pk.kind
 have HP:=zh hP
 have HSM:=zh hsm
 clear hP hsm
 have HHQ:=zh hq
 clear hq
 have HQ:=zh h
 rw[hk]at hkc
 have HK8:=zh hk
 clear h hk
 go_enter Tryz.func20,Tryz.ntmps20
 go_wp2_with fail
 refine (pub_zero (uh HQ) l (uh HP) hmx (uh HSM) hto hpy (show ¬ 0 < p.qos from by have:=uh HHQ;omega)).mono ?_
 rintro e w1 ⟨rfl,hq1⟩
 have HF:=zh hq1
 clear hq1 HQ hkc
 go_upto_region 25 with fail
 iterate 13 go_step
 refine wpList_load_mid rfl 45 _ rfl W 0 rfl (p.no_dup.no_retain.no_topic.no_qos.no_props.no_payload).cells _ (uh HF).pk.range Tryz.underlying45 rfl packet_size ?_
 simp only[Act.put,List.setIfInBounds_toArray,List.set_cons_zero,List.set_cons_succ]
 go_wp2_with fail
 refine (empty_any (p.no_dup.no_retain.no_topic.no_qos.no_props.no_payload) hf.no_dup.no_retain.no_topic.no_qos.no_props.no_payload _).mono ?_
 rintro e x1 ⟨rfl,hx1⟩
 have HFa:=zh ((uh HF).below hx1)
 clear hx1 HF
 go_wp2_with fail
 refine (must_f (uh HFa) (emp (p.no_dup.no_retain.no_topic.no_qos.no_props.no_payload))).mono ?_
 rintro e x2 ⟨rfl,hx2⟩
 have HFb:=zh hx2
 clear hx2 HFa
 go_wp2
 go_end0
 exact⟨rfl,uh HFb⟩
theorem pk_conn {w0 w:World} {W:Nat} {p:Pkv} (h:WQ w0 w W p (some []) 0) (hf:Fit p) (vs:List Wv) (hW:Rw w0 p.wills 5 (wcs vs)) (l:List Pr) (hP:Prp w0 p.props.val l) (hmx:l.length<=4398046511104) (hsm:Go.Proofs.YtccnjdgaldbgnaaGreatDoor.Small l) (hcl:p.client.size<=4611686018427387904) (hkp:-9223372036854775808<=p.keep/\p.keep<=9223372036854775807)
  (hun:p.user.n<=maxLen) (hpn:p.pass.n<=maxLen) (hfl:-9223372036854775808<=cfl p.user.n p.pass.n p.clean vs/\cfl p.user.n p.pass.n p.clean vs<=9223372036854775807)
  (ws:List Wl) (wn:Nat) (hwn:ws.length=wn) (wo:Option Addr) (wc:Nat) (hwv:p.wills.val=.slice wo wn wc) (hWS:ws=[]\/∃ b off,wo=some ⟨b,off,none⟩/\WlAt w0 b off ws) (hWO:∀ k,k < ws.length->WlOk (ws.getD k wl0))
  (us:List ByteArray) (un:Nat) (hus:us.length=un) (uo:Option Addr) (uc:Nat) (huv:p.user.val=.slice uo un uc) (hUS:us=[]\/∃ b off,uo=some ⟨b,off,none⟩/\∀ j,j < us.length->w0.cell? ⟨b,off+j,none⟩=some (.string (us.getD j ⟨#[]⟩))) (hUO:∀ k,k < us.length->(us.getD k ⟨#[]⟩).size<=4611686018427387904)
  (ps:List ByteArray) (pn:Nat) (hps:ps.length=pn) (po:Option Addr) (pc:Nat) (hpv:p.pass.val=.slice po pn pc) (hPS:ps=[]\/∃ b off,po=some ⟨b,off,none⟩/\∀ j,j < ps.length->w0.cell? ⟨b,off+j,none⟩=some (.string (ps.getD j ⟨#[]⟩)))
  (c:Nat) (hc:6000000<=c) (hm:6000000+wn * c+un * c+pn * c<=4611686018427300000) (hk:p.kind=1) :
  Calls Tryz.prog 20 #[.pointer (some ⟨W,0,none⟩)] w (GPost w0 W p.no_clean.no_keep.no_props.no_client.no_wills.no_user.no_pass ((sConn p.kind (cfl p.user.n p.pass.n p.clean vs) p.keep (cok p.user.n p.pass.n vs) l p.client ws us ps []).bind (sMust (emp (p.no_clean.no_keep.no_props.no_client.no_wills.no_user.no_pass)))) (6000000+wn * c+un * c+pn * c)):=by
 have hkc:=h.pk.kind
 have HC:=zh (conn_any h vs hW l hP hmx hsm hcl hkp hun hpn hfl ws wn hwn wo wc hwv hWS hWO us un hus uo uc huv hUS hUO ps pn hps po pc hpv hPS c hc hm)
 clear hW hP hmx hsm hcl hkp hun hpn hfl hwn hwv hWS hWO hus huv hUS hUO hps hpv hPS hc hm
 have HQ:=zh h
 rw[hk]at hkc
 have HK8:=zh hk
 clear h hk
 go_enter Tryz.func20,Tryz.ntmps20
 go_wp2_with fail
 refine (uh HC).mono ?_
 rintro e w1 ⟨rfl,hq1⟩
 have HF:=zh hq1
 clear hq1 HQ hkc HC
 go_upto_region 25 with fail
 iterate 13 go_step
 refine wpList_load_mid rfl 45 _ rfl W 0 rfl (p.no_clean.no_keep.no_props.no_client.no_wills.no_user.no_pass).cells _ (uh HF).pk.range Tryz.underlying45 rfl packet_size ?_
 simp only[Act.put,List.setIfInBounds_toArray,List.set_cons_zero,List.set_cons_succ]
 go_wp2_with fail
 refine (empty_any (p.no_clean.no_keep.no_props.no_client.no_wills.no_user.no_pass) hf.no_clean.no_keep.no_props.no_client.no_wills.no_user.no_pass _).mono ?_
 rintro e x1 ⟨rfl,hx1⟩
 have HFa:=zh ((uh HF).below hx1)
 clear hx1 HF
 go_wp2_with fail
 refine (must_f (uh HFa) (emp (p.no_clean.no_keep.no_props.no_client.no_wills.no_user.no_pass))).mono ?_
 rintro e x2 ⟨rfl,hx2⟩
 have HFb:=zh hx2
 clear hx2 HFa
 go_wp2
 go_end0
 exact⟨rfl,uh HFb⟩
def Pa.no_dup (P:Pa):Pa:={ P with dup:=false }
def Pa.no_qos (P:Pa):Pa:={ P with qos:=0 }
def Pa.no_retain (P:Pa):Pa:={ P with retain:=false }
def Pa.no_topic (P:Pa):Pa:={ P with topic:=⟨#[]⟩ }
def Pa.no_id (P:Pa):Pa:={ P with id:=0 }
def Pa.no_payload (P:Pa):Pa:={ P with payload:=⟨#[]⟩ }
def Pa.no_props (P:Pa):Pa:={ P with props:=[] }
def Pa.no_client (P:Pa):Pa:={ P with client:=⟨#[]⟩ }
def Pa.no_clean (P:Pa):Pa:={ P with clean:=false }
def Pa.no_keep (P:Pa):Pa:={ P with keep:=0 }
def Pa.no_wills (P:Pa):Pa:={ P with wills:=[] }
def Pa.no_user (P:Pa):Pa:={ P with user:=[] }
def Pa.no_pass (P:Pa):Pa:={ P with pass:=[] }
def Pa.no_code (P:Pa):Pa:={ P with code:=0 }
def Pa.no_session (P:Pa):Pa:={ P with session:=false }
def Pa.no_subs (P:Pa):Pa:={ P with subs:=[] }
def Pa.no_filters (P:Pa):Pa:={ P with filters:=[] }
def Pa.no_codes (P:Pa):Pa:={ P with codes:=[] }
def EmpA (P:Pa):Prop:=(P.dup=false/\P.retain=false/\P.clean=false/\P.session=false)/\(P.qos=0/\P.id=0/\P.keep=0/\P.code=0)/\(P.topic.size=0/\P.payload.size=0/\P.client.size=0)/\(P.props.length=0/\P.wills.length=0/\P.user.length=0/\P.pass.length=0/\P.subs.length=0/\P.filters.length=0/\P.codes.length=0)
instance (P:Pa):Decidable (EmpA P):=by unfold EmpA;exact inferInstance
def empA (P:Pa):Bool:=decide (EmpA P)
structure Cnt (q:Pkv) (P:Pa):Prop where
 sc:q.kind=P.kind/\q.dup=P.dup/\q.qos=P.qos/\q.retain=P.retain/\q.topic=P.topic/\q.id=P.id/\q.payload=P.payload/\q.client=P.client/\q.clean=P.clean/\q.keep=P.keep/\q.code=P.code/\q.session=P.session
 ns:q.props.n=P.props.length/\q.wills.n=P.wills.length/\q.user.n=P.user.length/\q.pass.n=P.pass.length/\q.subs.n=P.subs.length/\q.filters.n=P.filters.length/\q.codes.n=P.codes.length
theorem Cnt.emp {q:Pkv} {P:Pa} (h:Cnt q P):emp q=empA P:=by
 obtain⟨⟨h0,h1,h2,h3,h4,h5,h6,h7,h8,h9,h10,h11⟩,k0,k1,k2,k3,k4,k5,k6⟩:=h
 unfold K.emp empA
 rw[decide_eq_decide]
 unfold Emp EmpA
 rw[h1,h2,h3,h4,h5,h6,h7,h8,h9,h10,h11,k0,k1,k2,k3,k4,k5,k6]
theorem Cnt.no_dup {q:Pkv} {P:Pa} (h:Cnt q P):Cnt q.no_dup P.no_dup:=by
 obtain⟨⟨h0,h1,h2,h3,h4,h5,h6,h7,h8,h9,h10,h11⟩,k0,k1,k2,k3,k4,k5,k6⟩:=h
 exact⟨⟨h0,rfl,h2,h3,h4,h5,h6,h7,h8,h9,h10,h11⟩,k0,k1,k2,k3,k4,k5,k6⟩
theorem Cnt.no_qos {q:Pkv} {P:Pa} (h:Cnt q P):Cnt q.no_qos P.no_qos:=by
 obtain⟨⟨h0,h1,h2,h3,h4,h5,h6,h7,h8,h9,h10,h11⟩,k0,k1,k2,k3,k4,k5,k6⟩:=h
 exact⟨⟨h0,h1,rfl,h3,h4,h5,h6,h7,h8,h9,h10,h11⟩,k0,k1,k2,k3,k4,k5,k6⟩
theorem Cnt.no_retain {q:Pkv} {P:Pa} (h:Cnt q P):Cnt q.no_retain P.no_retain:=by
 obtain⟨⟨h0,h1,h2,h3,h4,h5,h6,h7,h8,h9,h10,h11⟩,k0,k1,k2,k3,k4,k5,k6⟩:=h
 exact⟨⟨h0,h1,h2,rfl,h4,h5,h6,h7,h8,h9,h10,h11⟩,k0,k1,k2,k3,k4,k5,k6⟩
theorem Cnt.no_topic {q:Pkv} {P:Pa} (h:Cnt q P):Cnt q.no_topic P.no_topic:=by
 obtain⟨⟨h0,h1,h2,h3,h4,h5,h6,h7,h8,h9,h10,h11⟩,k0,k1,k2,k3,k4,k5,k6⟩:=h
 exact⟨⟨h0,h1,h2,h3,rfl,h5,h6,h7,h8,h9,h10,h11⟩,k0,k1,k2,k3,k4,k5,k6⟩
theorem Cnt.no_id {q:Pkv} {P:Pa} (h:Cnt q P):Cnt q.no_id P.no_id:=by
 obtain⟨⟨h0,h1,h2,h3,h4,h5,h6,h7,h8,h9,h10,h11⟩,k0,k1,k2,k3,k4,k5,k6⟩:=h
 exact⟨⟨h0,h1,h2,h3,h4,rfl,h6,h7,h8,h9,h10,h11⟩,k0,k1,k2,k3,k4,k5,k6⟩
theorem Cnt.no_payload {q:Pkv} {P:Pa} (h:Cnt q P):Cnt q.no_payload P.no_payload:=by
 obtain⟨⟨h0,h1,h2,h3,h4,h5,h6,h7,h8,h9,h10,h11⟩,k0,k1,k2,k3,k4,k5,k6⟩:=h
 exact⟨⟨h0,h1,h2,h3,h4,h5,rfl,h7,h8,h9,h10,h11⟩,k0,k1,k2,k3,k4,k5,k6⟩
theorem Cnt.no_props {q:Pkv} {P:Pa} (h:Cnt q P):Cnt q.no_props P.no_props:=by
 obtain⟨⟨h0,h1,h2,h3,h4,h5,h6,h7,h8,h9,h10,h11⟩,k0,k1,k2,k3,k4,k5,k6⟩:=h
 exact⟨⟨h0,h1,h2,h3,h4,h5,h6,h7,h8,h9,h10,h11⟩,rfl,k1,k2,k3,k4,k5,k6⟩
theorem Cnt.no_client {q:Pkv} {P:Pa} (h:Cnt q P):Cnt q.no_client P.no_client:=by
 obtain⟨⟨h0,h1,h2,h3,h4,h5,h6,h7,h8,h9,h10,h11⟩,k0,k1,k2,k3,k4,k5,k6⟩:=h
 exact⟨⟨h0,h1,h2,h3,h4,h5,h6,rfl,h8,h9,h10,h11⟩,k0,k1,k2,k3,k4,k5,k6⟩
theorem Cnt.no_clean {q:Pkv} {P:Pa} (h:Cnt q P):Cnt q.no_clean P.no_clean:=by
 obtain⟨⟨h0,h1,h2,h3,h4,h5,h6,h7,h8,h9,h10,h11⟩,k0,k1,k2,k3,k4,k5,k6⟩:=h
 exact⟨⟨h0,h1,h2,h3,h4,h5,h6,h7,rfl,h9,h10,h11⟩,k0,k1,k2,k3,k4,k5,k6⟩
theorem Cnt.no_keep {q:Pkv} {P:Pa} (h:Cnt q P):Cnt q.no_keep P.no_keep:=by
 obtain⟨⟨h0,h1,h2,h3,h4,h5,h6,h7,h8,h9,h10,h11⟩,k0,k1,k2,k3,k4,k5,k6⟩:=h
 exact⟨⟨h0,h1,h2,h3,h4,h5,h6,h7,h8,rfl,h10,h11⟩,k0,k1,k2,k3,k4,k5,k6⟩
theorem Cnt.no_wills {q:Pkv} {P:Pa} (h:Cnt q P):Cnt q.no_wills P.no_wills:=by
 obtain⟨⟨h0,h1,h2,h3,h4,h5,h6,h7,h8,h9,h10,h11⟩,k0,k1,k2,k3,k4,k5,k6⟩:=h
 exact⟨⟨h0,h1,h2,h3,h4,h5,h6,h7,h8,h9,h10,h11⟩,k0,rfl,k2,k3,k4,k5,k6⟩
theorem Cnt.no_user {q:Pkv} {P:Pa} (h:Cnt q P):Cnt q.no_user P.no_user:=by
 obtain⟨⟨h0,h1,h2,h3,h4,h5,h6,h7,h8,h9,h10,h11⟩,k0,k1,k2,k3,k4,k5,k6⟩:=h
 exact⟨⟨h0,h1,h2,h3,h4,h5,h6,h7,h8,h9,h10,h11⟩,k0,k1,rfl,k3,k4,k5,k6⟩
theorem Cnt.no_pass {q:Pkv} {P:Pa} (h:Cnt q P):Cnt q.no_pass P.no_pass:=by
 obtain⟨⟨h0,h1,h2,h3,h4,h5,h6,h7,h8,h9,h10,h11⟩,k0,k1,k2,k3,k4,k5,k6⟩:=h
 exact⟨⟨h0,h1,h2,h3,h4,h5,h6,h7,h8,h9,h10,h11⟩,k0,k1,k2,rfl,k4,k5,k6⟩
theorem Cnt.no_code {q:Pkv} {P:Pa} (h:Cnt q P):Cnt q.no_code P.no_code:=by
 obtain⟨⟨h0,h1,h2,h3,h4,h5,h6,h7,h8,h9,h10,h11⟩,k0,k1,k2,k3,k4,k5,k6⟩:=h
 exact⟨⟨h0,h1,h2,h3,h4,h5,h6,h7,h8,h9,rfl,h11⟩,k0,k1,k2,k3,k4,k5,k6⟩
theorem Cnt.no_session {q:Pkv} {P:Pa} (h:Cnt q P):Cnt q.no_session P.no_session:=by
 obtain⟨⟨h0,h1,h2,h3,h4,h5,h6,h7,h8,h9,h10,h11⟩,k0,k1,k2,k3,k4,k5,k6⟩:=h
 exact⟨⟨h0,h1,h2,h3,h4,h5,h6,h7,h8,h9,h10,rfl⟩,k0,k1,k2,k3,k4,k5,k6⟩
theorem Cnt.no_subs {q:Pkv} {P:Pa} (h:Cnt q P):Cnt q.no_subs P.no_subs:=by
 obtain⟨⟨h0,h1,h2,h3,h4,h5,h6,h7,h8,h9,h10,h11⟩,k0,k1,k2,k3,k4,k5,k6⟩:=h
 exact⟨⟨h0,h1,h2,h3,h4,h5,h6,h7,h8,h9,h10,h11⟩,k0,k1,k2,k3,rfl,k5,k6⟩
theorem Cnt.no_filters {q:Pkv} {P:Pa} (h:Cnt q P):Cnt q.no_filters P.no_filters:=by
 obtain⟨⟨h0,h1,h2,h3,h4,h5,h6,h7,h8,h9,h10,h11⟩,k0,k1,k2,k3,k4,k5,k6⟩:=h
 exact⟨⟨h0,h1,h2,h3,h4,h5,h6,h7,h8,h9,h10,h11⟩,k0,k1,k2,k3,k4,rfl,k6⟩
theorem Cnt.no_codes {q:Pkv} {P:Pa} (h:Cnt q P):Cnt q.no_codes P.no_codes:=by
 obtain⟨⟨h0,h1,h2,h3,h4,h5,h6,h7,h8,h9,h10,h11⟩,k0,k1,k2,k3,k4,k5,k6⟩:=h
 exact⟨⟨h0,h1,h2,h3,h4,h5,h6,h7,h8,h9,h10,h11⟩,k0,k1,k2,k3,k4,k5,rfl⟩
theorem sl_n {v:Value} {s:Sl} (hs:s.val=v) {a:Option Addr} {n c:Nat} (h:v=.slice a n c):s.n=n:=by
 subst hs
 simp only[Sl.val,Value.slice.injEq]at h
 exact h.2.1
theorem RPk.cnt {w:World} {q:Pkv} {P:Pa} (h:RPk w q P):Cnt q P:=by
 obtain⟨h0,⟨_,_,h1,_⟩,⟨_,_,h2,_⟩,⟨_,_,h3,_⟩,⟨_,_,h4,_⟩,⟨_,_,h5,_⟩,⟨_,_,h6,_⟩,⟨_,_,h7,_⟩⟩:=h
 exact⟨h0,sl_n rfl h1,sl_n rfl h2,sl_n rfl h3,sl_n rfl h4,sl_n rfl h5,sl_n rfl h6,sl_n rfl h7⟩
def cstepA (f:Int) (u:Wl):Int:=bits .or .i64 f (bits .or .i64 (bits .or .i64 4 (fv u.retain 32)) (IntKind.i64.wrap (u.qos * 8)))
def cflA (P:Pa):Int:=P.wills.foldl cstepA (cfl0 P.user.length P.pass.length P.clean)
def cokA (P:Pa):Bool:=cok0 P.wills.length P.user.length P.pass.length && P.wills.all fun u=>mq u.qos
def fkA (P:Pa):Int×Bool:=if P.kind=3 then (pfl P.dup P.qos P.retain,pok P.dup P.qos) else if P.kind=6\/P.kind=8\/P.kind=10 then (2,true) else (0,decide (1<=P.kind) && decide (P.kind<=15))
def sIdA (P:Pa):Option (List Int):=(some []).bind (sAdd (in16 P.id && P.id != 0) (b2 P.id))
def sIpA (P:Pa):Option (List Int):=(sIdA P).bind (sAdd (okP P.kind P.props) (pbs P.props))
def eb (P:Pa):Option (List Int) :=
 if P.kind=1 then (sConn P.kind (cflA P) P.keep (cokA P) P.props P.client P.wills P.user P.pass []).bind (sMust (empA P.no_clean.no_keep.no_props.no_client.no_wills.no_user.no_pass))
 else if P.kind=2 then ((((some []).bind (sAdd (in8 (fv P.session 1)) [fv P.session 1 % 256])).bind (sAdd (in8 P.code) [P.code % 256])).bind (sAdd (okP P.kind P.props) (pbs P.props))).bind (sMust (empA P.no_session.no_code.no_props))
 else if P.kind=3 then (sPub P.topic P.qos P.id P.kind P.props P.payload []).bind (sMust (if 0 < P.qos then empA P.no_dup.no_retain.no_topic.no_qos.no_id.no_props.no_payload else empA P.no_dup.no_retain.no_topic.no_qos.no_props.no_payload))
 else if P.kind=4\/P.kind=5\/P.kind=6\/P.kind=7 then ((sIdA P).bind (sReason P.code P.kind P.props)).bind (sMust (empA P.no_id.no_code.no_props))
 else if P.kind=8 then (((sIpA P).bind (sMust (mc P.subs.length))).bind (sEach sSub P.subs)).bind (sMust (empA P.no_id.no_props.no_subs))
 else if P.kind=10 then (((sIpA P).bind (sMust (mc P.filters.length))).bind (sEach sTx P.filters)).bind (sMust (empA P.no_id.no_props.no_filters))
 else if P.kind=9\/P.kind=11 then (((sIpA P).bind (sMust (mc P.codes.length))).bind (sEach sCode P.codes)).bind (sMust (empA P.no_id.no_props.no_codes))
 else if P.kind=14\/P.kind=15 then ((some []).bind (sReason P.code P.kind P.props)).bind (sMust (empA P.no_code.no_props))
 else (some []).bind (sMust (empA P))
structure Big (P:Pa):Prop where
 nums:(-9223372036854775808<=P.qos/\P.qos<=9223372036854775807)/\(-9223372036854775808<=P.id/\P.id<=9223372036854775807)/\(-9223372036854775808<=P.keep/\P.keep<=9223372036854775807)/\(-9223372036854775808<=P.code/\P.code<=9223372036854775807)
 texts:P.topic.size<=1000000000000000000/\P.payload.size<=1073741824/\P.client.size<=1000000000000000000
 lists:P.props.length<=4398046511104/\P.wills.length<=1000000/\P.user.length<=1000000/\P.pass.length<=1000000/\P.subs.length<=1000000/\P.filters.length<=1000000/\P.codes.length<=1000000
 props:Go.Proofs.YtccnjdgaldbgnaaGreatDoor.Small P.props
 wills:∀ k,k < P.wills.length->WlOk (P.wills.getD k wl0)
 user:∀ k,k < P.user.length->(P.user.getD k ⟨#[]⟩).size<=4611686018427387904
 subs:∀ k,k < P.subs.length->(P.subs.getD k sb0).filter.size<=4611686018427387904
 filters:∀ k,k < P.filters.length->(P.filters.getD k ⟨#[]⟩).size<=4611686018427387904
 codes:∀ k,k < P.codes.length->-9223372036854775808<=P.codes.getD k 0/\P.codes.getD k 0<=9223372036854775807
theorem Big.fit {q:Pkv} {P:Pa} (h:Big P) (hc:Cnt q P):Fit q:=by
 obtain⟨⟨h0,h1,h2,h3,h4,h5,h6,h7,h8,h9,h10,h11⟩,k0,k1,k2,k3,k4,k5,k6⟩:=hc
 have n:=h.nums
 have t:=h.texts
 have l:=h.lists
 rw[<- h2,<- h5,<- h9,<- h10]at n
 rw[<- h4,<- h6,<- h7]at t
 rw[<- k0,<- k1,<- k2,<- k3,<- k4,<- k5,<- k6]at l
 exact⟨n,⟨by omega,by omega,by omega⟩,by omega,by omega,by omega,by omega,by omega,by omega,by omega⟩
theorem fk_any (q:Pkv) (P:Pa) (hc:Cnt q P) (w:World):Calls Tryz.prog 18 #[.agg q.cells.toArray] w fun e w'=>e=.returned (.tuple #[.int .i64 (fkA P).1,.bool (fkA P).2])/\Below w.heap.size w w':=by
 obtain⟨h0,h1,h2,h3,-⟩:=hc.sc
 show Calls Tryz.prog 18 #[q.val] w _
 unfold fkA
 rw[<- h0,<- h1,<- h2,<- h3]
 by_cases k3:q.kind=3
 ·rw[if_pos k3]
  exact flagsOf_pub q w k3
 ·rw[if_neg k3]
  by_cases k:q.kind=6\/q.kind=8\/q.kind=10
  ·rw[if_pos k]
   exact flagsOf_fixed q w k
  ·rw[if_neg k]
   exact flagsOf_other q w k3 (fun e=>k (.inl e)) (fun e=>k (.inr (.inl e))) (fun e=>k (.inr (.inr e)))
end Go.Proofs.YtccnjdgaldbgnaaGreatDoor.K
