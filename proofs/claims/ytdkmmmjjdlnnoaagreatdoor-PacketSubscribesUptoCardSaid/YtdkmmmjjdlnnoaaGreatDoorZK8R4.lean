/- Proved here: helpers, one text behind the other. -/
import Derived.Test.YtdkmmmjjdlnnoaaGreatDoorZC33
import Derived.Test.YtdkmmmjjdlnnoaaGreatDoorZC27
import Derived.Test.YtdkmmmjjdlnnoaaGreatDoorZK8R2
import Derived.Test.YtdkmmmjjdlnnoaaGreatDoorZK8R3
import Derived.Test.YtdkmmmjjdlnnoaaGreatDoorZC29
import Derived.Test.YtdkmmmjjdlnnoaaGreatDoorZC38
import Derived.Test.YtdkmmmjjdlnnoaaGreatDoorZC6
import Derived.Deep.Cut
import Derived.Test.YtdkmmmjjdlnnoaaGreatDoorZC40
import Derived.Test.YtdkmmmjjdlnnoaaGreatDoorZC42
import Derived.Laws.AppendOwn
import Derived.Deep.CutRange
set_option maxHeartbeats 20000000
namespace Go.Proofs.YtdkmmmjjdlnnoaaGreatDoor.K
open Go.RowKit
theorem only_subs (P:Pa):empA P.no_id.no_props.no_subs=true ↔ (⟨P.kind,false,0,false,⟨#[]⟩,P.id,⟨#[]⟩,P.props,⟨#[]⟩,false,0,[],[],[],0,false,P.subs,[],[]⟩:Pa)=P:=by
 unfold empA
 rw[decide_eq_true_iff]
 obtain⟨p_kind,p_dup,p_qos,p_retain,p_topic,p_id,p_payload,p_props,p_client,p_clean,p_keep,p_wills,p_user,p_pass,p_code,p_session,p_subs,p_filters,p_codes⟩:=P
 constructor
 ·rintro⟨⟨e_dup,e_retain,e_clean,e_session⟩,⟨e_qos,e_id,e_keep,e_code⟩,⟨e_topic,e_payload,e_client⟩,e_props,e_wills,e_user,e_pass,e_subs,e_filters,e_codes⟩
  simp only[Pa.mk.injEq]
  exact⟨trivial,e_dup.symm,e_qos.symm,e_retain.symm,(bsz.1 e_topic).symm,trivial,(bsz.1 e_payload).symm,trivial,(bsz.1 e_client).symm,e_clean.symm,e_keep.symm,(List.length_eq_zero_iff.1 e_wills).symm,(List.length_eq_zero_iff.1 e_user).symm,(List.length_eq_zero_iff.1 e_pass).symm,e_code.symm,e_session.symm,trivial,(List.length_eq_zero_iff.1 e_filters).symm,(List.length_eq_zero_iff.1 e_codes).symm⟩
 ·intro h
  simp only[Pa.mk.injEq]at h
  obtain⟨h_kind,h_dup,h_qos,h_retain,h_topic,h_id,h_payload,h_props,h_client,h_clean,h_keep,h_wills,h_user,h_pass,h_code,h_session,h_subs,h_filters,h_codes⟩:=h
  exact⟨⟨h_dup.symm,h_retain.symm,h_clean.symm,h_session.symm⟩,⟨h_qos.symm,rfl,h_keep.symm,h_code.symm⟩,⟨bsz.2 h_topic.symm,bsz.2 h_payload.symm,bsz.2 h_client.symm⟩,rfl,List.length_eq_zero_iff.2 h_wills.symm,List.length_eq_zero_iff.2 h_user.symm,List.length_eq_zero_iff.2 h_pass.symm,rfl,List.length_eq_zero_iff.2 h_filters.symm,List.length_eq_zero_iff.2 h_codes.symm⟩
set_option maxRecDepth 100000
theorem all_false {α:Type} {f:α->Bool} {l:List α} {k:Nat} {c0:Bool} (h:false=(c0 && (l.take k).all f)):(c0 && l.all f)=false:=by
 cases c0
 ·rfl
 ·rw[Bool.true_and]at h |-
  rw[<- List.take_append_drop k l,List.all_append,<- h]
  rfl
theorem all_snoc {α:Type} (f:α->Bool) (l:List α) (k:Nat) (hk:k < l.length) {c0:Bool} (h:true=(c0 && (l.take k).all f)):f l[k]=(c0 && (l.take (k+1)).all f):=by
 cases c0
 ·cases h
 ·rw[Bool.true_and]at h |-
  rw[List.take_add_one,List.getElem?_eq_getElem hk,List.all_append,<- h,Bool.true_and]
  simp
theorem may_subs (q:Pkv) (P:Pa) (w:World) (hR:RPk w q P) (hmx:P.props.length<=1000000000) (hsm:Go.Proofs.YtdkmmmjjdlnnoaaGreatDoor.Small P.props) (E:Bool) (hEQ:∀ W,Below w.heap.size w W->Calls Tryz.prog 24 #[.agg (((xk q).wi_id q.id).wi_subs q.subs).cells.toArray,.agg q.cells.toArray] W fun e w'=>e=.returned (.bool E)/\Below W.heap.size W w') (hz:∀ k,k < P.subs.length->(P.subs.getD k sb0).filter.size<=4611686018427387904) (len:Nat) (hln:P.subs.length=len) (hlb:len<=1000000000) (hk:P.kind=8) :
  Calls Tryz.prog 39 #[q.val] w fun e w'=>e=.returned (.bool (tlB P ((idO q.id && mc P.subs.length) && P.subs.all msB) E))/\Below w.heap.size w w':=by
 have HEQ:=zh hEQ
 have HMX0:=zh hmx
 have HSM:=zh hsm
 have HRP:=zh hR.props
 have HQN:=zh hR.cnt.ns.1
 have HKP:=zh hR.sc.1
 obtain⟨ao,cap,hv,⟨hlc,hcm⟩,hS⟩:=hR.subs
 rw[hln]at hv hlc
 have HLN:=zh hln
 clear hln
 have HV:=zh hv
 have HS:=zh hS
 have HZ:=zh hz
 clear hv hS hz
 have hk2:=hk
 rw[<- hR.sc.1]at hk2
 have HKK:=zh hk2
 have HSC:=zh hR
 clear hEQ hsm hR hk hk2
 have HPN:=zh (pk_new w q)
 have HMN:=zh (ms_new w q)
 have HX:Hid ((w.alloc (.cells q.cells.toArray 31)).heap.size=w.heap.size+1):=by show _=_;simp
 go_enter Tryz.func39,Tryz.ntmps39
 go_upto_region 1 with fail
 change Code.wp _ _ _ _ (w.alloc (.cells q.cells.toArray 31))
 generalize w.alloc (.cells q.cells.toArray 31)=wa at HPN HMN HX |-
 have c0:=(uh HPN).kind
 have c7:=(uh HPN).props
 iterate 13 go_step
 refine Go.Proofs.YtdkmmmjjdlnnoaaGreatDoor.wpList_value rfl (packet_build2 _ _ _ _ _ _ _ q rfl rfl _) ?_
 simp only[Act.put,List.setIfInBounds_toArray,List.set_cons_zero,List.set_cons_succ]
 refine Go.Proofs.YtdkmmmjjdlnnoaaGreatDoor.wpList_value rfl (mpacket_alloc _ _ _ _ _ _) ?_
 simp only[Act.put,List.setIfInBounds_toArray,List.set_cons_zero,List.set_cons_succ]
 refine Go.Proofs.YtdkmmmjjdlnnoaaGreatDoor.wpList_skip rfl (mpacket_store _ _ _ _ _ _ _ (xk q) wa rfl rfl) ?_
 simp only[Act.put]
 have HM:Hid (MS w (wa.alloc (.cells (xk q).cells.toArray 31)) w.heap.size wa.heap.size q (xk q)):=by rw[uh HX];exact uh HMN
 generalize wa.alloc (.cells (xk q).cells.toArray 31)=w1 at HM |-
 generalize wa.heap.size=X at HM |-
 generalize hBB:w.heap.size=B at HM |-
 have HBB:=zh hBB
 clear c0 c7 HPN HMN HX hBB
 have c0:=(uh HM).pb.kind
 rw[uh HKK]at c0
 go_wp2_with fail
 have HMd0:Hid (MS w w1.drew B X q (xk q)):=(uh HM).below (below_drewN (Below.refl _ _) 1)
 clear HM c0
 refine wp_region_noPanic ?_
 refine wp_region_held_drew (S:=(fun w'=>w'.cell? ⟨B,5,none⟩=some (.int .i64 q.id)/\w'.cell? ⟨B,16,none⟩=some (q.subs.val))) (by kernel_rfl) ⟨(uh HMd0).pb.id,(uh HMd0).pb.subs⟩ (fun hHeld=>?_)
 generalize w1.drew=wd0 at HMd0 hHeld |-
 refine rtk 0 (h:=?_)
 refine rtk 1 (h:=?_)
 refine rtk 2 (h:=?_)
 refine rtk 3 (h:=?_)
 refine rtk 4 (h:=?_)
 have x5:=(uh HMd0).px.id
 have y5:=(uh HMd0).px.id_f
 have HMd1:=zh ((uh HMd0).wi_id q.id)
 refine rcl 5 (h:=fun K hK=>?_)
 go_simp
 refine hK.out _ _ ⟨(uh HMd1).pb.id,(uh HMd1).pb.subs⟩ (fun hHeld=>?_)
 clear hK K x5 y5 HMd0
 generalize World.setCell _ ⟨X,5,none⟩ (.int .i64 q.id)=wd1 at HMd1 hHeld |-
 refine rtk 6 (h:=?_)
 have x16:=(uh HMd1).px.subs
 have y16:=(uh HMd1).px.subs_f
 have HMd2:=zh ((uh HMd1).wi_subs q.subs)
 refine rcl 7 (h:=fun K hK=>?_)
 go_simp
 refine hK.out _ _ ⟨(uh HMd2).pb.id,(uh HMd2).pb.subs⟩ (fun hHeld=>?_)
 clear hK K x16 y16 HMd1
 generalize World.setCell _ ⟨X,16,none⟩ (q.subs.val)=wd2 at HMd2 hHeld |-
 refine wpAnyH_done (by kernel_rfl) ?_ _
 refine NoPanic.normal ?_
 have HM:=HMd2
 clear HMd2 hHeld
 have b5:=(uh HM).pb.id
 have b16:=(uh HM).pb.subs
 rw[uh HV]at b16
 go_wp2_with fail
 refine (gid_any q.id _).mono ?_
 rintro e w3 ⟨rfl,hw3⟩
 obtain rfl:=hw3.symm
 clear hw3
 cases hid:idO q.id
 ·have HR:Hid (tlB P ((idO q.id && mc P.subs.length) && P.subs.all msB) E=false):=by show _=_;rw[hid];rfl
  clear hid
  go_wp2
  refine wp_loop_rounds 1 ?_
  rw[rounds_succ]
  go_wp2
  all_goals (
   go_ret
   exact⟨by rw[uh HR];rfl,(uh HM).bel⟩)
 ·have HID:=zh hid
  clear hid
  go_wp2_with fail
  refine (gsome_any _ _).mono ?_
  rintro e w4 ⟨rfl,hw4⟩
  obtain rfl:=hw4.symm
  clear hw4 b5
  obtain⟨c0,HC0⟩:∃ c0,Hid (c0=mc len):=⟨_,rfl⟩
  rw[<- uh HC0]
  go_wp2
  go_loopw [4,5] (fun cv i wr=>∃ (k:Nat) (c:Bool),k<=len/\i=.int .i64 k/\cv=.bool c/\Hid (c=(c0 && (P.subs.take k).all msB))/\Hid (MS w wr B X q (((xk q).wi_id q.id).wi_subs q.subs))) (fun _ i _=>len - (intOf i).toNat)
  case atStart=>exact⟨0,c0,Nat.zero_le _,rfl,rfl,by show _=_;simp,HM⟩
  case round =>
   obtain⟨k,c,hk,rfl,rfl,HC,HM1⟩:=hrel
   clear HM
   have HM:=HM1
   clear HM1
   have b16:=(uh HM).pb.subs
   rw[uh HV]at b16
   by_cases hlt:k < len
   ·cases c
    ·have HR:Hid (tlB P ((idO q.id && mc P.subs.length) && P.subs.all msB) E=false):=by
      show _=_
      rw[uh HLN,<- uh HC0,uh HID,Bool.true_and,all_false (uh HC)]
      rfl
     go_wp2
     go_ret
     exact⟨by rw[uh HR];rfl,(uh HM).bel⟩
    ·have hkl:k < P.subs.length:=by rw[uh HLN];exact hlt
     have HN:=zh (all_snoc msB P.subs k hkl (uh HC))
     obtain⟨b,off,rfl,hcl⟩:∃ b off,ao=some ⟨b,off,none⟩/\SbAt w b off P.subs:=by
      rcases uh HS with e | k
      ·rw[e]at hkl;simp at hkl
      ·exact k
     have hb:=hcl k hkl
     have hB:=(uh HM).bel
     obtain⟨d0,d1,d2,d3,d4⟩:=hb
     have hbl:b < w.heap.size:=cell_lt d0
     have e0:=(hB.cell hbl).trans d0
     have e1:=(hB.cell hbl).trans d1
     have e2:=(hB.cell hbl).trans d2
     have e3:=(hB.cell hbl).trans d3
     have e4:=(hB.cell hbl).trans d4
     have hzz:=(uh HZ) k hkl
     clear d0 d1 d2 d3 d4
     have hgd:P.subs.getD k sb0=P.subs[k]:=by rw[List.getD_eq_getElem?_getD,List.getElem?_eq_getElem hkl];rfl
     rw[hgd]at e0 e1 e2 e3 e4 hzz
     generalize P.subs[k]=sv at e0 e1 e2 e3 e4 hzz HN
     clear hgd
     clear hcl hB
     go_wp2_with fail
     refine (maySub_any sv _ hzz).mono ?_
     rintro e w5 ⟨rfl,hb5⟩
     have HM2:=zh ((uh HM).below hb5)
     clear hb5 e0 e1 e2 e3 e4
     go_wp2
     go_roundw
     case rel=>exact⟨k+1,_,by omega,by go_num,rfl,uh HN,HM2⟩
     case measure=>simp[intOf];omega
   ·obtain rfl:len=k:=by omega
    have HCC:Hid (c=((idO q.id && mc P.subs.length) && P.subs.all msB)):=by
     show _=_
     rw[uh HLN,uh HC,List.take_of_length_le (Nat.le_of_eq (uh HLN)),uh HC0,uh HID,Bool.true_and]
    cases c
    ·have HR:Hid (tlB P ((idO q.id && mc P.subs.length) && P.subs.all msB) E=false):=by show _=_;rw[<- uh HCC];rfl
     go_wp2
     go_ret
     exact⟨by rw[uh HR];rfl,(uh HM).bel⟩
    ·go_upto_region 55 with fail
     iterate 7 go_step
     refine mpList_wanted (by rfl) fun K hK=>wp_load_mid 31 _ rfl X 0 rfl (((xk q).wi_id q.id).wi_subs q.subs).cells _ (uh HM).px.range Tryz.underlying31 rfl packet_size (hK _ _ ?_)
     clear hK K
     simp only[Act.put,List.setIfInBounds_toArray,List.set_cons_zero,List.set_cons_succ]
     refine mpList_wanted (by rfl) fun K hK=>wp_load_mid 31 _ rfl B 0 rfl q.cells _ (uh HM).pb.range Tryz.underlying31 rfl packet_size (hK _ _ ?_)
     clear hK K
     simp only[Act.put,List.setIfInBounds_toArray,List.set_cons_zero,List.set_cons_succ]
     go_wp2_with fail
     refine ((uh HEQ) _ (uh HM).bel).mono ?_
     rintro e wz ⟨rfl,hbz⟩
     have HZ:=zh ((uh HM).below hbz)
     clear hbz HM
     have z0:=(uh HZ).pb.kind
     have z7:=(uh HZ).pb.props
     rw[show q.props.val=.slice q.props.ao q.props.n q.props.cap from rfl,uh HQN]at z7
     cases E
     ·have HR:Hid (tlB P ((idO q.id && mc P.subs.length) && P.subs.all msB) false=false):=by show _=_;rw[<- uh HCC];rfl
      go_wp2
      go_ret
      exact⟨by rw[uh HR];rfl,(uh HZ).bel⟩
     ·by_cases hp0:P.props.length=0
      ·have HR:Hid (tlB P ((idO q.id && mc P.subs.length) && P.subs.all msB) true=true):=by show _=_;rw[<- uh HCC];unfold tlB;rw[decide_eq_true hp0];rfl
       rw[hp0]at z7
       clear hp0
       go_wp2
       go_ret
       exact⟨by rw[uh HR];rfl,(uh HZ).bel⟩
      ·have HR:Hid (tlB P ((idO q.id && mc P.subs.length) && P.subs.all msB) true=okP P.kind P.props):=by show _=_;rw[<- uh HCC];unfold tlB;rw[decide_eq_false hp0];rfl
       have hp1:((P.props.length:Int) == 0)=false:=beq_false_of_ne (by omega)
       clear hp0
       rw[uh HKP]at z0
       go_wp2_with fail
       refine (gprops_any _ P.props P.kind _ (by rw[<- uh HQN];exact (uh HRP).below (uh HZ).bel) hmx (uh HSM)).mono ?_
       rintro e wy ⟨rfl,hby⟩
       have HY:=zh ((uh HZ).below hby)
       clear hby HZ
       go_wp2
       go_ret
       exact⟨by rw[uh HR];rfl,(uh HY).bel⟩
theorem mayA_subs {w:World} {q:Pkv} {P:Pa} (hR:RPk w q P) (hM:Mid P) (hk:P.kind=8):Calls Tryz.prog 39 #[q.val] w fun e w'=>e=.returned (.bool (tlB P ((idO P.id && mc P.subs.length) && P.subs.all msB) (empA P.no_id.no_props.no_subs)))/\Below w.heap.size w w':=by
 have hB:=hM.big
 obtain⟨h0,h1,h2,h3,h4,h5,h6,h7,h8,h9,h10,h11⟩:=hR.sc
 have hx:RPk w (((xk q).wi_id q.id).wi_subs q.subs) (⟨P.kind,false,0,false,⟨#[]⟩,P.id,⟨#[]⟩,P.props,⟨#[]⟩,false,0,[],[],[],0,false,P.subs,[],[]⟩:Pa):=⟨⟨h0,rfl,rfl,rfl,rfl,h5,rfl,rfl,rfl,rfl,rfl,rfl⟩,hR.props,⟨none,0,rfl,⟨Nat.le_refl _,Nat.zero_le _⟩,.inl rfl⟩,⟨none,0,rfl,⟨Nat.le_refl _,Nat.zero_le _⟩,.inl rfl⟩,⟨none,0,rfl,⟨Nat.le_refl _,Nat.zero_le _⟩,.inl rfl⟩,hR.subs,⟨none,0,rfl,⟨Nat.le_refl _,Nat.zero_le _⟩,.inl rfl⟩,⟨none,0,rfl,⟨Nat.le_refl _,Nat.zero_le _⟩,.inl rfl⟩⟩
 have hs:Small (⟨P.kind,false,0,false,⟨#[]⟩,P.id,⟨#[]⟩,P.props,⟨#[]⟩,false,0,[],[],[],0,false,P.subs,[],[]⟩:Pa):=⟨by have:=hB.lists;have:=hM.props;simp;try omega,by have:=hB.lists;simp;try omega,by have:=hB.lists;simp;try omega⟩
 have k:=may_subs q P w hR hM.props hB.props (empA P.no_id.no_props.no_subs) (heq_of hx hR hs (only_subs P)) hB.subs _ rfl (by have:=hB.lists;omega) hk
 rw[h5]at k
 exact k
theorem lsok {w:World} {q:Pkv} {P:Pa} (hR:RPk w q P) (h:LsOk P) (hk:P.kind=8\/P.kind=9\/P.kind=10\/P.kind=11):Calls Tryz.prog 40 #[q.val] w (GPut ((((b2 P.id++pbs P.props)++P.subs.flatMap gsub)++P.filters.flatMap tx)++P.codes.flatMap gcod) w):=by
 obtain⟨h0,h1,h2,h3,h4,h5,h6,h7,h8,h9,h10,h11⟩:=hR.sc
 have k:=gb_lists q P.props w hR.props (by rw[h0];exact h.okp) P.subs P.filters P.codes hR.subs hR.filters hR.codes h.ns h.nf h.nc h.zs h.zf (by rw[h0];exact hk)
 rw[h5]at k
 exact k
theorem enc_subs {w:World} {q:Pkv} {P:Pa} (hR:RPk w q P) (hB:Big P) (hk:P.kind=8):Calls Tryz.prog 19 #[q.val] w (EncQ (fkA P).1 (fkA P).2 q.kind (eb P) w):=by
 have hc:=hR.cnt
 have hf:=hB.fit hc
 obtain⟨h0,h1,h2,h3,h4,h5,h6,h7,h8,h9,h10,h11⟩:=hc.sc
 have hL:=hB.lists
 have k:=hk
 rw[<- h0]at k
 refine enc_core q (q.no_id.no_props.no_subs) _ _ _ (5000002+P.subs.length * 70001) w (by omega) (fun W=>fk_any q P hc W) (fun w0 w1 W hb hQ=>?_)
 have e:=(hc.no_id.no_props.no_subs).emp
 unfold eb
 rw[if_neg (by omega),if_neg (by omega),if_neg (by omega),if_neg (by omega),if_pos (by omega),sIpA,sIdA,<- e,<- h0,<- h5]
 exact pk_subs hQ hf P.props (hR.props.below hb) hB.lists.1 hB.props P.subs (hR.subs.below hb) hB.subs 70001 (Nat.le_refl _) (by omega) k
theorem br_eb_8 {P:Pa} (h:P.kind=8) (X:Option (List Int)) (hX:(((sIpA P).bind (sMust (mc P.subs.length))).bind (sEach sSub P.subs)).bind (sMust (empA P.no_id.no_props.no_subs))=X):eb P=X:=by
 unfold eb
 rw[if_neg (by omega),if_neg (by omega),if_neg (by omega),if_neg (by omega),if_pos h]
 exact hX
theorem br_may_8 {P:Pa} (h:P.kind=8) (X:Bool) (hX:tlB P ((idO P.id && mc P.subs.length) && P.subs.all msB) (empA P.no_id.no_props.no_subs)=X):mayA P=X:=by
 unfold mayA
 rw[if_neg (by omega),if_neg (by omega),if_neg (by omega),if_neg (by omega),if_pos h]
 exact hX
theorem br_gb_8 {P:Pa} (h:P.kind=8) (X:List Int) (hX:(((b2 P.id++pbs P.props)++P.subs.flatMap gsub)++P.filters.flatMap tx)++P.codes.flatMap gcod=X):gbd P=X:=by
 unfold gbd
 rw[if_neg (by omega),if_neg (by omega),if_neg (by omega),if_neg (by omega),if_neg (by omega),if_neg (by omega)]
 exact hX
theorem in16_id (n:Int):(in16 n && n != 0)=idO n:=by
 rw[Bool.eq_iff_iff]
 simp[in16,idO]
 omega
theorem each_eq {α:Type} (f:α->List Int->Option (List Int)) (g:α->Bool) (h:α->List Int) (hf:∀ a t,f a t=if g a then some (t++h a) else none):∀ (l:List α) (t:List Int),sEach f l t=if l.all g then some (t++l.flatMap h) else none
 | [],t=>by simp[sEach]
 | a :: r,t=>by
  unfold sEach
  rw[hf,List.all_cons,List.flatMap_cons]
  cases g a
  ·rfl
  ·rw[if_pos rfl]
   show sEach f r (t++h a)=_
   rw[each_eq f g h hf r (t++h a),List.append_assoc]
   rfl
theorem opv_eq (q:Int) (nl ap:Bool) (h:Int) (h0:0<=q) (h1:q<=2) (h2:0<=h) (h3:h<=2):opv q nl ap h=q+fv nl 4+fv ap 8+16 * h:=by
 obtain rfl | rfl | rfl:q=0\/q=1\/q=2:=by omega
 all_goals obtain rfl | rfl | rfl:h=0\/h=1\/h=2:=by omega
 all_goals cases nl <;> cases ap <;> decide
theorem sub_eq (s:Sb) (t:List Int):sSub s t=if msB s then some (t++gsub s) else none:=by
 unfold sSub msB sMust sAdd
 by_cases h:0<=s.qos/\s.qos<=2/\0<=s.handling/\s.handling<=2
 ·obtain⟨h0,h1,h2,h3⟩:=h
  have e:opb s=gopt s:=opv_eq _ _ _ _ h0 h1 h2 h3
  have r1:=fv_range s.nolocal 4 (by omega)
  have r2:=fv_range s.aspub 8 (by omega)
  have e2:in8 (gopt s)=true:=by
   unfold gopt in8
   rw[decide_eq_true (by omega),decide_eq_true (by omega)]
   rfl
  rw[e,e2]
  unfold opk mq gsub
  rw[decide_eq_true h0,decide_eq_true h1,decide_eq_true h2,decide_eq_true h3]
  cases okT s.filter <;> simp
 ·have e1:opk s.qos s.handling=false:=by
   unfold opk mq
   rw[Bool.eq_false_iff]
   intro k
   simp only[Bool.and_eq_true,decide_eq_true_eq]at k
   exact h ⟨k.1.1.1,k.1.1.2,k.1.2,k.2⟩
  have e2:(decide (0<=s.qos) && (decide (s.qos<=2) && (decide (0<=s.handling) && decide (s.handling<=2))))=false:=by
   rw[Bool.eq_false_iff]
   intro k
   simp only[Bool.and_eq_true,decide_eq_true_eq]at k
   exact h k
  rw[e1,e2]
  cases okT s.filter <;> rfl
theorem ip_eq (P:Pa):sIpA P=if idO P.id && okP P.kind P.props then some (b2 P.id++pbs P.props) else none:=by
 unfold sIpA sIdA
 rw[in16_id]
 cases idO P.id <;> cases okP P.kind P.props <;> simp[sAdd]
theorem eb_8 {P:Pa} (h:P.kind=8):eb P=if mayA P then some (gbd P) else none:=by
 rw[br_eb_8 h _ rfl,br_may_8 h _ rfl,br_gb_8 h _ rfl,tlB_eq,ip_eq]
 cases he:empA P.no_id.no_props.no_subs
 ·cases idO P.id <;> cases okP P.kind P.props <;> cases mc P.subs.length <;> simp[sMust]
 ·obtain⟨-,e2,e3⟩:=emp_lists he
  have e2:P.filters=[]:=List.length_eq_zero_iff.1 e2
  have e3:P.codes=[]:=List.length_eq_zero_iff.1 e3
  rw[e2,e3]
  cases idO P.id <;> cases okP P.kind P.props <;> cases mc P.subs.length <;> simp only[sMust,each_eq sSub msB gsub sub_eq,Bool.and_true,Bool.and_false,Bool.true_and,Bool.false_and,if_true,if_false,Option.bind_some,Option.bind_none,List.flatMap_nil,List.append_nil,Bool.false_eq_true]
  cases P.subs.all msB <;> simp[sMust]
def PgS (w0:GW) (R:Nat) (f:List Int->Option (ByteArray×List Int)) (st:Option (List Int)) (w:World) (e:Ending) (w':World):Prop :=
 ∃ x st',e=.returned (.string x)/\Stp f st x st'/\RP w0 w' R st'/\BX R isAny w w'
theorem text_pg (R:Nat) (st:Option (List Int)) (w0:GW) (w:World) (h:RP w0 w R st):Calls Tryz.prog 102 #[.pointer (some ⟨R,0,none⟩)] w (PgS w0 R text? st w):=by
 have hlt:=h.lt
 have hR0:w0.heap.size<=R:=by obtain⟨_,_,_,_,_,_,_,_,_,_,_,h,_⟩:=h;exact h
 have hw0:Below w0.heap.size w0 w:=by obtain⟨_,_,_,_,_,_,_,_,_,_,h,_⟩:=h;exact h
 have HS:=zh h
 have HW0:=zh hw0
 clear h hw0
 go_enter Tryz.func102,Tryz.ntmps102
 go_wp2_with fail
 refine (left_pg R st w0 w (uh HS)).mono ?_
 rintro e w1 ⟨v,l,rfl,hv,he1,he2,hb1⟩
 have HW1:Hid (Below w0.heap.size w0 w1):=(uh HW0).trans (hb1.mono (uh HW0).size)
 obtain⟨n,hN,hn,_⟩:=gt_len l (uh hv).range
 have HG:=zh (rget_any v l w1 ((uh hv).below (uh HW1)))
 rw[hN]at HG
 have HS1:=zh ((uh HS).below hb1)
 have HB1:=zh hb1
 have HE1:=zh he1
 have HQ:Hid (text? l=if (gt l).2.2=0 then some ((gt l).1,l.drop n) else none):=by
  show text? l=_
  unfold text?
  rw[hN,Int.toNat_natCast]
 clear hb1 he1 he2 hN
 generalize (gt l).1=x at HG HQ
 generalize (gt l).2.2=m at HG HQ
 go_wp2_with fail
 refine (uh HG).mono ?_
 rintro e w2 ⟨rfl,hb2⟩
 have HS2:=zh ((uh HS1).below hb2)
 have HB2:Hid (Below w.heap.size w w2):=(uh HB1).trans (hb2.mono (uh HB1).size)
 clear hb2
 go_wp2_with fail
 refine (took_pg R st n m w0 w2 (uh HS2) (fun l' e=>by rw[(uh HE1) l' e];exact hn)).mono ?_
 rintro e w3 ⟨rfl,h3,hx3⟩
 have HS3:=zh h3
 have HX3:=zh hx3
 clear h3 hx3
 go_wp2
 go_ret
 refine⟨x,_,rfl,?_,uh HS3,(BX.of_below (uh HB2) hlt).trans (uh HX3)⟩
 cases st with
 | none =>
  show (if m=0 then _ else _)=none
  split <;> rfl
 | some l' =>
  have e:=(uh HE1) l' rfl
  subst e
  exact stp_get text? (some l') l' x n m (.inl rfl) (uh HQ)
theorem pair_pg (R:Nat) (st:Option (List Int)) (w0:GW) (w:World) (h:RP w0 w R st):Calls Tryz.prog 103 #[.pointer (some ⟨R,0,none⟩)] w (PgI w0 R 65535 two? st w):=by
 have HS:=zh h
 clear h
 go_enter Tryz.func103,Tryz.ntmps103
 go_wp2_with fail
 refine (byte_pg R st w0 w (uh HS)).mono ?_
 rintro e w1 ⟨x,st1,rfl,hx,hs1,h1,hx1⟩
 have HS1:=zh h1
 have HX1:=zh hx1
 have HST1:=zh hs1
 clear h1 hx1 hs1
 go_wp2_with fail
 refine (byte_pg R st1 w0 w1 (uh HS1)).mono ?_
 rintro e w2 ⟨y,st2,rfl,hy,hs2,h2,hx2⟩
 have HS2:=zh h2
 have HX2:=zh hx2
 have HST2:=zh hs2
 have e1:=K.or_256 x y hx.1 (by omega) hy.1 (by omega)
 clear h2 hx2 hs2
 go_wp2
 go_ret
 refine⟨x * 256+y,st2,rfl,by omega,?_,uh HS2,(uh HX1).trans (uh HX2)⟩
 have k:Stp (bindR one? fun x=>bindR one? fun y=>pureR (x * 256+y)) st (x * 256+y) st2:=(uh HST1).bind ((uh HST2).bind (Stp.pure _ _))
 refine Stp.congr (fun l=>?_) k
 match l with
 | []=>rfl
 | [_]=>rfl
 | _ :: _ :: _=>rfl
theorem B2.setR {R A:Nat} {a b:World} (h:B2 R A a b) (j:Nat) (u:Value):B2 R A a (b.setCell ⟨R,j,none⟩ u) :=
 h.trans ⟨rfl,rfl,rfl,by simp[World.setCell],fun k _ hR _=>Below.heap_setCell _ _ _ _ hR⟩
def moreB:Option (List Int)->Bool
 | none=>false
 | some l=>!l.isEmpty
theorem more_pg (R:Nat) (st:Option (List Int)) (w0:GW) (w:World) (h:RP w0 w R st):Calls Tryz.prog 145 #[.pointer (some ⟨R,0,none⟩)] w fun e w'=>e=.returned (.bool (moreB st))/\Below w.heap.size w w':=by
 obtain⟨ao,n,cap,k,bad,L,hc,hy,hk,hn,hw,hR,hst⟩:=h
 obtain⟨hl,hc1,hc2⟩:=byt_len hy
 unfold maxLen at hc2
 have HD:=zh (bel_drew w)
 obtain⟨h0,⟨h1,f1⟩,h2,f2⟩:=hc
 cases bad
 ·have HM:Hid (moreB st=decide (k < n)):=by
   show _=_
   rw[hst]
   show (!(L.drop k).isEmpty)=_
   rcases Nat.lt_or_ge k n with a | a
   ·rw[decide_eq_true (by omega)]
    cases hd:L.drop k with
    | nil=>have:=congrArg List.length hd;rw[List.length_drop,hl]at this;simp at this;omega
    | cons x t=>rfl
   ·rw[decide_eq_false (by omega),List.drop_of_length_le (by omega)]
    rfl
  clear hst hy hw hl
  go_enter Tryz.func145,Tryz.ntmps145
  go_wp2_with fail
  refine wp_region_noPanic ?_
  refine wp_region_held_drew (S:=(fun w'=>w'.cell? ⟨R,0,none⟩=some (.slice ao n cap)/\w'.cell? ⟨R,1,none⟩=some (.int .i64 (k:Nat))/\w'.cell? ⟨R,2,none⟩=some (.bool false))) (by kernel_rfl) ⟨by simpa using h0,by simpa using h1,by simpa using h2⟩ (fun hHeld=>?_)
  refine rtk 0 (h:=?_)
  refine rtk 1 (h:=?_)
  refine rtk 2 (h:=?_)
  refine rtk 3 (h:=?_)
  refine rtk 4 (h:=?_)
  refine rtk 5 (h:=?_)
  refine rtk 6 (h:=?_)
  refine rtk 7 (h:=?_)
  refine rtk 8 (h:=?_)
  refine rtk 9 (h:=?_)
  refine rtk 10 (h:=?_)
  refine rtk 11 (h:=?_)
  refine rtk 12 (h:=?_)
  refine rtk 13 (h:=?_)
  refine rtk 14 (h:=?_)
  refine rtk 15 (h:=?_)
  refine rtk 16 (h:=?_)
  refine rcl 17 (h:=fun K hK=>?_)
  go_simp
  refine hK.out _ _ ⟨by simpa using h0,by simpa using h1,by simpa using h2⟩ (fun hHeld=>?_)
  clear hK K
  refine wpAnyH_done (by kernel_rfl) ?_ _
  refine NoPanic.normal ?_
  go_wp2
  go_ret
  exact⟨by rw[uh HM];rfl,uh HD⟩
 ·obtain rfl:st=none:=hst
  clear hy hw hl
  go_enter Tryz.func145,Tryz.ntmps145
  go_wp2_with fail
  refine wp_region_noPanic ?_
  refine wp_region_held_drew (S:=(fun w'=>w'.cell? ⟨R,0,none⟩=some (.slice ao n cap)/\w'.cell? ⟨R,1,none⟩=some (.int .i64 (k:Nat))/\w'.cell? ⟨R,2,none⟩=some (.bool true))) (by kernel_rfl) ⟨by simpa using h0,by simpa using h1,by simpa using h2⟩ (fun hHeld=>?_)
  refine rtk 0 (h:=?_)
  refine rtk 1 (h:=?_)
  refine rtk 2 (h:=?_)
  refine rtk 3 (h:=?_)
  refine rtk 4 (h:=?_)
  refine rtk 5 (h:=?_)
  refine rsk 6 (h:=?_)
  refine rsk 7 (h:=?_)
  refine rsk 8 (h:=?_)
  refine rsk 9 (h:=?_)
  refine rsk 10 (h:=?_)
  refine rsk 11 (h:=?_)
  refine rsk 12 (h:=?_)
  refine rsk 13 (h:=?_)
  refine rsk 14 (h:=?_)
  refine rsk 15 (h:=?_)
  refine rtk 16 (h:=?_)
  refine rcl 17 (h:=fun K hK=>?_)
  go_simp
  refine hK.out _ _ ⟨by simpa using h0,by simpa using h1,by simpa using h2⟩ (fun hHeld=>?_)
  clear hK K
  refine wpAnyH_done (by kernel_rfl) ?_ _
  refine NoPanic.normal ?_
  go_wp2
  go_ret
  exact⟨rfl,uh HD⟩
theorem moreB_no {st:Option (List Int)} (h:moreB st=false):st=none\/st=some []:=by
 cases st with
 | none=>exact .inl rfl
 | some l=>cases l with
  | nil=>exact .inr rfl
  | cons a t=>cases h
theorem moreB_yes {st:Option (List Int)} (h:moreB st=true):∃ l,st=some l/\l≠[]:=by
 cases st with
 | none=>cases h
 | some l=>cases l with
  | nil=>cases h
  | cons a t=>exact⟨_,rfl,by simp⟩
def mlp (R:Nat) (w:World):Nat:=match w.cell? ⟨R,2,none⟩ with
 | some (.bool false)=>match w.cell? ⟨R,0,none⟩,w.cell? ⟨R,1,none⟩ with
  | some (.slice _ n _),some (.int _ k)=>n - k.toNat+1
  | _,_=>0
 | _=>0
theorem mlp_some {w0:GW} {w:World} {R:Nat} {l:List Int} (h:RP w0 w R (some l)):mlp R w=l.length+1:=by
 obtain⟨ao,n,cap,k,bad,L,hc,hy,hk,hn,hw,hR,hst⟩:=h
 have hl:=(byt_len hy).1
 cases bad
 ·simp only[Bool.false_eq_true,if_false,Option.some.injEq]at hst
  unfold mlp
  rw[hc.2.2.1,hc.1,hc.2.1.1,hst,List.length_drop,hl]
  simp
 ·cases hst
theorem mlp_none {w0:GW} {w:World} {R:Nat} (h:RP w0 w R none):mlp R w=0:=by
 obtain⟨ao,n,cap,k,bad,L,hc,hy,hk,hn,hw,hR,hst⟩:=h
 cases bad
 ·simp at hst
 ·unfold mlp
  rw[hc.2.2.1]
theorem owns_ne {w:World} {V j:Nat} {u:Value} {B:Nat} {e:TypeId} {s:Nat} {v:Value} {n:Nat} {xs:List Value} (h:w.ownsRow B e s v n xs) (hV:∀ g,v.ownBlock=some g->g≠V):(w.setCell ⟨V,j,none⟩ u).ownsRow B e s v n xs:=by
 refine⟨h.1,?_⟩
 rcases h.2 with h1 | ⟨g,cap,cur,hv,hB,hg,rest⟩
 ·exact .inl h1
 ·exact .inr ⟨g,cap,cur,hv,hB,by rw[Below.heap_setCell _ _ _ _ (hV g (by rw[hv];rfl))];exact hg,rest⟩
def pglist? {α:Type} (kind:Int) (f:List Int->Option (α×List Int)):List Int->Option ((Int×List Pr×List α)×List Int) :=
 bindR two? fun i=>bindR (props? kind) fun x=>bindR (manyR f) fun d=>bindR (mustR (!(i == 0) && mc d.length)) fun _=>pureR (i,x,d)
def Shw {α:Type} (f:List Int->Option (α×List Int)):Prop:=∀ l x l',f l=some (x,l')->l'.length<=l.length
theorem stp_leq {α:Type} {f:List Int->Option (α×List Int)} (hf:Shw f) {st st':Option (List Int)} {x:α} {N:Nat} (h:Stp f st x st') (hl:∀ l,st=some l->l.length<=N):∀ l,st'=some l->l.length<=N:=by
 intro l' e
 subst e
 cases st with
 | none=>cases h
 | some l =>
  unfold Stp at h
  simp only at h
  cases hq:f l with
  | none=>rw[hq]at h;cases h
  | some r =>
   obtain⟨y,l2⟩:=r
   rw[hq]at h
   obtain⟨_,e⟩:=h
   cases e
   exact Nat.le_trans (hf l y l' hq) (hl l rfl)
theorem two?_shw:Shw two?:=by
 intro l x l' h
 match l,h with
 | [],h=>cases h
 | [a],h=>cases h
 | a :: b :: t,h =>
  simp[two?]at h
  obtain⟨_,rfl⟩:=h
  simp;omega
theorem props?_shw (k:Int):Shw (props? k):=by
 intro l x l' h
 unfold props? at h
 split at h
 ·simp only[Option.some.injEq,Prod.mk.injEq]at h
  obtain⟨_,rfl⟩:=h
  rw[List.length_drop]
  omega
 ·cases h
theorem bind_none' {α β:Type} (o:Option α):(o.bind fun _=>(none:Option β))=none:=by cases o <;> rfl
def Listssubs (w0:GW) (R A:Nat) (p:Pkv) (st:Option (List Int)) (w:World) (e:Ending) (w':World):Prop :=
 e=.returned (.tuple #[])/\∃ (i:Int) (s:Sl) (x:List Pr) (t:Sl) (d:List Sb) (st':Option (List Int)),Pk w' A { p with id:=i,props:=s,subs:=t }/\Hid (w'.ownsRow w.heap.size 88 4 s.val x.length (pcs x))/\Hid (w'.ownsRow w.heap.size 93 5 t.val d.length (scs d))/\Stp (pglist? p.kind sub?) st (i,x,d) st'/\RP w0 w' R st'/\B2 R A w w'
theorem lists_subs (R A:Nat) (p:Pkv) (st:Option (List Int)) (w0:GW) (w:World) (h:RP w0 w R st) (hp:Pk w A p) (hA:A≠R) (hA0:w0.heap.size<=A) (hF:p.subs=⟨none,0,0⟩) (hl:∀ l,st=some l->l.length<=65536) (h8:p.kind=8):Calls Tryz.prog 106 #[.pointer (some ⟨R,0,none⟩),.pointer (some ⟨A,0,none⟩)] w (Listssubs w0 R A p st w):=by
 obtain⟨i0,hi0,hz0,hz1,hz2⟩:=info_parts infoSub
 have hRw:=h.lt
 have hAw:=hp.lt
 have hw0:=h.keep.size
 have HP:=zh hp
 have HS:=zh h
 have HL:=zh hl
 have HF:=zh hF
 have HK:=zh h8;clear h8
 clear hp h hl hF
 go_enter Tryz.func106,Tryz.ntmps106
 go_wp2_with fail
 refine (pair_pg R st w0 w (uh HS)).mono ?_
 rintro e w1 ⟨i,st1,rfl,hir,hs1,h1,hx1⟩
 have hp1:=(uh HP).oth hx1 hA
 have c5:=hp1.id
 have f5:=hp1.id_f
 have c0:=hp1.kind
 have HP1:=zh (hp1.set_id i)
 have HS1:=zh (h1.set A 5 (.int .i64 i) hA hA0)
 have HB1:Hid (B2 R A w (w1.setCell ⟨A,5,none⟩ (.int .i64 i))):=(B2.bx hx1).set 5 _
 have HST1:=zh hs1
 have HL1:=zh (stp_leq two?_shw hs1 (uh HL))
 clear hp1 h1 hx1 hs1 hir
 go_wp2_with fail
 refine (props_pg R _ st1 w0 _ (uh HS1)).mono ?_
 rintro e w2 ⟨s,x1,st2,rfl,hO2,hs2,h2,hx2⟩
 have hp2:=(uh HP1).oth hx2 hA
 have c7:=hp2.props
 have f7:=hp2.props_f
 have HP2:=zh (hp2.set_props s)
 have HS2:=zh (h2.set A 7 s.val hA hA0)
 have HB2:Hid (B2 R A w (w2.setCell ⟨A,7,none⟩ s.val)):=((uh HB1).trans (B2.bx hx2)).set 7 _
 have HST2:=zh hs2
 have HL2:=zh (stp_leq (props?_shw p.kind) hs2 (uh HL1))
 have HO2:Hid ((w2.setCell ⟨A,7,none⟩ s.val).ownsRow w.heap.size 88 4 s.val x1.length (pcs x1)):=owns_mono (owns_b2 (R:=R) (uh hO2) ((B2.refl R A w2).set 7 _) (Nat.lt_of_lt_of_le hRw (uh HB1).size) (Nat.lt_of_lt_of_le hAw (uh HB1).size)) (uh HB1).size
 clear hp2 h2 hx2 hs2 c5 f5 c0 hO2 HP1 HS1
 go_wp2
 generalize w2.setCell ⟨A,7,none⟩ s.val=wl at HP2 HS2 HB2 HO2 |-
 have hwl:w.heap.size<=wl.heap.size:=(uh HB2).size
 have hlt:R < wl.heap.size:=Nat.lt_of_lt_of_le hRw hwl
 have hla:A < wl.heap.size:=Nat.lt_of_lt_of_le hAw hwl
 have h0w:w0.heap.size<=wl.heap.size:=Nat.le_trans hw0 hwl
 clear c7 f7
 go_loopw [4] (fun n0 wr=>∃ (d:List Sb) (st3:Option (List Int)) (t:Sl) (k:Nat),n0=.int .i64 k/\k<=65536/\Hid (d.length=k)/\Hid (∀ l,st3=some l->k+l.length<=65536)/\Hid (Pk wr A { p with id:=i,props:=s,subs:=t })/\Hid (wr.ownsRow wl.heap.size 93 5 t.val k (scs d))/\Hid (Acc sub? st2 d st3)/\Hid (RP w0 wr R st3)/\Hid (B2 R A wl wr)) (fun _ wr=>mlp R wr)
 case atStart =>
  refine⟨[],st2,⟨none,0,0⟩,0,rfl,Nat.zero_le _,rfl,fun l hl=>by have:=(uh HL2) l hl;omega,?_,World.ownsRow_nil _ _ _ _,Acc.start _ _,uh HS2,B2.refl _ _ _⟩
  show Pk _ _ _
  have e:{ p with id:=i,props:=s,subs:=⟨none,0,0⟩ }={ p with id:=i,props:=s }:=by rw[<- uh HF]
  rw[e]
  exact uh HP2
 case round =>
  obtain⟨d,st3,⟨ta,tn,tc⟩,k,rfl,hk,HD,HLN,HPk,HOwn,HAcc,HRP,HBB⟩:=hrel
  go_wp2_with fail
  refine (more_pg R st3 w0 wr (uh HRP)).mono ?_
  rintro e wm ⟨rfl,hbm⟩
  cases hm:moreB st3
  ·have hwlR:R < w.heap.size:=hRw
   have hwlA:A < w.heap.size:=hAw
   have HEND:Hid (∀ b:Bool,(!(i == 0) && mc (k:Nat))=b->∀ W,(if b then W=wm else W=wm.setCell ⟨R,2,none⟩ (.bool true))->Listssubs w0 R A p st w (.returned (.tuple #[])) W):=by
    intro b hb W hW
    have hO:wm.ownsRow wl.heap.size 93 5 (Sl.val ⟨ta,tn,tc⟩) d.length (scs d):=by rw[uh HD];exact owns_below (uh HOwn) hbm
    have hst:Stp (pglist? p.kind sub?) st (i,x1,d) (if b then st3 else none):=(uh HST1).bind ((uh HST2).bind (((uh HAcc).done (moreB_no hm)).bind ((?_:Stp (mustR (!(i == 0) && mc d.length)) st3 () (if b then st3 else none)).bind (Stp.pure _ _))))
    ·have hBB:=(uh HBB).trans (B2.bel hbm)
     cases b
     ·obtain rfl:W=wm.setCell ⟨R,2,none⟩ (.bool true):=hW
      exact⟨rfl,i,s,x1,⟨ta,tn,tc⟩,d,none,((uh HPk).below hbm).blk (Below.heap_setCell _ _ _ _ hA),owns_b2 (uh HO2) (hBB.setR 2 _) hwlR hwlA,owns_mono (owns_b2 (A:=A) hO ((B2.refl R A wm).setR 2 _) hlt hla) hwl,hst,((uh HRP).below hbm).bad,(uh HB2).trans (hBB.setR 2 _)⟩
     ·obtain rfl:W=wm:=hW
      exact⟨rfl,i,s,x1,⟨ta,tn,tc⟩,d,st3,(uh HPk).below hbm,owns_b2 (uh HO2) hBB hwlR hwlA,owns_mono hO hwl,hst,(uh HRP).below hbm,(uh HB2).trans hBB⟩
    ·rw[uh HD,hb]
     exact Stp.must b st3
   obtain⟨bb,c2m,f2m,_⟩:=((uh HRP).below hbm).c2
   have c5m:=((uh HPk).below hbm).id
   simp only at c5m
   clear hm hbm HD HLN HPk HOwn HAcc HRP HBB
   by_cases hi0:i=0
   ·subst hi0
    go_wp2
    go_end0
    exact uh HEND false rfl _ rfl
   ·have hib:(i == 0)=false:=by simpa using hi0
    by_cases hk0:k=0
    ·subst hk0
     go_wp2
     go_end0
     exact uh HEND false (by rw[hib];rfl) _ rfl
    ·have hkb:((k:Int) == 0)=false:=by simp;omega
     by_cases hk16:16 < k
     ·go_wp2
      go_end0
      exact uh HEND false (by rw[hib];unfold mc;rw[decide_eq_false (show ¬ (k:Int)<=16 by omega)];simp) _ rfl
     ·go_wp2
      go_end0
      exact uh HEND true (by rw[hib];unfold mc;rw[decide_eq_true (show (1:Int)<=k by omega),decide_eq_true (show (k:Int)<=16 by omega)];rfl) _ rfl
  ·obtain⟨l,rfl,hl0⟩:=moreB_yes hm
   have hbd:=bel_drew wm
   have hbm':Below wr.heap.size wr wm.drew:=hbm.trans (hbd.mono hbm.size)
   have HPm:=zh ((uh HPk).below hbm)
   have HRPm:=zh ((uh HRP).below hbm)
   have HBBm:Hid (B2 R A wl wm):=(uh HBB).trans (B2.bel hbm)
   have HOm:Hid (wm.ownsRow wl.heap.size 93 5 (.slice ta tn tc) k (scs d)):=owns_below (uh HOwn) hbm
   have HPd:=zh ((uh HPk).below hbm')
   have HRPd:=zh ((uh HRP).below hbm')
   have HBBd:Hid (B2 R A wl wm.drew):=(uh HBB).trans (B2.bel hbm')
   have HOd:Hid (wm.drew.ownsRow wl.heap.size 93 5 (.slice ta tn tc) k (scs d)):=owns_below (uh HOwn) hbm'
   have c0:=(uh HPm).kind
   simp only at c0
   have cF:wm.cell? ⟨A,16,none⟩=some (.slice ta tn tc):=(uh HPm).subs
   rw[uh HK]at c0
   clear hbd hbm hbm' hm HPk HOwn HBB
   go_wp2_with fail
   refine (text_pg R (some l) w0 _ (uh HRPm)).mono ?_
   rintro e wa ⟨f,sta,rfl,hsa,ha,hxa⟩
   have hpa:=(uh HPm).oth hxa hA
   have HPa:=zh hpa
   have HRPa:=zh ha
   have HSTa:=zh hsa
   have HBBa:Hid (B2 R A wl wa):=(uh HBBm).trans (B2.bx hxa)
   have HOa:Hid (wa.ownsRow wl.heap.size 93 5 (.slice ta tn tc) k (scs d)):=owns_b2 (A:=A) (uh HOm) (B2.bx hxa) hlt hla
   clear hxa ha hsa hpa HPm HRPm HBBm HOm
   go_wp2_with fail
   refine (byte_pg R sta w0 _ ((uh HRPa).below (bal _ _))).mono ?_
   rintro e wb ⟨o,stb,rfl,ho,hsb,hb,hxb⟩
   have hV:wa.heap.size < wb.heap.size:=by have:=hxb.size;simp at this;omega
   have hRV:R < wa.heap.size:=(uh HRPa).lt
   have hAV:A < wa.heap.size:=(uh HPa).lt
   have v0:=hxb.far (p:=⟨wa.heap.size,0,none⟩) (v:=.string f) (by simp) (by simp;omega)
   have v1:=hxb.far (p:=⟨wa.heap.size,1,none⟩) (v:=.int .i64 0) (by simp) (by simp;omega)
   have v2:=hxb.far (p:=⟨wa.heap.size,2,none⟩) (v:=.bool false) (by simp) (by simp;omega)
   have v3:=hxb.far (p:=⟨wa.heap.size,3,none⟩) (v:=.bool false) (by simp) (by simp;omega)
   have v4:=hxb.far (p:=⟨wa.heap.size,4,none⟩) (v:=.int .i64 0) (by simp) (by simp;omega)
   have g:∀ j,wb.frozen? ⟨wa.heap.size,j,none⟩=false:=fun j=>(hxb.frz (p:=⟨wa.heap.size,j,none⟩) (by simp) (by simp;omega)).trans (by simp)
   have g1:=g 1
   have g2:=g 2
   have g3:=g 3
   have g4:=g 4
   clear g
   have e3:=and3 o ho.1 ho.2
   have e4:=and4 o ho.1 ho.2
   have e8:=and8 o ho.1 ho.2
   have es:=sh4 o ho.1 ho.2
   have hpb:=((uh HPa).below (bal _ _)).oth hxb hA
   have HPb:=zh hpb
   have HRPb:=zh hb
   have HSTb:=zh hsb
   have HBBb:Hid (B2 R A wl wb):=((uh HBBa).trans (B2.bel (bal _ _))).trans (B2.bx hxb)
   have hVl:wl.heap.size<=wa.heap.size:=(uh HBBa).size
   have hVrow:∀ g,(Value.slice ta tn tc).ownBlock=some g->g≠wa.heap.size:=fun g hg=>by have:=((uh HOa).lt g hg).2;omega
   have HOb:Hid (wb.ownsRow wl.heap.size 93 5 (.slice ta tn tc) k (scs d)):=owns_b2 (A:=A) ((uh HOa).alloc _) (B2.bx hxb) hlt hla
   clear hxb hb hsb hpb HPa HRPa HBBa HOa HPd HRPd HBBd HOd
   have hV0:w0.heap.size<=wa.heap.size:=Nat.le_trans h0w hVl
   generalize wa.heap.size=V at hV hRV hAV v0 v1 v2 v3 v4 g1 g2 g3 g4 hVl hVrow hV0 |-
   go_upto_region 14 with fail
   have hVR:V≠R:=by omega
   have hVA:V≠A:=by omega
   have x0:((((wb.setCell ⟨V,1,none⟩ (.int .i64 (o % 4))).setCell ⟨V,2,none⟩ (.bool (btest o 4))).setCell ⟨V,3,none⟩ (.bool (btest o 8))).setCell ⟨V,4,none⟩ (.int .i64 (o / 16))).cell? ⟨V,0,none⟩=some (.string f):=by simp (maxDischargeDepth:=12) [cell_set,v0]
   have x1c:((((wb.setCell ⟨V,1,none⟩ (.int .i64 (o % 4))).setCell ⟨V,2,none⟩ (.bool (btest o 4))).setCell ⟨V,3,none⟩ (.bool (btest o 8))).setCell ⟨V,4,none⟩ (.int .i64 (o / 16))).cell? ⟨V,1,none⟩=some (.int .i64 (o % 4)):=by simp (maxDischargeDepth:=12) [cell_set,v1]
   have x2:((((wb.setCell ⟨V,1,none⟩ (.int .i64 (o % 4))).setCell ⟨V,2,none⟩ (.bool (btest o 4))).setCell ⟨V,3,none⟩ (.bool (btest o 8))).setCell ⟨V,4,none⟩ (.int .i64 (o / 16))).cell? ⟨V,2,none⟩=some (.bool (btest o 4)):=by simp (maxDischargeDepth:=12) [cell_set,v2]
   have x3:((((wb.setCell ⟨V,1,none⟩ (.int .i64 (o % 4))).setCell ⟨V,2,none⟩ (.bool (btest o 4))).setCell ⟨V,3,none⟩ (.bool (btest o 8))).setCell ⟨V,4,none⟩ (.int .i64 (o / 16))).cell? ⟨V,3,none⟩=some (.bool (btest o 8)):=by simp (maxDischargeDepth:=12) [cell_set,v3]
   have x4:((((wb.setCell ⟨V,1,none⟩ (.int .i64 (o % 4))).setCell ⟨V,2,none⟩ (.bool (btest o 4))).setCell ⟨V,3,none⟩ (.bool (btest o 8))).setCell ⟨V,4,none⟩ (.int .i64 (o / 16))).cell? ⟨V,4,none⟩=some (.int .i64 (o / 16)):=by simp (maxDischargeDepth:=12) [cell_set,v4]
   have HRPc:Hid (RP w0 ((((wb.setCell ⟨V,1,none⟩ (.int .i64 (o % 4))).setCell ⟨V,2,none⟩ (.bool (btest o 4))).setCell ⟨V,3,none⟩ (.bool (btest o 8))).setCell ⟨V,4,none⟩ (.int .i64 (o / 16))) R stb):=((((uh HRPb).set V 1 _ hVR hV0).set V 2 _ hVR hV0).set V 3 _ hVR hV0).set V 4 _ hVR hV0
   have HPc:Hid (Pk ((((wb.setCell ⟨V,1,none⟩ (.int .i64 (o % 4))).setCell ⟨V,2,none⟩ (.bool (btest o 4))).setCell ⟨V,3,none⟩ (.bool (btest o 8))).setCell ⟨V,4,none⟩ (.int .i64 (o / 16))) A { p with id:=i,props:=s,subs:=⟨ta,tn,tc⟩ }):=((((uh HPb).blk (Below.heap_setCell _ _ _ _ (fun e=>hVA e.symm))).blk (Below.heap_setCell _ _ _ _ (fun e=>hVA e.symm))).blk (Below.heap_setCell _ _ _ _ (fun e=>hVA e.symm))).blk (Below.heap_setCell _ _ _ _ (fun e=>hVA e.symm))
   have HBBc:Hid (B2 R A wl ((((wb.setCell ⟨V,1,none⟩ (.int .i64 (o % 4))).setCell ⟨V,2,none⟩ (.bool (btest o 4))).setCell ⟨V,3,none⟩ (.bool (btest o 8))).setCell ⟨V,4,none⟩ (.int .i64 (o / 16)))):=((((uh HBBb).setOut V 1 _ hVl).setOut V 2 _ hVl).setOut V 3 _ hVl).setOut V 4 _ hVl
   have HOc:Hid (((((wb.setCell ⟨V,1,none⟩ (.int .i64 (o % 4))).setCell ⟨V,2,none⟩ (.bool (btest o 4))).setCell ⟨V,3,none⟩ (.bool (btest o 8))).setCell ⟨V,4,none⟩ (.int .i64 (o / 16))).ownsRow wl.heap.size 93 5 (.slice ta tn tc) k (scs d)):=owns_ne (owns_ne (owns_ne (owns_ne (uh HOb) hVrow) hVrow) hVrow) hVrow
   clear v0 v1 v2 v3 v4 g1 g2 g3 g4 e3 e4 e8 es HRPb HPb HBBb HOb
   generalize ((((wb.setCell ⟨V,1,none⟩ (.int .i64 (o % 4))).setCell ⟨V,2,none⟩ (.bool (btest o 4))).setCell ⟨V,3,none⟩ (.bool (btest o 8))).setCell ⟨V,4,none⟩ (.int .i64 (o / 16)))=wz at x0 x1c x2 x3 x4 HRPc HPc HBBc HOc |-
   have HOK:Hid (opk (o % 4) (o / 16)=!((o % 4 == 3) || decide (2 < o / 16))):=byte_cases (P:=fun o=>opk (o % 4) (o / 16)=!((o % 4 == 3) || decide (2 < o / 16))) (by decide +kernel) o ho.1 ho.2
   go_cut [68] from 21 to 94 (fun s68 wx=>s68=.bool (!opk (o % 4) (o / 16))/\wx=wz)
   case first =>
    cases hq3:(o % 4 == 3)
    ·cases hq4:decide (2 < o / 16)
     ·have hq5:¬ 2 < o / 16:=of_decide_eq_false hq4
      go_wp2
      go_meet
      case rel=>exact⟨by rw[uh HOK,hq3,hq4];rfl,rfl⟩
     ·have hq5:2 < o / 16:=of_decide_eq_true hq4
      go_wp2
      go_meet
      case rel=>exact⟨by rw[uh HOK,hq3,hq4];rfl,rfl⟩
    ·go_wp2
     go_meet
     case rel=>exact⟨by rw[uh HOK,hq3];rfl,rfl⟩
   case rest =>
   obtain⟨rfl,hwz⟩:=hcut
   obtain rfl:wc=wz:=hwz
   have HSTs:∀ b,opk (o % 4) (o / 16)=b->Hid (Stp sub? (some l) (sbOf f o) (if b then stb else none)):=fun b hb=>(uh HSTa).bind ((uh HSTb).bind ((show Stp (mustR (opk (o % 4) (o / 16))) stb () (if b then stb else none) from by rw[hb];exact Stp.must b stb).bind (Stp.pure _ _)))
   obtain⟨bb,c2m,f2m,_⟩:=(uh HRPc).c2
   go_upto_if 68 with fail
   go_cut [] from 21 to 94 (fun wx=>∃ st4,Hid (Stp sub? (some l) (sbOf f o) st4)/\Hid (RP w0 wx R st4)/\Hid (Pk wx A { p with id:=i,props:=s,subs:=⟨ta,tn,tc⟩ })/\Hid (B2 R A wl wx)/\Hid (wx.ownsRow wl.heap.size 93 5 (.slice ta tn tc) k (scs d))/\Hid (wx.cell? ⟨V,0,none⟩=some (.string f)/\wx.cell? ⟨V,1,none⟩=some (.int .i64 (o % 4))/\wx.cell? ⟨V,2,none⟩=some (.bool (btest o 4))/\wx.cell? ⟨V,3,none⟩=some (.bool (btest o 8))/\wx.cell? ⟨V,4,none⟩=some (.int .i64 (o / 16))))
   case first =>
    cases hb:opk (o % 4) (o / 16)
    ·have HSTe:=HSTs false hb
     go_wp2
     go_meet
     case rel=>exact⟨none,HSTe,(uh HRPc).bad,(uh HPc).blk (Below.heap_setCell _ _ _ _ hA),(uh HBBc).setR 2 _,owns_b2 (A:=A) (uh HOc) ((B2.refl R A wc).setR 2 _) hlt hla,(World.cell?_setCell_other _ _ _ _ (by intro e;injection e with e1;exact hVR e1.symm)).trans x0,(World.cell?_setCell_other _ _ _ _ (by intro e;injection e with e1;exact hVR e1.symm)).trans x1c,(World.cell?_setCell_other _ _ _ _ (by intro e;injection e with e1;exact hVR e1.symm)).trans x2,(World.cell?_setCell_other _ _ _ _ (by intro e;injection e with e1;exact hVR e1.symm)).trans x3,(World.cell?_setCell_other _ _ _ _ (by intro e;injection e with e1;exact hVR e1.symm)).trans x4⟩
    ·have HSTe:=HSTs true hb
     go_wp2
     go_meet
     case rel=>exact⟨stb,HSTe,HRPc,HPc,HBBc,HOc,x0,x1c,x2,x3,x4⟩
   case rest =>
   obtain⟨st4,HST4,HRP4,HP4,HBB4,HO4,HVv⟩:=hcut
   obtain⟨y0,y1,y2,y3,y4⟩:=uh HVv
   have cF4:wc.cell? ⟨A,16,none⟩=some (.slice ta tn tc):=(uh HP4).subs
   have cF5:(wc.alloc (.cells #[.string f,.int .i64 (o % 4),.bool (btest o 4),.bool (btest o 8),.int .i64 (o / 16)] 93)).cell? ⟨A,16,none⟩=some (.slice ta tn tc):=(World.cell?_alloc_lt _ _ ⟨A,16,none⟩ (uh HP4).lt).trans cF4
   clear HVv x0 x1c x2 x3 x4 HRPc HPc HBBc HOc c2m f2m HSTs HSTa HSTb cF c0
   go_wp2_with fail
   refine wp_region_noPanic ?_
   refine wp_region_held_drew (S:=fun _=>True) (by kernel_rfl) trivial (fun hHeld=>?_)
   refine rtk 0 (h:=?_)
   refine rtk 1 (h:=?_)
   refine rtk 2 (h:=?_)
   refine rtk 3 (h:=?_)
   refine wpAnyH_ready (rs:=[4,5]) (by kernel_rfl) (by simp) ?_
   refine rac (h:=fun K hK=>?ra) (hs:=(rac (h:=fun K hK=>?rb) (hs:=AllReadyH.nil)))
   case' ra =>
    go_simp
    refine hK.out _ _ trivial (fun hHeld=>?_)
    clear hK K
    refine rcl 5 (h:=fun K hK=>?_)
    go_simp
    refine hK.out _ _ trivial (fun hHeld=>?_)
    clear hK K
    refine rcl 6 (h:=fun K hK=>?_)
    go_simp
    refine hK.out _ _ trivial (fun hHeld=>?_)
    clear hK K
   case' rb =>
    go_simp
    refine hK.out _ _ trivial (fun hHeld=>?_)
    clear hK K
    refine wpAnyH_ready (rs:=[4,6]) (by kernel_rfl) (by simp) ?_
    refine rac (h:=fun K hK=>?rc) (hs:=(rac (h:=fun K hK=>?rd) (hs:=AllReadyH.nil)))
    case' rc =>
     go_simp
     refine hK.out _ _ trivial (fun hHeld=>?_)
     clear hK K
     refine rcl 6 (h:=fun K hK=>?_)
     go_simp
     refine hK.out _ _ trivial (fun hHeld=>?_)
     clear hK K
    case' rd =>
     go_simp
     refine hK.out _ _ trivial (fun hHeld=>?_)
     clear hK K
     refine rcl 4 (h:=fun K hK=>?_)
     go_simp
     refine hK.out _ _ trivial (fun hHeld=>?_)
     clear hK K
   all_goals (
    have hsz4:wl.heap.size<=wc.heap.size:=(uh HBB4).size
    refine rcl 7 (h:=fun K hK=>?_)
    refine step_append_run (Z:=fun v' w'=>w'.ownsRow wl.heap.size 93 5 v' (k+1) ((scs d)++(sbOf f o).cells)/\(wc.alloc (.cells #[.string f,.int .i64 (o % 4),.bool (btest o 4),.bool (btest o 8),.int .i64 (o / 16)] 93)).drew.grownBy w' (Value.slice ta tn tc).ownBlock) rfl _ _ 28 rfl (.slice ta tn tc) (.slice (some ⟨wc.heap.size,0,none⟩) 1 1) rfl rfl ?hr ?_
    case hr =>
     obtain⟨v6,w6,h1,h2,h3,_⟩:=run_append_own (P:=Tryz.prog) (w:=(wc.alloc (.cells #[.string f,.int .i64 (o % 4),.bool (btest o 4),.bool (btest o 8),.int .i64 (o / 16)] 93)).drew) wl.heap.size 28 28 93 i0 _ 5 40 Tryz.underlying28 hi0 hz0 hz1 hz2 rfl (by decide) (.slice ta tn tc) k _ (owns_below ((uh HO4).alloc _) (bel_drew _)) ⟨wc.heap.size,0,none⟩ 1 1 (sbOf f o).cells rfl (five_cell _ _ _ _ _ _ _) (five_one _) (by unfold maxLen;omega) (by omega) (by simp;omega)
     exact⟨v6,w6,h1,h2,h3⟩
    rintro v6 w6 ⟨hO6,hg6⟩
    have hrow:∀ g,(Value.slice ta tn tc).ownBlock=some g->wl.heap.size<=g/\g < wc.heap.size:=fun g hg=>(uh HO4).lt g hg
    have hrR:(Value.slice ta tn tc).ownBlock≠some R:=fun e=>by have:=(hrow R e).1;omega
    have hrA:(Value.slice ta tn tc).ownBlock≠some A:=fun e=>by have:=(hrow A e).1;omega
    have HP6:Hid (Pk w6 A { p with id:=i,props:=s,subs:=⟨ta,tn,tc⟩ }):=((uh HP4).below ((bal _ _).trans ((bel_drew _).mono (by simp)))).grown hg6 hrA
    have HRP6:Hid (RP w0 w6 R st4):=((uh HRP4).below ((bal _ _).trans ((bel_drew _).mono (by simp)))).grown hg6 hrR (fun g hg=>Nat.le_trans h0w (hrow g hg).1)
    have HBB6:Hid (B2 R A wl w6):=((uh HBB4).trans (B2.bel ((bal _ _).trans ((bel_drew _).mono (by simp))))).grown hg6 (fun g hg=>(hrow g hg).1)
    obtain⟨⟨sa,sn,sc⟩,hv6,_⟩:=owns_sl hO6
    have hv6:v6=.slice sa sn sc:=hv6
    subst hv6
    have HO6:=zh hO6
    have cF6:w6.cell? ⟨A,16,none⟩=some (.slice ta tn tc):=(uh HP6).subs
    have fF6:w6.frozen? ⟨A,16,none⟩=false:=(uh HP6).subs_f
    clear hO6 hg6 hrow cF4 cF5 HP4 HRP4 HBB4
    refine hK.out _ _ trivial (fun hHeld=>?_)
    clear hK K
    simp only[Act.put,List.setIfInBounds_toArray,List.set_cons_zero,List.set_cons_succ]
    refine rtk 8 (h:=?_)
    refine rtk 9 (h:=?_)
    refine rcl 10 (h:=fun K hK=>?_)
    go_simp
    refine hK.out _ _ trivial (fun hHeld=>?_)
    clear hK K
    refine wpAnyH_done (by kernel_rfl) ?_ _
    refine NoPanic.normal ?_
    have HRP7:Hid (RP w0 (w6.setCell ⟨A,16,none⟩ (.slice sa sn sc)) R st4):=(uh HRP6).set A 16 _ hA hA0
    have HP7:Hid (Pk (w6.setCell ⟨A,16,none⟩ (.slice sa sn sc)) A { p with id:=i,props:=s,subs:=⟨sa,sn,sc⟩ }):=(uh HP6).set_subs ⟨sa,sn,sc⟩
    have HBB7:Hid (B2 R A wl (w6.setCell ⟨A,16,none⟩ (.slice sa sn sc))):=(uh HBB6).set 16 _
    have HO7:Hid ((w6.setCell ⟨A,16,none⟩ (.slice sa sn sc)).ownsRow wl.heap.size 93 5 (.slice sa sn sc) (k+1) (scs (d++[(sbOf f o)]))):=by
     show World.ownsRow _ _ _ _ _ _ _
     rw[show (scs (d++[(sbOf f o)]))=(scs d)++(sbOf f o).cells from by rw[scs_app]]
     exact owns_b2 (R:=R) (uh HO6) ((B2.refl R A w6).set 16 _) hlt hla
    have HA7:Hid (Acc sub? st2 (d++[(sbOf f o)]) st4):=(uh HAcc).step sub?_shr (uh HST4) hl0
    have HB7:Hid (∀ l',st4=some l'->(k+1)+l'.length<=65536):=by
     intro l' hl'
     subst hl'
     have h2:=stp_len sub?_shr (uh HST4)
     have h3:=(uh HLN) l rfl
     omega
    have hM:mlp R (w6.setCell ⟨A,16,none⟩ (.slice sa sn sc)) < mlp R wr:=by
     rw[mlp_some (uh HRP)]
     cases st4 with
     | none=>rw[mlp_none (uh HRP7)];omega
     | some l' =>
      rw[mlp_some (uh HRP7)]
      have:=stp_len sub?_shr (uh HST4)
      omega
    have hk1:k+1<=65536:=by
     have h3:=(uh HLN) l rfl
     have:=List.length_pos_iff.2 hl0
     omega
    have HD7:Hid ((d++[(sbOf f o)]).length=k+1):=by show _=_;rw[List.length_append,uh HD];rfl
    clear HRP6 HP6 HBB6 HO6 cF6 fF6
    go_wp2
    go_roundw
    case rel=>exact⟨d++[(sbOf f o)],st4,⟨sa,sn,sc⟩,k+1,by go_num,hk1,HD7,HB7,HP7,HO7,HA7,HRP7,HBB7⟩
    case measure=>exact hM)
end Go.Proofs.YtdkmmmjjdlnnoaaGreatDoor.K
