/- Proved here: helpers, one text behind the other. -/
import Derived.Test.YtdkmmmjjdlnnoaaGreatDoorZC25
import Derived.Test.YtdkmmmjjdlnnoaaGreatDoorZC37
import Derived.Test.YtdkmmmjjdlnnoaaGreatDoorZC6
import Derived.Test.YtdkmmmjjdlnnoaaGreatDoorZK1R4
import Derived.Test.YtdkmmmjjdlnnoaaGreatDoorZK1R5
import Derived.Test.YtdkmmmjjdlnnoaaGreatDoorZC28
import Derived.Test.YtdkmmmjjdlnnoaaGreatDoorZK1R3
import Derived.Deep.Cut
import Derived.Test.YtdkmmmjjdlnnoaaGreatDoorZK1R2
import Derived.Test.YtdkmmmjjdlnnoaaGreatDoorZC23
import Derived.Test.YtdkmmmjjdlnnoaaGreatDoorZC39
import Derived.Test.YtdkmmmjjdlnnoaaGreatDoorZC41
set_option maxHeartbeats 20000000
namespace Go.Proofs.YtdkmmmjjdlnnoaaGreatDoor.K
open Go.RowKit
set_option maxRecDepth 100000
theorem may_connE1 (q:Pkv) (P:Pa) (w:World) (hR:RPk w q P) (hmx:P.props.length<=1000000000) (hsm:Go.Proofs.YtdkmmmjjdlnnoaaGreatDoor.Small P.props) (E:Bool) (hEQ:∀ W,Below w.heap.size w W->Calls Tryz.prog 24 #[.agg (((((((xk q).wi_client q.client).wi_clean q.clean).wi_keep q.keep).wi_wills q.wills).wi_user q.user).wi_pass q.pass).cells.toArray,.agg q.cells.toArray] W fun e w'=>e=.returned (.bool E)/\Below W.heap.size W w') (hcl:q.client.size<=4611686018427387904) (hWO:∀ k,k < P.wills.length->(P.wills.getD k wl0).topic.size<=4611686018427387904/\(P.wills.getD k wl0).props.length<=1000000000/\Go.Proofs.YtdkmmmjjdlnnoaaGreatDoor.Small (P.wills.getD k wl0).props/\(P.wills.getD k wl0).payload.size<=4611686018427387904) (hUO:∀ k,k < P.user.length->(P.user.getD k ⟨#[]⟩).size<=4611686018427387904) (hPOK:∀ k,k < P.pass.length->(P.pass.getD k ⟨#[]⟩).size<=4611686018427387904) (hc0:con0 q.client q.keep P.wills.length P.user.length P.pass.length=true) (hc1:con1 P.wills=true) (hc2:con2 P.user=true) (hu:P.user.length=1) (hl:¬ P.pass.length=1) (hk:P.kind=1) :
  Calls Tryz.prog 39 #[q.val] w fun e w'=>e=.returned (.bool (tlB P (conO q.client q.keep P.wills P.user P.pass) E))/\Below w.heap.size w w':=by
 have HEQ:=zh hEQ
 have HMX0:=zh hmx
 have HSM:=zh hsm
 have HRP:=zh hR.props
 have HQN:=zh hR.cnt.ns.1
 have HKP:=zh hR.sc.1
 have hW:=hR.wills
 have hU:=hR.user
 have hPs:=hR.pass
 obtain⟨wo,wc,hwv,⟨hw1,hw2⟩,hWS⟩:=hW
 obtain⟨uo,uc,huv,⟨hu1,hu2⟩,hUS⟩:=hU
 obtain⟨po,pc,hpv,⟨hp1,hp2⟩,hPS⟩:=hPs
 have HWV:=zh hwv
 have HUV:=zh huv
 have HPV:=zh hpv
 have HWS:=zh hWS
 have HUS:=zh hUS
 have HPS:=zh hPS
 have HWO:=zh hWO
 have HUO:=zh hUO
 clear hwv huv hpv hWS hUS hPS hWO hUO
 obtain⟨nw,hnw⟩:∃ n,n=P.wills.length:=⟨_,rfl⟩
 obtain⟨nu,hnu⟩:∃ n,n=P.user.length:=⟨_,rfl⟩
 obtain⟨np,hnp⟩:∃ n,n=P.pass.length:=⟨_,rfl⟩
 rw[<- hnw]at HWV hw1
 rw[<- hnu]at HUV hu1
 rw[<- hnp]at HPV hp1
 have HNW:=zh hnw
 have HNU:=zh hnu
 have HNP:=zh hnp
 clear hnw hnu hnp
 have HPOK:=zh hPOK
 clear hPOK
 have HC0:=zh hc0
 clear hc0
 have HC1:=zh hc1
 have HC2:=zh hc2
 have HHL:=zh hl
 have HHU:=zh hu
 clear hc1 hc2 hl hu
 have hk2:=hk
 rw[<- hR.sc.1]at hk2
 have HKK:=zh hk2
 have HSC:=zh hR
 clear hEQ hsm hR hk hk2
 have HPN:=zh (pk_new w q)
 have HMN:=zh (ms_new w q)
 have HX:Hid ((w.alloc (.cells q.cells.toArray 31)).heap.size=w.heap.size+1):=by show _=_;simp
 go_enter Tryz.func39,Tryz.ntmps39
 go_upto_region 1 with fail
 change Code.wp _ _ _ _ (w.alloc (.cells q.cells.toArray 31))
 generalize w.alloc (.cells q.cells.toArray 31)=wa at HPN HMN HX |-
 have c0:=(uh HPN).kind
 have c7:=(uh HPN).props
 iterate 13 go_step
 refine Go.Proofs.YtdkmmmjjdlnnoaaGreatDoor.wpList_value rfl (packet_build2 _ _ _ _ _ _ _ q rfl rfl _) ?_
 simp only[Act.put,List.setIfInBounds_toArray,List.set_cons_zero,List.set_cons_succ]
 refine Go.Proofs.YtdkmmmjjdlnnoaaGreatDoor.wpList_value rfl (mpacket_alloc _ _ _ _ _ _) ?_
 simp only[Act.put,List.setIfInBounds_toArray,List.set_cons_zero,List.set_cons_succ]
 refine Go.Proofs.YtdkmmmjjdlnnoaaGreatDoor.wpList_skip rfl (mpacket_store _ _ _ _ _ _ _ (xk q) wa rfl rfl) ?_
 simp only[Act.put]
 have HM:Hid (MS w (wa.alloc (.cells (xk q).cells.toArray 31)) w.heap.size wa.heap.size q (xk q)):=by rw[uh HX];exact uh HMN
 generalize wa.alloc (.cells (xk q).cells.toArray 31)=w1 at HM |-
 generalize wa.heap.size=X at HM |-
 generalize hBB:w.heap.size=B at HM |-
 have HBB:=zh hBB
 clear c0 c7 HPN HMN HX hBB
 have c0:=(uh HM).pb.kind
 rw[uh HKK]at c0
 go_wp2_with fail
 have HMd0:Hid (MS w w1.drew B X q (xk q)):=(uh HM).below (below_drewN (Below.refl _ _) 1)
 clear HM c0
 refine wp_region_noPanic ?_
 refine wp_region_held_drew (S:=(fun w'=>w'.cell? ⟨B,8,none⟩=some (.string q.client)/\w'.cell? ⟨B,9,none⟩=some (.bool q.clean)/\w'.cell? ⟨B,10,none⟩=some (.int .i64 q.keep)/\w'.cell? ⟨B,11,none⟩=some (q.wills.val)/\w'.cell? ⟨B,12,none⟩=some (q.user.val)/\w'.cell? ⟨B,13,none⟩=some (q.pass.val))) (by kernel_rfl) ⟨(uh HMd0).pb.client,(uh HMd0).pb.clean,(uh HMd0).pb.keep,(uh HMd0).pb.wills,(uh HMd0).pb.user,(uh HMd0).pb.pass⟩ (fun hHeld=>?_)
 generalize w1.drew=wd0 at HMd0 hHeld |-
 refine rtk 0 (h:=?_)
 refine rtk 1 (h:=?_)
 refine rtk 2 (h:=?_)
 refine rtk 3 (h:=?_)
 refine rtk 4 (h:=?_)
 refine rtk 5 (h:=?_)
 refine rtk 6 (h:=?_)
 refine rtk 7 (h:=?_)
 refine rtk 8 (h:=?_)
 refine rtk 9 (h:=?_)
 refine rtk 10 (h:=?_)
 refine rtk 11 (h:=?_)
 refine rtk 12 (h:=?_)
 have x8:=(uh HMd0).px.client
 have y8:=(uh HMd0).px.client_f
 have HMd1:=zh ((uh HMd0).wi_client q.client)
 refine rcl 13 (h:=fun K hK=>?_)
 go_simp
 refine hK.out _ _ ⟨(uh HMd1).pb.client,(uh HMd1).pb.clean,(uh HMd1).pb.keep,(uh HMd1).pb.wills,(uh HMd1).pb.user,(uh HMd1).pb.pass⟩ (fun hHeld=>?_)
 clear hK K x8 y8 HMd0
 generalize World.setCell _ ⟨X,8,none⟩ (.string q.client)=wd1 at HMd1 hHeld |-
 refine rtk 14 (h:=?_)
 have x9:=(uh HMd1).px.clean
 have y9:=(uh HMd1).px.clean_f
 have HMd2:=zh ((uh HMd1).wi_clean q.clean)
 refine rcl 15 (h:=fun K hK=>?_)
 go_simp
 refine hK.out _ _ ⟨(uh HMd2).pb.client,(uh HMd2).pb.clean,(uh HMd2).pb.keep,(uh HMd2).pb.wills,(uh HMd2).pb.user,(uh HMd2).pb.pass⟩ (fun hHeld=>?_)
 clear hK K x9 y9 HMd1
 generalize World.setCell _ ⟨X,9,none⟩ (.bool q.clean)=wd2 at HMd2 hHeld |-
 refine rtk 16 (h:=?_)
 have x10:=(uh HMd2).px.keep
 have y10:=(uh HMd2).px.keep_f
 have HMd3:=zh ((uh HMd2).wi_keep q.keep)
 refine rcl 17 (h:=fun K hK=>?_)
 go_simp
 refine hK.out _ _ ⟨(uh HMd3).pb.client,(uh HMd3).pb.clean,(uh HMd3).pb.keep,(uh HMd3).pb.wills,(uh HMd3).pb.user,(uh HMd3).pb.pass⟩ (fun hHeld=>?_)
 clear hK K x10 y10 HMd2
 generalize World.setCell _ ⟨X,10,none⟩ (.int .i64 q.keep)=wd3 at HMd3 hHeld |-
 refine rtk 18 (h:=?_)
 have x11:=(uh HMd3).px.wills
 have y11:=(uh HMd3).px.wills_f
 have HMd4:=zh ((uh HMd3).wi_wills q.wills)
 refine rcl 19 (h:=fun K hK=>?_)
 go_simp
 refine hK.out _ _ ⟨(uh HMd4).pb.client,(uh HMd4).pb.clean,(uh HMd4).pb.keep,(uh HMd4).pb.wills,(uh HMd4).pb.user,(uh HMd4).pb.pass⟩ (fun hHeld=>?_)
 clear hK K x11 y11 HMd3
 generalize World.setCell _ ⟨X,11,none⟩ (q.wills.val)=wd4 at HMd4 hHeld |-
 refine rtk 20 (h:=?_)
 have x12:=(uh HMd4).px.user
 have y12:=(uh HMd4).px.user_f
 have HMd5:=zh ((uh HMd4).wi_user q.user)
 refine rcl 21 (h:=fun K hK=>?_)
 go_simp
 refine hK.out _ _ ⟨(uh HMd5).pb.client,(uh HMd5).pb.clean,(uh HMd5).pb.keep,(uh HMd5).pb.wills,(uh HMd5).pb.user,(uh HMd5).pb.pass⟩ (fun hHeld=>?_)
 clear hK K x12 y12 HMd4
 generalize World.setCell _ ⟨X,12,none⟩ (q.user.val)=wd5 at HMd5 hHeld |-
 refine rtk 22 (h:=?_)
 have x13:=(uh HMd5).px.pass
 have y13:=(uh HMd5).px.pass_f
 have HMd6:=zh ((uh HMd5).wi_pass q.pass)
 refine rcl 23 (h:=fun K hK=>?_)
 go_simp
 refine hK.out _ _ ⟨(uh HMd6).pb.client,(uh HMd6).pb.clean,(uh HMd6).pb.keep,(uh HMd6).pb.wills,(uh HMd6).pb.user,(uh HMd6).pb.pass⟩ (fun hHeld=>?_)
 clear hK K x13 y13 HMd5
 generalize World.setCell _ ⟨X,13,none⟩ (q.pass.val)=wd6 at HMd6 hHeld |-
 refine wpAnyH_done (by kernel_rfl) ?_ _
 refine NoPanic.normal ?_
 have HM:=HMd6
 clear HMd6 hHeld
 have b8:=(uh HM).pb.client
 have b10:=(uh HM).pb.keep
 have b11:=(uh HM).pb.wills
 have b12:=(uh HM).pb.user
 have b13:=(uh HM).pb.pass
 rw[uh HWV]at b11
 rw[uh HUV]at b12
 rw[uh HPV]at b13
 obtain⟨HT,h1,h2,h3,h4,h5⟩:Hid (okT q.client=true)/\0<=q.keep/\q.keep<=65535/\nw<=1/\nu<=1/\np<=1:=by
  have k:=uh HC0
  rw[<- uh HNW,<- uh HNU,<- uh HNP]at k
  unfold con0 at k
  simp only[Bool.and_eq_true,decide_eq_true_iff]at k
  exact k
 go_wp2_with fail
 refine (gtext_any q.client true (uh HT) _ hcl).mono ?_
 rintro e w3 ⟨rfl,hb3⟩
 have HM3:=zh ((uh HM).below hb3)
 clear hb3 HM b8 b10 b11 b12 b13
 have HM:=HM3
 clear HM3
 have b8:=(uh HM).pb.client
 have b10:=(uh HM).pb.keep
 have b11:=(uh HM).pb.wills
 have b12:=(uh HM).pb.user
 have b13:=(uh HM).pb.pass
 rw[uh HWV]at b11
 rw[uh HUV]at b12
 rw[uh HPV]at b13
 obtain⟨kp,hkp⟩:∃ z,z=q.keep:=⟨_,rfl⟩
 rw[<- hkp]at b10 h1 h2
 clear hkp
 go_upto_if 72 with fail
 go_cut [4] from 8 (fun s4 wx=>s4=.bool true/\Hid (MS w wx B X q (((((((xk q).wi_client q.client).wi_clean q.clean).wi_keep q.keep).wi_wills q.wills).wi_user q.user).wi_pass q.pass)))
 case first =>
  by_cases hl:nw=1
  ·subst hl
   have h0l:0 < P.wills.length:=by rw[<- uh HNW];omega
   obtain⟨b,off,rfl,hat⟩:∃ b off,wo=some ⟨b,off,none⟩/\WlAt w b off P.wills:=by
    rcases uh HWS with e | k
    ·rw[e]at h0l;simp at h0l
    ·exact k
   have hat:=hat 0 h0l
   have hB:=(uh HM).bel
   obtain⟨ao,n,cap,⟨d0,d1,d2,d3,d4⟩,hpr,-⟩:=hat
   rw[Nat.zero_mul,Nat.add_zero]at d0 d1 d2 d3 d4
   have hbl:b < w.heap.size:=cell_lt d0
   have e0:=(hB.cell hbl).trans d0
   have e1:=(hB.cell hbl).trans d1
   have e2:=(hB.cell hbl).trans d2
   have e3:=(hB.cell hbl).trans d3
   have e4:=(hB.cell hbl).trans d4
   obtain⟨z1,z2,z3,z4⟩:=(uh HWO) 0 h0l
   have HZ3:=zh z3
   have HPR:=zh hpr
   have HCN:Hid (mwB (P.wills.getD 0 wl0)=con1 P.wills):=by show _=_;unfold con1;rw[if_pos (uh HNW).symm]
   generalize P.wills.getD 0 wl0=u at e0 e1 e2 e3 e4 z1 z2 z4 HZ3 HPR HCN
   clear d0 d1 d2 d3 d4 hpr z3 hB
   rw[uh HC1]at HCN
   obtain⟨hmw⟩:Nonempty (mwB u=true):=⟨uh HCN⟩
   have HMW:=zh hmw
   clear hmw
   go_wp2_with fail
   refine (mayWill_any u ao n cap _ ((uh HPR).below (uh HM).bel) z1 z2 (uh HZ3) z4).mono ?_
   rintro e w5 ⟨rfl,hb5⟩
   rw[uh HMW]
   have HM5:=zh ((uh HM).below hb5)
   clear hb5 HM
   have HM:=HM5
   clear HM5
   go_wp2
   go_meet
   case rel=>exact⟨rfl,HM⟩
  ·have hlb_nw:((nw:Int) == 1)=false:=beq_false_of_ne (by omega)
   clear hl
   go_wp2
   go_meet
   case rel=>exact⟨rfl,HM⟩
 case rest =>
  obtain⟨rfl,HMc⟩:=hcut
  clear HM b11 b12 b13
  have HM:=HMc
  clear HMc
  have b11:=(uh HM).pb.wills
  have b12:=(uh HM).pb.user
  have b13:=(uh HM).pb.pass
  rw[uh HWV]at b11
  rw[uh HUV]at b12
  rw[uh HPV]at b13
  have hlu:nu=1:=by rw[uh HNU];exact uh HHU
  subst hlu
  have h0l:0 < P.user.length:=by rw[<- uh HNU];omega
  obtain⟨b,off,rfl,hat⟩:∃ b off,uo=some ⟨b,off,none⟩/\∀ j,j < P.user.length->w.cell? ⟨b,off+j,none⟩=some (.string (P.user.getD j ⟨#[]⟩)):=by
   rcases uh HUS with e | k
   ·rw[e]at h0l;simp at h0l
   ·exact k
  have hat:=hat 0 h0l
  have hB:=(uh HM).bel
  have e0:=(hB.cell (cell_lt hat)).trans hat
  rw[Nat.add_zero]at e0
  have z1:=(uh HUO) 0 h0l
  have HCN:Hid (okT (P.user.getD 0 ⟨#[]⟩)=con2 P.user):=by show _=_;unfold con2;rw[if_pos (uh HNU).symm]
  generalize P.user.getD 0 ⟨#[]⟩=sv at e0 z1 HCN hat
  clear hat hB
  rw[uh HC2]at HCN
  have HMU:=HCN
  go_wp2_with fail
  refine (gtext_any sv true (uh HMU) _ z1).mono ?_
  rintro e w6 ⟨rfl,hb6⟩
  have HM6:=zh ((uh HM).below hb6)
  clear hb6 HM
  have HM:=HM6
  clear HM6
  have b11:=(uh HM).pb.wills
  have b12:=(uh HM).pb.user
  have b13:=(uh HM).pb.pass
  rw[uh HWV]at b11
  rw[uh HUV]at b12
  rw[uh HPV]at b13
  have hl:¬ np=1:=by rw[uh HNP];exact uh HHL
  have hlb:((np:Int) == 1)=false:=beq_false_of_ne (by omega)
  have HC3:Hid (con3 P.pass=true):=by show _=_;unfold con3;rw[if_neg (by rw[<- uh HNP];exact hl)]
  clear hl
  go_upto_region 55 with fail
  iterate 7 go_step
  refine mpList_wanted (by rfl) fun K hK=>wp_load_mid 31 _ rfl X 0 rfl (((((((xk q).wi_client q.client).wi_clean q.clean).wi_keep q.keep).wi_wills q.wills).wi_user q.user).wi_pass q.pass).cells _ (uh HM).px.range Tryz.underlying31 rfl packet_size (hK _ _ ?_)
  clear hK K
  simp only[Act.put,List.setIfInBounds_toArray,List.set_cons_zero,List.set_cons_succ]
  refine mpList_wanted (by rfl) fun K hK=>wp_load_mid 31 _ rfl B 0 rfl q.cells _ (uh HM).pb.range Tryz.underlying31 rfl packet_size (hK _ _ ?_)
  clear hK K
  simp only[Act.put,List.setIfInBounds_toArray,List.set_cons_zero,List.set_cons_succ]
  go_wp2_with fail
  refine ((uh HEQ) _ (uh HM).bel).mono ?_
  rintro e wz ⟨rfl,hbz⟩
  have HZ:=zh ((uh HM).below hbz)
  clear hbz HM
  have z0:=(uh HZ).pb.kind
  have z7:=(uh HZ).pb.props
  rw[show q.props.val=.slice q.props.ao q.props.n q.props.cap from rfl,uh HQN]at z7
  cases E
  ·have HR:Hid (tlB P (conO q.client q.keep P.wills P.user P.pass) false=false):=by show _=_;rw[show conO q.client q.keep P.wills P.user P.pass=true from by unfold conO;rw[uh HC0,uh HC1,uh HC2,uh HC3];rfl];rfl
   go_wp2
   go_ret
   exact⟨by rw[uh HR];rfl,(uh HZ).bel⟩
  ·by_cases hp0:P.props.length=0
   ·have HR:Hid (tlB P (conO q.client q.keep P.wills P.user P.pass) true=true):=by show _=_;rw[show conO q.client q.keep P.wills P.user P.pass=true from by unfold conO;rw[uh HC0,uh HC1,uh HC2,uh HC3];rfl];unfold tlB;rw[decide_eq_true hp0];rfl
    rw[hp0]at z7
    clear hp0
    go_wp2
    go_ret
    exact⟨by rw[uh HR];rfl,(uh HZ).bel⟩
   ·have HR:Hid (tlB P (conO q.client q.keep P.wills P.user P.pass) true=okP P.kind P.props):=by show _=_;rw[show conO q.client q.keep P.wills P.user P.pass=true from by unfold conO;rw[uh HC0,uh HC1,uh HC2,uh HC3];rfl];unfold tlB;rw[decide_eq_false hp0];rfl
    have hp1:((P.props.length:Int) == 0)=false:=beq_false_of_ne (by omega)
    clear hp0
    rw[uh HKP]at z0
    go_wp2_with fail
    refine (gprops_any _ P.props P.kind _ (by rw[<- uh HQN];exact (uh HRP).below (uh HZ).bel) hmx (uh HSM)).mono ?_
    rintro e wy ⟨rfl,hby⟩
    have HY:=zh ((uh HZ).below hby)
    clear hby HZ
    go_wp2
    go_ret
    exact⟨by rw[uh HR];rfl,(uh HY).bel⟩
theorem may_connE2 (q:Pkv) (P:Pa) (w:World) (hR:RPk w q P) (hmx:P.props.length<=1000000000) (hsm:Go.Proofs.YtdkmmmjjdlnnoaaGreatDoor.Small P.props) (E:Bool) (hEQ:∀ W,Below w.heap.size w W->Calls Tryz.prog 24 #[.agg (((((((xk q).wi_client q.client).wi_clean q.clean).wi_keep q.keep).wi_wills q.wills).wi_user q.user).wi_pass q.pass).cells.toArray,.agg q.cells.toArray] W fun e w'=>e=.returned (.bool E)/\Below W.heap.size W w') (hcl:q.client.size<=4611686018427387904) (hWO:∀ k,k < P.wills.length->(P.wills.getD k wl0).topic.size<=4611686018427387904/\(P.wills.getD k wl0).props.length<=1000000000/\Go.Proofs.YtdkmmmjjdlnnoaaGreatDoor.Small (P.wills.getD k wl0).props/\(P.wills.getD k wl0).payload.size<=4611686018427387904) (hUO:∀ k,k < P.user.length->(P.user.getD k ⟨#[]⟩).size<=4611686018427387904) (hPOK:∀ k,k < P.pass.length->(P.pass.getD k ⟨#[]⟩).size<=4611686018427387904) (hc0:con0 q.client q.keep P.wills.length P.user.length P.pass.length=true) (hc1:con1 P.wills=true) (hc2:con2 P.user=true) (hu:¬ P.user.length=1) (hl:¬ P.pass.length=1) (hk:P.kind=1) :
  Calls Tryz.prog 39 #[q.val] w fun e w'=>e=.returned (.bool (tlB P (conO q.client q.keep P.wills P.user P.pass) E))/\Below w.heap.size w w':=by
 have HEQ:=zh hEQ
 have HMX0:=zh hmx
 have HSM:=zh hsm
 have HRP:=zh hR.props
 have HQN:=zh hR.cnt.ns.1
 have HKP:=zh hR.sc.1
 have hW:=hR.wills
 have hU:=hR.user
 have hPs:=hR.pass
 obtain⟨wo,wc,hwv,⟨hw1,hw2⟩,hWS⟩:=hW
 obtain⟨uo,uc,huv,⟨hu1,hu2⟩,hUS⟩:=hU
 obtain⟨po,pc,hpv,⟨hp1,hp2⟩,hPS⟩:=hPs
 have HWV:=zh hwv
 have HUV:=zh huv
 have HPV:=zh hpv
 have HWS:=zh hWS
 have HUS:=zh hUS
 have HPS:=zh hPS
 have HWO:=zh hWO
 have HUO:=zh hUO
 clear hwv huv hpv hWS hUS hPS hWO hUO
 obtain⟨nw,hnw⟩:∃ n,n=P.wills.length:=⟨_,rfl⟩
 obtain⟨nu,hnu⟩:∃ n,n=P.user.length:=⟨_,rfl⟩
 obtain⟨np,hnp⟩:∃ n,n=P.pass.length:=⟨_,rfl⟩
 rw[<- hnw]at HWV hw1
 rw[<- hnu]at HUV hu1
 rw[<- hnp]at HPV hp1
 have HNW:=zh hnw
 have HNU:=zh hnu
 have HNP:=zh hnp
 clear hnw hnu hnp
 have HPOK:=zh hPOK
 clear hPOK
 have HC0:=zh hc0
 clear hc0
 have HC1:=zh hc1
 have HC2:=zh hc2
 have HHL:=zh hl
 have HHU:=zh hu
 clear hc1 hc2 hl hu
 have hk2:=hk
 rw[<- hR.sc.1]at hk2
 have HKK:=zh hk2
 have HSC:=zh hR
 clear hEQ hsm hR hk hk2
 have HPN:=zh (pk_new w q)
 have HMN:=zh (ms_new w q)
 have HX:Hid ((w.alloc (.cells q.cells.toArray 31)).heap.size=w.heap.size+1):=by show _=_;simp
 go_enter Tryz.func39,Tryz.ntmps39
 go_upto_region 1 with fail
 change Code.wp _ _ _ _ (w.alloc (.cells q.cells.toArray 31))
 generalize w.alloc (.cells q.cells.toArray 31)=wa at HPN HMN HX |-
 have c0:=(uh HPN).kind
 have c7:=(uh HPN).props
 iterate 13 go_step
 refine Go.Proofs.YtdkmmmjjdlnnoaaGreatDoor.wpList_value rfl (packet_build2 _ _ _ _ _ _ _ q rfl rfl _) ?_
 simp only[Act.put,List.setIfInBounds_toArray,List.set_cons_zero,List.set_cons_succ]
 refine Go.Proofs.YtdkmmmjjdlnnoaaGreatDoor.wpList_value rfl (mpacket_alloc _ _ _ _ _ _) ?_
 simp only[Act.put,List.setIfInBounds_toArray,List.set_cons_zero,List.set_cons_succ]
 refine Go.Proofs.YtdkmmmjjdlnnoaaGreatDoor.wpList_skip rfl (mpacket_store _ _ _ _ _ _ _ (xk q) wa rfl rfl) ?_
 simp only[Act.put]
 have HM:Hid (MS w (wa.alloc (.cells (xk q).cells.toArray 31)) w.heap.size wa.heap.size q (xk q)):=by rw[uh HX];exact uh HMN
 generalize wa.alloc (.cells (xk q).cells.toArray 31)=w1 at HM |-
 generalize wa.heap.size=X at HM |-
 generalize hBB:w.heap.size=B at HM |-
 have HBB:=zh hBB
 clear c0 c7 HPN HMN HX hBB
 have c0:=(uh HM).pb.kind
 rw[uh HKK]at c0
 go_wp2_with fail
 have HMd0:Hid (MS w w1.drew B X q (xk q)):=(uh HM).below (below_drewN (Below.refl _ _) 1)
 clear HM c0
 refine wp_region_noPanic ?_
 refine wp_region_held_drew (S:=(fun w'=>w'.cell? ⟨B,8,none⟩=some (.string q.client)/\w'.cell? ⟨B,9,none⟩=some (.bool q.clean)/\w'.cell? ⟨B,10,none⟩=some (.int .i64 q.keep)/\w'.cell? ⟨B,11,none⟩=some (q.wills.val)/\w'.cell? ⟨B,12,none⟩=some (q.user.val)/\w'.cell? ⟨B,13,none⟩=some (q.pass.val))) (by kernel_rfl) ⟨(uh HMd0).pb.client,(uh HMd0).pb.clean,(uh HMd0).pb.keep,(uh HMd0).pb.wills,(uh HMd0).pb.user,(uh HMd0).pb.pass⟩ (fun hHeld=>?_)
 generalize w1.drew=wd0 at HMd0 hHeld |-
 refine rtk 0 (h:=?_)
 refine rtk 1 (h:=?_)
 refine rtk 2 (h:=?_)
 refine rtk 3 (h:=?_)
 refine rtk 4 (h:=?_)
 refine rtk 5 (h:=?_)
 refine rtk 6 (h:=?_)
 refine rtk 7 (h:=?_)
 refine rtk 8 (h:=?_)
 refine rtk 9 (h:=?_)
 refine rtk 10 (h:=?_)
 refine rtk 11 (h:=?_)
 refine rtk 12 (h:=?_)
 have x8:=(uh HMd0).px.client
 have y8:=(uh HMd0).px.client_f
 have HMd1:=zh ((uh HMd0).wi_client q.client)
 refine rcl 13 (h:=fun K hK=>?_)
 go_simp
 refine hK.out _ _ ⟨(uh HMd1).pb.client,(uh HMd1).pb.clean,(uh HMd1).pb.keep,(uh HMd1).pb.wills,(uh HMd1).pb.user,(uh HMd1).pb.pass⟩ (fun hHeld=>?_)
 clear hK K x8 y8 HMd0
 generalize World.setCell _ ⟨X,8,none⟩ (.string q.client)=wd1 at HMd1 hHeld |-
 refine rtk 14 (h:=?_)
 have x9:=(uh HMd1).px.clean
 have y9:=(uh HMd1).px.clean_f
 have HMd2:=zh ((uh HMd1).wi_clean q.clean)
 refine rcl 15 (h:=fun K hK=>?_)
 go_simp
 refine hK.out _ _ ⟨(uh HMd2).pb.client,(uh HMd2).pb.clean,(uh HMd2).pb.keep,(uh HMd2).pb.wills,(uh HMd2).pb.user,(uh HMd2).pb.pass⟩ (fun hHeld=>?_)
 clear hK K x9 y9 HMd1
 generalize World.setCell _ ⟨X,9,none⟩ (.bool q.clean)=wd2 at HMd2 hHeld |-
 refine rtk 16 (h:=?_)
 have x10:=(uh HMd2).px.keep
 have y10:=(uh HMd2).px.keep_f
 have HMd3:=zh ((uh HMd2).wi_keep q.keep)
 refine rcl 17 (h:=fun K hK=>?_)
 go_simp
 refine hK.out _ _ ⟨(uh HMd3).pb.client,(uh HMd3).pb.clean,(uh HMd3).pb.keep,(uh HMd3).pb.wills,(uh HMd3).pb.user,(uh HMd3).pb.pass⟩ (fun hHeld=>?_)
 clear hK K x10 y10 HMd2
 generalize World.setCell _ ⟨X,10,none⟩ (.int .i64 q.keep)=wd3 at HMd3 hHeld |-
 refine rtk 18 (h:=?_)
 have x11:=(uh HMd3).px.wills
 have y11:=(uh HMd3).px.wills_f
 have HMd4:=zh ((uh HMd3).wi_wills q.wills)
 refine rcl 19 (h:=fun K hK=>?_)
 go_simp
 refine hK.out _ _ ⟨(uh HMd4).pb.client,(uh HMd4).pb.clean,(uh HMd4).pb.keep,(uh HMd4).pb.wills,(uh HMd4).pb.user,(uh HMd4).pb.pass⟩ (fun hHeld=>?_)
 clear hK K x11 y11 HMd3
 generalize World.setCell _ ⟨X,11,none⟩ (q.wills.val)=wd4 at HMd4 hHeld |-
 refine rtk 20 (h:=?_)
 have x12:=(uh HMd4).px.user
 have y12:=(uh HMd4).px.user_f
 have HMd5:=zh ((uh HMd4).wi_user q.user)
 refine rcl 21 (h:=fun K hK=>?_)
 go_simp
 refine hK.out _ _ ⟨(uh HMd5).pb.client,(uh HMd5).pb.clean,(uh HMd5).pb.keep,(uh HMd5).pb.wills,(uh HMd5).pb.user,(uh HMd5).pb.pass⟩ (fun hHeld=>?_)
 clear hK K x12 y12 HMd4
 generalize World.setCell _ ⟨X,12,none⟩ (q.user.val)=wd5 at HMd5 hHeld |-
 refine rtk 22 (h:=?_)
 have x13:=(uh HMd5).px.pass
 have y13:=(uh HMd5).px.pass_f
 have HMd6:=zh ((uh HMd5).wi_pass q.pass)
 refine rcl 23 (h:=fun K hK=>?_)
 go_simp
 refine hK.out _ _ ⟨(uh HMd6).pb.client,(uh HMd6).pb.clean,(uh HMd6).pb.keep,(uh HMd6).pb.wills,(uh HMd6).pb.user,(uh HMd6).pb.pass⟩ (fun hHeld=>?_)
 clear hK K x13 y13 HMd5
 generalize World.setCell _ ⟨X,13,none⟩ (q.pass.val)=wd6 at HMd6 hHeld |-
 refine wpAnyH_done (by kernel_rfl) ?_ _
 refine NoPanic.normal ?_
 have HM:=HMd6
 clear HMd6 hHeld
 have b8:=(uh HM).pb.client
 have b10:=(uh HM).pb.keep
 have b11:=(uh HM).pb.wills
 have b12:=(uh HM).pb.user
 have b13:=(uh HM).pb.pass
 rw[uh HWV]at b11
 rw[uh HUV]at b12
 rw[uh HPV]at b13
 obtain⟨HT,h1,h2,h3,h4,h5⟩:Hid (okT q.client=true)/\0<=q.keep/\q.keep<=65535/\nw<=1/\nu<=1/\np<=1:=by
  have k:=uh HC0
  rw[<- uh HNW,<- uh HNU,<- uh HNP]at k
  unfold con0 at k
  simp only[Bool.and_eq_true,decide_eq_true_iff]at k
  exact k
 go_wp2_with fail
 refine (gtext_any q.client true (uh HT) _ hcl).mono ?_
 rintro e w3 ⟨rfl,hb3⟩
 have HM3:=zh ((uh HM).below hb3)
 clear hb3 HM b8 b10 b11 b12 b13
 have HM:=HM3
 clear HM3
 have b8:=(uh HM).pb.client
 have b10:=(uh HM).pb.keep
 have b11:=(uh HM).pb.wills
 have b12:=(uh HM).pb.user
 have b13:=(uh HM).pb.pass
 rw[uh HWV]at b11
 rw[uh HUV]at b12
 rw[uh HPV]at b13
 obtain⟨kp,hkp⟩:∃ z,z=q.keep:=⟨_,rfl⟩
 rw[<- hkp]at b10 h1 h2
 clear hkp
 go_upto_if 72 with fail
 go_cut [4] from 8 (fun s4 wx=>s4=.bool true/\Hid (MS w wx B X q (((((((xk q).wi_client q.client).wi_clean q.clean).wi_keep q.keep).wi_wills q.wills).wi_user q.user).wi_pass q.pass)))
 case first =>
  by_cases hl:nw=1
  ·subst hl
   have h0l:0 < P.wills.length:=by rw[<- uh HNW];omega
   obtain⟨b,off,rfl,hat⟩:∃ b off,wo=some ⟨b,off,none⟩/\WlAt w b off P.wills:=by
    rcases uh HWS with e | k
    ·rw[e]at h0l;simp at h0l
    ·exact k
   have hat:=hat 0 h0l
   have hB:=(uh HM).bel
   obtain⟨ao,n,cap,⟨d0,d1,d2,d3,d4⟩,hpr,-⟩:=hat
   rw[Nat.zero_mul,Nat.add_zero]at d0 d1 d2 d3 d4
   have hbl:b < w.heap.size:=cell_lt d0
   have e0:=(hB.cell hbl).trans d0
   have e1:=(hB.cell hbl).trans d1
   have e2:=(hB.cell hbl).trans d2
   have e3:=(hB.cell hbl).trans d3
   have e4:=(hB.cell hbl).trans d4
   obtain⟨z1,z2,z3,z4⟩:=(uh HWO) 0 h0l
   have HZ3:=zh z3
   have HPR:=zh hpr
   have HCN:Hid (mwB (P.wills.getD 0 wl0)=con1 P.wills):=by show _=_;unfold con1;rw[if_pos (uh HNW).symm]
   generalize P.wills.getD 0 wl0=u at e0 e1 e2 e3 e4 z1 z2 z4 HZ3 HPR HCN
   clear d0 d1 d2 d3 d4 hpr z3 hB
   rw[uh HC1]at HCN
   obtain⟨hmw⟩:Nonempty (mwB u=true):=⟨uh HCN⟩
   have HMW:=zh hmw
   clear hmw
   go_wp2_with fail
   refine (mayWill_any u ao n cap _ ((uh HPR).below (uh HM).bel) z1 z2 (uh HZ3) z4).mono ?_
   rintro e w5 ⟨rfl,hb5⟩
   rw[uh HMW]
   have HM5:=zh ((uh HM).below hb5)
   clear hb5 HM
   have HM:=HM5
   clear HM5
   go_wp2
   go_meet
   case rel=>exact⟨rfl,HM⟩
  ·have hlb_nw:((nw:Int) == 1)=false:=beq_false_of_ne (by omega)
   clear hl
   go_wp2
   go_meet
   case rel=>exact⟨rfl,HM⟩
 case rest =>
  obtain⟨rfl,HMc⟩:=hcut
  clear HM b11 b12 b13
  have HM:=HMc
  clear HMc
  have b11:=(uh HM).pb.wills
  have b12:=(uh HM).pb.user
  have b13:=(uh HM).pb.pass
  rw[uh HWV]at b11
  rw[uh HUV]at b12
  rw[uh HPV]at b13
  have hlu:¬ nu=1:=by rw[uh HNU];exact uh HHU
  have hlb_nu:((nu:Int) == 1)=false:=beq_false_of_ne (by omega)
  clear hlu
  have hl:¬ np=1:=by rw[uh HNP];exact uh HHL
  have hlb:((np:Int) == 1)=false:=beq_false_of_ne (by omega)
  have HC3:Hid (con3 P.pass=true):=by show _=_;unfold con3;rw[if_neg (by rw[<- uh HNP];exact hl)]
  clear hl
  go_upto_region 55 with fail
  iterate 7 go_step
  refine mpList_wanted (by rfl) fun K hK=>wp_load_mid 31 _ rfl X 0 rfl (((((((xk q).wi_client q.client).wi_clean q.clean).wi_keep q.keep).wi_wills q.wills).wi_user q.user).wi_pass q.pass).cells _ (uh HM).px.range Tryz.underlying31 rfl packet_size (hK _ _ ?_)
  clear hK K
  simp only[Act.put,List.setIfInBounds_toArray,List.set_cons_zero,List.set_cons_succ]
  refine mpList_wanted (by rfl) fun K hK=>wp_load_mid 31 _ rfl B 0 rfl q.cells _ (uh HM).pb.range Tryz.underlying31 rfl packet_size (hK _ _ ?_)
  clear hK K
  simp only[Act.put,List.setIfInBounds_toArray,List.set_cons_zero,List.set_cons_succ]
  go_wp2_with fail
  refine ((uh HEQ) _ (uh HM).bel).mono ?_
  rintro e wz ⟨rfl,hbz⟩
  have HZ:=zh ((uh HM).below hbz)
  clear hbz HM
  have z0:=(uh HZ).pb.kind
  have z7:=(uh HZ).pb.props
  rw[show q.props.val=.slice q.props.ao q.props.n q.props.cap from rfl,uh HQN]at z7
  cases E
  ·have HR:Hid (tlB P (conO q.client q.keep P.wills P.user P.pass) false=false):=by show _=_;rw[show conO q.client q.keep P.wills P.user P.pass=true from by unfold conO;rw[uh HC0,uh HC1,uh HC2,uh HC3];rfl];rfl
   go_wp2
   go_ret
   exact⟨by rw[uh HR];rfl,(uh HZ).bel⟩
  ·by_cases hp0:P.props.length=0
   ·have HR:Hid (tlB P (conO q.client q.keep P.wills P.user P.pass) true=true):=by show _=_;rw[show conO q.client q.keep P.wills P.user P.pass=true from by unfold conO;rw[uh HC0,uh HC1,uh HC2,uh HC3];rfl];unfold tlB;rw[decide_eq_true hp0];rfl
    rw[hp0]at z7
    clear hp0
    go_wp2
    go_ret
    exact⟨by rw[uh HR];rfl,(uh HZ).bel⟩
   ·have HR:Hid (tlB P (conO q.client q.keep P.wills P.user P.pass) true=okP P.kind P.props):=by show _=_;rw[show conO q.client q.keep P.wills P.user P.pass=true from by unfold conO;rw[uh HC0,uh HC1,uh HC2,uh HC3];rfl];unfold tlB;rw[decide_eq_false hp0];rfl
    have hp1:((P.props.length:Int) == 0)=false:=beq_false_of_ne (by omega)
    clear hp0
    rw[uh HKP]at z0
    go_wp2_with fail
    refine (gprops_any _ P.props P.kind _ (by rw[<- uh HQN];exact (uh HRP).below (uh HZ).bel) hmx (uh HSM)).mono ?_
    rintro e wy ⟨rfl,hby⟩
    have HY:=zh ((uh HZ).below hby)
    clear hby HZ
    go_wp2
    go_ret
    exact⟨by rw[uh HR];rfl,(uh HY).bel⟩
theorem may_conn (q:Pkv) (P:Pa) (w:World) (hR:RPk w q P) (hmx:P.props.length<=1000000000) (hsm:Go.Proofs.YtdkmmmjjdlnnoaaGreatDoor.Small P.props) (E:Bool) (hEQ:∀ W,Below w.heap.size w W->Calls Tryz.prog 24 #[.agg (((((((xk q).wi_client q.client).wi_clean q.clean).wi_keep q.keep).wi_wills q.wills).wi_user q.user).wi_pass q.pass).cells.toArray,.agg q.cells.toArray] W fun e w'=>e=.returned (.bool E)/\Below W.heap.size W w') (hcl:q.client.size<=4611686018427387904) (hWO:∀ k,k < P.wills.length->(P.wills.getD k wl0).topic.size<=4611686018427387904/\(P.wills.getD k wl0).props.length<=1000000000/\Go.Proofs.YtdkmmmjjdlnnoaaGreatDoor.Small (P.wills.getD k wl0).props/\(P.wills.getD k wl0).payload.size<=4611686018427387904) (hUO:∀ k,k < P.user.length->(P.user.getD k ⟨#[]⟩).size<=4611686018427387904) (hPOK:∀ k,k < P.pass.length->(P.pass.getD k ⟨#[]⟩).size<=4611686018427387904) (hk:P.kind=1) :
  Calls Tryz.prog 39 #[q.val] w fun e w'=>e=.returned (.bool (tlB P (conO q.client q.keep P.wills P.user P.pass) E))/\Below w.heap.size w w':=by
 cases h0:con0 q.client q.keep P.wills.length P.user.length P.pass.length
 ·exact may_connA q P w hR hmx hsm E hEQ hcl hWO hUO hPOK h0 hk
 cases h1:con1 P.wills
 ·exact may_connB q P w hR hmx hsm E hEQ hcl hWO hUO hPOK h0 h1 hk
 cases h2:con2 P.user
 ·exact may_connC q P w hR hmx hsm E hEQ hcl hWO hUO hPOK h0 h1 h2 hk
 by_cases hu:P.user.length=1
 ·by_cases hl:P.pass.length=1
  ·exact may_connD1 q P w hR hmx hsm E hEQ hcl hWO hUO hPOK h0 h1 h2 hu hl hk
  ·exact may_connE1 q P w hR hmx hsm E hEQ hcl hWO hUO hPOK h0 h1 h2 hu hl hk
 ·by_cases hl:P.pass.length=1
  ·exact may_connD2 q P w hR hmx hsm E hEQ hcl hWO hUO hPOK h0 h1 h2 hu hl hk
  ·exact may_connE2 q P w hR hmx hsm E hEQ hcl hWO hUO hPOK h0 h1 h2 hu hl hk
theorem mayA_conn {w:World} {q:Pkv} {P:Pa} (hR:RPk w q P) (hM:Mid P) (hk:P.kind=1):Calls Tryz.prog 39 #[q.val] w fun e w'=>e=.returned (.bool (tlB P (conO P.client P.keep P.wills P.user P.pass) (empA P.no_clean.no_keep.no_props.no_client.no_wills.no_user.no_pass)))/\Below w.heap.size w w':=by
 have hB:=hM.big
 obtain⟨h0,h1,h2,h3,h4,h5,h6,h7,h8,h9,h10,h11⟩:=hR.sc
 have hx:RPk w (((((((xk q).wi_client q.client).wi_clean q.clean).wi_keep q.keep).wi_wills q.wills).wi_user q.user).wi_pass q.pass) (⟨P.kind,false,0,false,⟨#[]⟩,0,⟨#[]⟩,P.props,P.client,P.clean,P.keep,P.wills,P.user,P.pass,0,false,[],[],[]⟩:Pa):=⟨⟨h0,rfl,rfl,rfl,rfl,rfl,rfl,h7,h8,h9,rfl,rfl⟩,hR.props,hR.wills,hR.user,hR.pass,⟨none,0,rfl,⟨Nat.le_refl _,Nat.zero_le _⟩,.inl rfl⟩,⟨none,0,rfl,⟨Nat.le_refl _,Nat.zero_le _⟩,.inl rfl⟩,⟨none,0,rfl,⟨Nat.le_refl _,Nat.zero_le _⟩,.inl rfl⟩⟩
 have hs:Small (⟨P.kind,false,0,false,⟨#[]⟩,0,⟨#[]⟩,P.props,P.client,P.clean,P.keep,P.wills,P.user,P.pass,0,false,[],[],[]⟩:Pa):=⟨by have:=hB.lists;have:=hM.props;simp;try omega,by have:=hB.lists;simp;try omega,by have:=hB.lists;simp;try omega⟩
 have k:=may_conn q P w hR hM.props hB.props (empA P.no_clean.no_keep.no_props.no_client.no_wills.no_user.no_pass) (heq_of hx hR hs (only_conn P)) (by rw[h7];have:=hB.texts;omega) (fun k hk=>⟨(hB.wills k hk).1,(hM.wprops k hk).1,(hB.wills k hk).2.2,(hM.wprops k hk).2⟩) hB.user hM.pass hk
 rw[h7,h9]at k
 exact k
theorem gb_conn (q:Pkv) (l:List Pr) (w:World) (hP:Prp w q.props.val l) (hok:okP q.kind l=true) (L:List Int) (hC:∀ W:World,Below w.heap.size w W->Calls Tryz.prog 81 #[.agg q.cells.toArray] W (GPut L W)) (hk:q.kind=1):Calls Tryz.prog 40 #[q.val] w (GPut L w):=by
 have HCN:=zh hC
 clear hC
 obtain⟨hok1,h32⟩:=chkP0 (of_decide_eq_true hok)
 have hple:=pbs_le (of_decide_eq_true hok)
 have HPN:=zh (pk_new w q)
 have HB0:Hid (Below w.heap.size w (w.alloc (.cells q.cells.toArray 31))):=bal _ _
 have HBY:Hid (∀ W,Below w.heap.size w W->Calls Tryz.prog 83 #[.slice q.props.ao l.length q.props.cap] W (PutP (pbs l) W)):=fun W hW=>by
  have k:=rbytes_any q.props.val l q.kind W (hP.below hW) (by omega) hok1
  rw[show q.props.val=.slice q.props.ao q.props.n q.props.cap from rfl,prp_n hP]at k
  exact k
 have HTL:Hid (∀ W,Below w.heap.size w W->Calls Tryz.prog 86 #[.agg q.cells.toArray] W (GPut (gtl q.code l) W)):=fun W hW=>gtail_any q l q.kind W (hP.below hW) hok
 have HQN:=zh (prp_n hP)
 have HKK:=zh hk
 clear hP hok hok1 hk
 go_enter Tryz.func40,Tryz.ntmps40
 go_upto_region 1 with fail
 change Code.wp _ _ _ _ (w.alloc (.cells q.cells.toArray 31))
 have hsz:(w.alloc (.cells q.cells.toArray 31)).heap.size=w.heap.size+1:=by simp
 generalize w.alloc (.cells q.cells.toArray 31)=wa at HPN HB0 hsz |-
 have b0:=(uh HPN).kind
 rw[uh HKK]at b0
 go_upto_region 4 with fail
 go_step
 refine wpList_load_mid rfl 31 _ rfl w.heap.size 0 rfl q.cells _ (uh HPN).range Tryz.underlying31 rfl packet_size ?_
 simp only[Act.put,List.setIfInBounds_toArray,List.set_cons_zero,List.set_cons_succ]
 go_wp2_with fail
 refine ((uh HCN) _ (uh HB0)).mono ?_
 rintro e w1 ⟨v,rfl,hr,hb⟩
 have HR:=zh ((uh hr).mono (uh HB0).size)
 have HB:=zh (bnx2 (uh HB0) hb)
 obtain⟨va,vn,vc,rfl⟩:=(uh hr).form
 clear hr hb
 go_wp2
 go_ret
 exact⟨_,rfl,HR,uh HB⟩
theorem wills_rw {w:World} {t:Sl} {us:List Wl} (h:Wls w t.val us):∃ vs:List Wv,Rw w t 5 (wcs vs)/\vs.length=us.length/\∀ k,k < us.length->∃ s,vs[k]?=some ⟨(us.getD k wl0).topic,(us.getD k wl0).payload,(us.getD k wl0).qos,(us.getD k wl0).retain,s⟩:=by
 obtain⟨ao,cap,hv,hc,hcase⟩:=h
 obtain⟨ta,tn,tc⟩:=t
 simp only[Sl.val,Value.slice.injEq]at hv
 obtain⟨rfl,rfl,rfl⟩:=hv
 rcases hcase with rfl | ⟨b,off,rfl,hat⟩
 ·exact⟨[],⟨rfl,hc,.inl rfl⟩,rfl,fun k hk=>by simp at hk⟩
 have hs:∀ k,∃ s:Sl,k < us.length->w.cell? ⟨b,off+k * 5+4,none⟩=some s.val:=fun k=>by
  by_cases hk:k < us.length
  ·obtain⟨a,n,c,⟨_,_,_,_,h4⟩,_⟩:=hat k hk
   exact⟨⟨a,n,c⟩,fun _=>h4⟩
  ·exact⟨⟨none,0,0⟩,fun h=>absurd h hk⟩
 obtain⟨f,hf⟩:=Classical.skolem.1 hs
 refine⟨(List.range us.length).map fun k=>⟨(us.getD k wl0).topic,(us.getD k wl0).payload,(us.getD k wl0).qos,(us.getD k wl0).retain,f k⟩,⟨?_,hc,?_⟩,by simp,fun k hk=>⟨f k,by rw[List.getElem?_map,List.getElem?_range hk];rfl⟩⟩
 ·rw[wcs_length]
  simp
 ·refine .inr ⟨b,off,rfl,fun j hj=>?_⟩
  rw[wcs_length,List.length_map,List.length_range]at hj
  have hi:j / 5 < us.length:=by omega
  have e:=wcs_get ((List.range us.length).map fun k=>(⟨(us.getD k wl0).topic,(us.getD k wl0).payload,(us.getD k wl0).qos,(us.getD k wl0).retain,f k⟩:Wv)) (j / 5) ⟨(us.getD (j / 5) wl0).topic,(us.getD (j / 5) wl0).payload,(us.getD (j / 5) wl0).qos,(us.getD (j / 5) wl0).retain,f (j / 5)⟩ (by rw[List.getElem?_map,List.getElem?_range hi];rfl) (j % 5) (Nat.mod_lt _ (by decide))
  rw[show j / 5 * 5+j % 5=j from by omega]at e
  rw[e]
  obtain⟨a,n,c,⟨h0,h1,h2,h3,_⟩,_⟩:=hat (j / 5) hi
  have h4:=hf (j / 5) hi
  have hm:j % 5=0\/j % 5=1\/j % 5=2\/j % 5=3\/j % 5=4:=by omega
  rcases hm with m | m | m | m | m
  ·rw[show off+j=off+j / 5 * 5 from by omega,h0,m];rfl
  ·rw[show off+j=off+j / 5 * 5+1 from by omega,h1,m];rfl
  ·rw[show off+j=off+j / 5 * 5+2 from by omega,h2,m];rfl
  ·rw[show off+j=off+j / 5 * 5+3 from by omega,h3,m];rfl
  ·rw[show off+j=off+j / 5 * 5+4 from by omega,h4,m];rfl
theorem vs_map {vs:List Wv} {us:List Wl} (hl:vs.length=us.length) (h:∀ k,k < us.length->∃ s,vs[k]?=some ⟨(us.getD k wl0).topic,(us.getD k wl0).payload,(us.getD k wl0).qos,(us.getD k wl0).retain,s⟩):vs.map (fun u=>(u.qos,u.retain))=us.map (fun u=>(u.qos,u.retain)):=by
 apply List.ext_getElem (by simp[hl])
 intro i h1 h2
 rw[List.length_map]at h1 h2
 obtain⟨s,hs⟩:=h i h2
 rw[List.getElem?_eq_getElem h1]at hs
 have hs:=Option.some.inj hs
 rw[List.getElem_map,List.getElem_map,hs,List.getD_eq_getElem?_getD,List.getElem?_eq_getElem h2]
 rfl
theorem cfl_eq {vs:List Wv} {us:List Wl} (h:vs.map (fun u=>(u.qos,u.retain))=us.map (fun u=>(u.qos,u.retain))) (f:Int):vs.foldl cstep f=us.foldl cstepA f:=by
 have e1:vs.foldl cstep f=(vs.map (fun u=>(u.qos,u.retain))).foldl (fun f x=>bits .or .i64 f (bits .or .i64 (bits .or .i64 4 (fv x.2 32)) (IntKind.i64.wrap (x.1 * 8)))) f:=by rw[List.foldl_map];rfl
 have e2:us.foldl cstepA f=(us.map (fun u=>(u.qos,u.retain))).foldl (fun f x=>bits .or .i64 f (bits .or .i64 (bits .or .i64 4 (fv x.2 32)) (IntKind.i64.wrap (x.1 * 8)))) f:=by rw[List.foldl_map];rfl
 rw[e1,e2,h]
theorem call_eq {vs:List Wv} {us:List Wl} (h:vs.map (fun u=>(u.qos,u.retain))=us.map (fun u=>(u.qos,u.retain))):(vs.all fun u=>mq u.qos)=us.all fun u=>mq u.qos:=by
 have e1:(vs.all fun u=>mq u.qos)=(vs.map (fun u=>(u.qos,u.retain))).all fun x=>mq x.1:=by rw[List.all_map];rfl
 have e2:(us.all fun u=>mq u.qos)=(us.map (fun u=>(u.qos,u.retain))).all fun x=>mq x.1:=by rw[List.all_map];rfl
 rw[e1,e2,h]
theorem foldl_range (us:List Wl) (f:Int) (hf:-9223372036854775808<=f/\f<=9223372036854775807):-9223372036854775808<=us.foldl cstepA f/\us.foldl cstepA f<=9223372036854775807:=by
 induction us generalizing f with
 | nil=>exact hf
 | cons u r ih=>exact ih _ (or_range _ _)
theorem enc_conn {w:World} {q:Pkv} {P:Pa} (hR:RPk w q P) (hB:Big P) (hk:P.kind=1):Calls Tryz.prog 19 #[q.val] w (EncQ (fkA P).1 (fkA P).2 q.kind (eb P) w):=by
 have hc:=hR.cnt
 have hf:=hB.fit hc
 obtain⟨h0,h1,h2,h3,h4,h5,h6,h7,h8,h9,h10,h11⟩:=hc.sc
 obtain⟨n0,n1,n2,n3,n4,n5,n6⟩:=hc.ns
 have hL:=hB.lists
 have k:=hk
 rw[<- h0]at k
 obtain⟨vs,hrw,hvl,hvs⟩:=wills_rw hR.wills
 have hm:=vs_map hvl hvs
 have ef:cfl q.user.n q.pass.n q.clean vs=cflA P:=by
  unfold cfl cflA
  rw[cfl_eq hm,n2,n3,h8]
 have eo:cok q.user.n q.pass.n vs=cokA P:=by
  unfold cok cokA
  rw[call_eq hm,hvl,n2,n3]
 refine enc_core q q.no_clean.no_keep.no_props.no_client.no_wills.no_user.no_pass _ _ _ (6000000+P.wills.length * 6000000+P.user.length * 6000000+P.pass.length * 6000000) w (by omega) (fun W=>fk_any q P hc W) (fun w0 w1 W hb hQ=>?_)
 have e:=(hc.no_clean.no_keep.no_props.no_client.no_wills.no_user.no_pass).emp
 obtain⟨wo,wc,hwv,_,hWS⟩:=hR.wills.below hb
 obtain⟨uo,uc,huv,_,hUS⟩:=hR.user.below hb
 obtain⟨po,pc,hpv,_,hPS⟩:=hR.pass.below hb
 unfold eb
 rw[if_pos hk,<- e,<- ef,<- eo,<- h0,<- h9,<- h7]
 exact pk_conn hQ hf vs (hrw.below hb) P.props (hR.props.below hb) hB.lists.1 hB.props (by rw[h7];have:=hB.texts;omega) (by rw[h9];exact hB.nums.2.2.1) (by rw[n2];unfold maxLen;omega) (by rw[n3];unfold maxLen;omega)
  (by rw[ef];unfold cflA;exact foldl_range _ _ (or_range _ _)) P.wills _ rfl wo wc hwv hWS hB.wills P.user _ rfl uo uc huv hUS hB.user P.pass _ rfl po pc hpv hPS 6000000 (Nat.le_refl _) (by omega) k
theorem br_eb_1 {P:Pa} (h:P.kind=1) (X:Option (List Int)) (hX:(sConn P.kind (cflA P) P.keep (cokA P) P.props P.client P.wills P.user P.pass []).bind (sMust (empA P.no_clean.no_keep.no_props.no_client.no_wills.no_user.no_pass))=X):eb P=X:=by
 unfold eb
 rw[if_pos h]
 exact hX
theorem br_may_1 {P:Pa} (h:P.kind=1) (X:Bool) (hX:tlB P (conO P.client P.keep P.wills P.user P.pass) (empA P.no_clean.no_keep.no_props.no_client.no_wills.no_user.no_pass)=X):mayA P=X:=by
 unfold mayA
 rw[if_pos h]
 exact hX
theorem br_gb_1 {P:Pa} (h:P.kind=1) (X:List Int) (hX:((((((((tx gmq++[5])++[(gcf P.user.length P.pass.length P.clean+gwf P.wills) % 256])++b2 P.keep)++pbs P.props)++tx P.client)++P.wills.flatMap gwl)++P.user.flatMap tx)++P.pass.flatMap tx)=X):gbd P=X:=by
 unfold gbd
 rw[if_pos h]
 exact hX
theorem each_eq {α:Type} (f:α->List Int->Option (List Int)) (g:α->Bool) (h:α->List Int) (hf:∀ a t,f a t=if g a then some (t++h a) else none):∀ (l:List α) (t:List Int),sEach f l t=if l.all g then some (t++l.flatMap h) else none
 | [],t=>by simp[sEach]
 | a :: r,t=>by
  unfold sEach
  rw[hf,List.all_cons,List.flatMap_cons]
  cases g a
  ·rfl
  ·rw[if_pos rfl]
   show sEach f r (t++h a)=_
   rw[each_eq f g h hf r (t++h a),List.append_assoc]
   rfl
theorem tx_eq (s:ByteArray) (t:List Int):sTx s t=if okT s then some (t++tx s) else none:=rfl
def wOk (u:Wl):Bool:=okP 16 u.props && (okT u.topic && okB u.payload)
theorem will_eq (u:Wl) (t:List Int):sWill u t=if wOk u then some (t++gwl u) else none:=by
 unfold sWill wOk gwl sAdd
 cases okP 16 u.props <;> cases okT u.topic <;> cases okB u.payload <;> simp
theorem pass_eq (s:ByteArray) (t:List Int):sPass s t=if okB s then some (t++tx s) else none:=rfl
theorem con1_eq {ws:List Wl} (h:ws.length<=1):con1 ws=((ws.all fun u=>mq u.qos) && ws.all wOk):=by
 match ws,h with
 | [],_=>rfl
 | [u],_ =>
  show mwB u=_
  rw[List.all_cons,List.all_cons,List.all_nil,List.all_nil,Bool.and_true,Bool.and_true]
  unfold mwB wOk mq
  cases okT u.topic <;> cases okB u.payload <;> cases okP 16 u.props <;> simp
theorem con2_eq {us:List ByteArray} (h:us.length<=1):con2 us=us.all okT:=by
 match us,h with
 | [],_=>rfl
 | [u],_=>simp[con2]
theorem con3_eq {us:List ByteArray} (h:us.length<=1):con3 us=us.all okB:=by
 match us,h with
 | [],_=>rfl
 | [u],_=>simp[con3]
theorem cfl0_eq {nu np:Nat} (c:Bool) (h1:nu<=1) (h2:np<=1):cfl0 nu np c=gcf nu np c:=by
 obtain rfl | rfl:nu=0\/nu=1:=by omega
 all_goals obtain rfl | rfl:np=0\/np=1:=by omega
 all_goals cases c <;> decide
theorem cfl1_eq {nu np:Nat} (c:Bool) (h1:nu<=1) (h2:np<=1) (u:Wl) (h:mq u.qos=true):cstepA (cfl0 nu np c) u=gcf nu np c+(fv u.retain 32+8 * u.qos+4):=by
 unfold mq at h
 simp only[Bool.and_eq_true,decide_eq_true_eq]at h
 unfold cstepA
 generalize u.retain=r
 generalize u.qos=q at h |-
 obtain⟨h3,h4⟩:=h
 obtain rfl | rfl | rfl:q=0\/q=1\/q=2:=by omega
 all_goals obtain rfl | rfl:nu=0\/nu=1:=by omega
 all_goals obtain rfl | rfl:np=0\/np=1:=by omega
 all_goals cases c <;> cases r <;> decide
theorem cflA_eq {P:Pa} (h0:P.wills.length<=1) (h1:P.user.length<=1) (h2:P.pass.length<=1) (h:(P.wills.all fun u=>mq u.qos)=true):cflA P=gcf P.user.length P.pass.length P.clean+gwf P.wills/\in8 (gcf P.user.length P.pass.length P.clean+gwf P.wills)=true:=by
 unfold cflA
 have hr:=gcf_range P.user.length P.pass.length P.clean
 generalize P.wills=ws at h0 h
 match ws,h0,h with
 | [],_,_ =>
  refine⟨by rw[gwf,Int.add_zero];exact cfl0_eq _ h1 h2,?_⟩
  rw[gwf,Int.add_zero]
  unfold in8
  rw[decide_eq_true (by omega),decide_eq_true (by omega)]
  rfl
 | [u],_,h =>
  have hq:mq u.qos=true:=by simpa using h
  refine⟨cfl1_eq _ h1 h2 u hq,?_⟩
  have r:=fv_range u.retain 32 (by omega)
  unfold mq at hq
  simp only[Bool.and_eq_true,decide_eq_true_eq]at hq
  unfold gwf in8
  dsimp only
  rw[decide_eq_true (by omega),decide_eq_true (by omega)]
  rfl
theorem in16_keep (n:Int):in16 n=(decide (0<=n) && decide (n<=65535)):=by
 unfold in16
 rw[show decide (n < 65536)=decide (n<=65535) from decide_eq_decide.2 (by omega)]
theorem eb_1 {P:Pa} (h:P.kind=1):eb P=if mayA P then some (gbd P) else none:=by
 rw[br_eb_1 h _ rfl,br_may_1 h _ rfl,br_gb_1 h _ rfl,tlB_eq]
 generalize empA P.no_clean.no_keep.no_props.no_client.no_wills.no_user.no_pass=E
 unfold conO con0 cokA cok0 sConn sCon0
 by_cases hn:P.wills.length<=1/\P.user.length<=1/\P.pass.length<=1
 ·obtain⟨n1,n2,n3⟩:=hn
  rw[con1_eq n1,con2_eq n2,con3_eq n3,decide_eq_true n1,decide_eq_true n2,decide_eq_true n3,in16_keep,show okT mqtt=true from by decide,show in8 5=true from rfl]
  cases hq:P.wills.all fun u=>mq u.qos
  ·simp[sMust]
  ·obtain⟨f1,f2⟩:=cflA_eq n1 n2 n3 hq
   rw[f1,f2]
   generalize gcf P.user.length P.pass.length P.clean+gwf P.wills=F
   simp only[sMust,sAdd,Bool.and_true,Bool.true_and,if_true,Option.bind_some]
   cases h1:decide (0<=P.keep) && decide (P.keep<=65535)
   ·simp
   ·cases okP P.kind P.props
    ·simp[sAdd]
    cases okT P.client
    ·simp[sAdd]
    simp only[sAdd,Bool.and_true,Bool.true_and,if_true,Option.bind_some,each_eq sWill wOk gwl will_eq]
    cases P.wills.all wOk
    ·simp
    simp only[Bool.true_and,if_true,Option.bind_some,each_eq sTx okT tx tx_eq]
    cases P.user.all okT
    ·simp
    simp only[Bool.true_and,if_true,Option.bind_some,each_eq sPass okB tx pass_eq]
    cases P.pass.all okB
    ·simp
    cases E
    ·simp[sMust]
    simp[sMust]
    rfl
 ·have e1:(decide (P.wills.length<=1) && decide (P.user.length<=1) && decide (P.pass.length<=1))=false:=by
   rw[Bool.eq_false_iff]
   intro k
   simp only[Bool.and_eq_true,decide_eq_true_eq]at k
   exact hn ⟨k.1.1,k.1.2,k.2⟩
  have e2:(decide (P.wills.length<=1) && (decide (P.user.length<=1) && decide (P.pass.length<=1)))=false:=by rw[<- Bool.and_assoc];exact e1
  rw[e1,e2]
  simp[sMust]
def PgS (w0:GW) (R:Nat) (f:List Int->Option (ByteArray×List Int)) (st:Option (List Int)) (w:World) (e:Ending) (w':World):Prop :=
 ∃ x st',e=.returned (.string x)/\Stp f st x st'/\RP w0 w' R st'/\BX R isAny w w'
theorem text_pg (R:Nat) (st:Option (List Int)) (w0:GW) (w:World) (h:RP w0 w R st):Calls Tryz.prog 102 #[.pointer (some ⟨R,0,none⟩)] w (PgS w0 R text? st w):=by
 have hlt:=h.lt
 have hR0:w0.heap.size<=R:=by obtain⟨_,_,_,_,_,_,_,_,_,_,_,h,_⟩:=h;exact h
 have hw0:Below w0.heap.size w0 w:=by obtain⟨_,_,_,_,_,_,_,_,_,_,h,_⟩:=h;exact h
 have HS:=zh h
 have HW0:=zh hw0
 clear h hw0
 go_enter Tryz.func102,Tryz.ntmps102
 go_wp2_with fail
 refine (left_pg R st w0 w (uh HS)).mono ?_
 rintro e w1 ⟨v,l,rfl,hv,he1,he2,hb1⟩
 have HW1:Hid (Below w0.heap.size w0 w1):=(uh HW0).trans (hb1.mono (uh HW0).size)
 obtain⟨n,hN,hn,_⟩:=gt_len l (uh hv).range
 have HG:=zh (rget_any v l w1 ((uh hv).below (uh HW1)))
 rw[hN]at HG
 have HS1:=zh ((uh HS).below hb1)
 have HB1:=zh hb1
 have HE1:=zh he1
 have HQ:Hid (text? l=if (gt l).2.2=0 then some ((gt l).1,l.drop n) else none):=by
  show text? l=_
  unfold text?
  rw[hN,Int.toNat_natCast]
 clear hb1 he1 he2 hN
 generalize (gt l).1=x at HG HQ
 generalize (gt l).2.2=m at HG HQ
 go_wp2_with fail
 refine (uh HG).mono ?_
 rintro e w2 ⟨rfl,hb2⟩
 have HS2:=zh ((uh HS1).below hb2)
 have HB2:Hid (Below w.heap.size w w2):=(uh HB1).trans (hb2.mono (uh HB1).size)
 clear hb2
 go_wp2_with fail
 refine (took_pg R st n m w0 w2 (uh HS2) (fun l' e=>by rw[(uh HE1) l' e];exact hn)).mono ?_
 rintro e w3 ⟨rfl,h3,hx3⟩
 have HS3:=zh h3
 have HX3:=zh hx3
 clear h3 hx3
 go_wp2
 go_ret
 refine⟨x,_,rfl,?_,uh HS3,(BX.of_below (uh HB2) hlt).trans (uh HX3)⟩
 cases st with
 | none =>
  show (if m=0 then _ else _)=none
  split <;> rfl
 | some l' =>
  have e:=(uh HE1) l' rfl
  subst e
  exact stp_get text? (some l') l' x n m (.inl rfl) (uh HQ)
theorem bin_pg (R:Nat) (st:Option (List Int)) (w0:GW) (w:World) (h:RP w0 w R st):Calls Tryz.prog 141 #[.pointer (some ⟨R,0,none⟩)] w (PgS w0 R bin? st w):=by
 have hlt:=h.lt
 have hR0:w0.heap.size<=R:=by obtain⟨_,_,_,_,_,_,_,_,_,_,_,h,_⟩:=h;exact h
 have hw0:Below w0.heap.size w0 w:=by obtain⟨_,_,_,_,_,_,_,_,_,_,h,_⟩:=h;exact h
 have HS:=zh h
 have HW0:=zh hw0
 clear h hw0
 go_enter Tryz.func141,Tryz.ntmps141
 go_wp2_with fail
 refine (left_pg R st w0 w (uh HS)).mono ?_
 rintro e w1 ⟨v,l,rfl,hv,he1,he2,hb1⟩
 have HW1:Hid (Below w0.heap.size w0 w1):=(uh HW0).trans (hb1.mono (uh HW0).size)
 obtain⟨n,hN,hn,_⟩:=gbn_len l (uh hv).range
 have HG:=zh (rgetBin_any v l w1 ((uh hv).below (uh HW1)))
 rw[hN]at HG
 have HS1:=zh ((uh HS).below hb1)
 have HB1:=zh hb1
 have HE1:=zh he1
 have HQ:Hid (bin? l=if (gbn l).2.2=0 then some ((gbn l).1,l.drop n) else none):=by
  show bin? l=_
  unfold bin?
  rw[hN,Int.toNat_natCast]
 clear hb1 he1 he2 hN
 generalize (gbn l).1=x at HG HQ
 generalize (gbn l).2.2=m at HG HQ
 go_wp2_with fail
 refine (uh HG).mono ?_
 rintro e w2 ⟨rfl,hb2⟩
 have HS2:=zh ((uh HS1).below hb2)
 have HB2:Hid (Below w.heap.size w w2):=(uh HB1).trans (hb2.mono (uh HB1).size)
 clear hb2
 go_wp2_with fail
 refine (took_pg R st n m w0 w2 (uh HS2) (fun l' e=>by rw[(uh HE1) l' e];exact hn)).mono ?_
 rintro e w3 ⟨rfl,h3,hx3⟩
 have HS3:=zh h3
 have HX3:=zh hx3
 clear h3 hx3
 go_wp2
 go_ret
 refine⟨x,_,rfl,?_,uh HS3,(BX.of_below (uh HB2) hlt).trans (uh HX3)⟩
 cases st with
 | none =>
  show (if m=0 then _ else _)=none
  split <;> rfl
 | some l' =>
  have e:=(uh HE1) l' rfl
  subst e
  exact stp_get bin? (some l') l' x n m (.inl rfl) (uh HQ)
theorem pair_pg (R:Nat) (st:Option (List Int)) (w0:GW) (w:World) (h:RP w0 w R st):Calls Tryz.prog 103 #[.pointer (some ⟨R,0,none⟩)] w (PgI w0 R 65535 two? st w):=by
 have HS:=zh h
 clear h
 go_enter Tryz.func103,Tryz.ntmps103
 go_wp2_with fail
 refine (byte_pg R st w0 w (uh HS)).mono ?_
 rintro e w1 ⟨x,st1,rfl,hx,hs1,h1,hx1⟩
 have HS1:=zh h1
 have HX1:=zh hx1
 have HST1:=zh hs1
 clear h1 hx1 hs1
 go_wp2_with fail
 refine (byte_pg R st1 w0 w1 (uh HS1)).mono ?_
 rintro e w2 ⟨y,st2,rfl,hy,hs2,h2,hx2⟩
 have HS2:=zh h2
 have HX2:=zh hx2
 have HST2:=zh hs2
 have e1:=K.or_256 x y hx.1 (by omega) hy.1 (by omega)
 clear h2 hx2 hs2
 go_wp2
 go_ret
 refine⟨x * 256+y,st2,rfl,by omega,?_,uh HS2,(uh HX1).trans (uh HX2)⟩
 have k:Stp (bindR one? fun x=>bindR one? fun y=>pureR (x * 256+y)) st (x * 256+y) st2:=(uh HST1).bind ((uh HST2).bind (Stp.pure _ _))
 refine Stp.congr (fun l=>?_) k
 match l with
 | []=>rfl
 | [_]=>rfl
 | _ :: _ :: _=>rfl
theorem B2.setR {R A:Nat} {a b:World} (h:B2 R A a b) (j:Nat) (u:Value):B2 R A a (b.setCell ⟨R,j,none⟩ u) :=
 h.trans ⟨rfl,rfl,rfl,by simp[World.setCell],fun k _ hR _=>Below.heap_setCell _ _ _ _ hR⟩
theorem B2.setOut {R A:Nat} {a b:World} (h:B2 R A a b) (V j:Nat) (u:Value) (hV:a.heap.size<=V):B2 R A a (b.setCell ⟨V,j,none⟩ u) :=
 ⟨h.os,h.tape,h.output,by simpa [World.setCell] using h.size,fun k hk h1 h2=>(Below.heap_setCell _ _ _ _ (by show k≠V;omega)).trans (h.block k hk h1 h2)⟩
def okF (x:Int):Bool:=!((bits .and .i64 x 1 != 0) || ((bits .and .i64 x 4 == 0) && (bits .and .i64 x 56 != 0)) || (bits .and .i64 x 24 == 24))
def connectP?:List Int->Option (Cn×List Int) :=
 bindR text? fun m=>bindR (mustR (isMQTT m)) fun _=>bindR one? fun v=>bindR (mustR (v == 5)) fun _=>bindR one? fun x=>bindR two? fun k=>bindR (props? 1) fun pr=>bindR text? fun c =>
  bindR (mustR (cfok x)) fun _=>bindR (will? x) fun wl=>bindR (user? x) fun us=>bindR (pass? x) fun pa=>pureR ⟨x,k,pr,c,wl,us,pa⟩
def restC (x k:Int) (pr:List Pr) (c:ByteArray):List Int->Option (Cn×List Int):=bindR (mustR (cfok x)) fun _=>bindR (will? x) fun wl=>bindR (user? x) fun us=>bindR (pass? x) fun pa=>pureR ⟨x,k,pr,c,wl,us,pa⟩
def cn0:Cn:=⟨0,0,[],⟨#[]⟩,none,none,none⟩
def ConnPg (w0:GW) (R A:Nat) (P:Pa) (st:Option (List Int)) (w:World) (e:Ending) (w':World):Prop :=
 e=.returned (.tuple #[])/\∃ (p':Pkv) (n:Cn) (st':Option (List Int)),Pk w' A p'/\Stp connectP? st n st'/\RP w0 w' R st'/\B2 R A w w'/\(st'=none\/Hid (Mean w' w.heap.size p' (ofCn P n)))
theorem okF_is (x:Int) (h0:0<=x) (h1:x<=255):okF x=cfok x:=byte_cases (P:=fun x=>okF x=cfok x) (by decide +kernel) x h0 h1
theorem bind_none' {α β:Type} (o:Option α):(o.bind fun _=>(none:Option β))=none:=by cases o <;> rfl
theorem connectP_eq (l:List Int):connectP? l=connect? l:=by
 unfold connectP? connect? flags?
 simp only[bindR,mustR,pureR]
 cases text? l with
 | none=>rfl
 | some a =>
  simp only[Option.bind_some]
  cases isMQTT a.1
  ·rfl
  ·simp only[if_true,Option.bind_some]
   cases one? a.2 with
   | none=>rfl
   | some b =>
    simp only[Option.bind_some]
    cases (b.1 == 5)
    ·rfl
    ·simp only[if_true,Option.bind_some]
     cases one? b.2 with
     | none=>rfl
     | some x =>
      simp only[Option.bind_some]
      cases cfok x.1
      ·simp only[Bool.false_eq_true,if_false,Option.bind_none,bind_none']
      ·simp only[if_true,Option.bind_some]
theorem new_row {w:World} {A j:Nat} {u:Value} {B:Nat} {e:TypeId} {s:Nat} {c:Array Value} {l:List Value} (hA:A < w.heap.size) (hB:B<=w.heap.size) (hc:c.toList=l) (hs:l.length=s):((w.alloc (.cells c e)).setCell ⟨A,j,none⟩ u).ownsRow B e s (Sl.val ⟨some ⟨w.heap.size,0,none⟩,1,1⟩) 1 l:=by
 subst hc hs
 refine⟨by simp,.inr ⟨w.heap.size,1,c,rfl,hB,(Below.heap_setCell _ _ _ _ (by show _≠A;omega)).trans Array.getElem?_push_size,Nat.le_refl _,by unfold maxLen;simp,by simp,by simp;exact List.take_of_length_le (by simp)⟩⟩
theorem Stp.not {st:Option (List Int)} {b:Bool} (h:b=false):Stp (mustR b) st () none:=by subst h;cases st <;> rfl
theorem connect_pg (R A:Nat) (d:Bool) (q:Int) (r:Bool) (st:Option (List Int)) (w0:GW) (w:World) (h:RP w0 w R st) (hp:Pk w A (pk0 1 d q r)) (hA:A≠R) (hA0:w0.heap.size<=A):Calls Tryz.prog 99 #[.pointer (some ⟨R,0,none⟩),.pointer (some ⟨A,0,none⟩)] w (ConnPg w0 R A (pa0 1 d q r) st w):=by
 have hRw:=h.lt
 have hAw:=hp.lt
 have hw0:=h.keep.size
 have HP:=zh hp
 have HS:=zh h
 clear hp h
 go_enter Tryz.func99,Tryz.ntmps99
 go_wp2_with fail
 refine (text_pg R st w0 w (uh HS)).mono ?_
 rintro e w1 ⟨m,st1,rfl,hs1,h1,hx1⟩
 have HP1:=zh ((uh HP).oth hx1 hA)
 have HS1:=zh h1
 have HST1:=zh hs1
 have HB1:Hid (B2 R A w w1):=B2.bx hx1
 clear h1 hx1 hs1 HP HS
 cases hm:isMQTT m
 ·obtain⟨bb,c2,f2,_⟩:=(uh HS1).c2
  have HM:=zh hm
  have hm2:(m.toList == [77,81,84,84])=false:=hm
  clear hm
  go_wp2
  go_end0
  exact⟨rfl,_,cn0,none,(uh HP1).blk (Below.heap_setCell _ _ _ _ hA),(uh HST1).bind ((Stp.not (uh HM)).bind rfl),(uh HS1).bad,(uh HB1).setR 2 _,.inl rfl⟩
 have HM:=zh hm
 have hm2:(m.toList == [77,81,84,84])=true:=hm
 clear hm
 go_wp2_with fail
 refine (byte_pg R st1 w0 w1 (uh HS1)).mono ?_
 rintro e w2 ⟨v,st2,rfl,hv,hs2,h2,hx2⟩
 have HP2:=zh ((uh HP1).oth hx2 hA)
 have HS2:=zh h2
 have HST2:Hid (∀ n st',Stp (bindR (mustR (v == 5)) fun _=>bindR one? fun x=>bindR two? fun k=>bindR (props? 1) fun pr=>bindR text? fun c=>restC x k pr c) st2 n st'->Stp connectP? st n st'):=fun n st' k=>(uh HST1).bind ((Stp.yes (uh HM)).bind (hs2.bind k))
 have HB2:Hid (B2 R A w w2):=(uh HB1).trans (B2.bx hx2)
 clear h2 hx2 hs2 HP1 HS1 HST1 HB1 HM hm2
 cases hv5:(v == 5)
 ·obtain⟨bb,c2,f2,_⟩:=(uh HS2).c2
  have HV:=zh hv5
  go_wp2
  go_end0
  exact⟨rfl,_,cn0,none,(uh HP2).blk (Below.heap_setCell _ _ _ _ hA),(uh HST2) _ _ ((Stp.not (uh HV)).bind rfl),(uh HS2).bad,(uh HB2).setR 2 _,.inl rfl⟩
 have HV:=zh hv5
 go_wp2_with fail
 refine (byte_pg R st2 w0 w2 (uh HS2)).mono ?_
 rintro e w3 ⟨x,st3,rfl,hx,hs3,h3,hx3⟩
 have hp3:=(uh HP2).oth hx3 hA
 have c9:=hp3.clean
 have f9:=hp3.clean_f
 have HP3:=zh (hp3.set_clean (btest x 2))
 have HS3:=zh (h3.set A 9 (.bool (btest x 2)) hA hA0)
 have HST3:Hid (∀ n st',Stp (bindR two? fun k=>bindR (props? 1) fun pr=>bindR text? fun c=>restC x k pr c) st3 n st'->Stp connectP? st n st'):=fun n st' k=>(uh HST2) n st' ((Stp.yes (uh HV)).bind (hs3.bind k))
 have HB3:Hid (B2 R A w (w3.setCell ⟨A,9,none⟩ (.bool (btest x 2)))):=((uh HB2).trans (B2.bx hx3)).set 9 _
 have b2:=and2 x hx.1 hx.2
 clear h3 hx3 hs3 hp3 HP2 HS2 HST2 HB2 HV hv5 hv
 go_wp2_with fail
 refine (pair_pg R st3 w0 _ (uh HS3)).mono ?_
 rintro e w4 ⟨k,st4,rfl,hk,hs4,h4,hx4⟩
 have hp4:=(uh HP3).oth hx4 hA
 have c10:=hp4.keep
 have f10:=hp4.keep_f
 have HP4:=zh (hp4.set_keep k)
 have HS4:=zh (h4.set A 10 (.int .i64 k) hA hA0)
 have HST4:Hid (∀ n st',Stp (bindR (props? 1) fun pr=>bindR text? fun c=>restC x k pr c) st4 n st'->Stp connectP? st n st'):=fun n st' k=>(uh HST3) n st' (hs4.bind k)
 have HB4:Hid (B2 R A w (w4.setCell ⟨A,10,none⟩ (.int .i64 k))):=((uh HB3).trans (B2.bx hx4)).set 10 _
 clear h4 hx4 hs4 hp4 HP3 HS3 HST3 HB3 c9 f9 b2 hk
 go_wp2_with fail
 refine (props_pg R 1 st4 w0 _ (uh HS4)).mono ?_
 rintro e w5 ⟨tp,pr,st5,rfl,hO5,hs5,h5,hx5⟩
 have hp5:=(uh HP4).oth hx5 hA
 have c7:=hp5.props
 have f7:=hp5.props_f
 have HP5:=zh (hp5.set_props tp)
 have HS5:=zh (h5.set A 7 tp.val hA hA0)
 have HST5:Hid (∀ n st',Stp (bindR text? fun c=>restC x k pr c) st5 n st'->Stp connectP? st n st'):=fun n st' k=>(uh HST4) n st' (hs5.bind k)
 have HB5:Hid (B2 R A w (w5.setCell ⟨A,7,none⟩ tp.val)):=((uh HB4).trans (B2.bx hx5)).set 7 _
 have HO5:Hid ((w5.setCell ⟨A,7,none⟩ tp.val).ownsRow w.heap.size 88 4 tp.val pr.length (pcs pr)):=owns_mono (owns_b2 (R:=R) (uh hO5) ((B2.refl R A w5).set 7 _) (Nat.lt_of_lt_of_le hRw (uh HB4).size) (Nat.lt_of_lt_of_le hAw (uh HB4).size)) (uh HB4).size
 clear h5 hx5 hs5 hp5 hO5 HP4 HS4 HST4 HB4 c10 f10
 go_wp2_with fail
 refine (text_pg R st5 w0 _ (uh HS5)).mono ?_
 rintro e w6 ⟨c,st6,rfl,hs6,h6,hx6⟩
 have hp6:=(uh HP5).oth hx6 hA
 have c8:=hp6.client
 have f8:=hp6.client_f
 have HP6:=zh (hp6.set_client c)
 have HS6:=zh (h6.set A 8 (.string c) hA hA0)
 have HST6:Hid (∀ n st',Stp (restC x k pr c) st6 n st'->Stp connectP? st n st'):=fun n st' k=>(uh HST5) n st' (hs6.bind k)
 have HB6:Hid (B2 R A w (w6.setCell ⟨A,8,none⟩ (.string c))):=((uh HB5).trans (B2.bx hx6)).set 8 _
 have HO6:Hid ((w6.setCell ⟨A,8,none⟩ (.string c)).ownsRow w.heap.size 88 4 tp.val pr.length (pcs pr)):=owns_b2 (R:=R) (A:=A) (uh HO5) ((B2.bx hx6).set 8 _) hRw hAw
 clear h6 hx6 hs6 hp6 HP5 HS5 HST5 HB5 HO5 c7 f7
 go_upto_region 7 with fail
 generalize w6.setCell ⟨A,8,none⟩ (.string c)=wq at HP6 HS6 HB6 HO6 |-
 clear c8 f8
 go_cut [57] from 6 (fun s57 wx=>s57=.bool (!okF x)/\wx=wq)
 case first =>
  cases h1:(bits .and .i64 x 1 != 0)
  ·cases h4:(bits .and .i64 x 4 == 0)
   ·cases h24:(bits .and .i64 x 24 == 24)
    ·go_wp2
     go_meet
     case rel=>exact⟨by unfold okF;rw[h1,h4,h24];rfl,rfl⟩
    ·go_wp2
     go_meet
     case rel=>exact⟨by unfold okF;rw[h1,h4,h24];rfl,rfl⟩
   ·cases h56:(bits .and .i64 x 56 != 0)
    ·cases h24:(bits .and .i64 x 24 == 24)
     ·go_wp2
      go_meet
      case rel=>exact⟨by unfold okF;rw[h1,h4,h56,h24];rfl,rfl⟩
     ·go_wp2
      go_meet
      case rel=>exact⟨by unfold okF;rw[h1,h4,h56,h24];rfl,rfl⟩
    ·go_wp2
     go_meet
     case rel=>exact⟨by unfold okF;rw[h1,h4,h56];simp,rfl⟩
  ·go_wp2
   go_meet
   case rel=>exact⟨by unfold okF;rw[h1];simp,rfl⟩
 case rest =>
 obtain⟨rfl,hwq⟩:=hcut
 obtain rfl:wc=wq:=hwq
 obtain⟨wq,hwq⟩:∃ wq,wq=wc:=⟨_,rfl⟩
 subst hwq
 cases hok:okF x
 ·obtain⟨bb,c2,f2,_⟩:=(uh HS6).c2
  have HV:Hid (cfok x=false):=(okF_is x hx.1 hx.2).symm.trans hok
  go_wp2
  go_end0
  exact⟨rfl,_,cn0,none,(uh HP6).blk (Below.heap_setCell _ _ _ _ hA),(uh HST6) _ _ ((Stp.not (uh HV)).bind rfl),(uh HS6).bad,(uh HB6).setR 2 _,.inl rfl⟩
 have HOK:Hid (cfok x=true):=(okF_is x hx.1 hx.2).symm.trans hok
 have hRq:R < wq.heap.size:=(uh HS6).lt
 have hwqs:w.heap.size<=wq.heap.size:=(uh HB6).size
 have hAq:A < wq.heap.size:=(uh HP6).lt
 have h0q:w0.heap.size<=wq.heap.size:=(uh HS6).keep.size
 have b4:=and4 x hx.1 hx.2
 have b32:=and32 x hx.1 hx.2
 have b64:=and64 x hx.1 hx.2
 have b128:=and128 x hx.1 hx.2
 have b3:=shq x hx.1 hx.2
 clear hok
 go_upto_if 63 with fail
 go_cut [] from 5 (fun wx=>∃ (wl:Option (List Pr×ByteArray×ByteArray)) (tw:Sl) (st7:Option (List Int)),Hid (Stp (will? x) st6 wl st7)/\Hid (RP w0 wx R st7)/\Hid (Pk wx A { pk0 1 d q r with clean:=btest x 2,keep:=k,props:=tp,client:=c,wills:=tw })/\Hid (B2 R A wq wx)/\Hid (∃ ws,wx.ownsRow wq.heap.size 90 5 tw.val (wlOf x wl).length (wcs ws)/\Ws wx wq.heap.size ws (wlOf x wl)))
 case first =>
  cases h4:btest x 4
  ·rw[h4]at b4
   go_wp2
   go_meet
   case rel=>exact⟨none,sl0,st6,(by show Stp _ _ _ _;unfold will?;rw[h4];exact Stp.pure _ _),HS6,HP6,B2.refl _ _ _,wills0 _ _⟩
  ·rw[h4]at b4
   go_wp2_with fail
   refine (props_pg R 16 st6 w0 _ ((uh HS6).below (al _))).mono ?_
   rintro e wa ⟨tq,pq,sta,rfl,hOa,hsa,ha,hxa⟩
   have hVlt:wq.heap.size < wa.heap.size:=by have:=hxa.size;simp at this;omega
   have hVb:wa.heap[wq.heap.size]?=some (.cells #[.string ⟨#[]⟩,.string ⟨#[]⟩,.int .i64 (x / 8 % 4),.bool (btest x 32),.slice none 0 0] 90):=(hxa.block wq.heap.size (by simp) (by omega)).trans Array.getElem?_push_size
   have a4:wa.cell? ⟨wq.heap.size,4,none⟩=some (.slice none 0 0):=by simp[World.cell?,hVb]
   have fr:∀ j,wa.frozen? ⟨wq.heap.size,j,none⟩=false:=fun j=>(hxa.frz (p:=⟨wq.heap.size,j,none⟩) (by simp) (by simp;omega)).trans (by simp)
   have g4:=fr 4
   have HSa:=zh (ha.set wq.heap.size 4 tq.val (by omega) h0q)
   have HPa:=zh ((((uh HP6).below (al (.cells #[.string ⟨#[]⟩,.string ⟨#[]⟩,.int .i64 (x / 8 % 4),.bool (btest x 32),.slice none 0 0] 90))).oth hxa hA).blk (w':=wa.setCell ⟨wq.heap.size,4,none⟩ tq.val) (Below.heap_setCell _ _ _ _ (by show A≠wq.heap.size;omega)))
   have HBa:Hid (B2 R A wq (wa.setCell ⟨wq.heap.size,4,none⟩ tq.val)):=((B2.bel (al _)).trans (B2.bx hxa)).setOut _ 4 _ (Nat.le_refl _)
   have HVa:Hid ((wa.setCell ⟨wq.heap.size,4,none⟩ tq.val).heap[wq.heap.size]?=some (.cells #[.string ⟨#[]⟩,.string ⟨#[]⟩,.int .i64 (x / 8 % 4),.bool (btest x 32),tq.val] 90)):=heap_set hVb
   have HOa:Hid ((wa.setCell ⟨wq.heap.size,4,none⟩ tq.val).ownsRow (wq.heap.size+1) 88 4 tq.val pq.length (pcs pq)):=by
    have k:=uh hOa
    simp only[World.alloc,Array.size_push]at k
    exact owns_out k (Nat.lt_succ_self _)
   have HSTa:=zh hsa
   have FR:=zh fr
   clear ha hxa hsa hOa hVb fr
   go_wp2_with fail
   refine (text_pg R sta w0 _ (uh HSa)).mono ?_
   rintro e wb ⟨t,stb,rfl,hsb,hb,hxb⟩
   have hsab:(wa.setCell ⟨wq.heap.size,4,none⟩ tq.val).heap.size=wa.heap.size:=by simp[World.setCell]
   have hVb:wb.heap[wq.heap.size]?=some (.cells #[.string ⟨#[]⟩,.string ⟨#[]⟩,.int .i64 (x / 8 % 4),.bool (btest x 32),tq.val] 90):=(hxb.block wq.heap.size (by rw[hsab];exact hVlt) (by omega)).trans (uh HVa)
   have v0:wb.cell? ⟨wq.heap.size,0,none⟩=some (.string ⟨#[]⟩):=by simp[World.cell?,hVb]
   have fr:∀ j,wb.frozen? ⟨wq.heap.size,j,none⟩=false:=fun j=>(hxb.frz (p:=⟨wq.heap.size,j,none⟩) (by rw[hsab];exact hVlt) (by simp;omega)).trans (by simpa using (uh FR) j)
   have g0:=fr 0
   have hVltb:wq.heap.size < wb.heap.size:=Nat.lt_of_lt_of_le hVlt (by rw[<- hsab];exact hxb.size)
   have HSb:=zh (hb.set wq.heap.size 0 (.string t) (by omega) h0q)
   have HPb:=zh (((uh HPa).oth hxb hA).blk (w':=wb.setCell ⟨wq.heap.size,0,none⟩ (.string t)) (Below.heap_setCell _ _ _ _ (by show A≠wq.heap.size;omega)))
   have HBb:Hid (B2 R A wq (wb.setCell ⟨wq.heap.size,0,none⟩ (.string t))):=((uh HBa).trans (B2.bx hxb)).setOut _ 0 _ (Nat.le_refl _)
   have HVb:Hid ((wb.setCell ⟨wq.heap.size,0,none⟩ (.string t)).heap[wq.heap.size]?=some (.cells #[.string t,.string ⟨#[]⟩,.int .i64 (x / 8 % 4),.bool (btest x 32),tq.val] 90)):=heap_set hVb
   have HOb:Hid ((wb.setCell ⟨wq.heap.size,0,none⟩ (.string t)).ownsRow (wq.heap.size+1) 88 4 tq.val pq.length (pcs pq)):=owns_out (owns_bx (uh HOa) hxb (by omega)) (Nat.lt_succ_self _)
   have HSTb:=zh hsb
   have FRb:=zh fr
   clear hb hxb hsb hVb fr HSa HPa HBa HVa HOa FR a4 g4 hsab hVlt
   go_wp2_with fail
   refine (bin_pg R stb w0 _ (uh HSb)).mono ?_
   rintro e wd ⟨y,stc,rfl,hsc,hc,hxc⟩
   have hsab:(wb.setCell ⟨wq.heap.size,0,none⟩ (.string t)).heap.size=wb.heap.size:=by simp[World.setCell]
   have hVb:wd.heap[wq.heap.size]?=some (.cells #[.string t,.string ⟨#[]⟩,.int .i64 (x / 8 % 4),.bool (btest x 32),tq.val] 90):=(hxc.block wq.heap.size (by rw[hsab];exact hVltb) (by omega)).trans (uh HVb)
   have v1:wd.cell? ⟨wq.heap.size,1,none⟩=some (.string ⟨#[]⟩):=by simp[World.cell?,hVb]
   have g1:wd.frozen? ⟨wq.heap.size,1,none⟩=false:=(hxc.frz (p:=⟨wq.heap.size,1,none⟩) (by rw[hsab];exact hVltb) (by simp;omega)).trans (by simpa using (uh FRb) 1)
   have HSc:=zh (hc.set wq.heap.size 1 (.string y) (by omega) h0q)
   have HPc:=zh (((uh HPb).oth hxc hA).blk (w':=wd.setCell ⟨wq.heap.size,1,none⟩ (.string y)) (Below.heap_setCell _ _ _ _ (by show A≠wq.heap.size;omega)))
   have HBc:Hid (B2 R A wq (wd.setCell ⟨wq.heap.size,1,none⟩ (.string y))):=((uh HBb).trans (B2.bx hxc)).setOut _ 1 _ (Nat.le_refl _)
   have HVc:Hid ((wd.setCell ⟨wq.heap.size,1,none⟩ (.string y)).heap[wq.heap.size]?=some (.cells #[.string t,.string y,.int .i64 (x / 8 % 4),.bool (btest x 32),tq.val] 90)):=heap_set hVb
   have HOc:Hid ((wd.setCell ⟨wq.heap.size,1,none⟩ (.string y)).ownsRow (wq.heap.size+1) 88 4 tq.val pq.length (pcs pq)):=owns_out (owns_bx (uh HOb) hxc (by omega)) (Nat.lt_succ_self _)
   have HST7:Hid (Stp (will? x) st6 (some (pq,t,y)) stc):=by
    show Stp _ _ _ _
    unfold will?
    rw[if_pos h4]
    exact (uh HSTa).bind ((uh HSTb).bind (hsc.bind (Stp.pure _ _)))
   clear hc hxc hsc hVb HSb HPb HBb HVb HOb FRb v0 g0 hsab hVltb HSTa HSTb
   go_upto_region 14 with fail
   generalize wd.setCell ⟨wq.heap.size,1,none⟩ (.string y)=we at HSc HPc HBc HVc HOc |-
   clear v1 g1
   have hVe:=uh HVc
   have d0:we.cell? ⟨wq.heap.size,0,none⟩=some (.string t):=by simp[World.cell?,hVe]
   have d1:we.cell? ⟨wq.heap.size,1,none⟩=some (.string y):=by simp[World.cell?,hVe]
   have d2:we.cell? ⟨wq.heap.size,2,none⟩=some (.int .i64 (x / 8 % 4)):=by simp[World.cell?,hVe]
   have d3:we.cell? ⟨wq.heap.size,3,none⟩=some (.bool (btest x 32)):=by simp[World.cell?,hVe]
   have d4:we.cell? ⟨wq.heap.size,4,none⟩=some tq.val:=by simp[World.cell?,hVe]
   have hpe:=(uh HPc).below (al (.cells #[.string t,.string y,.int .i64 (x / 8 % 4),.bool (btest x 32),tq.val] 90))
   have c11:=hpe.wills
   have f11:=hpe.wills_f
   simp only[pk0]at c11
   have HPe:=zh hpe
   clear hpe
   clear hVe
   go_wp2
   go_meet
   case rel =>
    have hqe:wq.heap.size<=we.heap.size:=(uh HBc).size
    refine⟨some (pq,t,y),⟨some ⟨we.heap.size,0,none⟩,1,1⟩,stc,HST7,((uh HSc).below (al _)).set A 11 _ hA hA0,(uh HPe).set_wills ⟨some ⟨we.heap.size,0,none⟩,1,1⟩,((uh HBc).trans (B2.bel (al _))).set 11 _,⟨[⟨t,y,x / 8 % 4,btest x 32,tq⟩],new_row (by omega) hqe rfl rfl,rfl,fun i a b ha hb=>?_⟩⟩
    match i,ha,hb with
    | 0,ha,hb =>
     simp[wlOf]at ha hb
     subst ha hb
     exact⟨rfl,rfl,rfl,rfl,owns_mono (owns_b2 (R:=R) (A:=A) ((uh HOc).alloc _) ((B2.refl R A _).set 11 _) (by omega) (by omega)) (Nat.le_succ _)⟩
    | i+1,ha,_=>simp at ha
 case rest =>
 obtain⟨wl,tw,st7,HST7,HS7,HP7,HB7,HW7⟩:=hcut
 obtain⟨wt,hwt⟩:∃ wt,wt=wc:=⟨_,rfl⟩
 subst hwt
 have HO7:Hid (wt.ownsRow w.heap.size 88 4 tp.val pr.length (pcs pr)):=owns_b2 (uh HO6) (uh HB7) hRw hAw
 have HB7':Hid (B2 R A w wt):=(uh HB6).trans (uh HB7)
 have hq7:wq.heap.size<=wt.heap.size:=(uh HB7).size
 clear HO6 HB6 HP6 HS6 b4 b32 b3
 go_upto_if 87 with fail
 go_cut [] from 5 (fun wx=>∃ (us:Option ByteArray) (tu:Sl) (st8:Option (List Int)),Hid (Stp (user? x) st7 us st8)/\Hid (RP w0 wx R st8)/\Hid (Pk wx A { pk0 1 d q r with clean:=btest x 2,keep:=k,props:=tp,client:=c,wills:=tw,user:=tu })/\Hid (B2 R A wt wx)/\Hid (wx.ownsRow wt.heap.size 9 1 tu.val us.toList.length (us.toList.map Value.string)))
 case first =>
  cases h4:btest x 128
  ·rw[h4]at b128
   go_wp2
   go_meet
   case rel=>exact⟨none,sl0,st7,(by show Stp _ _ _ _;unfold user?;rw[h4];exact Stp.pure _ _),HS7,HP7,B2.refl _ _ _,row0 _ _ _ _⟩
  ·rw[h4]at b128
   go_wp2_with fail
   refine (text_pg R st7 w0 _ (uh HS7)).mono ?_
   rintro e wa ⟨u,sta,rfl,hsa,ha,hxa⟩
   have hpa:=((uh HP7).oth hxa hA).below (al (.cells #[.string u] 9))
   have c12:=hpa.user
   have f12:=hpa.user_f
   simp only[pk0]at c12
   have HPa:=zh hpa
   have HSa:=zh ha
   have HXa:=zh hxa
   have HSTa:=zh hsa
   clear ha hxa hsa hpa
   go_wp2
   go_meet
   case rel =>
    have hqe:wt.heap.size<=wa.heap.size:=(uh HXa).size
    have hAa:A < wa.heap.size:=Nat.lt_of_lt_of_le hAq (Nat.le_trans hq7 hqe)
    exact⟨some u,⟨some ⟨wa.heap.size,0,none⟩,1,1⟩,sta,(by show Stp _ _ _ _;unfold user?;rw[if_pos h4];exact (uh HSTa).bind (Stp.pure _ _)),((uh HSa).below (al _)).set A 12 _ hA hA0,(uh HPa).set_user ⟨some ⟨wa.heap.size,0,none⟩,1,1⟩,((B2.bx (uh HXa)).trans (B2.bel (al _))).set 12 _,new_row hAa hqe rfl rfl⟩
 case rest =>
 obtain⟨us,tu,st8,HST8,HS8,HP8,HB8,HU8⟩:=hcut
 obtain⟨wz,hwz⟩:∃ wz,wz=wc:=⟨_,rfl⟩
 subst hwz
 have hz:wt.heap.size<=wz.heap.size:=(uh HB8).size
 have HO8:Hid (wz.ownsRow w.heap.size 88 4 tp.val pr.length (pcs pr)):=owns_b2 (uh HO7) (uh HB8) hRw hAw
 have hwq:w.heap.size<=wq.heap.size:=hwqs
 have HW8:Hid (∃ ws,wz.ownsRow wq.heap.size 90 5 tw.val (wlOf x wl).length (wcs ws)/\Ws wz wq.heap.size ws (wlOf x wl)):=by
  obtain⟨ws,a,b,c⟩:=uh HW7
  exact⟨ws,owns_b2 a (uh HB8) hRq hAq,b,fun i u v hu hv=>⟨(c i u v hu hv).1,(c i u v hu hv).2.1,(c i u v hu hv).2.2.1,(c i u v hu hv).2.2.2.1,owns_b2 (c i u v hu hv).2.2.2.2 (uh HB8) hRq hAq⟩⟩
 have HB8':Hid (B2 R A w wz):=(uh HB7').trans (uh HB8)
 have hRz:R < wt.heap.size:=Nat.lt_of_lt_of_le hRq hq7
 have hAz:A < wt.heap.size:=Nat.lt_of_lt_of_le hAq hq7
 -- whatever comes of the password,the end
 have HEND:Hid (∀ (W:World) (pa:Option ByteArray) (ta:Sl) (st9:Option (List Int)),B2 R A wz W->Stp (pass? x) st8 pa st9->RP w0 W R st9->Pk W A { pk0 1 d q r with clean:=btest x 2,keep:=k,props:=tp,client:=c,wills:=tw,user:=tu,pass:=ta }->W.ownsRow wz.heap.size 9 1 ta.val pa.toList.length (pa.toList.map Value.string)->ConnPg w0 R A (pa0 1 d q r) st w (.returned (.tuple #[])) W):=by
  intro W pa ta st9 hB hst hS hP hO
  refine⟨rfl,_,⟨x,k,pr,c,wl,us,pa⟩,st9,hP,(uh HST6) _ _ ((Stp.yes (uh HOK)).bind ((uh HST7).bind ((uh HST8).bind (hst.bind (Stp.pure _ _))))),hS,(uh HB8').trans hB,.inr ?_⟩
  refine⟨⟨rfl,rfl,rfl,rfl,rfl,rfl,rfl,rfl,rfl,rfl,rfl,rfl⟩,owns_b2 (uh HO8) hB hRw hAw,?_,owns_mono (owns_b2 (uh HU8) hB hRz hAz) (Nat.le_trans hwq hq7),owns_mono hO (Nat.le_trans (Nat.le_trans hwq hq7) hz),row0 _ _ _ _,row0 _ _ _ _,row0 _ _ _ _⟩
  obtain⟨ws,a,b,c⟩:=uh HW8
  exact⟨ws,owns_mono (owns_b2 a hB hRq hAq) hwq,b,fun i u v hu hv=>⟨(c i u v hu hv).1,(c i u v hu hv).2.1,(c i u v hu hv).2.2.1,(c i u v hu hv).2.2.2.1,owns_mono (owns_b2 (c i u v hu hv).2.2.2.2 hB hRq hAq) hwq⟩⟩
 have hAwz:A < wz.heap.size:=Nat.lt_of_lt_of_le hAz hz
 clear HST6 HOK HST7 HST8 HW7 HW8 HO7 HO8 HU8 HB7 HB7' HB8 HB8' HS7 HP7 hwqs
 cases h4:btest x 64
 ·rw[h4]at b64
  go_wp2
  go_end0
  exact uh HEND wz none sl0 st8 (B2.refl _ _ _) (by unfold pass?;rw[h4];exact Stp.pure _ _) (uh HS8) (uh HP8) (row0 _ _ _ _)
 ·rw[h4]at b64
  go_wp2_with fail
  refine (bin_pg R st8 w0 _ (uh HS8)).mono ?_
  rintro e wa ⟨u,sta,rfl,hsa,ha,hxa⟩
  have hpa:=((uh HP8).oth hxa hA).below (al (.cells #[.string u] 9))
  have c13:=hpa.pass
  have f13:=hpa.pass_f
  simp only[pk0]at c13
  have HPa:=zh hpa
  have HSa:=zh ha
  have HXa:=zh hxa
  have HSTa:=zh hsa
  clear ha hxa hsa hpa
  go_wp2
  go_end0
  have hqe:wz.heap.size<=wa.heap.size:=(uh HXa).size
  exact uh HEND _ (some u) ⟨some ⟨wa.heap.size,0,none⟩,1,1⟩ sta (((B2.bx (uh HXa)).trans (B2.bel (al _))).set 13 _) (by unfold pass?;rw[if_pos h4];exact (uh HSTa).bind (Stp.pure _ _)) (((uh HSa).below (al _)).set A 13 _ hA hA0) ((uh HPa).set_pass ⟨some ⟨wa.heap.size,0,none⟩,1,1⟩) (new_row (Nat.lt_of_lt_of_le hAwz hqe) hqe rfl rfl)
end Go.Proofs.YtdkmmmjjdlnnoaaGreatDoor.K
