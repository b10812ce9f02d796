/- Helpers of the proof. -/
import Derived.Test.YtmpijpjlbhfccaaGreatDoorZC31
import Derived.Test.YtmpijpjlbhfccaaGreatDoorZC40
import Derived.Test.YtmpijpjlbhfccaaGreatDoorZC6
import Derived.Test.YtmpijpjlbhfccaaGreatDoorZC35
import Derived.Deep.Cut
import Derived.Test.YtmpijpjlbhfccaaGreatDoorZC34
set_option maxHeartbeats 20000000
namespace Go.Proofs.YtmpijpjlbhfccaaGreatDoor.K
open Go.RowKit
set_option maxRecDepth 100000
theorem may_connD2 (q:Pkv) (P:Pa) (w:World) (hR:RPk w q P) (hmx:P.props.length<=1000000000) (hsm:Go.Proofs.YtmpijpjlbhfccaaGreatDoor.Small P.props) (E:Bool) (hEQ:∀ W,Below w.heap.size w W->Calls Tryz.prog 12 #[.agg (((((((xk q).wi_client q.client).wi_clean q.clean).wi_keep q.keep).wi_wills q.wills).wi_user q.user).wi_pass q.pass).cells.toArray,.agg q.cells.toArray] W fun e w'=>e=.returned (.bool E)/\Below W.heap.size W w') (hcl:q.client.size<=4611686018427387904) (hWO:∀ k,k<P.wills.length->(P.wills.getD k wl0).topic.size<=4611686018427387904/\(P.wills.getD k wl0).props.length<=1000000000/\Go.Proofs.YtmpijpjlbhfccaaGreatDoor.Small (P.wills.getD k wl0).props/\(P.wills.getD k wl0).payload.size<=4611686018427387904) (hUO:∀ k,k<P.user.length->(P.user.getD k ⟨#[]⟩).size<=4611686018427387904) (hPOK:∀ k,k<P.pass.length->(P.pass.getD k ⟨#[]⟩).size<=4611686018427387904) (hc0:con0 q.client q.keep P.wills.length P.user.length P.pass.length=true) (hc1:con1 P.wills=true) (hc2:con2 P.user=true) (hu:¬ P.user.length=1) (hl:P.pass.length=1) (hk:P.kind=1) :
  Calls Tryz.prog 27 #[q.val] w fun e w'=>e=.returned (.bool (tlB P (conO q.client q.keep P.wills P.user P.pass) E))/\Below w.heap.size w w':=by
 have HEQ:=zh hEQ
 have HMX0:=zh hmx
 have HSM:=zh hsm
 have HRP:=zh hR.props
 have HQN:=zh hR.cnt.ns.1
 have HKP:=zh hR.sc.1
 have hW:=hR.wills
 have hU:=hR.user
 have hPs:=hR.pass
 obtain⟨wo,wc,hwv,⟨hw1,hw2⟩,hWS⟩:=hW
 obtain⟨uo,uc,huv,⟨hu1,hu2⟩,hUS⟩:=hU
 obtain⟨po,pc,hpv,⟨hp1,hp2⟩,hPS⟩:=hPs
 have HWV:=zh hwv
 have HUV:=zh huv
 have HPV:=zh hpv
 have HWS:=zh hWS
 have HUS:=zh hUS
 have HPS:=zh hPS
 have HWO:=zh hWO
 have HUO:=zh hUO
 clear hwv huv hpv hWS hUS hPS hWO hUO
 obtain⟨nw,hnw⟩:∃ n,n=P.wills.length:=⟨_,rfl⟩
 obtain⟨nu,hnu⟩:∃ n,n=P.user.length:=⟨_,rfl⟩
 obtain⟨np,hnp⟩:∃ n,n=P.pass.length:=⟨_,rfl⟩
 rw[<- hnw]at HWV hw1
 rw[<- hnu]at HUV hu1
 rw[<- hnp]at HPV hp1
 have HNW:=zh hnw
 have HNU:=zh hnu
 have HNP:=zh hnp
 clear hnw hnu hnp
 have HPOK:=zh hPOK
 clear hPOK
 have HC0:=zh hc0
 clear hc0
 have HC1:=zh hc1
 have HC2:=zh hc2
 have HHL:=zh hl
 have HHU:=zh hu
 clear hc1 hc2 hl hu
 have hk2:=hk
 rw[<- hR.sc.1]at hk2
 have HKK:=zh hk2
 have HSC:=zh hR
 clear hEQ hsm hR hk hk2
 have HPN:=zh (pk_new w q)
 have HMN:=zh (ms_new w q)
 have HX:Hid ((w.alloc (.cells q.cells.toArray 31)).heap.size=w.heap.size+1):=by show _=_;simp
 go_enter Tryz.func27,Tryz.ntmps27
 go_upto_region 1 with fail
 change Code.wp _ _ _ _ (w.alloc (.cells q.cells.toArray 31))
 generalize w.alloc (.cells q.cells.toArray 31)=wa at HPN HMN HX |-
 have c0:=(uh HPN).kind
 have c7:=(uh HPN).props
 iterate 13 go_step
 refine Go.Proofs.YtmpijpjlbhfccaaGreatDoor.wpList_value rfl (packet_build2 _ _ _ _ _ _ _ q rfl rfl _) ?_
 simp only[sp]
 refine Go.Proofs.YtmpijpjlbhfccaaGreatDoor.wpList_value rfl (mpacket_alloc _ _ _ _ _ _) ?_
 simp only[sp]
 refine Go.Proofs.YtmpijpjlbhfccaaGreatDoor.wpList_skip rfl (mpacket_store _ _ _ _ _ _ _ (xk q) wa rfl rfl) ?_
 simp only[Act.put]
 have HM:Hid (MS w (wa.alloc (.cells (xk q).cells.toArray 31)) w.heap.size wa.heap.size q (xk q)):=by rw[uh HX];exact uh HMN
 generalize wa.alloc (.cells (xk q).cells.toArray 31)=w1 at HM |-
 generalize wa.heap.size=X at HM |-
 generalize hBB:w.heap.size=B at HM |-
 have HBB:=zh hBB
 clear c0 c7 HPN HMN HX hBB
 have c0:=(uh HM).pb.kind
 rw[uh HKK]at c0
 go_wp2_with fail
 have HMd0:Hid (MS w w1.drew B X q (xk q)):=(uh HM).below (below_drewN (Below.refl _ _) 1)
 clear HM c0
 refine wp_region_noPanic ?_
 refine wp_region_held_drew (S:=(fun w'=>w'.cell? ⟨B,8,none⟩=some (.string q.client)/\w'.cell? ⟨B,9,none⟩=some (.bool q.clean)/\w'.cell? ⟨B,10,none⟩=some (.int .i64 q.keep)/\w'.cell? ⟨B,11,none⟩=some (q.wills.val)/\w'.cell? ⟨B,12,none⟩=some (q.user.val)/\w'.cell? ⟨B,13,none⟩=some (q.pass.val))) (by kernel_rfl) ⟨(uh HMd0).pb.client,(uh HMd0).pb.clean,(uh HMd0).pb.keep,(uh HMd0).pb.wills,(uh HMd0).pb.user,(uh HMd0).pb.pass⟩ (fun hHeld=>?_)
 generalize w1.drew=wd0 at HMd0 hHeld |-
 refine rtk 0 (h:=?_)
 refine rtk 1 (h:=?_)
 refine rtk 2 (h:=?_)
 refine rtk 3 (h:=?_)
 refine rtk 4 (h:=?_)
 refine rtk 5 (h:=?_)
 refine rtk 6 (h:=?_)
 refine rtk 7 (h:=?_)
 refine rtk 8 (h:=?_)
 refine rtk 9 (h:=?_)
 refine rtk 10 (h:=?_)
 refine rtk 11 (h:=?_)
 refine rtk 12 (h:=?_)
 have x8:=(uh HMd0).px.client
 have y8:=(uh HMd0).px.client_f
 have HMd1:=zh ((uh HMd0).wi_client q.client)
 refine rcl 13 (h:=fun K hK=>?_)
 go_simp
 refine hK.out _ _ ⟨(uh HMd1).pb.client,(uh HMd1).pb.clean,(uh HMd1).pb.keep,(uh HMd1).pb.wills,(uh HMd1).pb.user,(uh HMd1).pb.pass⟩ (fun hHeld=>?_)
 clear hK K x8 y8 HMd0
 generalize World.setCell _ ⟨X,8,none⟩ (.string q.client)=wd1 at HMd1 hHeld |-
 refine rtk 14 (h:=?_)
 have x9:=(uh HMd1).px.clean
 have y9:=(uh HMd1).px.clean_f
 have HMd2:=zh ((uh HMd1).wi_clean q.clean)
 refine rcl 15 (h:=fun K hK=>?_)
 go_simp
 refine hK.out _ _ ⟨(uh HMd2).pb.client,(uh HMd2).pb.clean,(uh HMd2).pb.keep,(uh HMd2).pb.wills,(uh HMd2).pb.user,(uh HMd2).pb.pass⟩ (fun hHeld=>?_)
 clear hK K x9 y9 HMd1
 generalize World.setCell _ ⟨X,9,none⟩ (.bool q.clean)=wd2 at HMd2 hHeld |-
 refine rtk 16 (h:=?_)
 have x10:=(uh HMd2).px.keep
 have y10:=(uh HMd2).px.keep_f
 have HMd3:=zh ((uh HMd2).wi_keep q.keep)
 refine rcl 17 (h:=fun K hK=>?_)
 go_simp
 refine hK.out _ _ ⟨(uh HMd3).pb.client,(uh HMd3).pb.clean,(uh HMd3).pb.keep,(uh HMd3).pb.wills,(uh HMd3).pb.user,(uh HMd3).pb.pass⟩ (fun hHeld=>?_)
 clear hK K x10 y10 HMd2
 generalize World.setCell _ ⟨X,10,none⟩ (.int .i64 q.keep)=wd3 at HMd3 hHeld |-
 refine rtk 18 (h:=?_)
 have x11:=(uh HMd3).px.wills
 have y11:=(uh HMd3).px.wills_f
 have HMd4:=zh ((uh HMd3).wi_wills q.wills)
 refine rcl 19 (h:=fun K hK=>?_)
 go_simp
 refine hK.out _ _ ⟨(uh HMd4).pb.client,(uh HMd4).pb.clean,(uh HMd4).pb.keep,(uh HMd4).pb.wills,(uh HMd4).pb.user,(uh HMd4).pb.pass⟩ (fun hHeld=>?_)
 clear hK K x11 y11 HMd3
 generalize World.setCell _ ⟨X,11,none⟩ (q.wills.val)=wd4 at HMd4 hHeld |-
 refine rtk 20 (h:=?_)
 have x12:=(uh HMd4).px.user
 have y12:=(uh HMd4).px.user_f
 have HMd5:=zh ((uh HMd4).wi_user q.user)
 refine rcl 21 (h:=fun K hK=>?_)
 go_simp
 refine hK.out _ _ ⟨(uh HMd5).pb.client,(uh HMd5).pb.clean,(uh HMd5).pb.keep,(uh HMd5).pb.wills,(uh HMd5).pb.user,(uh HMd5).pb.pass⟩ (fun hHeld=>?_)
 clear hK K x12 y12 HMd4
 generalize World.setCell _ ⟨X,12,none⟩ (q.user.val)=wd5 at HMd5 hHeld |-
 refine rtk 22 (h:=?_)
 have x13:=(uh HMd5).px.pass
 have y13:=(uh HMd5).px.pass_f
 have HMd6:=zh ((uh HMd5).wi_pass q.pass)
 refine rcl 23 (h:=fun K hK=>?_)
 go_simp
 refine hK.out _ _ ⟨(uh HMd6).pb.client,(uh HMd6).pb.clean,(uh HMd6).pb.keep,(uh HMd6).pb.wills,(uh HMd6).pb.user,(uh HMd6).pb.pass⟩ (fun hHeld=>?_)
 clear hK K x13 y13 HMd5
 generalize World.setCell _ ⟨X,13,none⟩ (q.pass.val)=wd6 at HMd6 hHeld |-
 refine wpAnyH_done (by kernel_rfl) ?_ _
 refine NoPanic.normal ?_
 have HM:=HMd6
 clear HMd6 hHeld
 have b8:=(uh HM).pb.client
 have b10:=(uh HM).pb.keep
 have b11:=(uh HM).pb.wills
 have b12:=(uh HM).pb.user
 have b13:=(uh HM).pb.pass
 rw[uh HWV]at b11
 rw[uh HUV]at b12
 rw[uh HPV]at b13
 obtain⟨HT,h1,h2,h3,h4,h5⟩:Hid (okT q.client=true)/\0<=q.keep/\q.keep<=65535/\nw<=1/\nu<=1/\np<=1:=by
  have k:=uh HC0
  rw[<- uh HNW,<- uh HNU,<- uh HNP]at k
  unfold con0 at k
  simp only[Bool.and_eq_true,decide_eq_true_iff]at k
  exact k
 go_wp2_with fail
 refine (gtext_any q.client true (uh HT) _ hcl).mono ?_
 rintro e w3 ⟨rfl,hb3⟩
 have HM3:=zh ((uh HM).below hb3)
 clear hb3 HM b8 b10 b11 b12 b13
 have HM:=HM3
 clear HM3
 have b8:=(uh HM).pb.client
 have b10:=(uh HM).pb.keep
 have b11:=(uh HM).pb.wills
 have b12:=(uh HM).pb.user
 have b13:=(uh HM).pb.pass
 rw[uh HWV]at b11
 rw[uh HUV]at b12
 rw[uh HPV]at b13
 obtain⟨kp,hkp⟩:∃ z,z=q.keep:=⟨_,rfl⟩
 rw[<- hkp]at b10 h1 h2
 clear hkp
 go_upto_if 72 with fail
 go_cut [4] from 8 (fun s4 wx=>s4=.bool true/\Hid (MS w wx B X q (((((((xk q).wi_client q.client).wi_clean q.clean).wi_keep q.keep).wi_wills q.wills).wi_user q.user).wi_pass q.pass)))
 case first =>
  by_cases hl:nw=1
  ·subst hl
   have h0l:0<P.wills.length:=by rw[<- uh HNW];omega
   obtain⟨b,off,rfl,hat⟩:∃ b off,wo=some ⟨b,off,none⟩/\WlAt w b off P.wills:=by
    rcases uh HWS with e|k
    ·rw[e]at h0l;simp at h0l
    ·exact k
   have hat:=hat 0 h0l
   have hB:=(uh HM).bel
   obtain⟨ao,n,cap,⟨d0,d1,d2,d3,d4⟩,hpr,-⟩:=hat
   rw[Nat.zero_mul,Nat.add_zero]at d0 d1 d2 d3 d4
   have hbl:b<w.heap.size:=cell_lt d0
   have e0:=(hB.cell hbl).trans d0
   have e1:=(hB.cell hbl).trans d1
   have e2:=(hB.cell hbl).trans d2
   have e3:=(hB.cell hbl).trans d3
   have e4:=(hB.cell hbl).trans d4
   obtain⟨z1,z2,z3,z4⟩:=(uh HWO) 0 h0l
   have HZ3:=zh z3
   have HPR:=zh hpr
   have HCN:Hid (mwB (P.wills.getD 0 wl0)=con1 P.wills):=by show _=_;unfold con1;rw[if_pos (uh HNW).symm]
   generalize P.wills.getD 0 wl0=u at e0 e1 e2 e3 e4 z1 z2 z4 HZ3 HPR HCN
   clear d0 d1 d2 d3 d4 hpr z3 hB
   rw[uh HC1]at HCN
   obtain⟨hmw⟩:Nonempty (mwB u=true):=⟨uh HCN⟩
   have HMW:=zh hmw
   clear hmw
   go_wp2_with fail
   refine (mayWill_any u ao n cap _ ((uh HPR).below (uh HM).bel) z1 z2 (uh HZ3) z4).mono ?_
   rintro e w5 ⟨rfl,hb5⟩
   rw[uh HMW]
   have HM5:=zh ((uh HM).below hb5)
   clear hb5 HM
   have HM:=HM5
   clear HM5
   go_wp2
   go_meet
   case rel=>exact⟨rfl,HM⟩
  ·have hlb_nw:((nw:Int)==1)=false:=beq_false_of_ne (by omega)
   clear hl
   go_wp2
   go_meet
   case rel=>exact⟨rfl,HM⟩
 case rest =>
  obtain⟨rfl,HMc⟩:=hcut
  clear HM b11 b12 b13
  have HM:=HMc
  clear HMc
  have b11:=(uh HM).pb.wills
  have b12:=(uh HM).pb.user
  have b13:=(uh HM).pb.pass
  rw[uh HWV]at b11
  rw[uh HUV]at b12
  rw[uh HPV]at b13
  have hlu:¬ nu=1:=by rw[uh HNU];exact uh HHU
  have hlb_nu:((nu:Int)==1)=false:=beq_false_of_ne (by omega)
  clear hlu
  have hl:np=1:=by rw[uh HNP];exact uh HHL
  subst hl
  have h0l:0<P.pass.length:=by rw[<- uh HNP];omega
  obtain⟨b,off,rfl,hat⟩:∃ b off,po=some ⟨b,off,none⟩/\∀ j,j<P.pass.length->w.cell? ⟨b,off+j,none⟩=some (.string (P.pass.getD j ⟨#[]⟩)):=by
   rcases uh HPS with e|k
   ·rw[e]at h0l;simp at h0l
   ·exact k
  have hat:=hat 0 h0l
  have hB:=(uh HM).bel
  have e0:=(hB.cell (cell_lt hat)).trans hat
  rw[Nat.add_zero]at e0
  have HCN:Hid (con3 P.pass=okB (P.pass.getD 0 ⟨#[]⟩)):=by show _=_;unfold con3;rw[if_pos (uh HNP).symm]
  have HPO:=zh ((uh HPOK) 0 h0l)
  generalize P.pass.getD 0 ⟨#[]⟩=sv at e0 HCN hat HPO
  have hpo:=uh HPO
  clear hat hB
  by_cases hs:sv.size<=65535
  ·have HC3:Hid (con3 P.pass=true):=by show _=_;rw[uh HCN];exact decide_eq_true hs
   have hd:decide ((sv.size:Int)<=65535)=true:=decide_eq_true (by omega)
   go_upto_region 55 with fail
   iterate 7 go_step
   refine mpList_wanted (by rfl) fun K hK=>wp_load_mid 31 _ rfl X 0 rfl (((((((xk q).wi_client q.client).wi_clean q.clean).wi_keep q.keep).wi_wills q.wills).wi_user q.user).wi_pass q.pass).cells _ (uh HM).px.range Tryz.underlying31 rfl packet_size (hK _ _ ?_)
   clear hK K
   simp only[sp]
   refine mpList_wanted (by rfl) fun K hK=>wp_load_mid 31 _ rfl B 0 rfl q.cells _ (uh HM).pb.range Tryz.underlying31 rfl packet_size (hK _ _ ?_)
   clear hK K
   simp only[sp]
   go_wp2_with fail
   refine ((uh HEQ) _ (uh HM).bel).mono ?_
   rintro e wz ⟨rfl,hbz⟩
   have HZ:=zh ((uh HM).below hbz)
   clear hbz HM
   have z0:=(uh HZ).pb.kind
   have z7:=(uh HZ).pb.props
   rw[show q.props.val=.slice q.props.ao q.props.n q.props.cap from rfl,uh HQN]at z7
   cases E
   ·have HR:Hid (tlB P (conO q.client q.keep P.wills P.user P.pass) false=false):=by show _=_;rw[show conO q.client q.keep P.wills P.user P.pass=true from by unfold conO;rw[uh HC0,uh HC1,uh HC2,uh HC3];rfl];rfl
    go_wp2
    go_ret
    exact⟨by rw[uh HR];rfl,(uh HZ).bel⟩
   ·by_cases hp0:P.props.length=0
    ·have HR:Hid (tlB P (conO q.client q.keep P.wills P.user P.pass) true=true):=by show _=_;rw[show conO q.client q.keep P.wills P.user P.pass=true from by unfold conO;rw[uh HC0,uh HC1,uh HC2,uh HC3];rfl];unfold tlB;rw[decide_eq_true hp0];rfl
     rw[hp0]at z7
     clear hp0
     go_wp2
     go_ret
     exact⟨by rw[uh HR];rfl,(uh HZ).bel⟩
    ·have HR:Hid (tlB P (conO q.client q.keep P.wills P.user P.pass) true=okP P.kind P.props):=by show _=_;rw[show conO q.client q.keep P.wills P.user P.pass=true from by unfold conO;rw[uh HC0,uh HC1,uh HC2,uh HC3];rfl];unfold tlB;rw[decide_eq_false hp0];rfl
     have hp1:((P.props.length:Int)==0)=false:=beq_false_of_ne (by omega)
     clear hp0
     rw[uh HKP]at z0
     go_wp2_with fail
     refine (gprops_any _ P.props P.kind _ (by rw[<- uh HQN];exact (uh HRP).below (uh HZ).bel) hmx (uh HSM)).mono ?_
     rintro e wy ⟨rfl,hby⟩
     have HY:=zh ((uh HZ).below hby)
     clear hby HZ
     go_wp2
     go_ret
     exact⟨by rw[uh HR];rfl,(uh HY).bel⟩
  ·have HC3:Hid (con3 P.pass=false):=by show _=_;rw[uh HCN];exact decide_eq_false hs
   have hs2:65535<sv.size:=by omega
   have hd:decide ((sv.size:Int)<=65535)=false:=decide_eq_false (by omega)
   clear hs
   have HR:Hid (tlB P (conO q.client q.keep P.wills P.user P.pass) E=false):=by show _=_;rw[show conO q.client q.keep P.wills P.user P.pass=false from by unfold conO;rw[uh HC3];simp];rfl
   go_wp2
   go_ret
   exact⟨by rw[uh HR];rfl,(uh HM).bel⟩
theorem may_connE1 (q:Pkv) (P:Pa) (w:World) (hR:RPk w q P) (hmx:P.props.length<=1000000000) (hsm:Go.Proofs.YtmpijpjlbhfccaaGreatDoor.Small P.props) (E:Bool) (hEQ:∀ W,Below w.heap.size w W->Calls Tryz.prog 12 #[.agg (((((((xk q).wi_client q.client).wi_clean q.clean).wi_keep q.keep).wi_wills q.wills).wi_user q.user).wi_pass q.pass).cells.toArray,.agg q.cells.toArray] W fun e w'=>e=.returned (.bool E)/\Below W.heap.size W w') (hcl:q.client.size<=4611686018427387904) (hWO:∀ k,k<P.wills.length->(P.wills.getD k wl0).topic.size<=4611686018427387904/\(P.wills.getD k wl0).props.length<=1000000000/\Go.Proofs.YtmpijpjlbhfccaaGreatDoor.Small (P.wills.getD k wl0).props/\(P.wills.getD k wl0).payload.size<=4611686018427387904) (hUO:∀ k,k<P.user.length->(P.user.getD k ⟨#[]⟩).size<=4611686018427387904) (hPOK:∀ k,k<P.pass.length->(P.pass.getD k ⟨#[]⟩).size<=4611686018427387904) (hc0:con0 q.client q.keep P.wills.length P.user.length P.pass.length=true) (hc1:con1 P.wills=true) (hc2:con2 P.user=true) (hu:P.user.length=1) (hl:¬ P.pass.length=1) (hk:P.kind=1) :
  Calls Tryz.prog 27 #[q.val] w fun e w'=>e=.returned (.bool (tlB P (conO q.client q.keep P.wills P.user P.pass) E))/\Below w.heap.size w w':=by
 have HEQ:=zh hEQ
 have HMX0:=zh hmx
 have HSM:=zh hsm
 have HRP:=zh hR.props
 have HQN:=zh hR.cnt.ns.1
 have HKP:=zh hR.sc.1
 have hW:=hR.wills
 have hU:=hR.user
 have hPs:=hR.pass
 obtain⟨wo,wc,hwv,⟨hw1,hw2⟩,hWS⟩:=hW
 obtain⟨uo,uc,huv,⟨hu1,hu2⟩,hUS⟩:=hU
 obtain⟨po,pc,hpv,⟨hp1,hp2⟩,hPS⟩:=hPs
 have HWV:=zh hwv
 have HUV:=zh huv
 have HPV:=zh hpv
 have HWS:=zh hWS
 have HUS:=zh hUS
 have HPS:=zh hPS
 have HWO:=zh hWO
 have HUO:=zh hUO
 clear hwv huv hpv hWS hUS hPS hWO hUO
 obtain⟨nw,hnw⟩:∃ n,n=P.wills.length:=⟨_,rfl⟩
 obtain⟨nu,hnu⟩:∃ n,n=P.user.length:=⟨_,rfl⟩
 obtain⟨np,hnp⟩:∃ n,n=P.pass.length:=⟨_,rfl⟩
 rw[<- hnw]at HWV hw1
 rw[<- hnu]at HUV hu1
 rw[<- hnp]at HPV hp1
 have HNW:=zh hnw
 have HNU:=zh hnu
 have HNP:=zh hnp
 clear hnw hnu hnp
 have HPOK:=zh hPOK
 clear hPOK
 have HC0:=zh hc0
 clear hc0
 have HC1:=zh hc1
 have HC2:=zh hc2
 have HHL:=zh hl
 have HHU:=zh hu
 clear hc1 hc2 hl hu
 have hk2:=hk
 rw[<- hR.sc.1]at hk2
 have HKK:=zh hk2
 have HSC:=zh hR
 clear hEQ hsm hR hk hk2
 have HPN:=zh (pk_new w q)
 have HMN:=zh (ms_new w q)
 have HX:Hid ((w.alloc (.cells q.cells.toArray 31)).heap.size=w.heap.size+1):=by show _=_;simp
 go_enter Tryz.func27,Tryz.ntmps27
 go_upto_region 1 with fail
 change Code.wp _ _ _ _ (w.alloc (.cells q.cells.toArray 31))
 generalize w.alloc (.cells q.cells.toArray 31)=wa at HPN HMN HX |-
 have c0:=(uh HPN).kind
 have c7:=(uh HPN).props
 iterate 13 go_step
 refine Go.Proofs.YtmpijpjlbhfccaaGreatDoor.wpList_value rfl (packet_build2 _ _ _ _ _ _ _ q rfl rfl _) ?_
 simp only[sp]
 refine Go.Proofs.YtmpijpjlbhfccaaGreatDoor.wpList_value rfl (mpacket_alloc _ _ _ _ _ _) ?_
 simp only[sp]
 refine Go.Proofs.YtmpijpjlbhfccaaGreatDoor.wpList_skip rfl (mpacket_store _ _ _ _ _ _ _ (xk q) wa rfl rfl) ?_
 simp only[Act.put]
 have HM:Hid (MS w (wa.alloc (.cells (xk q).cells.toArray 31)) w.heap.size wa.heap.size q (xk q)):=by rw[uh HX];exact uh HMN
 generalize wa.alloc (.cells (xk q).cells.toArray 31)=w1 at HM |-
 generalize wa.heap.size=X at HM |-
 generalize hBB:w.heap.size=B at HM |-
 have HBB:=zh hBB
 clear c0 c7 HPN HMN HX hBB
 have c0:=(uh HM).pb.kind
 rw[uh HKK]at c0
 go_wp2_with fail
 have HMd0:Hid (MS w w1.drew B X q (xk q)):=(uh HM).below (below_drewN (Below.refl _ _) 1)
 clear HM c0
 refine wp_region_noPanic ?_
 refine wp_region_held_drew (S:=(fun w'=>w'.cell? ⟨B,8,none⟩=some (.string q.client)/\w'.cell? ⟨B,9,none⟩=some (.bool q.clean)/\w'.cell? ⟨B,10,none⟩=some (.int .i64 q.keep)/\w'.cell? ⟨B,11,none⟩=some (q.wills.val)/\w'.cell? ⟨B,12,none⟩=some (q.user.val)/\w'.cell? ⟨B,13,none⟩=some (q.pass.val))) (by kernel_rfl) ⟨(uh HMd0).pb.client,(uh HMd0).pb.clean,(uh HMd0).pb.keep,(uh HMd0).pb.wills,(uh HMd0).pb.user,(uh HMd0).pb.pass⟩ (fun hHeld=>?_)
 generalize w1.drew=wd0 at HMd0 hHeld |-
 refine rtk 0 (h:=?_)
 refine rtk 1 (h:=?_)
 refine rtk 2 (h:=?_)
 refine rtk 3 (h:=?_)
 refine rtk 4 (h:=?_)
 refine rtk 5 (h:=?_)
 refine rtk 6 (h:=?_)
 refine rtk 7 (h:=?_)
 refine rtk 8 (h:=?_)
 refine rtk 9 (h:=?_)
 refine rtk 10 (h:=?_)
 refine rtk 11 (h:=?_)
 refine rtk 12 (h:=?_)
 have x8:=(uh HMd0).px.client
 have y8:=(uh HMd0).px.client_f
 have HMd1:=zh ((uh HMd0).wi_client q.client)
 refine rcl 13 (h:=fun K hK=>?_)
 go_simp
 refine hK.out _ _ ⟨(uh HMd1).pb.client,(uh HMd1).pb.clean,(uh HMd1).pb.keep,(uh HMd1).pb.wills,(uh HMd1).pb.user,(uh HMd1).pb.pass⟩ (fun hHeld=>?_)
 clear hK K x8 y8 HMd0
 generalize World.setCell _ ⟨X,8,none⟩ (.string q.client)=wd1 at HMd1 hHeld |-
 refine rtk 14 (h:=?_)
 have x9:=(uh HMd1).px.clean
 have y9:=(uh HMd1).px.clean_f
 have HMd2:=zh ((uh HMd1).wi_clean q.clean)
 refine rcl 15 (h:=fun K hK=>?_)
 go_simp
 refine hK.out _ _ ⟨(uh HMd2).pb.client,(uh HMd2).pb.clean,(uh HMd2).pb.keep,(uh HMd2).pb.wills,(uh HMd2).pb.user,(uh HMd2).pb.pass⟩ (fun hHeld=>?_)
 clear hK K x9 y9 HMd1
 generalize World.setCell _ ⟨X,9,none⟩ (.bool q.clean)=wd2 at HMd2 hHeld |-
 refine rtk 16 (h:=?_)
 have x10:=(uh HMd2).px.keep
 have y10:=(uh HMd2).px.keep_f
 have HMd3:=zh ((uh HMd2).wi_keep q.keep)
 refine rcl 17 (h:=fun K hK=>?_)
 go_simp
 refine hK.out _ _ ⟨(uh HMd3).pb.client,(uh HMd3).pb.clean,(uh HMd3).pb.keep,(uh HMd3).pb.wills,(uh HMd3).pb.user,(uh HMd3).pb.pass⟩ (fun hHeld=>?_)
 clear hK K x10 y10 HMd2
 generalize World.setCell _ ⟨X,10,none⟩ (.int .i64 q.keep)=wd3 at HMd3 hHeld |-
 refine rtk 18 (h:=?_)
 have x11:=(uh HMd3).px.wills
 have y11:=(uh HMd3).px.wills_f
 have HMd4:=zh ((uh HMd3).wi_wills q.wills)
 refine rcl 19 (h:=fun K hK=>?_)
 go_simp
 refine hK.out _ _ ⟨(uh HMd4).pb.client,(uh HMd4).pb.clean,(uh HMd4).pb.keep,(uh HMd4).pb.wills,(uh HMd4).pb.user,(uh HMd4).pb.pass⟩ (fun hHeld=>?_)
 clear hK K x11 y11 HMd3
 generalize World.setCell _ ⟨X,11,none⟩ (q.wills.val)=wd4 at HMd4 hHeld |-
 refine rtk 20 (h:=?_)
 have x12:=(uh HMd4).px.user
 have y12:=(uh HMd4).px.user_f
 have HMd5:=zh ((uh HMd4).wi_user q.user)
 refine rcl 21 (h:=fun K hK=>?_)
 go_simp
 refine hK.out _ _ ⟨(uh HMd5).pb.client,(uh HMd5).pb.clean,(uh HMd5).pb.keep,(uh HMd5).pb.wills,(uh HMd5).pb.user,(uh HMd5).pb.pass⟩ (fun hHeld=>?_)
 clear hK K x12 y12 HMd4
 generalize World.setCell _ ⟨X,12,none⟩ (q.user.val)=wd5 at HMd5 hHeld |-
 refine rtk 22 (h:=?_)
 have x13:=(uh HMd5).px.pass
 have y13:=(uh HMd5).px.pass_f
 have HMd6:=zh ((uh HMd5).wi_pass q.pass)
 refine rcl 23 (h:=fun K hK=>?_)
 go_simp
 refine hK.out _ _ ⟨(uh HMd6).pb.client,(uh HMd6).pb.clean,(uh HMd6).pb.keep,(uh HMd6).pb.wills,(uh HMd6).pb.user,(uh HMd6).pb.pass⟩ (fun hHeld=>?_)
 clear hK K x13 y13 HMd5
 generalize World.setCell _ ⟨X,13,none⟩ (q.pass.val)=wd6 at HMd6 hHeld |-
 refine wpAnyH_done (by kernel_rfl) ?_ _
 refine NoPanic.normal ?_
 have HM:=HMd6
 clear HMd6 hHeld
 have b8:=(uh HM).pb.client
 have b10:=(uh HM).pb.keep
 have b11:=(uh HM).pb.wills
 have b12:=(uh HM).pb.user
 have b13:=(uh HM).pb.pass
 rw[uh HWV]at b11
 rw[uh HUV]at b12
 rw[uh HPV]at b13
 obtain⟨HT,h1,h2,h3,h4,h5⟩:Hid (okT q.client=true)/\0<=q.keep/\q.keep<=65535/\nw<=1/\nu<=1/\np<=1:=by
  have k:=uh HC0
  rw[<- uh HNW,<- uh HNU,<- uh HNP]at k
  unfold con0 at k
  simp only[Bool.and_eq_true,decide_eq_true_iff]at k
  exact k
 go_wp2_with fail
 refine (gtext_any q.client true (uh HT) _ hcl).mono ?_
 rintro e w3 ⟨rfl,hb3⟩
 have HM3:=zh ((uh HM).below hb3)
 clear hb3 HM b8 b10 b11 b12 b13
 have HM:=HM3
 clear HM3
 have b8:=(uh HM).pb.client
 have b10:=(uh HM).pb.keep
 have b11:=(uh HM).pb.wills
 have b12:=(uh HM).pb.user
 have b13:=(uh HM).pb.pass
 rw[uh HWV]at b11
 rw[uh HUV]at b12
 rw[uh HPV]at b13
 obtain⟨kp,hkp⟩:∃ z,z=q.keep:=⟨_,rfl⟩
 rw[<- hkp]at b10 h1 h2
 clear hkp
 go_upto_if 72 with fail
 go_cut [4] from 8 (fun s4 wx=>s4=.bool true/\Hid (MS w wx B X q (((((((xk q).wi_client q.client).wi_clean q.clean).wi_keep q.keep).wi_wills q.wills).wi_user q.user).wi_pass q.pass)))
 case first =>
  by_cases hl:nw=1
  ·subst hl
   have h0l:0<P.wills.length:=by rw[<- uh HNW];omega
   obtain⟨b,off,rfl,hat⟩:∃ b off,wo=some ⟨b,off,none⟩/\WlAt w b off P.wills:=by
    rcases uh HWS with e|k
    ·rw[e]at h0l;simp at h0l
    ·exact k
   have hat:=hat 0 h0l
   have hB:=(uh HM).bel
   obtain⟨ao,n,cap,⟨d0,d1,d2,d3,d4⟩,hpr,-⟩:=hat
   rw[Nat.zero_mul,Nat.add_zero]at d0 d1 d2 d3 d4
   have hbl:b<w.heap.size:=cell_lt d0
   have e0:=(hB.cell hbl).trans d0
   have e1:=(hB.cell hbl).trans d1
   have e2:=(hB.cell hbl).trans d2
   have e3:=(hB.cell hbl).trans d3
   have e4:=(hB.cell hbl).trans d4
   obtain⟨z1,z2,z3,z4⟩:=(uh HWO) 0 h0l
   have HZ3:=zh z3
   have HPR:=zh hpr
   have HCN:Hid (mwB (P.wills.getD 0 wl0)=con1 P.wills):=by show _=_;unfold con1;rw[if_pos (uh HNW).symm]
   generalize P.wills.getD 0 wl0=u at e0 e1 e2 e3 e4 z1 z2 z4 HZ3 HPR HCN
   clear d0 d1 d2 d3 d4 hpr z3 hB
   rw[uh HC1]at HCN
   obtain⟨hmw⟩:Nonempty (mwB u=true):=⟨uh HCN⟩
   have HMW:=zh hmw
   clear hmw
   go_wp2_with fail
   refine (mayWill_any u ao n cap _ ((uh HPR).below (uh HM).bel) z1 z2 (uh HZ3) z4).mono ?_
   rintro e w5 ⟨rfl,hb5⟩
   rw[uh HMW]
   have HM5:=zh ((uh HM).below hb5)
   clear hb5 HM
   have HM:=HM5
   clear HM5
   go_wp2
   go_meet
   case rel=>exact⟨rfl,HM⟩
  ·have hlb_nw:((nw:Int)==1)=false:=beq_false_of_ne (by omega)
   clear hl
   go_wp2
   go_meet
   case rel=>exact⟨rfl,HM⟩
 case rest =>
  obtain⟨rfl,HMc⟩:=hcut
  clear HM b11 b12 b13
  have HM:=HMc
  clear HMc
  have b11:=(uh HM).pb.wills
  have b12:=(uh HM).pb.user
  have b13:=(uh HM).pb.pass
  rw[uh HWV]at b11
  rw[uh HUV]at b12
  rw[uh HPV]at b13
  have hlu:nu=1:=by rw[uh HNU];exact uh HHU
  subst hlu
  have h0l:0<P.user.length:=by rw[<- uh HNU];omega
  obtain⟨b,off,rfl,hat⟩:∃ b off,uo=some ⟨b,off,none⟩/\∀ j,j<P.user.length->w.cell? ⟨b,off+j,none⟩=some (.string (P.user.getD j ⟨#[]⟩)):=by
   rcases uh HUS with e|k
   ·rw[e]at h0l;simp at h0l
   ·exact k
  have hat:=hat 0 h0l
  have hB:=(uh HM).bel
  have e0:=(hB.cell (cell_lt hat)).trans hat
  rw[Nat.add_zero]at e0
  have z1:=(uh HUO) 0 h0l
  have HCN:Hid (okT (P.user.getD 0 ⟨#[]⟩)=con2 P.user):=by show _=_;unfold con2;rw[if_pos (uh HNU).symm]
  generalize P.user.getD 0 ⟨#[]⟩=sv at e0 z1 HCN hat
  clear hat hB
  rw[uh HC2]at HCN
  have HMU:=HCN
  go_wp2_with fail
  refine (gtext_any sv true (uh HMU) _ z1).mono ?_
  rintro e w6 ⟨rfl,hb6⟩
  have HM6:=zh ((uh HM).below hb6)
  clear hb6 HM
  have HM:=HM6
  clear HM6
  have b11:=(uh HM).pb.wills
  have b12:=(uh HM).pb.user
  have b13:=(uh HM).pb.pass
  rw[uh HWV]at b11
  rw[uh HUV]at b12
  rw[uh HPV]at b13
  have hl:¬ np=1:=by rw[uh HNP];exact uh HHL
  have hlb:((np:Int)==1)=false:=beq_false_of_ne (by omega)
  have HC3:Hid (con3 P.pass=true):=by show _=_;unfold con3;rw[if_neg (by rw[<- uh HNP];exact hl)]
  clear hl
  go_upto_region 55 with fail
  iterate 7 go_step
  refine mpList_wanted (by rfl) fun K hK=>wp_load_mid 31 _ rfl X 0 rfl (((((((xk q).wi_client q.client).wi_clean q.clean).wi_keep q.keep).wi_wills q.wills).wi_user q.user).wi_pass q.pass).cells _ (uh HM).px.range Tryz.underlying31 rfl packet_size (hK _ _ ?_)
  clear hK K
  simp only[sp]
  refine mpList_wanted (by rfl) fun K hK=>wp_load_mid 31 _ rfl B 0 rfl q.cells _ (uh HM).pb.range Tryz.underlying31 rfl packet_size (hK _ _ ?_)
  clear hK K
  simp only[sp]
  go_wp2_with fail
  refine ((uh HEQ) _ (uh HM).bel).mono ?_
  rintro e wz ⟨rfl,hbz⟩
  have HZ:=zh ((uh HM).below hbz)
  clear hbz HM
  have z0:=(uh HZ).pb.kind
  have z7:=(uh HZ).pb.props
  rw[show q.props.val=.slice q.props.ao q.props.n q.props.cap from rfl,uh HQN]at z7
  cases E
  ·have HR:Hid (tlB P (conO q.client q.keep P.wills P.user P.pass) false=false):=by show _=_;rw[show conO q.client q.keep P.wills P.user P.pass=true from by unfold conO;rw[uh HC0,uh HC1,uh HC2,uh HC3];rfl];rfl
   go_wp2
   go_ret
   exact⟨by rw[uh HR];rfl,(uh HZ).bel⟩
  ·by_cases hp0:P.props.length=0
   ·have HR:Hid (tlB P (conO q.client q.keep P.wills P.user P.pass) true=true):=by show _=_;rw[show conO q.client q.keep P.wills P.user P.pass=true from by unfold conO;rw[uh HC0,uh HC1,uh HC2,uh HC3];rfl];unfold tlB;rw[decide_eq_true hp0];rfl
    rw[hp0]at z7
    clear hp0
    go_wp2
    go_ret
    exact⟨by rw[uh HR];rfl,(uh HZ).bel⟩
   ·have HR:Hid (tlB P (conO q.client q.keep P.wills P.user P.pass) true=okP P.kind P.props):=by show _=_;rw[show conO q.client q.keep P.wills P.user P.pass=true from by unfold conO;rw[uh HC0,uh HC1,uh HC2,uh HC3];rfl];unfold tlB;rw[decide_eq_false hp0];rfl
    have hp1:((P.props.length:Int)==0)=false:=beq_false_of_ne (by omega)
    clear hp0
    rw[uh HKP]at z0
    go_wp2_with fail
    refine (gprops_any _ P.props P.kind _ (by rw[<- uh HQN];exact (uh HRP).below (uh HZ).bel) hmx (uh HSM)).mono ?_
    rintro e wy ⟨rfl,hby⟩
    have HY:=zh ((uh HZ).below hby)
    clear hby HZ
    go_wp2
    go_ret
    exact⟨by rw[uh HR];rfl,(uh HY).bel⟩
theorem may_connE2 (q:Pkv) (P:Pa) (w:World) (hR:RPk w q P) (hmx:P.props.length<=1000000000) (hsm:Go.Proofs.YtmpijpjlbhfccaaGreatDoor.Small P.props) (E:Bool) (hEQ:∀ W,Below w.heap.size w W->Calls Tryz.prog 12 #[.agg (((((((xk q).wi_client q.client).wi_clean q.clean).wi_keep q.keep).wi_wills q.wills).wi_user q.user).wi_pass q.pass).cells.toArray,.agg q.cells.toArray] W fun e w'=>e=.returned (.bool E)/\Below W.heap.size W w') (hcl:q.client.size<=4611686018427387904) (hWO:∀ k,k<P.wills.length->(P.wills.getD k wl0).topic.size<=4611686018427387904/\(P.wills.getD k wl0).props.length<=1000000000/\Go.Proofs.YtmpijpjlbhfccaaGreatDoor.Small (P.wills.getD k wl0).props/\(P.wills.getD k wl0).payload.size<=4611686018427387904) (hUO:∀ k,k<P.user.length->(P.user.getD k ⟨#[]⟩).size<=4611686018427387904) (hPOK:∀ k,k<P.pass.length->(P.pass.getD k ⟨#[]⟩).size<=4611686018427387904) (hc0:con0 q.client q.keep P.wills.length P.user.length P.pass.length=true) (hc1:con1 P.wills=true) (hc2:con2 P.user=true) (hu:¬ P.user.length=1) (hl:¬ P.pass.length=1) (hk:P.kind=1) :
  Calls Tryz.prog 27 #[q.val] w fun e w'=>e=.returned (.bool (tlB P (conO q.client q.keep P.wills P.user P.pass) E))/\Below w.heap.size w w':=by
 have HEQ:=zh hEQ
 have HMX0:=zh hmx
 have HSM:=zh hsm
 have HRP:=zh hR.props
 have HQN:=zh hR.cnt.ns.1
 have HKP:=zh hR.sc.1
 have hW:=hR.wills
 have hU:=hR.user
 have hPs:=hR.pass
 obtain⟨wo,wc,hwv,⟨hw1,hw2⟩,hWS⟩:=hW
 obtain⟨uo,uc,huv,⟨hu1,hu2⟩,hUS⟩:=hU
 obtain⟨po,pc,hpv,⟨hp1,hp2⟩,hPS⟩:=hPs
 have HWV:=zh hwv
 have HUV:=zh huv
 have HPV:=zh hpv
 have HWS:=zh hWS
 have HUS:=zh hUS
 have HPS:=zh hPS
 have HWO:=zh hWO
 have HUO:=zh hUO
 clear hwv huv hpv hWS hUS hPS hWO hUO
 obtain⟨nw,hnw⟩:∃ n,n=P.wills.length:=⟨_,rfl⟩
 obtain⟨nu,hnu⟩:∃ n,n=P.user.length:=⟨_,rfl⟩
 obtain⟨np,hnp⟩:∃ n,n=P.pass.length:=⟨_,rfl⟩
 rw[<- hnw]at HWV hw1
 rw[<- hnu]at HUV hu1
 rw[<- hnp]at HPV hp1
 have HNW:=zh hnw
 have HNU:=zh hnu
 have HNP:=zh hnp
 clear hnw hnu hnp
 have HPOK:=zh hPOK
 clear hPOK
 have HC0:=zh hc0
 clear hc0
 have HC1:=zh hc1
 have HC2:=zh hc2
 have HHL:=zh hl
 have HHU:=zh hu
 clear hc1 hc2 hl hu
 have hk2:=hk
 rw[<- hR.sc.1]at hk2
 have HKK:=zh hk2
 have HSC:=zh hR
 clear hEQ hsm hR hk hk2
 have HPN:=zh (pk_new w q)
 have HMN:=zh (ms_new w q)
 have HX:Hid ((w.alloc (.cells q.cells.toArray 31)).heap.size=w.heap.size+1):=by show _=_;simp
 go_enter Tryz.func27,Tryz.ntmps27
 go_upto_region 1 with fail
 change Code.wp _ _ _ _ (w.alloc (.cells q.cells.toArray 31))
 generalize w.alloc (.cells q.cells.toArray 31)=wa at HPN HMN HX |-
 have c0:=(uh HPN).kind
 have c7:=(uh HPN).props
 iterate 13 go_step
 refine Go.Proofs.YtmpijpjlbhfccaaGreatDoor.wpList_value rfl (packet_build2 _ _ _ _ _ _ _ q rfl rfl _) ?_
 simp only[sp]
 refine Go.Proofs.YtmpijpjlbhfccaaGreatDoor.wpList_value rfl (mpacket_alloc _ _ _ _ _ _) ?_
 simp only[sp]
 refine Go.Proofs.YtmpijpjlbhfccaaGreatDoor.wpList_skip rfl (mpacket_store _ _ _ _ _ _ _ (xk q) wa rfl rfl) ?_
 simp only[Act.put]
 have HM:Hid (MS w (wa.alloc (.cells (xk q).cells.toArray 31)) w.heap.size wa.heap.size q (xk q)):=by rw[uh HX];exact uh HMN
 generalize wa.alloc (.cells (xk q).cells.toArray 31)=w1 at HM |-
 generalize wa.heap.size=X at HM |-
 generalize hBB:w.heap.size=B at HM |-
 have HBB:=zh hBB
 clear c0 c7 HPN HMN HX hBB
 have c0:=(uh HM).pb.kind
 rw[uh HKK]at c0
 go_wp2_with fail
 have HMd0:Hid (MS w w1.drew B X q (xk q)):=(uh HM).below (below_drewN (Below.refl _ _) 1)
 clear HM c0
 refine wp_region_noPanic ?_
 refine wp_region_held_drew (S:=(fun w'=>w'.cell? ⟨B,8,none⟩=some (.string q.client)/\w'.cell? ⟨B,9,none⟩=some (.bool q.clean)/\w'.cell? ⟨B,10,none⟩=some (.int .i64 q.keep)/\w'.cell? ⟨B,11,none⟩=some (q.wills.val)/\w'.cell? ⟨B,12,none⟩=some (q.user.val)/\w'.cell? ⟨B,13,none⟩=some (q.pass.val))) (by kernel_rfl) ⟨(uh HMd0).pb.client,(uh HMd0).pb.clean,(uh HMd0).pb.keep,(uh HMd0).pb.wills,(uh HMd0).pb.user,(uh HMd0).pb.pass⟩ (fun hHeld=>?_)
 generalize w1.drew=wd0 at HMd0 hHeld |-
 refine rtk 0 (h:=?_)
 refine rtk 1 (h:=?_)
 refine rtk 2 (h:=?_)
 refine rtk 3 (h:=?_)
 refine rtk 4 (h:=?_)
 refine rtk 5 (h:=?_)
 refine rtk 6 (h:=?_)
 refine rtk 7 (h:=?_)
 refine rtk 8 (h:=?_)
 refine rtk 9 (h:=?_)
 refine rtk 10 (h:=?_)
 refine rtk 11 (h:=?_)
 refine rtk 12 (h:=?_)
 have x8:=(uh HMd0).px.client
 have y8:=(uh HMd0).px.client_f
 have HMd1:=zh ((uh HMd0).wi_client q.client)
 refine rcl 13 (h:=fun K hK=>?_)
 go_simp
 refine hK.out _ _ ⟨(uh HMd1).pb.client,(uh HMd1).pb.clean,(uh HMd1).pb.keep,(uh HMd1).pb.wills,(uh HMd1).pb.user,(uh HMd1).pb.pass⟩ (fun hHeld=>?_)
 clear hK K x8 y8 HMd0
 generalize World.setCell _ ⟨X,8,none⟩ (.string q.client)=wd1 at HMd1 hHeld |-
 refine rtk 14 (h:=?_)
 have x9:=(uh HMd1).px.clean
 have y9:=(uh HMd1).px.clean_f
 have HMd2:=zh ((uh HMd1).wi_clean q.clean)
 refine rcl 15 (h:=fun K hK=>?_)
 go_simp
 refine hK.out _ _ ⟨(uh HMd2).pb.client,(uh HMd2).pb.clean,(uh HMd2).pb.keep,(uh HMd2).pb.wills,(uh HMd2).pb.user,(uh HMd2).pb.pass⟩ (fun hHeld=>?_)
 clear hK K x9 y9 HMd1
 generalize World.setCell _ ⟨X,9,none⟩ (.bool q.clean)=wd2 at HMd2 hHeld |-
 refine rtk 16 (h:=?_)
 have x10:=(uh HMd2).px.keep
 have y10:=(uh HMd2).px.keep_f
 have HMd3:=zh ((uh HMd2).wi_keep q.keep)
 refine rcl 17 (h:=fun K hK=>?_)
 go_simp
 refine hK.out _ _ ⟨(uh HMd3).pb.client,(uh HMd3).pb.clean,(uh HMd3).pb.keep,(uh HMd3).pb.wills,(uh HMd3).pb.user,(uh HMd3).pb.pass⟩ (fun hHeld=>?_)
 clear hK K x10 y10 HMd2
 generalize World.setCell _ ⟨X,10,none⟩ (.int .i64 q.keep)=wd3 at HMd3 hHeld |-
 refine rtk 18 (h:=?_)
 have x11:=(uh HMd3).px.wills
 have y11:=(uh HMd3).px.wills_f
 have HMd4:=zh ((uh HMd3).wi_wills q.wills)
 refine rcl 19 (h:=fun K hK=>?_)
 go_simp
 refine hK.out _ _ ⟨(uh HMd4).pb.client,(uh HMd4).pb.clean,(uh HMd4).pb.keep,(uh HMd4).pb.wills,(uh HMd4).pb.user,(uh HMd4).pb.pass⟩ (fun hHeld=>?_)
 clear hK K x11 y11 HMd3
 generalize World.setCell _ ⟨X,11,none⟩ (q.wills.val)=wd4 at HMd4 hHeld |-
 refine rtk 20 (h:=?_)
 have x12:=(uh HMd4).px.user
 have y12:=(uh HMd4).px.user_f
 have HMd5:=zh ((uh HMd4).wi_user q.user)
 refine rcl 21 (h:=fun K hK=>?_)
 go_simp
 refine hK.out _ _ ⟨(uh HMd5).pb.client,(uh HMd5).pb.clean,(uh HMd5).pb.keep,(uh HMd5).pb.wills,(uh HMd5).pb.user,(uh HMd5).pb.pass⟩ (fun hHeld=>?_)
 clear hK K x12 y12 HMd4
 generalize World.setCell _ ⟨X,12,none⟩ (q.user.val)=wd5 at HMd5 hHeld |-
 refine rtk 22 (h:=?_)
 have x13:=(uh HMd5).px.pass
 have y13:=(uh HMd5).px.pass_f
 have HMd6:=zh ((uh HMd5).wi_pass q.pass)
 refine rcl 23 (h:=fun K hK=>?_)
 go_simp
 refine hK.out _ _ ⟨(uh HMd6).pb.client,(uh HMd6).pb.clean,(uh HMd6).pb.keep,(uh HMd6).pb.wills,(uh HMd6).pb.user,(uh HMd6).pb.pass⟩ (fun hHeld=>?_)
 clear hK K x13 y13 HMd5
 generalize World.setCell _ ⟨X,13,none⟩ (q.pass.val)=wd6 at HMd6 hHeld |-
 refine wpAnyH_done (by kernel_rfl) ?_ _
 refine NoPanic.normal ?_
 have HM:=HMd6
 clear HMd6 hHeld
 have b8:=(uh HM).pb.client
 have b10:=(uh HM).pb.keep
 have b11:=(uh HM).pb.wills
 have b12:=(uh HM).pb.user
 have b13:=(uh HM).pb.pass
 rw[uh HWV]at b11
 rw[uh HUV]at b12
 rw[uh HPV]at b13
 obtain⟨HT,h1,h2,h3,h4,h5⟩:Hid (okT q.client=true)/\0<=q.keep/\q.keep<=65535/\nw<=1/\nu<=1/\np<=1:=by
  have k:=uh HC0
  rw[<- uh HNW,<- uh HNU,<- uh HNP]at k
  unfold con0 at k
  simp only[Bool.and_eq_true,decide_eq_true_iff]at k
  exact k
 go_wp2_with fail
 refine (gtext_any q.client true (uh HT) _ hcl).mono ?_
 rintro e w3 ⟨rfl,hb3⟩
 have HM3:=zh ((uh HM).below hb3)
 clear hb3 HM b8 b10 b11 b12 b13
 have HM:=HM3
 clear HM3
 have b8:=(uh HM).pb.client
 have b10:=(uh HM).pb.keep
 have b11:=(uh HM).pb.wills
 have b12:=(uh HM).pb.user
 have b13:=(uh HM).pb.pass
 rw[uh HWV]at b11
 rw[uh HUV]at b12
 rw[uh HPV]at b13
 obtain⟨kp,hkp⟩:∃ z,z=q.keep:=⟨_,rfl⟩
 rw[<- hkp]at b10 h1 h2
 clear hkp
 go_upto_if 72 with fail
 go_cut [4] from 8 (fun s4 wx=>s4=.bool true/\Hid (MS w wx B X q (((((((xk q).wi_client q.client).wi_clean q.clean).wi_keep q.keep).wi_wills q.wills).wi_user q.user).wi_pass q.pass)))
 case first =>
  by_cases hl:nw=1
  ·subst hl
   have h0l:0<P.wills.length:=by rw[<- uh HNW];omega
   obtain⟨b,off,rfl,hat⟩:∃ b off,wo=some ⟨b,off,none⟩/\WlAt w b off P.wills:=by
    rcases uh HWS with e|k
    ·rw[e]at h0l;simp at h0l
    ·exact k
   have hat:=hat 0 h0l
   have hB:=(uh HM).bel
   obtain⟨ao,n,cap,⟨d0,d1,d2,d3,d4⟩,hpr,-⟩:=hat
   rw[Nat.zero_mul,Nat.add_zero]at d0 d1 d2 d3 d4
   have hbl:b<w.heap.size:=cell_lt d0
   have e0:=(hB.cell hbl).trans d0
   have e1:=(hB.cell hbl).trans d1
   have e2:=(hB.cell hbl).trans d2
   have e3:=(hB.cell hbl).trans d3
   have e4:=(hB.cell hbl).trans d4
   obtain⟨z1,z2,z3,z4⟩:=(uh HWO) 0 h0l
   have HZ3:=zh z3
   have HPR:=zh hpr
   have HCN:Hid (mwB (P.wills.getD 0 wl0)=con1 P.wills):=by show _=_;unfold con1;rw[if_pos (uh HNW).symm]
   generalize P.wills.getD 0 wl0=u at e0 e1 e2 e3 e4 z1 z2 z4 HZ3 HPR HCN
   clear d0 d1 d2 d3 d4 hpr z3 hB
   rw[uh HC1]at HCN
   obtain⟨hmw⟩:Nonempty (mwB u=true):=⟨uh HCN⟩
   have HMW:=zh hmw
   clear hmw
   go_wp2_with fail
   refine (mayWill_any u ao n cap _ ((uh HPR).below (uh HM).bel) z1 z2 (uh HZ3) z4).mono ?_
   rintro e w5 ⟨rfl,hb5⟩
   rw[uh HMW]
   have HM5:=zh ((uh HM).below hb5)
   clear hb5 HM
   have HM:=HM5
   clear HM5
   go_wp2
   go_meet
   case rel=>exact⟨rfl,HM⟩
  ·have hlb_nw:((nw:Int)==1)=false:=beq_false_of_ne (by omega)
   clear hl
   go_wp2
   go_meet
   case rel=>exact⟨rfl,HM⟩
 case rest =>
  obtain⟨rfl,HMc⟩:=hcut
  clear HM b11 b12 b13
  have HM:=HMc
  clear HMc
  have b11:=(uh HM).pb.wills
  have b12:=(uh HM).pb.user
  have b13:=(uh HM).pb.pass
  rw[uh HWV]at b11
  rw[uh HUV]at b12
  rw[uh HPV]at b13
  have hlu:¬ nu=1:=by rw[uh HNU];exact uh HHU
  have hlb_nu:((nu:Int)==1)=false:=beq_false_of_ne (by omega)
  clear hlu
  have hl:¬ np=1:=by rw[uh HNP];exact uh HHL
  have hlb:((np:Int)==1)=false:=beq_false_of_ne (by omega)
  have HC3:Hid (con3 P.pass=true):=by show _=_;unfold con3;rw[if_neg (by rw[<- uh HNP];exact hl)]
  clear hl
  go_upto_region 55 with fail
  iterate 7 go_step
  refine mpList_wanted (by rfl) fun K hK=>wp_load_mid 31 _ rfl X 0 rfl (((((((xk q).wi_client q.client).wi_clean q.clean).wi_keep q.keep).wi_wills q.wills).wi_user q.user).wi_pass q.pass).cells _ (uh HM).px.range Tryz.underlying31 rfl packet_size (hK _ _ ?_)
  clear hK K
  simp only[sp]
  refine mpList_wanted (by rfl) fun K hK=>wp_load_mid 31 _ rfl B 0 rfl q.cells _ (uh HM).pb.range Tryz.underlying31 rfl packet_size (hK _ _ ?_)
  clear hK K
  simp only[sp]
  go_wp2_with fail
  refine ((uh HEQ) _ (uh HM).bel).mono ?_
  rintro e wz ⟨rfl,hbz⟩
  have HZ:=zh ((uh HM).below hbz)
  clear hbz HM
  have z0:=(uh HZ).pb.kind
  have z7:=(uh HZ).pb.props
  rw[show q.props.val=.slice q.props.ao q.props.n q.props.cap from rfl,uh HQN]at z7
  cases E
  ·have HR:Hid (tlB P (conO q.client q.keep P.wills P.user P.pass) false=false):=by show _=_;rw[show conO q.client q.keep P.wills P.user P.pass=true from by unfold conO;rw[uh HC0,uh HC1,uh HC2,uh HC3];rfl];rfl
   go_wp2
   go_ret
   exact⟨by rw[uh HR];rfl,(uh HZ).bel⟩
  ·by_cases hp0:P.props.length=0
   ·have HR:Hid (tlB P (conO q.client q.keep P.wills P.user P.pass) true=true):=by show _=_;rw[show conO q.client q.keep P.wills P.user P.pass=true from by unfold conO;rw[uh HC0,uh HC1,uh HC2,uh HC3];rfl];unfold tlB;rw[decide_eq_true hp0];rfl
    rw[hp0]at z7
    clear hp0
    go_wp2
    go_ret
    exact⟨by rw[uh HR];rfl,(uh HZ).bel⟩
   ·have HR:Hid (tlB P (conO q.client q.keep P.wills P.user P.pass) true=okP P.kind P.props):=by show _=_;rw[show conO q.client q.keep P.wills P.user P.pass=true from by unfold conO;rw[uh HC0,uh HC1,uh HC2,uh HC3];rfl];unfold tlB;rw[decide_eq_false hp0];rfl
    have hp1:((P.props.length:Int)==0)=false:=beq_false_of_ne (by omega)
    clear hp0
    rw[uh HKP]at z0
    go_wp2_with fail
    refine (gprops_any _ P.props P.kind _ (by rw[<- uh HQN];exact (uh HRP).below (uh HZ).bel) hmx (uh HSM)).mono ?_
    rintro e wy ⟨rfl,hby⟩
    have HY:=zh ((uh HZ).below hby)
    clear hby HZ
    go_wp2
    go_ret
    exact⟨by rw[uh HR];rfl,(uh HY).bel⟩
theorem heq_of {x q:Pkv} {XP P:Pa} {E:Bool} {w:World} (hx:RPk w x XP) (hq:RPk w q P) (hs:Small XP) (hE:E=true ↔ XP=P):∀ W,Below w.heap.size w W->Calls Tryz.prog 12 #[.agg x.cells.toArray,.agg q.cells.toArray] W fun e w'=>e=.returned (.bool E)/\Below W.heap.size W w':=fun W hW=>by
 refine (eqpk_any x q XP P W (hx.below hW) (hq.below hW) hs).mono ?_
 rintro e w' ⟨⟨b,rfl,hb⟩,hbel⟩
 obtain rfl:b=E:=Bool.eq_iff_iff.2 (hb.trans hE.symm)
 exact⟨rfl,hbel⟩
theorem may_conn (q:Pkv) (P:Pa) (w:World) (hR:RPk w q P) (hmx:P.props.length<=1000000000) (hsm:Go.Proofs.YtmpijpjlbhfccaaGreatDoor.Small P.props) (E:Bool) (hEQ:∀ W,Below w.heap.size w W->Calls Tryz.prog 12 #[.agg (((((((xk q).wi_client q.client).wi_clean q.clean).wi_keep q.keep).wi_wills q.wills).wi_user q.user).wi_pass q.pass).cells.toArray,.agg q.cells.toArray] W fun e w'=>e=.returned (.bool E)/\Below W.heap.size W w') (hcl:q.client.size<=4611686018427387904) (hWO:∀ k,k<P.wills.length->(P.wills.getD k wl0).topic.size<=4611686018427387904/\(P.wills.getD k wl0).props.length<=1000000000/\Go.Proofs.YtmpijpjlbhfccaaGreatDoor.Small (P.wills.getD k wl0).props/\(P.wills.getD k wl0).payload.size<=4611686018427387904) (hUO:∀ k,k<P.user.length->(P.user.getD k ⟨#[]⟩).size<=4611686018427387904) (hPOK:∀ k,k<P.pass.length->(P.pass.getD k ⟨#[]⟩).size<=4611686018427387904) (hk:P.kind=1) :
  Calls Tryz.prog 27 #[q.val] w fun e w'=>e=.returned (.bool (tlB P (conO q.client q.keep P.wills P.user P.pass) E))/\Below w.heap.size w w':=by
 cases h0:con0 q.client q.keep P.wills.length P.user.length P.pass.length
 ·exact may_connA q P w hR hmx hsm E hEQ hcl hWO hUO hPOK h0 hk
 cases h1:con1 P.wills
 ·exact may_connB q P w hR hmx hsm E hEQ hcl hWO hUO hPOK h0 h1 hk
 cases h2:con2 P.user
 ·exact may_connC q P w hR hmx hsm E hEQ hcl hWO hUO hPOK h0 h1 h2 hk
 by_cases hu:P.user.length=1
 ·by_cases hl:P.pass.length=1
  ·exact may_connD1 q P w hR hmx hsm E hEQ hcl hWO hUO hPOK h0 h1 h2 hu hl hk
  ·exact may_connE1 q P w hR hmx hsm E hEQ hcl hWO hUO hPOK h0 h1 h2 hu hl hk
 ·by_cases hl:P.pass.length=1
  ·exact may_connD2 q P w hR hmx hsm E hEQ hcl hWO hUO hPOK h0 h1 h2 hu hl hk
  ·exact may_connE2 q P w hR hmx hsm E hEQ hcl hWO hUO hPOK h0 h1 h2 hu hl hk
def mayA (P:Pa):Bool :=
 if P.kind=1 then tlB P (conO P.client P.keep P.wills P.user P.pass) (empA P.no_clean.no_keep.no_props.no_client.no_wills.no_user.no_pass)
 else if P.kind=2 then tlB P (codeO P.code) (empA P.no_session.no_code.no_props)
 else if P.kind=3 then tlB P (pubO P.topic P.qos P.id P.dup) (empA P.no_dup.no_retain.no_topic.no_qos.no_id.no_props.no_payload)
 else if P.kind=4\/P.kind=5\/P.kind=6\/P.kind=7 then tlB P (idO P.id&&codeO P.code) (empA P.no_id.no_code.no_props)
 else if P.kind=8 then tlB P ((idO P.id&&mc P.subs.length)&&P.subs.all msB) (empA P.no_id.no_props.no_subs)
 else if P.kind=10 then tlB P ((idO P.id&&mc P.filters.length)&&P.filters.all okT) (empA P.no_id.no_props.no_filters)
 else if P.kind=9\/P.kind=11 then tlB P ((idO P.id&&mc P.codes.length)&&P.codes.all codeO) (empA P.no_id.no_props.no_codes)
 else if P.kind=12\/P.kind=13 then tlB P (true) (empA P)
 else if P.kind=14\/P.kind=15 then tlB P (codeO P.code) (empA P.no_code.no_props)
 else false
structure Mid (P:Pa):Prop where
 big:Big P
 props:P.props.length<=1000000000
 wprops:∀ k,k<P.wills.length->(P.wills.getD k wl0).props.length<=1000000000/\(P.wills.getD k wl0).payload.size<=4611686018427387904
 pass:∀ k,k<P.pass.length->(P.pass.getD k ⟨#[]⟩).size<=4611686018427387904
theorem mayA_conn {w:World} {q:Pkv} {P:Pa} (hR:RPk w q P) (hM:Mid P) (hk:P.kind=1):Calls Tryz.prog 27 #[q.val] w fun e w'=>e=.returned (.bool (tlB P (conO P.client P.keep P.wills P.user P.pass) (empA P.no_clean.no_keep.no_props.no_client.no_wills.no_user.no_pass)))/\Below w.heap.size w w':=by
 have hB:=hM.big
 obtain⟨h0,h1,h2,h3,h4,h5,h6,h7,h8,h9,h10,h11⟩:=hR.sc
 have hx:RPk w (((((((xk q).wi_client q.client).wi_clean q.clean).wi_keep q.keep).wi_wills q.wills).wi_user q.user).wi_pass q.pass) (⟨P.kind,false,0,false,⟨#[]⟩,0,⟨#[]⟩,P.props,P.client,P.clean,P.keep,P.wills,P.user,P.pass,0,false,[],[],[]⟩:Pa):=⟨⟨h0,rfl,rfl,rfl,rfl,rfl,rfl,h7,h8,h9,rfl,rfl⟩,hR.props,hR.wills,hR.user,hR.pass,⟨none,0,rfl,⟨Nat.le_refl _,Nat.zero_le _⟩,.inl rfl⟩,⟨none,0,rfl,⟨Nat.le_refl _,Nat.zero_le _⟩,.inl rfl⟩,⟨none,0,rfl,⟨Nat.le_refl _,Nat.zero_le _⟩,.inl rfl⟩⟩
 have hs:Small (⟨P.kind,false,0,false,⟨#[]⟩,0,⟨#[]⟩,P.props,P.client,P.clean,P.keep,P.wills,P.user,P.pass,0,false,[],[],[]⟩:Pa):=⟨by have:=hB.lists;have:=hM.props;simp;try omega,by have:=hB.lists;simp;try omega,by have:=hB.lists;simp;try omega⟩
 have k:=may_conn q P w hR hM.props hB.props (empA P.no_clean.no_keep.no_props.no_client.no_wills.no_user.no_pass) (heq_of hx hR hs (only_conn P)) (by rw[h7];have:=hB.texts;omega) (fun k hk=>⟨(hB.wills k hk).1,(hM.wprops k hk).1,(hB.wills k hk).2.2,(hM.wprops k hk).2⟩) hB.user hM.pass hk
 rw[h7,h9]at k
 exact k
theorem gb_conn (q:Pkv) (l:List Pr) (w:World) (hP:Prp w q.props.val l) (hok:okP q.kind l=true) (L:List Int) (hC:∀ W:World,Below w.heap.size w W->Calls Tryz.prog 69 #[.agg q.cells.toArray] W (GPut L W)) (hk:q.kind=1):Calls Tryz.prog 28 #[q.val] w (GPut L w):=by
 have HCN:=zh hC
 clear hC
 obtain⟨hok1,h32⟩:=chkP0 (of_decide_eq_true hok)
 have hple:=pbs_le (of_decide_eq_true hok)
 have HPN:=zh (pk_new w q)
 have HB0:Hid (Below w.heap.size w (w.alloc (.cells q.cells.toArray 31))):=bal _ _
 have HBY:Hid (∀ W,Below w.heap.size w W->Calls Tryz.prog 71 #[.slice q.props.ao l.length q.props.cap] W (PutP (pbs l) W)):=fun W hW=>by
  have k:=rbytes_any q.props.val l q.kind W (hP.below hW) (by omega) hok1
  rw[show q.props.val=.slice q.props.ao q.props.n q.props.cap from rfl,prp_n hP]at k
  exact k
 have HTL:Hid (∀ W,Below w.heap.size w W->Calls Tryz.prog 74 #[.agg q.cells.toArray] W (GPut (gtl q.code l) W)):=fun W hW=>gtail_any q l q.kind W (hP.below hW) hok
 have HQN:=zh (prp_n hP)
 have HKK:=zh hk
 clear hP hok hok1 hk
 go_enter Tryz.func28,Tryz.ntmps28
 go_upto_region 1 with fail
 change Code.wp _ _ _ _ (w.alloc (.cells q.cells.toArray 31))
 have hsz:(w.alloc (.cells q.cells.toArray 31)).heap.size=w.heap.size+1:=by simp
 generalize w.alloc (.cells q.cells.toArray 31)=wa at HPN HB0 hsz |-
 have b0:=(uh HPN).kind
 rw[uh HKK]at b0
 go_upto_region 4 with fail
 go_step
 refine wpList_load_mid rfl 31 _ rfl w.heap.size 0 rfl q.cells _ (uh HPN).range Tryz.underlying31 rfl packet_size ?_
 simp only[sp]
 go_wp2_with fail
 refine ((uh HCN) _ (uh HB0)).mono ?_
 rintro e w1 ⟨v,rfl,hr,hb⟩
 have HR:=zh ((uh hr).mono (uh HB0).size)
 have HB:=zh (bnx2 (uh HB0) hb)
 obtain⟨va,vn,vc,rfl⟩:=(uh hr).form
 clear hr hb
 go_wp2
 go_ret
 exact⟨_,rfl,HR,uh HB⟩
def gbd (P:Pa):List Int :=
 if P.kind=1 then ((((((((tx gmq++[5])++[(gcf P.user.length P.pass.length P.clean+gwf P.wills) % 256])++b2 P.keep)++pbs P.props)++tx P.client)++P.wills.flatMap gwl)++P.user.flatMap tx)++P.pass.flatMap tx)
 else if P.kind=2 then [fv P.session 1 % 256,P.code % 256]++pbs P.props
 else if P.kind=3 then (if 0<P.qos then ((tx P.topic++b2 P.id)++pbs P.props)++sb P.payload else (tx P.topic++pbs P.props)++sb P.payload)
 else if P.kind=4\/P.kind=5\/P.kind=6\/P.kind=7 then b2 P.id++gtl P.code P.props
 else if P.kind=12\/P.kind=13 then []
 else if P.kind=14\/P.kind=15 then gtl P.code P.props
 else (((b2 P.id++pbs P.props)++P.subs.flatMap gsub)++P.filters.flatMap tx)++P.codes.flatMap gcod
theorem okP_nil (k:Int) {l:List Pr} (h:l.length=0):okP k l=true:=by
 rw[List.length_eq_zero_iff.1 h]
 unfold okP chkP
 simp
theorem tlB_ok {P:Pa} {c E:Bool} (h:tlB P c E=true):c=true/\E=true/\okP P.kind P.props=true:=by
 unfold tlB at h
 rw[Bool.and_eq_true,Bool.and_eq_true,Bool.or_eq_true]at h
 refine⟨h.1,h.2.1,?_⟩
 rcases h.2.2 with k|k
 ·exact okP_nil _ (of_decide_eq_true k)
 ·exact k
theorem okT_le {s:ByteArray} (h:okT s=true):s.size<=65535:=by
 have:=chk_0 (of_decide_eq_true h)
 rw[sb_length]at this
 exact this
theorem all_at {α:Type} {f:α->Bool} {l:List α} (d:α) (h:l.all f=true) (k:Nat) (hk:k<l.length):f (l.getD k d)=true:=by
 rw[List.getD_eq_getElem?_getD,List.getElem?_eq_getElem hk]
 exact List.all_eq_true.1 h _ (List.getElem_mem hk)
theorem conO_ok {P:Pa} (h:conO P.client P.keep P.wills P.user P.pass=true):P.client.size<=65535/\(P.wills.length<=1/\P.user.length<=1/\P.pass.length<=1)/\(∀ k,k<P.wills.length->(P.wills.getD k wl0).topic.size<=65535/\(P.wills.getD k wl0).payload.size<=65535/\0<=(P.wills.getD k wl0).qos/\(P.wills.getD k wl0).qos<=2/\okP 16 (P.wills.getD k wl0).props=true)/\(∀ k,k<P.user.length->(P.user.getD k ⟨#[]⟩).size<=65535)/\(∀ k,k<P.pass.length->(P.pass.getD k ⟨#[]⟩).size<=65535):=by
 unfold conO con0 con1 con2 con3 at h
 simp only[Bool.and_eq_true,decide_eq_true_eq]at h
 obtain⟨⟨h1,h2,h3,h4,h5,h6⟩,h7,h8,h9⟩:=h
 refine⟨okT_le h1,⟨h4,h5,h6⟩,fun k hk=>?_,fun k hk=>?_,fun k hk=>?_⟩
 ·obtain rfl:k=0:=by omega
  rw[if_pos (by omega)]at h7
  unfold mwB at h7
  simp only[Bool.and_eq_true,decide_eq_true_eq]at h7
  exact⟨okT_le h7.1,of_decide_eq_true h7.2.1,h7.2.2.1,h7.2.2.2.1,h7.2.2.2.2⟩
 ·obtain rfl:k=0:=by omega
  rw[if_pos (by omega)]at h8
  exact okT_le h8
 ·obtain rfl:k=0:=by omega
  rw[if_pos (by omega)]at h9
  exact of_decide_eq_true h9
theorem emp_lists {P:Pa} (h:empA P=true):P.subs.length=0/\P.filters.length=0/\P.codes.length=0:=by
 have:=of_decide_eq_true h
 exact this.2.2.2.2.2.2.2
structure LsOk (P:Pa):Prop where
 okp:okP P.kind P.props=true
 ns:P.subs.length<=16
 nf:P.filters.length<=16
 nc:P.codes.length<=16
 zs:∀ k,k<P.subs.length->(P.subs.getD k sb0).filter.size<=65535/\0<=(P.subs.getD k sb0).qos/\(P.subs.getD k sb0).qos<=3/\0<=(P.subs.getD k sb0).handling/\(P.subs.getD k sb0).handling<=3
 zf:∀ k,k<P.filters.length->(P.filters.getD k ⟨#[]⟩).size<=65535
theorem mc_le {n:Nat} (h:mc (n:Int)=true):n<=16:=by
 unfold mc at h
 simp only[Bool.and_eq_true,decide_eq_true_eq]at h
 omega
theorem ls_8 {P:Pa} (h:tlB P ((idO P.id&&mc P.subs.length)&&P.subs.all msB) (empA P.no_id.no_props.no_subs)=true):LsOk P:=by
 obtain⟨h1,h2,h3⟩:=tlB_ok h
 simp only[Bool.and_eq_true]at h1
 obtain⟨-,e2,e3⟩:=emp_lists h2
 have e2:P.filters.length=0:=e2
 have e3:P.codes.length=0:=e3
 refine⟨h3,mc_le h1.1.2,by omega,by omega,fun k hk=>?_,fun k hk=>by omega⟩
 have:=all_at sb0 h1.2 k hk
 unfold msB at this
 simp only[Bool.and_eq_true,decide_eq_true_eq]at this
 exact⟨okT_le this.1,this.2.1,by omega,this.2.2.2.1,by omega⟩
theorem ls_10 {P:Pa} (h:tlB P ((idO P.id&&mc P.filters.length)&&P.filters.all okT) (empA P.no_id.no_props.no_filters)=true):LsOk P:=by
 obtain⟨h1,h2,h3⟩:=tlB_ok h
 simp only[Bool.and_eq_true]at h1
 obtain⟨e1,-,e3⟩:=emp_lists h2
 have e1:P.subs.length=0:=e1
 have e3:P.codes.length=0:=e3
 exact⟨h3,by omega,mc_le h1.1.2,by omega,fun k hk=>by omega,fun k hk=>okT_le (all_at ⟨#[]⟩ h1.2 k hk)⟩
theorem ls_9 {P:Pa} (h:tlB P ((idO P.id&&mc P.codes.length)&&P.codes.all codeO) (empA P.no_id.no_props.no_codes)=true):LsOk P:=by
 obtain⟨h1,h2,h3⟩:=tlB_ok h
 simp only[Bool.and_eq_true]at h1
 obtain⟨e1,e2,-⟩:=emp_lists h2
 have e1:P.subs.length=0:=e1
 have e2:P.filters.length=0:=e2
 exact⟨h3,by omega,by omega,mc_le h1.1.2,fun k hk=>by omega,fun k hk=>by omega⟩
theorem gtl_len {code:Int} {l:List Pr} (h:(pbs l).length<=5000000):(gtl code l).length<=5000001:=by
 unfold gtl
 split
 ·simp;omega
 ·split<;>simp
theorem flat_len {α:Type} (f:α->List Int) (d:α) (c:Nat) (l:List α) (h:∀ k,k<l.length->(f (l.getD k d)).length<=c):(l.flatMap f).length<=l.length*c:=by
 induction l with
 | nil=>simp
 | cons a t ih =>
  rw[List.flatMap_cons,List.length_append,List.length_cons,Nat.succ_mul]
  have h0:=h 0 (by simp)
  have:=ih fun k hk=>h (k+1) (by rw[List.length_cons];omega)
  have h0:(f a).length<=c:=h0
  omega
theorem gbd_len {P:Pa} (hM:mayA P=true) (hpy:P.payload.size<=1073741824):(gbd P).length<=1200000000:=by
 have hls:LsOk P->((((b2 P.id++pbs P.props)++P.subs.flatMap gsub)++P.filters.flatMap tx)++P.codes.flatMap gcod).length<=1200000000:=fun h=>by
  have h1:=pbs_le (of_decide_eq_true h.okp)
  have h2:=flat_len gsub sb0 65538 P.subs fun k hk=>by
   have:=(h.zs k hk).1
   unfold gsub
   rw[List.length_append,tx_length,List.length_singleton]
   omega
  have h3:=flat_len tx ⟨#[]⟩ 65537 P.filters fun k hk=>by
   have:=h.zf k hk
   rw[tx_length]
   omega
  have h4:=flat_len gcod 0 1 P.codes fun k hk=>by simp[gcod]
  have h5:=h.ns
  have h6:=h.nf
  have h7:=h.nc
  rw[List.length_append,List.length_append,List.length_append,List.length_append]
  have h8:(b2 P.id).length=2:=by simp
  omega
 unfold mayA at hM
 unfold gbd
 by_cases k1:P.kind=1
 ·rw[if_pos k1]at hM |-
  obtain⟨hc,-,hok⟩:=tlB_ok hM
  obtain⟨c1,⟨c2,c3,c4⟩,c5,c6,c7⟩:=conO_ok hc
  have h1:=pbs_le (of_decide_eq_true hok)
  have h2:=flat_len gwl wl0 5131074 P.wills fun k hk=>by
   obtain⟨d1,d2,-,-,d3⟩:=c5 k hk
   have d4:=pbs_le (of_decide_eq_true d3)
   unfold gwl
   rw[List.length_append,List.length_append,tx_length,tx_length]
   omega
  have h3:=flat_len tx ⟨#[]⟩ 65537 P.user fun k hk=>by
   have:=c6 k hk
   rw[tx_length]
   omega
  have h4:=flat_len tx ⟨#[]⟩ 65537 P.pass fun k hk=>by
   have:=c7 k hk
   rw[tx_length]
   omega
  have h5:(b2 P.keep).length=2:=by simp
  have h6:gmq.size=4:=by rfl
  simp only[List.length_append,tx_length,List.length_cons,List.length_nil]
  omega
 rw[if_neg k1]at hM |-
 by_cases k2:P.kind=2
 ·rw[if_pos k2]at hM |-
  have h1:=pbs_le (of_decide_eq_true (tlB_ok hM).2.2)
  simp only[List.length_append,List.length_cons,List.length_nil]
  omega
 rw[if_neg k2]at hM |-
 by_cases k3:P.kind=3
 ·rw[if_pos k3]at hM |-
  have h1:=pbs_le (of_decide_eq_true (tlB_ok hM).2.2)
  have hc:=(tlB_ok hM).1
  unfold pubO at hc
  simp only[Bool.and_eq_true]at hc
  have h2:=okT_le hc.1
  have h5:(b2 P.id).length=2:=by simp
  split
  ·simp only[List.length_append,tx_length,sb_length]
   omega
  ·simp only[List.length_append,tx_length,sb_length]
   omega
 rw[if_neg k3]at hM |-
 by_cases k4:P.kind=4\/P.kind=5\/P.kind=6\/P.kind=7
 ·rw[if_pos k4]at hM |-
  have h1:=gtl_len (code:=P.code) (pbs_le (of_decide_eq_true (tlB_ok hM).2.2))
  have h5:(b2 P.id).length=2:=by simp
  rw[List.length_append]
  omega
 rw[if_neg k4]at hM |-
 by_cases k12:P.kind=12\/P.kind=13
 ·rw[if_pos k12]
  simp
 by_cases k14:P.kind=14\/P.kind=15
 ·rw[if_neg k12,if_pos k14]
  rw[if_neg (by omega),if_neg (by omega),if_neg (by omega),if_neg k12,if_pos k14]at hM
  have h1:=gtl_len (code:=P.code) (pbs_le (of_decide_eq_true (tlB_ok hM).2.2))
  omega
 rw[if_neg k12,if_neg k14]
 refine hls ?_
 by_cases k8:P.kind=8
 ·rw[if_pos k8]at hM
  exact ls_8 hM
 rw[if_neg k8]at hM
 by_cases k10:P.kind=10
 ·rw[if_pos k10]at hM
  exact ls_10 hM
 rw[if_neg k10]at hM
 by_cases k9:P.kind=9\/P.kind=11
 ·rw[if_pos k9]at hM
  exact ls_9 hM
 rw[if_neg k9,if_neg k12,if_neg k14]at hM
 cases hM
theorem mayA_kind {P:Pa} (hM:mayA P=true):1<=P.kind/\P.kind<=15/\(0<=P.qos/\P.qos<=2\/P.kind≠3):=by
 by_cases k3:P.kind=3
 ·unfold mayA at hM
  rw[if_neg (by omega),if_neg (by omega),if_pos k3]at hM
  have hc:=(tlB_ok hM).1
  unfold pubO at hc
  simp only[Bool.and_eq_true,decide_eq_true_eq]at hc
  exact⟨by omega,by omega,.inl ⟨hc.2.1,hc.2.2.1⟩⟩
 ·refine⟨?_,?_,.inr k3⟩ <;>
  ·refine Classical.byContradiction fun hn=>?_
   unfold mayA at hM
   rw[if_neg (by omega),if_neg (by omega),if_neg (by omega),if_neg (by omega),if_neg (by omega),if_neg (by omega),if_neg (by omega),if_neg (by omega),if_neg (by omega)]at hM
   cases hM
end Go.Proofs.YtmpijpjlbhfccaaGreatDoor.K
