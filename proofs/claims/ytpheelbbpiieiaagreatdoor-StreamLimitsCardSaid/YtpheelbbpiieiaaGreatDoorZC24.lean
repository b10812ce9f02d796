/- Proved here: helpers, one text behind the other. -/
import Derived.Test.YtpheelbbpiieiaaGreatDoorZC23
import Derived.Test.YtpheelbbpiieiaaGreatDoorZC17
import Derived.Test.YtpheelbbpiieiaaGreatDoorZC20
set_option maxHeartbeats 20000000
namespace Go.Proofs.YtpheelbbpiieiaaGreatDoor.K
open Go.RowKit
set_option maxRecDepth 100000
def meas (l:List Int):Nat×Nat×Int :=
 if (V.vget (l.drop 1)).2.2≠0 then (0,0,(V.vget (l.drop 1)).2.2)
 else if 65536 < 1+ghd (l.drop 1)+(gid (l.drop 1)).toNat then (0,0,2)
 else if l.length < 1+ghd (l.drop 1)+(gid (l.drop 1)).toNat then (0,0,3)
 else (1+ghd (l.drop 1),1+ghd (l.drop 1)+(gid (l.drop 1)).toNat,0)
def MeasPost (l:List Int) (w:World) (e:Ending) (w':World):Prop :=
 ∃ E,e=.returned (.tuple #[.int .i64 ((meas l).1:Nat),.int .i64 ((meas l).2.1:Nat),E])/\Hid (((meas l).2.2=0/\E=.nilIface)\/((meas l).2.2≠0/\ErP w' E (meas l).2.2))/\Below w.heap.size w w'
theorem er_of_inn {w:World} {v:Value} {n:Int} (h:Inn w v n):∃ d,d<=2/\Er w d v n:=by
 rcases h with h | ⟨b,h1,h2⟩
 ·exact⟨0,by omega,h⟩
 ·exact⟨1,by omega,b,_,h1,h2,rfl⟩
theorem measure_any (v:Value) (l:List Int) (w:World) (h:Byt w v l) (hl:l≠[]):Calls Tryz.prog 27 #[v] w (MeasPost l w):=by
 have hl1:1<=l.length:=List.length_pos_iff.2 hl
 obtain⟨b,off,cap,rfl,hc1,hc2⟩:=h.form1 hl1
 unfold maxLen at hc2
 have hmd:∀ (N K:Nat),gid (l.drop 1)=N->ghd (l.drop 1)=K->(V.vget (l.drop 1)).2.2=0->meas l=if 65536 < 1+K+N then (0,0,2) else if l.length < 1+K+N then (0,0,3) else (1+K,1+K+N,0):=fun N K e1 e2 e3=>by
  unfold meas
  rw[if_neg (by rw[e3];decide),e1,e2,Int.toNat_natCast]
 have hme:(V.vget (l.drop 1)).2.2≠0->meas l=(0,0,(V.vget (l.drop 1)).2.2):=fun e=>by
  unfold meas
  rw[if_pos e]
 have key:∀ t:Value,Byt w t (l.drop 1)->(V.vget (l.drop 1)).2.2=0->∃ (N K:Nat),gid (l.drop 1)=N/\ghd (l.drop 1)=K/\K<=4/\N<=268435455/\V.vget (l.drop 1)=((N:Int),(K:Int),0):=fun t ht hv=>by
  obtain⟨hv',h1,h2,h3,h4,h5⟩:=vget_is (l.drop 1) ht.range hv
  have hQ4:=ghd_le (l.drop 1) h2 h5
  obtain⟨N,hN⟩:∃ N:Nat,gid (l.drop 1)=N:=⟨(gid (l.drop 1)).toNat,by omega⟩
  exact⟨N,ghd (l.drop 1),hN,rfl,hQ4,by omega,by rw[hv',hN]⟩
 have HDR:=zh (h.drop' 1 hl1)
 have HMD:=zh hmd
 have HME:=zh hme
 have HKEY:=zh key
 clear h hmd hme key hl
 generalize hn:l.length=n at hc1 hl1 HDR HMD
 have HN:=zh hn
 clear hn
 by_cases hcap:cap=1
 ·subst hcap
  obtain rfl:n=1:=by omega
  have HT:Hid (Byt w (.slice (some ⟨b,off,none⟩) 0 0) (l.drop 1)):=by
   show Byt _ _ _
   have k:=uh HDR
   rw[if_pos rfl,Nat.sub_self]at k
   exact k
  clear HDR
  by_cases hv:(V.vget (l.drop 1)).2.2=0
  ·obtain⟨N,K,e1,e2,hK,hN2,hvg⟩:=(uh HKEY) _ (uh HT) hv
   have HM:=zh ((uh HMD) N K e1 e2 hv)
   have HV:=zh hvg
   clear hvg e1 e2 hv HMD HME HKEY
   have HG:=zh (vget_good _ (l.drop 1) w (uh HT) N K (uh HV))
   by_cases h1:65536 < 1+K+N
   ·rw[if_pos h1]at HM
    go_enter Tryz.func27,Tryz.ntmps27
    go_wp2_with fail
    refine (uh HG).mono ?_
    rintro e w1 ⟨rfl,hb1⟩
    have HB1:=zh hb1
    clear hb1
    go_wp2_with fail
    refine (pf_use 2 _).mono ?_
    rintro e w2 ⟨x,rfl,hE,hb2⟩
    have HB2:Hid (Below w.heap.size w w2):=(uh HB1).trans (hb2.mono (uh HB1).size)
    clear hb2
    go_wp2
    go_returns
    unfold MeasPost
    rw[uh HM]
    exact⟨_,rfl,.inr ⟨by decide,uh hE⟩,uh HB2⟩
   ·rw[if_neg h1]at HM
    by_cases h2:1 < 1+K+N
    ·rw[if_pos h2]at HM
     go_enter Tryz.func27,Tryz.ntmps27
     go_wp2_with fail
     refine (uh HG).mono ?_
     rintro e w1 ⟨rfl,hb1⟩
     have HB1:=zh hb1
     clear hb1
     go_wp2_with fail
     refine (pf_use 3 _).mono ?_
     rintro e w2 ⟨x,rfl,hE,hb2⟩
     have HB2:Hid (Below w.heap.size w w2):=(uh HB1).trans (hb2.mono (uh HB1).size)
     clear hb2
     go_wp2
     go_returns
     unfold MeasPost
     rw[uh HM]
     exact⟨_,rfl,.inr ⟨by decide,uh hE⟩,uh HB2⟩
    ·rw[if_neg h2]at HM
     go_enter Tryz.func27,Tryz.ntmps27
     go_wp2_with fail
     refine (uh HG).mono ?_
     rintro e w1 ⟨rfl,hb1⟩
     have HB1:=zh hb1
     clear hb1
     go_wp2
     go_returns
     unfold MeasPost
     rw[uh HM]
     exact⟨_,by go_num,.inl ⟨rfl,rfl⟩,uh HB1⟩
  ·have HM:=zh ((uh HME) hv)
   generalize hm:(V.vget (l.drop 1)).2.2=m at hv HM
   have HG:=zh (vget_fail _ (l.drop 1) w (uh HT) m hm hv)
   clear hm HMD HME HKEY
   go_enter Tryz.func27,Tryz.ntmps27
   go_wp2_with fail
   refine (uh HG).mono ?_
   rintro e w1 ⟨a1,a2,x,rfl,hi,hb1⟩
   have HB1:=zh hb1
   clear hb1
   obtain⟨d,hd,he⟩:=er_of_inn (uh hi)
   have HE1:=zh he
   clear he
   go_wp2_with fail
   refine (pw_use d hd _ m _ (uh HE1)).mono ?_
   rintro e w2 ⟨y,rfl,hE,hb2⟩
   have HB2:Hid (Below w.heap.size w w2):=(uh HB1).trans (hb2.mono (uh HB1).size)
   clear hb2
   go_wp2
   go_returns
   unfold MeasPost
   rw[uh HM]
   exact⟨_,rfl,.inr ⟨hv,uh hE⟩,uh HB2⟩
 ·have HT:Hid (Byt w (.slice (some ⟨b,off+1,none⟩) (n - 1) (cap - 1)) (l.drop 1)):=by
   show Byt _ _ _
   have k:=uh HDR
   rw[if_neg hcap]at k
   exact k
  clear HDR
  by_cases hv:(V.vget (l.drop 1)).2.2=0
  ·obtain⟨N,K,e1,e2,hK,hN2,hvg⟩:=(uh HKEY) _ (uh HT) hv
   have HM:=zh ((uh HMD) N K e1 e2 hv)
   have HV:=zh hvg
   clear hvg e1 e2 hv HMD HME HKEY
   have HG:=zh (vget_good _ (l.drop 1) w (uh HT) N K (uh HV))
   by_cases h1:65536 < 1+K+N
   ·rw[if_pos h1]at HM
    go_enter Tryz.func27,Tryz.ntmps27
    go_wp2_with fail
    refine (uh HG).mono ?_
    rintro e w1 ⟨rfl,hb1⟩
    have HB1:=zh hb1
    clear hb1
    go_wp2_with fail
    refine (pf_use 2 _).mono ?_
    rintro e w2 ⟨x,rfl,hE,hb2⟩
    have HB2:Hid (Below w.heap.size w w2):=(uh HB1).trans (hb2.mono (uh HB1).size)
    clear hb2
    go_wp2
    go_returns
    unfold MeasPost
    rw[uh HM]
    exact⟨_,rfl,.inr ⟨by decide,uh hE⟩,uh HB2⟩
   ·rw[if_neg h1]at HM
    by_cases h2:n < 1+K+N
    ·rw[if_pos h2]at HM
     go_enter Tryz.func27,Tryz.ntmps27
     go_wp2_with fail
     refine (uh HG).mono ?_
     rintro e w1 ⟨rfl,hb1⟩
     have HB1:=zh hb1
     clear hb1
     go_wp2_with fail
     refine (pf_use 3 _).mono ?_
     rintro e w2 ⟨x,rfl,hE,hb2⟩
     have HB2:Hid (Below w.heap.size w w2):=(uh HB1).trans (hb2.mono (uh HB1).size)
     clear hb2
     go_wp2
     go_returns
     unfold MeasPost
     rw[uh HM]
     exact⟨_,rfl,.inr ⟨by decide,uh hE⟩,uh HB2⟩
    ·rw[if_neg h2]at HM
     go_enter Tryz.func27,Tryz.ntmps27
     go_wp2_with fail
     refine (uh HG).mono ?_
     rintro e w1 ⟨rfl,hb1⟩
     have HB1:=zh hb1
     clear hb1
     go_wp2
     go_returns
     unfold MeasPost
     rw[uh HM]
     exact⟨_,by go_num,.inl ⟨rfl,rfl⟩,uh HB1⟩
  ·have HM:=zh ((uh HME) hv)
   generalize hm:(V.vget (l.drop 1)).2.2=m at hv HM
   have HG:=zh (vget_fail _ (l.drop 1) w (uh HT) m hm hv)
   clear hm HMD HME HKEY
   go_enter Tryz.func27,Tryz.ntmps27
   go_wp2_with fail
   refine (uh HG).mono ?_
   rintro e w1 ⟨a1,a2,x,rfl,hi,hb1⟩
   have HB1:=zh hb1
   clear hb1
   obtain⟨d,hd,he⟩:=er_of_inn (uh hi)
   have HE1:=zh he
   clear he
   go_wp2_with fail
   refine (pw_use d hd _ m _ (uh HE1)).mono ?_
   rintro e w2 ⟨y,rfl,hE,hb2⟩
   have HB2:Hid (Below w.heap.size w w2):=(uh HB1).trans (hb2.mono (uh HB1).size)
   clear hb2
   go_wp2
   go_returns
   unfold MeasPost
   rw[uh HM]
   exact⟨_,rfl,.inr ⟨hv,uh hE⟩,uh HB2⟩
def PackPost (w0:World) (R:Nat) (P:Pa) (st:Option (List Int)) (w:World) (e:Ending) (w':World):Prop :=
 e=.returned (.tuple #[])/\∃ (p':Pkv) (P':Pa) (st':Option (List Int)),Pk w' R p'/\Hid (Mean w' w.heap.size p' P')/\Stp (packet? P) st P' st'/\RS w0 w' R st'/\BX R isAny w w'
theorem Mean.bx {w w':World} {R B:Nat} {may:Nat->Prop} {p:Pkv} {P:Pa} (h:Mean w B p P) (hx:BX R may w w') (hR:R < B):Mean w' B p P :=
 ⟨h.sc,owns_bx h.props hx hR,by
  obtain⟨ws,h1,h2,h3⟩:=h.wills
  exact⟨ws,owns_bx h1 hx hR,h2,fun i a b ha hb=>by
   obtain⟨k1,k2,k3,k4,k5⟩:=h3 i a b ha hb
   exact⟨k1,k2,k3,k4,owns_bx k5 hx hR⟩⟩,owns_bx h.user hx hR,owns_bx h.pass hx hR,owns_bx h.subs hx hR,owns_bx h.filters hx hR,owns_bx h.codes hx hR⟩
theorem packet_stp {P P':Pa} {st st1 st2:Option (List Int)} (h:Stp (body? P) st P' st1) (h2:Stp endR st1 () st2):Stp (packet? P) st P' st2:=h.bind (h2.bind (Stp.pure _ _))
theorem stp_le {α:Type} {f:List Int->Option (α×List Int)} (hf:∀ l x l',f l=some (x,l')->l'.length<=l.length) {st:Option (List Int)} {l':List Int} {x:α} (h:Stp f st x (some l')):∃ l,st=some l/\l'.length<=l.length:=by
 cases st with
 | none=>cases h
 | some l =>
  unfold Stp at h
  simp only at h
  cases hq:f l with
  | none=>rw[hq]at h;cases h
  | some r =>
   obtain⟨y,l2⟩:=r
   rw[hq]at h
   obtain⟨_,e⟩:=h
   cases e
   exact⟨l,rfl,hf l y l' hq⟩
theorem stp_le2 {α β:Type} {f:List Int->Option (α×List Int)} {g:List Int->Option (β×List Int)} (hf:∀ l x l',f l=some (x,l')->l'.length<=l.length) (hg:∀ l x l',g l=some (x,l')->l'.length<=l.length) {st st1:Option (List Int)} {l':List Int} {x:α} {y:β} (h:Stp f st x st1) (h2:Stp g st1 y (some l')) (hl:∀ l,st=some l->l.length<=65536):l'.length<=65536:=by
 obtain⟨l1,rfl,k1⟩:=stp_le hg h2
 obtain⟨l0,rfl,k0⟩:=stp_le hf h
 have:=hl l0 rfl
 omega
theorem id?_le (l:List Int) (x:Int) (l':List Int) (h:id? l=some (x,l')):l'.length<=l.length:=by
 unfold id? at h
 match l,h with
 | [],h=>cases h
 | [a],h=>cases h
 | a :: b :: t,h =>
  simp only[two?]at h
  split at h
  ·cases h
  ·simp at h
   obtain⟨_,rfl⟩:=h
   simp
   omega
theorem props?_le (place:Int) (l:List Int) (x:List Pr) (l':List Int) (h:props? place l=some (x,l')):l'.length<=l.length:=by
 unfold props? at h
 split at h
 ·simp at h
  obtain⟨_,rfl⟩:=h
  rw[List.length_drop]
  omega
 ·cases h
theorem packet_k12 (R:Nat) (st:Option (List Int)) (w0 w:World) (h:RS w0 w R st) (hp:Pk w R (pk0 12 false 0 false)) (hl:∀ l,st=some l->l.length<=65536):Calls Tryz.prog 28 #[.pointer (some ⟨R,0,none⟩)] w (PackPost w0 R (pa0 12 false 0 false) st w):=by
 have hlt:=h.lt
 have c0:=hp.kind
 have HP:=zh hp
 have HS:=zh h
 have HL:=zh hl
 clear hp h hl
 simp only[pk0]at c0
 go_enter Tryz.func28,Tryz.ntmps28
 have HS1:=HS
 have HP1:=HP
 have HX1:Hid (BX R isAny w w):=BX.refl _ _ _
 obtain⟨ao,n,cap,c19,⟨g1,g2⟩,gl⟩:=(uh HS1).rest
 unfold maxLen at g2
 have GL:=zh gl
 clear gl
 have HM:Hid (Mean w w.heap.size (pk0 12 false 0 false) (pa0 12 false 0 false)):=⟨⟨rfl,rfl,rfl,rfl,rfl,rfl,rfl,rfl,rfl,rfl,rfl,rfl⟩,row0 _ _ _ _,wills0 _ _,row0 _ _ _ _,row0 _ _ _ _,row0 _ _ _ _,row0 _ _ _ _,row0 _ _ _ _⟩
 have hbz:((n:Int) == 0)=decide (n=0):=by by_cases h:n=0 <;> simp[h]
 go_wp2_with fail
 refine (must_any R _ st w0 _ (uh HS1)).mono ?_
 rintro e wz ⟨rfl,hz,hxz⟩
 have HZ:=zh hz
 have HXZ:=zh hxz
 clear hz hxz
 go_wp2
 go_end0
 have hBY:Stp (body? (pa0 12 false 0 false)) st (pa0 12 false 0 false) st:=by
  exact (Stp.pure (pa0 12 false 0 false) st)
 exact⟨rfl,(pk0 12 false 0 false),(pa0 12 false 0 false),_,(uh HP1).bx (uh HXZ),(uh HM).bx (uh HXZ) hlt,packet_stp hBY (stp_end (uh GL) _ (by first | exact hbz | rfl | simp)),uh HZ,(uh HX1).trans (uh HXZ).any⟩
theorem packet_k13 (R:Nat) (st:Option (List Int)) (w0 w:World) (h:RS w0 w R st) (hp:Pk w R (pk0 13 false 0 false)) (hl:∀ l,st=some l->l.length<=65536):Calls Tryz.prog 28 #[.pointer (some ⟨R,0,none⟩)] w (PackPost w0 R (pa0 13 false 0 false) st w):=by
 have hlt:=h.lt
 have c0:=hp.kind
 have HP:=zh hp
 have HS:=zh h
 have HL:=zh hl
 clear hp h hl
 simp only[pk0]at c0
 go_enter Tryz.func28,Tryz.ntmps28
 have HS1:=HS
 have HP1:=HP
 have HX1:Hid (BX R isAny w w):=BX.refl _ _ _
 obtain⟨ao,n,cap,c19,⟨g1,g2⟩,gl⟩:=(uh HS1).rest
 unfold maxLen at g2
 have GL:=zh gl
 clear gl
 have HM:Hid (Mean w w.heap.size (pk0 13 false 0 false) (pa0 13 false 0 false)):=⟨⟨rfl,rfl,rfl,rfl,rfl,rfl,rfl,rfl,rfl,rfl,rfl,rfl⟩,row0 _ _ _ _,wills0 _ _,row0 _ _ _ _,row0 _ _ _ _,row0 _ _ _ _,row0 _ _ _ _,row0 _ _ _ _⟩
 have hbz:((n:Int) == 0)=decide (n=0):=by by_cases h:n=0 <;> simp[h]
 go_wp2_with fail
 refine (must_any R _ st w0 _ (uh HS1)).mono ?_
 rintro e wz ⟨rfl,hz,hxz⟩
 have HZ:=zh hz
 have HXZ:=zh hxz
 clear hz hxz
 go_wp2
 go_end0
 have hBY:Stp (body? (pa0 13 false 0 false)) st (pa0 13 false 0 false) st:=by
  exact (Stp.pure (pa0 13 false 0 false) st)
 exact⟨rfl,(pk0 13 false 0 false),(pa0 13 false 0 false),_,(uh HP1).bx (uh HXZ),(uh HM).bx (uh HXZ) hlt,packet_stp hBY (stp_end (uh GL) _ (by first | exact hbz | rfl | simp)),uh HZ,(uh HX1).trans (uh HXZ).any⟩
theorem packet_k4 (R:Nat) (st:Option (List Int)) (w0 w:World) (h:RS w0 w R st) (hp:Pk w R (pk0 4 false 0 false)) (hl:∀ l,st=some l->l.length<=65536):Calls Tryz.prog 28 #[.pointer (some ⟨R,0,none⟩)] w (PackPost w0 R (pa0 4 false 0 false) st w):=by
 have hlt:=h.lt
 have c0:=hp.kind
 have HP:=zh hp
 have HS:=zh h
 have HL:=zh hl
 clear hp h hl
 simp only[pk0]at c0
 go_enter Tryz.func28,Tryz.ntmps28
 go_wp2_with fail
 refine (id_any R st w0 w (uh HS)).mono ?_
 rintro e w1 ⟨i,st1,rfl,-,hs1,h1,hx1⟩
 have hp1:=(uh HP).bx hx1
 have c5:=hp1.id
 have f5:=hp1.id_f
 have HP1:=zh (hp1.set_id i)
 have HS1:=zh (h1.set 5 (.int .i64 i) (by decide))
 have HX1:=zh ((hx1.any).set 5 (.int .i64 i) trivial)
 have HST1:=zh hs1
 clear hp1 h1 hx1 hs1
 go_wp2_with fail
 refine (reason_any R { (pk0 4 false 0 false)with id:=i } st1 w0 _ (uh HS1) (uh HP1) rfl rfl).mono ?_
 rintro e w2 ⟨rfl,c,t,x,st2,hp2,hO2,hs2,h2,hx2⟩
 have HP2:=zh hp2
 have HS2:=zh h2
 have HX2:=zh ((uh HX1).trans hx2)
 have HST2:Hid (Stp (reason? 4) st1 (c,x) st2):=hs2
 have HO2:Hid (w2.ownsRow w.heap.size 109 4 t.val x.length (pcs x)):=owns_mono (uh hO2) (uh HX1).size
 clear hp2 h2 hx2 hs2 hO2
 obtain⟨ao,n,cap,c19,⟨g1,g2⟩,gl⟩:=(uh HS2).rest
 unfold maxLen at g2
 have GL:=zh gl
 clear gl
 have HM:Hid (Mean w2 w.heap.size { (pk0 4 false 0 false)with id:=i,code:=c,props:=t } { (pa0 4 false 0 false)with id:=i,code:=c,props:=x }):=⟨⟨rfl,rfl,rfl,rfl,rfl,rfl,rfl,rfl,rfl,rfl,rfl,rfl⟩,uh HO2,wills0 _ _,row0 _ _ _ _,row0 _ _ _ _,row0 _ _ _ _,row0 _ _ _ _,row0 _ _ _ _⟩
 have hbz:((n:Int) == 0)=decide (n=0):=by by_cases h:n=0 <;> simp[h]
 go_wp2_with fail
 refine (must_any R _ st2 w0 _ (uh HS2)).mono ?_
 rintro e wz ⟨rfl,hz,hxz⟩
 have HZ:=zh hz
 have HXZ:=zh hxz
 clear hz hxz
 go_wp2
 go_end0
 have hBY:Stp (body? (pa0 4 false 0 false)) st { (pa0 4 false 0 false)with id:=i,code:=c,props:=x } st2:=by
  show Stp (bindR id? fun i=>bindR (reason? 4) fun r=>pureR { (pa0 4 false 0 false)with id:=i,code:=r.1,props:=r.2 }) st { (pa0 4 false 0 false)with id:=i,code:=c,props:=x } st2
  exact (uh HST1).bind ((uh HST2).bind (Stp.pure _ _))
 exact⟨rfl,{ (pk0 4 false 0 false)with id:=i,code:=c,props:=t },{ (pa0 4 false 0 false)with id:=i,code:=c,props:=x },_,(uh HP2).bx (uh HXZ),(uh HM).bx (uh HXZ) hlt,packet_stp hBY (stp_end (uh GL) _ (by first | exact hbz | rfl | simp)),uh HZ,(uh HX2).trans (uh HXZ).any⟩
theorem packet_k5 (R:Nat) (st:Option (List Int)) (w0 w:World) (h:RS w0 w R st) (hp:Pk w R (pk0 5 false 0 false)) (hl:∀ l,st=some l->l.length<=65536):Calls Tryz.prog 28 #[.pointer (some ⟨R,0,none⟩)] w (PackPost w0 R (pa0 5 false 0 false) st w):=by
 have hlt:=h.lt
 have c0:=hp.kind
 have HP:=zh hp
 have HS:=zh h
 have HL:=zh hl
 clear hp h hl
 simp only[pk0]at c0
 go_enter Tryz.func28,Tryz.ntmps28
 go_wp2_with fail
 refine (id_any R st w0 w (uh HS)).mono ?_
 rintro e w1 ⟨i,st1,rfl,-,hs1,h1,hx1⟩
 have hp1:=(uh HP).bx hx1
 have c5:=hp1.id
 have f5:=hp1.id_f
 have HP1:=zh (hp1.set_id i)
 have HS1:=zh (h1.set 5 (.int .i64 i) (by decide))
 have HX1:=zh ((hx1.any).set 5 (.int .i64 i) trivial)
 have HST1:=zh hs1
 clear hp1 h1 hx1 hs1
 go_wp2_with fail
 refine (reason_any R { (pk0 5 false 0 false)with id:=i } st1 w0 _ (uh HS1) (uh HP1) rfl rfl).mono ?_
 rintro e w2 ⟨rfl,c,t,x,st2,hp2,hO2,hs2,h2,hx2⟩
 have HP2:=zh hp2
 have HS2:=zh h2
 have HX2:=zh ((uh HX1).trans hx2)
 have HST2:Hid (Stp (reason? 5) st1 (c,x) st2):=hs2
 have HO2:Hid (w2.ownsRow w.heap.size 109 4 t.val x.length (pcs x)):=owns_mono (uh hO2) (uh HX1).size
 clear hp2 h2 hx2 hs2 hO2
 obtain⟨ao,n,cap,c19,⟨g1,g2⟩,gl⟩:=(uh HS2).rest
 unfold maxLen at g2
 have GL:=zh gl
 clear gl
 have HM:Hid (Mean w2 w.heap.size { (pk0 5 false 0 false)with id:=i,code:=c,props:=t } { (pa0 5 false 0 false)with id:=i,code:=c,props:=x }):=⟨⟨rfl,rfl,rfl,rfl,rfl,rfl,rfl,rfl,rfl,rfl,rfl,rfl⟩,uh HO2,wills0 _ _,row0 _ _ _ _,row0 _ _ _ _,row0 _ _ _ _,row0 _ _ _ _,row0 _ _ _ _⟩
 have hbz:((n:Int) == 0)=decide (n=0):=by by_cases h:n=0 <;> simp[h]
 go_wp2_with fail
 refine (must_any R _ st2 w0 _ (uh HS2)).mono ?_
 rintro e wz ⟨rfl,hz,hxz⟩
 have HZ:=zh hz
 have HXZ:=zh hxz
 clear hz hxz
 go_wp2
 go_end0
 have hBY:Stp (body? (pa0 5 false 0 false)) st { (pa0 5 false 0 false)with id:=i,code:=c,props:=x } st2:=by
  show Stp (bindR id? fun i=>bindR (reason? 5) fun r=>pureR { (pa0 5 false 0 false)with id:=i,code:=r.1,props:=r.2 }) st { (pa0 5 false 0 false)with id:=i,code:=c,props:=x } st2
  exact (uh HST1).bind ((uh HST2).bind (Stp.pure _ _))
 exact⟨rfl,{ (pk0 5 false 0 false)with id:=i,code:=c,props:=t },{ (pa0 5 false 0 false)with id:=i,code:=c,props:=x },_,(uh HP2).bx (uh HXZ),(uh HM).bx (uh HXZ) hlt,packet_stp hBY (stp_end (uh GL) _ (by first | exact hbz | rfl | simp)),uh HZ,(uh HX2).trans (uh HXZ).any⟩
theorem packet_k6 (R:Nat) (st:Option (List Int)) (w0 w:World) (h:RS w0 w R st) (hp:Pk w R (pk0 6 false 0 false)) (hl:∀ l,st=some l->l.length<=65536):Calls Tryz.prog 28 #[.pointer (some ⟨R,0,none⟩)] w (PackPost w0 R (pa0 6 false 0 false) st w):=by
 have hlt:=h.lt
 have c0:=hp.kind
 have HP:=zh hp
 have HS:=zh h
 have HL:=zh hl
 clear hp h hl
 simp only[pk0]at c0
 go_enter Tryz.func28,Tryz.ntmps28
 go_wp2_with fail
 refine (id_any R st w0 w (uh HS)).mono ?_
 rintro e w1 ⟨i,st1,rfl,-,hs1,h1,hx1⟩
 have hp1:=(uh HP).bx hx1
 have c5:=hp1.id
 have f5:=hp1.id_f
 have HP1:=zh (hp1.set_id i)
 have HS1:=zh (h1.set 5 (.int .i64 i) (by decide))
 have HX1:=zh ((hx1.any).set 5 (.int .i64 i) trivial)
 have HST1:=zh hs1
 clear hp1 h1 hx1 hs1
 go_wp2_with fail
 refine (reason_any R { (pk0 6 false 0 false)with id:=i } st1 w0 _ (uh HS1) (uh HP1) rfl rfl).mono ?_
 rintro e w2 ⟨rfl,c,t,x,st2,hp2,hO2,hs2,h2,hx2⟩
 have HP2:=zh hp2
 have HS2:=zh h2
 have HX2:=zh ((uh HX1).trans hx2)
 have HST2:Hid (Stp (reason? 6) st1 (c,x) st2):=hs2
 have HO2:Hid (w2.ownsRow w.heap.size 109 4 t.val x.length (pcs x)):=owns_mono (uh hO2) (uh HX1).size
 clear hp2 h2 hx2 hs2 hO2
 obtain⟨ao,n,cap,c19,⟨g1,g2⟩,gl⟩:=(uh HS2).rest
 unfold maxLen at g2
 have GL:=zh gl
 clear gl
 have HM:Hid (Mean w2 w.heap.size { (pk0 6 false 0 false)with id:=i,code:=c,props:=t } { (pa0 6 false 0 false)with id:=i,code:=c,props:=x }):=⟨⟨rfl,rfl,rfl,rfl,rfl,rfl,rfl,rfl,rfl,rfl,rfl,rfl⟩,uh HO2,wills0 _ _,row0 _ _ _ _,row0 _ _ _ _,row0 _ _ _ _,row0 _ _ _ _,row0 _ _ _ _⟩
 have hbz:((n:Int) == 0)=decide (n=0):=by by_cases h:n=0 <;> simp[h]
 go_wp2_with fail
 refine (must_any R _ st2 w0 _ (uh HS2)).mono ?_
 rintro e wz ⟨rfl,hz,hxz⟩
 have HZ:=zh hz
 have HXZ:=zh hxz
 clear hz hxz
 go_wp2
 go_end0
 have hBY:Stp (body? (pa0 6 false 0 false)) st { (pa0 6 false 0 false)with id:=i,code:=c,props:=x } st2:=by
  show Stp (bindR id? fun i=>bindR (reason? 6) fun r=>pureR { (pa0 6 false 0 false)with id:=i,code:=r.1,props:=r.2 }) st { (pa0 6 false 0 false)with id:=i,code:=c,props:=x } st2
  exact (uh HST1).bind ((uh HST2).bind (Stp.pure _ _))
 exact⟨rfl,{ (pk0 6 false 0 false)with id:=i,code:=c,props:=t },{ (pa0 6 false 0 false)with id:=i,code:=c,props:=x },_,(uh HP2).bx (uh HXZ),(uh HM).bx (uh HXZ) hlt,packet_stp hBY (stp_end (uh GL) _ (by first | exact hbz | rfl | simp)),uh HZ,(uh HX2).trans (uh HXZ).any⟩
theorem packet_k7 (R:Nat) (st:Option (List Int)) (w0 w:World) (h:RS w0 w R st) (hp:Pk w R (pk0 7 false 0 false)) (hl:∀ l,st=some l->l.length<=65536):Calls Tryz.prog 28 #[.pointer (some ⟨R,0,none⟩)] w (PackPost w0 R (pa0 7 false 0 false) st w):=by
 have hlt:=h.lt
 have c0:=hp.kind
 have HP:=zh hp
 have HS:=zh h
 have HL:=zh hl
 clear hp h hl
 simp only[pk0]at c0
 go_enter Tryz.func28,Tryz.ntmps28
 go_wp2_with fail
 refine (id_any R st w0 w (uh HS)).mono ?_
 rintro e w1 ⟨i,st1,rfl,-,hs1,h1,hx1⟩
 have hp1:=(uh HP).bx hx1
 have c5:=hp1.id
 have f5:=hp1.id_f
 have HP1:=zh (hp1.set_id i)
 have HS1:=zh (h1.set 5 (.int .i64 i) (by decide))
 have HX1:=zh ((hx1.any).set 5 (.int .i64 i) trivial)
 have HST1:=zh hs1
 clear hp1 h1 hx1 hs1
 go_wp2_with fail
 refine (reason_any R { (pk0 7 false 0 false)with id:=i } st1 w0 _ (uh HS1) (uh HP1) rfl rfl).mono ?_
 rintro e w2 ⟨rfl,c,t,x,st2,hp2,hO2,hs2,h2,hx2⟩
 have HP2:=zh hp2
 have HS2:=zh h2
 have HX2:=zh ((uh HX1).trans hx2)
 have HST2:Hid (Stp (reason? 7) st1 (c,x) st2):=hs2
 have HO2:Hid (w2.ownsRow w.heap.size 109 4 t.val x.length (pcs x)):=owns_mono (uh hO2) (uh HX1).size
 clear hp2 h2 hx2 hs2 hO2
 obtain⟨ao,n,cap,c19,⟨g1,g2⟩,gl⟩:=(uh HS2).rest
 unfold maxLen at g2
 have GL:=zh gl
 clear gl
 have HM:Hid (Mean w2 w.heap.size { (pk0 7 false 0 false)with id:=i,code:=c,props:=t } { (pa0 7 false 0 false)with id:=i,code:=c,props:=x }):=⟨⟨rfl,rfl,rfl,rfl,rfl,rfl,rfl,rfl,rfl,rfl,rfl,rfl⟩,uh HO2,wills0 _ _,row0 _ _ _ _,row0 _ _ _ _,row0 _ _ _ _,row0 _ _ _ _,row0 _ _ _ _⟩
 have hbz:((n:Int) == 0)=decide (n=0):=by by_cases h:n=0 <;> simp[h]
 go_wp2_with fail
 refine (must_any R _ st2 w0 _ (uh HS2)).mono ?_
 rintro e wz ⟨rfl,hz,hxz⟩
 have HZ:=zh hz
 have HXZ:=zh hxz
 clear hz hxz
 go_wp2
 go_end0
 have hBY:Stp (body? (pa0 7 false 0 false)) st { (pa0 7 false 0 false)with id:=i,code:=c,props:=x } st2:=by
  show Stp (bindR id? fun i=>bindR (reason? 7) fun r=>pureR { (pa0 7 false 0 false)with id:=i,code:=r.1,props:=r.2 }) st { (pa0 7 false 0 false)with id:=i,code:=c,props:=x } st2
  exact (uh HST1).bind ((uh HST2).bind (Stp.pure _ _))
 exact⟨rfl,{ (pk0 7 false 0 false)with id:=i,code:=c,props:=t },{ (pa0 7 false 0 false)with id:=i,code:=c,props:=x },_,(uh HP2).bx (uh HXZ),(uh HM).bx (uh HXZ) hlt,packet_stp hBY (stp_end (uh GL) _ (by first | exact hbz | rfl | simp)),uh HZ,(uh HX2).trans (uh HXZ).any⟩
theorem packet_k14 (R:Nat) (st:Option (List Int)) (w0 w:World) (h:RS w0 w R st) (hp:Pk w R (pk0 14 false 0 false)) (hl:∀ l,st=some l->l.length<=65536):Calls Tryz.prog 28 #[.pointer (some ⟨R,0,none⟩)] w (PackPost w0 R (pa0 14 false 0 false) st w):=by
 have hlt:=h.lt
 have c0:=hp.kind
 have HP:=zh hp
 have HS:=zh h
 have HL:=zh hl
 clear hp h hl
 simp only[pk0]at c0
 go_enter Tryz.func28,Tryz.ntmps28
 have HP1:=HP
 have HS1:=HS
 have HX1:Hid (BX R isAny w w):=BX.refl _ _ _
 go_wp2_with fail
 refine (reason_any R (pk0 14 false 0 false) st w0 _ (uh HS1) (uh HP1) rfl rfl).mono ?_
 rintro e w2 ⟨rfl,c,t,x,st2,hp2,hO2,hs2,h2,hx2⟩
 have HP2:=zh hp2
 have HS2:=zh h2
 have HX2:=zh ((uh HX1).trans hx2)
 have HST2:Hid (Stp (reason? 14) st (c,x) st2):=hs2
 have HO2:Hid (w2.ownsRow w.heap.size 109 4 t.val x.length (pcs x)):=owns_mono (uh hO2) (uh HX1).size
 clear hp2 h2 hx2 hs2 hO2
 obtain⟨ao,n,cap,c19,⟨g1,g2⟩,gl⟩:=(uh HS2).rest
 unfold maxLen at g2
 have GL:=zh gl
 clear gl
 have HM:Hid (Mean w2 w.heap.size { (pk0 14 false 0 false)with code:=c,props:=t } { (pa0 14 false 0 false)with code:=c,props:=x }):=⟨⟨rfl,rfl,rfl,rfl,rfl,rfl,rfl,rfl,rfl,rfl,rfl,rfl⟩,uh HO2,wills0 _ _,row0 _ _ _ _,row0 _ _ _ _,row0 _ _ _ _,row0 _ _ _ _,row0 _ _ _ _⟩
 have hbz:((n:Int) == 0)=decide (n=0):=by by_cases h:n=0 <;> simp[h]
 go_wp2_with fail
 refine (must_any R _ st2 w0 _ (uh HS2)).mono ?_
 rintro e wz ⟨rfl,hz,hxz⟩
 have HZ:=zh hz
 have HXZ:=zh hxz
 clear hz hxz
 go_wp2
 go_end0
 have hBY:Stp (body? (pa0 14 false 0 false)) st { (pa0 14 false 0 false)with code:=c,props:=x } st2:=by
  show Stp (bindR (reason? 14) fun r=>pureR { (pa0 14 false 0 false)with code:=r.1,props:=r.2 }) st { (pa0 14 false 0 false)with code:=c,props:=x } st2
  exact (uh HST2).bind (Stp.pure _ _)
 exact⟨rfl,{ (pk0 14 false 0 false)with code:=c,props:=t },{ (pa0 14 false 0 false)with code:=c,props:=x },_,(uh HP2).bx (uh HXZ),(uh HM).bx (uh HXZ) hlt,packet_stp hBY (stp_end (uh GL) _ (by first | exact hbz | rfl | simp)),uh HZ,(uh HX2).trans (uh HXZ).any⟩
theorem packet_k15 (R:Nat) (st:Option (List Int)) (w0 w:World) (h:RS w0 w R st) (hp:Pk w R (pk0 15 false 0 false)) (hl:∀ l,st=some l->l.length<=65536):Calls Tryz.prog 28 #[.pointer (some ⟨R,0,none⟩)] w (PackPost w0 R (pa0 15 false 0 false) st w):=by
 have hlt:=h.lt
 have c0:=hp.kind
 have HP:=zh hp
 have HS:=zh h
 have HL:=zh hl
 clear hp h hl
 simp only[pk0]at c0
 go_enter Tryz.func28,Tryz.ntmps28
 have HP1:=HP
 have HS1:=HS
 have HX1:Hid (BX R isAny w w):=BX.refl _ _ _
 go_wp2_with fail
 refine (reason_any R (pk0 15 false 0 false) st w0 _ (uh HS1) (uh HP1) rfl rfl).mono ?_
 rintro e w2 ⟨rfl,c,t,x,st2,hp2,hO2,hs2,h2,hx2⟩
 have HP2:=zh hp2
 have HS2:=zh h2
 have HX2:=zh ((uh HX1).trans hx2)
 have HST2:Hid (Stp (reason? 15) st (c,x) st2):=hs2
 have HO2:Hid (w2.ownsRow w.heap.size 109 4 t.val x.length (pcs x)):=owns_mono (uh hO2) (uh HX1).size
 clear hp2 h2 hx2 hs2 hO2
 obtain⟨ao,n,cap,c19,⟨g1,g2⟩,gl⟩:=(uh HS2).rest
 unfold maxLen at g2
 have GL:=zh gl
 clear gl
 have HM:Hid (Mean w2 w.heap.size { (pk0 15 false 0 false)with code:=c,props:=t } { (pa0 15 false 0 false)with code:=c,props:=x }):=⟨⟨rfl,rfl,rfl,rfl,rfl,rfl,rfl,rfl,rfl,rfl,rfl,rfl⟩,uh HO2,wills0 _ _,row0 _ _ _ _,row0 _ _ _ _,row0 _ _ _ _,row0 _ _ _ _,row0 _ _ _ _⟩
 have hbz:((n:Int) == 0)=decide (n=0):=by by_cases h:n=0 <;> simp[h]
 go_wp2_with fail
 refine (must_any R _ st2 w0 _ (uh HS2)).mono ?_
 rintro e wz ⟨rfl,hz,hxz⟩
 have HZ:=zh hz
 have HXZ:=zh hxz
 clear hz hxz
 go_wp2
 go_end0
 have hBY:Stp (body? (pa0 15 false 0 false)) st { (pa0 15 false 0 false)with code:=c,props:=x } st2:=by
  show Stp (bindR (reason? 15) fun r=>pureR { (pa0 15 false 0 false)with code:=r.1,props:=r.2 }) st { (pa0 15 false 0 false)with code:=c,props:=x } st2
  exact (uh HST2).bind (Stp.pure _ _)
 exact⟨rfl,{ (pk0 15 false 0 false)with code:=c,props:=t },{ (pa0 15 false 0 false)with code:=c,props:=x },_,(uh HP2).bx (uh HXZ),(uh HM).bx (uh HXZ) hlt,packet_stp hBY (stp_end (uh GL) _ (by first | exact hbz | rfl | simp)),uh HZ,(uh HX2).trans (uh HXZ).any⟩
theorem packet_k3 (R:Nat) (dup:Bool) (qos:Int) (retain:Bool) (st:Option (List Int)) (w0 w:World) (h:RS w0 w R st) (hp:Pk w R (pk0 3 dup qos retain)) (hl:∀ l,st=some l->l.length<=65536):Calls Tryz.prog 28 #[.pointer (some ⟨R,0,none⟩)] w (PackPost w0 R (pa0 3 dup qos retain) st w):=by
 have hlt:=h.lt
 have c0:=hp.kind
 have HP:=zh hp
 have HS:=zh h
 have HL:=zh hl
 clear hp h hl
 simp only[pk0]at c0
 go_enter Tryz.func28,Tryz.ntmps28
 go_wp2_with fail
 refine (publish_any R (pk0 3 dup qos retain) st w0 w (uh HS) (uh HP) rfl rfl).mono ?_
 rintro e w1 ⟨rfl,t,i,s,x,y,st1,hp1,hO1,hs1,h1,hx1⟩
 have HP1:=zh hp1
 have HS1:=zh h1
 have HX1:=zh hx1
 have HST1:Hid (Stp (publish? qos) st (t,i,x,y) st1):=hs1
 clear hp1 h1 hx1 hs1
 obtain⟨ao,n,cap,c19,⟨g1,g2⟩,gl⟩:=(uh HS1).rest
 unfold maxLen at g2
 have GL:=zh gl
 clear gl
 have HM:Hid (Mean w1 w.heap.size { (pk0 3 dup qos retain)with topic:=t,id:=i,props:=s,payload:=y } { (pa0 3 dup qos retain)with topic:=t,id:=i,props:=x,payload:=y }):=⟨⟨rfl,rfl,rfl,rfl,rfl,rfl,rfl,rfl,rfl,rfl,rfl,rfl⟩,uh hO1,wills0 _ _,row0 _ _ _ _,row0 _ _ _ _,row0 _ _ _ _,row0 _ _ _ _,row0 _ _ _ _⟩
 have hbz:((n:Int) == 0)=decide (n=0):=by by_cases h:n=0 <;> simp[h]
 go_wp2_with fail
 refine (must_any R _ st1 w0 _ (uh HS1)).mono ?_
 rintro e wz ⟨rfl,hz,hxz⟩
 have HZ:=zh hz
 have HXZ:=zh hxz
 clear hz hxz
 go_wp2
 go_end0
 have hBY:Stp (body? (pa0 3 dup qos retain)) st { (pa0 3 dup qos retain)with topic:=t,id:=i,props:=x,payload:=y } st1:=by
  show Stp (bindR (publish? qos) fun r=>pureR { (pa0 3 dup qos retain)with topic:=r.1,id:=r.2.1,props:=r.2.2.1,payload:=r.2.2.2 }) st { (pa0 3 dup qos retain)with topic:=t,id:=i,props:=x,payload:=y } st1
  exact (uh HST1).bind (Stp.pure _ _)
 exact⟨rfl,{ (pk0 3 dup qos retain)with topic:=t,id:=i,props:=s,payload:=y },{ (pa0 3 dup qos retain)with topic:=t,id:=i,props:=x,payload:=y },_,(uh HP1).bx (uh HXZ),(uh HM).bx (uh HXZ) hlt,packet_stp hBY (stp_end (uh GL) _ (by first | exact hbz | rfl | simp)),uh HZ,(uh HX1).trans (uh HXZ).any⟩
theorem packet_k1 (R:Nat) (st:Option (List Int)) (w0 w:World) (h:RS w0 w R st) (hp:Pk w R (pk0 1 false 0 false)) (hl:∀ l,st=some l->l.length<=65536):Calls Tryz.prog 28 #[.pointer (some ⟨R,0,none⟩)] w (PackPost w0 R (pa0 1 false 0 false) st w):=by
 have hlt:=h.lt
 have c0:=hp.kind
 have HP:=zh hp
 have HS:=zh h
 have HL:=zh hl
 clear hp h hl
 simp only[pk0]at c0
 go_enter Tryz.func28,Tryz.ntmps28
 go_wp2_with fail
 refine (connect_any R (pk0 1 false 0 false) st w0 w (uh HS) (uh HP) rfl rfl rfl rfl).mono ?_
 rintro e w1 ⟨rfl,n0,V,U,Q,N,tp,st1,hp1,hO1,hN,hW,hU,hQ,hs1,h1,hx1⟩
 have HP1:=zh hp1
 have HS1:=zh h1
 have HX1:=zh hx1
 have HST1:=zh hs1
 clear hp1 h1 hx1 hs1
 obtain⟨ao,n,cap,c19,⟨g1,g2⟩,gl⟩:=(uh HS1).rest
 unfold maxLen at g2
 have GL:=zh gl
 clear gl
 have HM:Hid (Mean w1 w.heap.size { (pk0 1 false 0 false)with clean:=btest n0.x 2,wills:=isW V (btest n0.x 4),user:=isW U (btest n0.x 128),pass:=isW Q (btest n0.x 64),keep:=n0.keep,props:=tp,client:=n0.client } (ofCn (pa0 1 false 0 false) n0)):=⟨⟨rfl,rfl,rfl,rfl,rfl,rfl,rfl,rfl,rfl,rfl,rfl,rfl⟩,uh hO1,row_will (uh hW) hN,row_str (uh hU),row_str (uh hQ),row0 _ _ _ _,row0 _ _ _ _,row0 _ _ _ _⟩
 have hbz:((n:Int) == 0)=decide (n=0):=by by_cases h:n=0 <;> simp[h]
 go_wp2_with fail
 refine (must_any R _ st1 w0 _ (uh HS1)).mono ?_
 rintro e wz ⟨rfl,hz,hxz⟩
 have HZ:=zh hz
 have HXZ:=zh hxz
 clear hz hxz
 go_wp2
 go_end0
 have hBY:Stp (body? (pa0 1 false 0 false)) st (ofCn (pa0 1 false 0 false) n0) st1:=by
  show Stp (bindR connect? fun n=>pureR (ofCn (pa0 1 false 0 false) n)) st (ofCn (pa0 1 false 0 false) n0) st1
  exact (uh HST1).bind (Stp.pure _ _)
 exact⟨rfl,{ (pk0 1 false 0 false)with clean:=btest n0.x 2,wills:=isW V (btest n0.x 4),user:=isW U (btest n0.x 128),pass:=isW Q (btest n0.x 64),keep:=n0.keep,props:=tp,client:=n0.client },(ofCn (pa0 1 false 0 false) n0),_,(uh HP1).bx (uh HXZ),(uh HM).bx (uh HXZ) hlt,packet_stp hBY (stp_end (uh GL) _ (by first | exact hbz | rfl | simp)),uh HZ,(uh HX1).trans (uh HXZ).any⟩
theorem packet_k2 (R:Nat) (st:Option (List Int)) (w0 w:World) (h:RS w0 w R st) (hp:Pk w R (pk0 2 false 0 false)) (hl:∀ l,st=some l->l.length<=65536):Calls Tryz.prog 28 #[.pointer (some ⟨R,0,none⟩)] w (PackPost w0 R (pa0 2 false 0 false) st w):=by
 have hlt:=h.lt
 have c0:=hp.kind
 have HP:=zh hp
 have HS:=zh h
 have HL:=zh hl
 clear hp h hl
 simp only[pk0]at c0
 go_enter Tryz.func28,Tryz.ntmps28
 go_wp2_with fail
 refine (one_any R st w0 w (uh HS)).mono ?_
 rintro e w1 ⟨f,st1,rfl,hf,hs1,h1,hx1⟩
 have HP1:=zh ((uh HP).bx hx1)
 have HS1:=zh h1
 have HX1:=zh hx1
 have HST1:=zh hs1
 clear h1 hx1 hs1
 go_wp2_with fail
 refine (must_any R _ st1 w0 w1 (uh HS1)).mono ?_
 rintro e w2 ⟨rfl,h2,hx2⟩
 have hp2:=(uh HP1).bx hx2
 have c15:=hp2.session
 have f15:=hp2.session_f
 have HP2:=zh (hp2.set_session (f == 1))
 have HS2:=zh (h2.set 15 (.bool (f == 1)) (by decide))
 have HX2:=zh ((((uh HX1).trans hx2).any).set 15 (.bool (f == 1)) trivial)
 clear hp2 h2 hx2
 go_wp2_with fail
 refine (one_any R _ w0 _ (uh HS2)).mono ?_
 rintro e w3 ⟨c,st3,rfl,-,hs3,h3,hx3⟩
 have hp3:=(uh HP2).bx hx3
 have c14:=hp3.code
 have f14:=hp3.code_f
 have d0:w3.cell? ⟨R,0,none⟩=some (.int .i64 2):=hp3.kind
 have HP3:=zh (hp3.set_code c)
 have HS3:=zh (h3.set 14 (.int .i64 c) (by decide))
 have HX3:=zh (((uh HX2).trans hx3.any).set 14 (.int .i64 c) trivial)
 have HST3:=zh hs3
 clear hp3 h3 hx3 hs3 c15 f15
 go_wp2_with fail
 refine (props_any R 2 st3 w0 _ (uh HS3)).mono ?_
 rintro e w4 ⟨t,x,st4,rfl,hO4,hs4,h4,hx4⟩
 have hp4:=(uh HP3).bx hx4
 have c7:=hp4.props
 have f7:=hp4.props_f
 have HP4:=zh (hp4.set_props t)
 have HS4:=zh (h4.set 7 t.val (by decide))
 have HX4:=zh (((uh HX3).trans hx4.any).set 7 t.val trivial)
 have HST4:=zh hs4
 have HO4:Hid ((w4.setCell ⟨R,7,none⟩ t.val).ownsRow w.heap.size 109 4 t.val x.length (pcs x)):=owns_bx (owns_mono (uh hO4) (uh HX3).size) ((BX.refl R isAny w4).set 7 _ trivial) hlt
 clear hp4 h4 hx4 hs4 hO4 c14 f14 d0
 obtain⟨ao,n,cap,c19,⟨g1,g2⟩,gl⟩:=(uh HS4).rest
 unfold maxLen at g2
 have GL:=zh gl
 clear gl
 have HM:Hid (Mean (w4.setCell ⟨R,7,none⟩ t.val) w.heap.size { (pk0 2 false 0 false)with session:=f == 1,code:=c,props:=t } { (pa0 2 false 0 false)with session:=f == 1,code:=c,props:=x }):=⟨⟨rfl,rfl,rfl,rfl,rfl,rfl,rfl,rfl,rfl,rfl,rfl,rfl⟩,uh HO4,wills0 _ _,row0 _ _ _ _,row0 _ _ _ _,row0 _ _ _ _,row0 _ _ _ _,row0 _ _ _ _⟩
 have hbz:((n:Int) == 0)=decide (n=0):=by by_cases h:n=0 <;> simp[h]
 go_wp2_with fail
 refine (must_any R _ st4 w0 _ (uh HS4)).mono ?_
 rintro e wz ⟨rfl,hz,hxz⟩
 have HZ:=zh hz
 have HXZ:=zh hxz
 clear hz hxz
 go_wp2
 go_end0
 have hBY:Stp (body? (pa0 2 false 0 false)) st { (pa0 2 false 0 false)with session:=f == 1,code:=c,props:=x } st4:=by
  show Stp (bindR one? fun f=>bindR (mustR (decide (f<=1))) fun _=>bindR one? fun c=>bindR (props? 2) fun x=>pureR { (pa0 2 false 0 false)with session:=f == 1,code:=c,props:=x }) st { (pa0 2 false 0 false)with session:=f == 1,code:=c,props:=x } st4
  exact (uh HST1).bind ((Stp.must _ st1).bind ((uh HST3).bind ((uh HST4).bind (Stp.pure _ _))))
 exact⟨rfl,{ (pk0 2 false 0 false)with session:=f == 1,code:=c,props:=t },{ (pa0 2 false 0 false)with session:=f == 1,code:=c,props:=x },_,(uh HP4).bx (uh HXZ),(uh HM).bx (uh HXZ) hlt,packet_stp hBY (stp_end (uh GL) _ (by first | exact hbz | rfl | simp)),uh HZ,(uh HX4).trans (uh HXZ).any⟩
theorem packet_k8 (R:Nat) (st:Option (List Int)) (w0 w:World) (h:RS w0 w R st) (hp:Pk w R (pk0 8 false 0 false)) (hl:∀ l,st=some l->l.length<=65536):Calls Tryz.prog 28 #[.pointer (some ⟨R,0,none⟩)] w (PackPost w0 R (pa0 8 false 0 false) st w):=by
 have hlt:=h.lt
 have c0:=hp.kind
 have HP:=zh hp
 have HS:=zh h
 have HL:=zh hl
 clear hp h hl
 simp only[pk0]at c0
 go_enter Tryz.func28,Tryz.ntmps28
 go_wp2_with fail
 refine (id_any R st w0 w (uh HS)).mono ?_
 rintro e w1 ⟨i,st1,rfl,-,hs1,h1,hx1⟩
 have hp1:=(uh HP).bx hx1
 have c5:=hp1.id
 have f5:=hp1.id_f
 have d0:w1.cell? ⟨R,0,none⟩=some (.int .i64 8):=hp1.kind
 have HP1:=zh (hp1.set_id i)
 have HS1:=zh (h1.set 5 (.int .i64 i) (by decide))
 have HX1:=zh ((hx1.any).set 5 (.int .i64 i) trivial)
 have HST1:=zh hs1
 clear hp1 h1 hx1 hs1 c0
 go_wp2_with fail
 refine (props_any R 8 st1 w0 _ (uh HS1)).mono ?_
 rintro e w2 ⟨t,x,st2,rfl,hO2,hs2,h2,hx2⟩
 have hp2:=(uh HP1).bx hx2
 have c7:=hp2.props
 have f7:=hp2.props_f
 have HP2:=zh (hp2.set_props t)
 have HS2:=zh (h2.set 7 t.val (by decide))
 have HX2:=zh (((uh HX1).trans hx2.any).set 7 t.val trivial)
 have HST2:=zh hs2
 have HO2:Hid ((w2.setCell ⟨R,7,none⟩ t.val).ownsRow w.heap.size 109 4 t.val x.length (pcs x)):=owns_bx (owns_mono (uh hO2) (uh HX1).size) ((BX.refl R isAny w2).set 7 _ trivial) hlt
 have HL2:Hid (∀ l,st2=some l->l.length<=65536):=fun l hl=>by
  subst hl
  exact stp_le2 id?_le (props?_le _) (uh HST1) hs2 (uh HL)
 clear hp2 h2 hx2 hs2 hO2 c5 f5 d0
 go_wp2_with fail
 refine (list_subs R { (pk0 8 false 0 false)with id:=i,props:=t } st2 w0 _ (uh HS2) (uh HP2) rfl (uh HL2) rfl).mono ?_
 rintro e w3 ⟨rfl,td,d,st3,hp3,hO3,hs3,h3,hx3⟩
 have HP3:=zh hp3
 have HS3:=zh h3
 have HX3:=zh ((uh HX2).trans hx3)
 have HST3:=zh hs3
 have HO3:=zh (owns_bx (uh HO2) hx3 hlt)
 have HD3:=zh (owns_mono (uh hO3) (uh HX2).size)
 clear hp3 h3 hx3 hs3 hO3 c7 f7
 obtain⟨ao,n,cap,c19,⟨g1,g2⟩,gl⟩:=(uh HS3).rest
 unfold maxLen at g2
 have GL:=zh gl
 clear gl
 have HM:Hid (Mean w3 w.heap.size { (pk0 8 false 0 false)with id:=i,props:=t,subs:=td } { (pa0 8 false 0 false)with id:=i,props:=x,subs:=d }):=⟨⟨rfl,rfl,rfl,rfl,rfl,rfl,rfl,rfl,rfl,rfl,rfl,rfl⟩,uh HO3,wills0 _ _,row0 _ _ _ _,row0 _ _ _ _,uh HD3,row0 _ _ _ _,row0 _ _ _ _⟩
 have hbz:((n:Int) == 0)=decide (n=0):=by by_cases h:n=0 <;> simp[h]
 go_wp2_with fail
 refine (must_any R _ st3 w0 _ (uh HS3)).mono ?_
 rintro e wz ⟨rfl,hz,hxz⟩
 have HZ:=zh hz
 have HXZ:=zh hxz
 clear hz hxz
 go_wp2
 go_end0
 have hBY:Stp (body? (pa0 8 false 0 false)) st { (pa0 8 false 0 false)with id:=i,props:=x,subs:=d } st3:=by
  show Stp (bindR id? fun i=>bindR (props? 8) fun x=>bindR (list? sub?) fun d=>pureR { (pa0 8 false 0 false)with id:=i,props:=x,subs:=d }) st { (pa0 8 false 0 false)with id:=i,props:=x,subs:=d } st3
  exact (uh HST1).bind ((uh HST2).bind ((uh HST3).bind (Stp.pure _ _)))
 exact⟨rfl,{ (pk0 8 false 0 false)with id:=i,props:=t,subs:=td },{ (pa0 8 false 0 false)with id:=i,props:=x,subs:=d },_,(uh HP3).bx (uh HXZ),(uh HM).bx (uh HXZ) hlt,packet_stp hBY (stp_end (uh GL) _ (by first | exact hbz | rfl | simp)),uh HZ,(uh HX3).trans (uh HXZ).any⟩
theorem packet_k10 (R:Nat) (st:Option (List Int)) (w0 w:World) (h:RS w0 w R st) (hp:Pk w R (pk0 10 false 0 false)) (hl:∀ l,st=some l->l.length<=65536):Calls Tryz.prog 28 #[.pointer (some ⟨R,0,none⟩)] w (PackPost w0 R (pa0 10 false 0 false) st w):=by
 have hlt:=h.lt
 have c0:=hp.kind
 have HP:=zh hp
 have HS:=zh h
 have HL:=zh hl
 clear hp h hl
 simp only[pk0]at c0
 go_enter Tryz.func28,Tryz.ntmps28
 go_wp2_with fail
 refine (id_any R st w0 w (uh HS)).mono ?_
 rintro e w1 ⟨i,st1,rfl,-,hs1,h1,hx1⟩
 have hp1:=(uh HP).bx hx1
 have c5:=hp1.id
 have f5:=hp1.id_f
 have d0:w1.cell? ⟨R,0,none⟩=some (.int .i64 10):=hp1.kind
 have HP1:=zh (hp1.set_id i)
 have HS1:=zh (h1.set 5 (.int .i64 i) (by decide))
 have HX1:=zh ((hx1.any).set 5 (.int .i64 i) trivial)
 have HST1:=zh hs1
 clear hp1 h1 hx1 hs1 c0
 go_wp2_with fail
 refine (props_any R 10 st1 w0 _ (uh HS1)).mono ?_
 rintro e w2 ⟨t,x,st2,rfl,hO2,hs2,h2,hx2⟩
 have hp2:=(uh HP1).bx hx2
 have c7:=hp2.props
 have f7:=hp2.props_f
 have HP2:=zh (hp2.set_props t)
 have HS2:=zh (h2.set 7 t.val (by decide))
 have HX2:=zh (((uh HX1).trans hx2.any).set 7 t.val trivial)
 have HST2:=zh hs2
 have HO2:Hid ((w2.setCell ⟨R,7,none⟩ t.val).ownsRow w.heap.size 109 4 t.val x.length (pcs x)):=owns_bx (owns_mono (uh hO2) (uh HX1).size) ((BX.refl R isAny w2).set 7 _ trivial) hlt
 have HL2:Hid (∀ l,st2=some l->l.length<=65536):=fun l hl=>by
  subst hl
  exact stp_le2 id?_le (props?_le _) (uh HST1) hs2 (uh HL)
 clear hp2 h2 hx2 hs2 hO2 c5 f5 d0
 go_wp2_with fail
 refine (list_filters R { (pk0 10 false 0 false)with id:=i,props:=t } st2 w0 _ (uh HS2) (uh HP2) rfl (uh HL2) rfl).mono ?_
 rintro e w3 ⟨rfl,td,d,st3,hp3,hO3,hs3,h3,hx3⟩
 have HP3:=zh hp3
 have HS3:=zh h3
 have HX3:=zh ((uh HX2).trans hx3)
 have HST3:=zh hs3
 have HO3:=zh (owns_bx (uh HO2) hx3 hlt)
 have HD3:=zh (owns_mono (uh hO3) (uh HX2).size)
 clear hp3 h3 hx3 hs3 hO3 c7 f7
 obtain⟨ao,n,cap,c19,⟨g1,g2⟩,gl⟩:=(uh HS3).rest
 unfold maxLen at g2
 have GL:=zh gl
 clear gl
 have HM:Hid (Mean w3 w.heap.size { (pk0 10 false 0 false)with id:=i,props:=t,filters:=td } { (pa0 10 false 0 false)with id:=i,props:=x,filters:=d }):=⟨⟨rfl,rfl,rfl,rfl,rfl,rfl,rfl,rfl,rfl,rfl,rfl,rfl⟩,uh HO3,wills0 _ _,row0 _ _ _ _,row0 _ _ _ _,row0 _ _ _ _,uh HD3,row0 _ _ _ _⟩
 have hbz:((n:Int) == 0)=decide (n=0):=by by_cases h:n=0 <;> simp[h]
 go_wp2_with fail
 refine (must_any R _ st3 w0 _ (uh HS3)).mono ?_
 rintro e wz ⟨rfl,hz,hxz⟩
 have HZ:=zh hz
 have HXZ:=zh hxz
 clear hz hxz
 go_wp2
 go_end0
 have hBY:Stp (body? (pa0 10 false 0 false)) st { (pa0 10 false 0 false)with id:=i,props:=x,filters:=d } st3:=by
  show Stp (bindR id? fun i=>bindR (props? 10) fun x=>bindR (list? text?) fun d=>pureR { (pa0 10 false 0 false)with id:=i,props:=x,filters:=d }) st { (pa0 10 false 0 false)with id:=i,props:=x,filters:=d } st3
  exact (uh HST1).bind ((uh HST2).bind ((uh HST3).bind (Stp.pure _ _)))
 exact⟨rfl,{ (pk0 10 false 0 false)with id:=i,props:=t,filters:=td },{ (pa0 10 false 0 false)with id:=i,props:=x,filters:=d },_,(uh HP3).bx (uh HXZ),(uh HM).bx (uh HXZ) hlt,packet_stp hBY (stp_end (uh GL) _ (by first | exact hbz | rfl | simp)),uh HZ,(uh HX3).trans (uh HXZ).any⟩
theorem packet_k9 (R:Nat) (st:Option (List Int)) (w0 w:World) (h:RS w0 w R st) (hp:Pk w R (pk0 9 false 0 false)) (hl:∀ l,st=some l->l.length<=65536):Calls Tryz.prog 28 #[.pointer (some ⟨R,0,none⟩)] w (PackPost w0 R (pa0 9 false 0 false) st w):=by
 have hlt:=h.lt
 have c0:=hp.kind
 have HP:=zh hp
 have HS:=zh h
 have HL:=zh hl
 clear hp h hl
 simp only[pk0]at c0
 go_enter Tryz.func28,Tryz.ntmps28
 go_wp2_with fail
 refine (id_any R st w0 w (uh HS)).mono ?_
 rintro e w1 ⟨i,st1,rfl,-,hs1,h1,hx1⟩
 have hp1:=(uh HP).bx hx1
 have c5:=hp1.id
 have f5:=hp1.id_f
 have d0:w1.cell? ⟨R,0,none⟩=some (.int .i64 9):=hp1.kind
 have HP1:=zh (hp1.set_id i)
 have HS1:=zh (h1.set 5 (.int .i64 i) (by decide))
 have HX1:=zh ((hx1.any).set 5 (.int .i64 i) trivial)
 have HST1:=zh hs1
 clear hp1 h1 hx1 hs1 c0
 go_wp2_with fail
 refine (props_any R 9 st1 w0 _ (uh HS1)).mono ?_
 rintro e w2 ⟨t,x,st2,rfl,hO2,hs2,h2,hx2⟩
 have hp2:=(uh HP1).bx hx2
 have c7:=hp2.props
 have f7:=hp2.props_f
 have HP2:=zh (hp2.set_props t)
 have HS2:=zh (h2.set 7 t.val (by decide))
 have HX2:=zh (((uh HX1).trans hx2.any).set 7 t.val trivial)
 have HST2:=zh hs2
 have HO2:Hid ((w2.setCell ⟨R,7,none⟩ t.val).ownsRow w.heap.size 109 4 t.val x.length (pcs x)):=owns_bx (owns_mono (uh hO2) (uh HX1).size) ((BX.refl R isAny w2).set 7 _ trivial) hlt
 have HL2:Hid (∀ l,st2=some l->l.length<=65536):=fun l hl=>by
  subst hl
  exact stp_le2 id?_le (props?_le _) (uh HST1) hs2 (uh HL)
 clear hp2 h2 hx2 hs2 hO2 c5 f5 d0
 go_wp2_with fail
 refine (list_codes R { (pk0 9 false 0 false)with id:=i,props:=t } st2 w0 _ (uh HS2) (uh HP2) rfl (uh HL2) (show (9:Int)≠8 by decide) (show (9:Int)≠10 by decide)).mono ?_
 rintro e w3 ⟨rfl,td,d,st3,hp3,hO3,hs3,h3,hx3⟩
 have HP3:=zh hp3
 have HS3:=zh h3
 have HX3:=zh ((uh HX2).trans hx3)
 have HST3:=zh hs3
 have HO3:=zh (owns_bx (uh HO2) hx3 hlt)
 have HD3:=zh (owns_mono (uh hO3) (uh HX2).size)
 clear hp3 h3 hx3 hs3 hO3 c7 f7
 obtain⟨ao,n,cap,c19,⟨g1,g2⟩,gl⟩:=(uh HS3).rest
 unfold maxLen at g2
 have GL:=zh gl
 clear gl
 have HM:Hid (Mean w3 w.heap.size { (pk0 9 false 0 false)with id:=i,props:=t,codes:=td } { (pa0 9 false 0 false)with id:=i,props:=x,codes:=d }):=⟨⟨rfl,rfl,rfl,rfl,rfl,rfl,rfl,rfl,rfl,rfl,rfl,rfl⟩,uh HO3,wills0 _ _,row0 _ _ _ _,row0 _ _ _ _,row0 _ _ _ _,row0 _ _ _ _,uh HD3⟩
 have hbz:((n:Int) == 0)=decide (n=0):=by by_cases h:n=0 <;> simp[h]
 go_wp2_with fail
 refine (must_any R _ st3 w0 _ (uh HS3)).mono ?_
 rintro e wz ⟨rfl,hz,hxz⟩
 have HZ:=zh hz
 have HXZ:=zh hxz
 clear hz hxz
 go_wp2
 go_end0
 have hBY:Stp (body? (pa0 9 false 0 false)) st { (pa0 9 false 0 false)with id:=i,props:=x,codes:=d } st3:=by
  show Stp (bindR id? fun i=>bindR (props? 9) fun x=>bindR (list? one?) fun d=>pureR { (pa0 9 false 0 false)with id:=i,props:=x,codes:=d }) st { (pa0 9 false 0 false)with id:=i,props:=x,codes:=d } st3
  exact (uh HST1).bind ((uh HST2).bind ((uh HST3).bind (Stp.pure _ _)))
 exact⟨rfl,{ (pk0 9 false 0 false)with id:=i,props:=t,codes:=td },{ (pa0 9 false 0 false)with id:=i,props:=x,codes:=d },_,(uh HP3).bx (uh HXZ),(uh HM).bx (uh HXZ) hlt,packet_stp hBY (stp_end (uh GL) _ (by first | exact hbz | rfl | simp)),uh HZ,(uh HX3).trans (uh HXZ).any⟩
theorem packet_k11 (R:Nat) (st:Option (List Int)) (w0 w:World) (h:RS w0 w R st) (hp:Pk w R (pk0 11 false 0 false)) (hl:∀ l,st=some l->l.length<=65536):Calls Tryz.prog 28 #[.pointer (some ⟨R,0,none⟩)] w (PackPost w0 R (pa0 11 false 0 false) st w):=by
 have hlt:=h.lt
 have c0:=hp.kind
 have HP:=zh hp
 have HS:=zh h
 have HL:=zh hl
 clear hp h hl
 simp only[pk0]at c0
 go_enter Tryz.func28,Tryz.ntmps28
 go_wp2_with fail
 refine (id_any R st w0 w (uh HS)).mono ?_
 rintro e w1 ⟨i,st1,rfl,-,hs1,h1,hx1⟩
 have hp1:=(uh HP).bx hx1
 have c5:=hp1.id
 have f5:=hp1.id_f
 have d0:w1.cell? ⟨R,0,none⟩=some (.int .i64 11):=hp1.kind
 have HP1:=zh (hp1.set_id i)
 have HS1:=zh (h1.set 5 (.int .i64 i) (by decide))
 have HX1:=zh ((hx1.any).set 5 (.int .i64 i) trivial)
 have HST1:=zh hs1
 clear hp1 h1 hx1 hs1 c0
 go_wp2_with fail
 refine (props_any R 11 st1 w0 _ (uh HS1)).mono ?_
 rintro e w2 ⟨t,x,st2,rfl,hO2,hs2,h2,hx2⟩
 have hp2:=(uh HP1).bx hx2
 have c7:=hp2.props
 have f7:=hp2.props_f
 have HP2:=zh (hp2.set_props t)
 have HS2:=zh (h2.set 7 t.val (by decide))
 have HX2:=zh (((uh HX1).trans hx2.any).set 7 t.val trivial)
 have HST2:=zh hs2
 have HO2:Hid ((w2.setCell ⟨R,7,none⟩ t.val).ownsRow w.heap.size 109 4 t.val x.length (pcs x)):=owns_bx (owns_mono (uh hO2) (uh HX1).size) ((BX.refl R isAny w2).set 7 _ trivial) hlt
 have HL2:Hid (∀ l,st2=some l->l.length<=65536):=fun l hl=>by
  subst hl
  exact stp_le2 id?_le (props?_le _) (uh HST1) hs2 (uh HL)
 clear hp2 h2 hx2 hs2 hO2 c5 f5 d0
 go_wp2_with fail
 refine (list_codes R { (pk0 11 false 0 false)with id:=i,props:=t } st2 w0 _ (uh HS2) (uh HP2) rfl (uh HL2) (show (11:Int)≠8 by decide) (show (11:Int)≠10 by decide)).mono ?_
 rintro e w3 ⟨rfl,td,d,st3,hp3,hO3,hs3,h3,hx3⟩
 have HP3:=zh hp3
 have HS3:=zh h3
 have HX3:=zh ((uh HX2).trans hx3)
 have HST3:=zh hs3
 have HO3:=zh (owns_bx (uh HO2) hx3 hlt)
 have HD3:=zh (owns_mono (uh hO3) (uh HX2).size)
 clear hp3 h3 hx3 hs3 hO3 c7 f7
 obtain⟨ao,n,cap,c19,⟨g1,g2⟩,gl⟩:=(uh HS3).rest
 unfold maxLen at g2
 have GL:=zh gl
 clear gl
 have HM:Hid (Mean w3 w.heap.size { (pk0 11 false 0 false)with id:=i,props:=t,codes:=td } { (pa0 11 false 0 false)with id:=i,props:=x,codes:=d }):=⟨⟨rfl,rfl,rfl,rfl,rfl,rfl,rfl,rfl,rfl,rfl,rfl,rfl⟩,uh HO3,wills0 _ _,row0 _ _ _ _,row0 _ _ _ _,row0 _ _ _ _,row0 _ _ _ _,uh HD3⟩
 have hbz:((n:Int) == 0)=decide (n=0):=by by_cases h:n=0 <;> simp[h]
 go_wp2_with fail
 refine (must_any R _ st3 w0 _ (uh HS3)).mono ?_
 rintro e wz ⟨rfl,hz,hxz⟩
 have HZ:=zh hz
 have HXZ:=zh hxz
 clear hz hxz
 go_wp2
 go_end0
 have hBY:Stp (body? (pa0 11 false 0 false)) st { (pa0 11 false 0 false)with id:=i,props:=x,codes:=d } st3:=by
  show Stp (bindR id? fun i=>bindR (props? 11) fun x=>bindR (list? one?) fun d=>pureR { (pa0 11 false 0 false)with id:=i,props:=x,codes:=d }) st { (pa0 11 false 0 false)with id:=i,props:=x,codes:=d } st3
  exact (uh HST1).bind ((uh HST2).bind ((uh HST3).bind (Stp.pure _ _)))
 exact⟨rfl,{ (pk0 11 false 0 false)with id:=i,props:=t,codes:=td },{ (pa0 11 false 0 false)with id:=i,props:=x,codes:=d },_,(uh HP3).bx (uh HXZ),(uh HM).bx (uh HXZ) hlt,packet_stp hBY (stp_end (uh GL) _ (by first | exact hbz | rfl | simp)),uh HZ,(uh HX3).trans (uh HXZ).any⟩
end Go.Proofs.YtpheelbbpiieiaaGreatDoor.K
