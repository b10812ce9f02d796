/- Proved here: helpers, one text behind the other. -/
import Derived.Test.YtdkmmmjjdlnnoaaGreatDoorZC40
import Derived.Test.YtdkmmmjjdlnnoaaGreatDoorZC6
import Derived.Test.YtdkmmmjjdlnnoaaGreatDoorZK3R2
import Derived.Test.YtdkmmmjjdlnnoaaGreatDoorZC42
import Derived.Laws.AppendOwn
import Derived.Deep.CutRange
import Derived.Test.YtdkmmmjjdlnnoaaGreatDoorZC44
import Derived.Test.YtdkmmmjjdlnnoaaGreatDoorZC27
import Derived.Test.YtdkmmmjjdlnnoaaGreatDoorZK3R3
import Derived.Test.YtdkmmmjjdlnnoaaGreatDoorZK3R1
set_option maxHeartbeats 20000000
namespace Go.Proofs.YtdkmmmjjdlnnoaaGreatDoor.K
open Go.RowKit
set_option maxRecDepth 100000
def PgS (w0:GW) (R:Nat) (f:List Int->Option (ByteArray×List Int)) (st:Option (List Int)) (w:World) (e:Ending) (w':World):Prop :=
 ∃ x st',e=.returned (.string x)/\Stp f st x st'/\RP w0 w' R st'/\BX R isAny w w'
theorem text_pg (R:Nat) (st:Option (List Int)) (w0:GW) (w:World) (h:RP w0 w R st):Calls Tryz.prog 102 #[.pointer (some ⟨R,0,none⟩)] w (PgS w0 R text? st w):=by
 have hlt:=h.lt
 have hR0:w0.heap.size<=R:=by obtain⟨_,_,_,_,_,_,_,_,_,_,_,h,_⟩:=h;exact h
 have hw0:Below w0.heap.size w0 w:=by obtain⟨_,_,_,_,_,_,_,_,_,_,h,_⟩:=h;exact h
 have HS:=zh h
 have HW0:=zh hw0
 clear h hw0
 go_enter Tryz.func102,Tryz.ntmps102
 go_wp2_with fail
 refine (left_pg R st w0 w (uh HS)).mono ?_
 rintro e w1 ⟨v,l,rfl,hv,he1,he2,hb1⟩
 have HW1:Hid (Below w0.heap.size w0 w1):=(uh HW0).trans (hb1.mono (uh HW0).size)
 obtain⟨n,hN,hn,_⟩:=gt_len l (uh hv).range
 have HG:=zh (rget_any v l w1 ((uh hv).below (uh HW1)))
 rw[hN]at HG
 have HS1:=zh ((uh HS).below hb1)
 have HB1:=zh hb1
 have HE1:=zh he1
 have HQ:Hid (text? l=if (gt l).2.2=0 then some ((gt l).1,l.drop n) else none):=by
  show text? l=_
  unfold text?
  rw[hN,Int.toNat_natCast]
 clear hb1 he1 he2 hN
 generalize (gt l).1=x at HG HQ
 generalize (gt l).2.2=m at HG HQ
 go_wp2_with fail
 refine (uh HG).mono ?_
 rintro e w2 ⟨rfl,hb2⟩
 have HS2:=zh ((uh HS1).below hb2)
 have HB2:Hid (Below w.heap.size w w2):=(uh HB1).trans (hb2.mono (uh HB1).size)
 clear hb2
 go_wp2_with fail
 refine (took_pg R st n m w0 w2 (uh HS2) (fun l' e=>by rw[(uh HE1) l' e];exact hn)).mono ?_
 rintro e w3 ⟨rfl,h3,hx3⟩
 have HS3:=zh h3
 have HX3:=zh hx3
 clear h3 hx3
 go_wp2
 go_ret
 refine⟨x,_,rfl,?_,uh HS3,(BX.of_below (uh HB2) hlt).trans (uh HX3)⟩
 cases st with
 | none =>
  show (if m=0 then _ else _)=none
  split <;> rfl
 | some l' =>
  have e:=(uh HE1) l' rfl
  subst e
  exact stp_get text? (some l') l' x n m (.inl rfl) (uh HQ)
theorem pair_pg (R:Nat) (st:Option (List Int)) (w0:GW) (w:World) (h:RP w0 w R st):Calls Tryz.prog 103 #[.pointer (some ⟨R,0,none⟩)] w (PgI w0 R 65535 two? st w):=by
 have HS:=zh h
 clear h
 go_enter Tryz.func103,Tryz.ntmps103
 go_wp2_with fail
 refine (byte_pg R st w0 w (uh HS)).mono ?_
 rintro e w1 ⟨x,st1,rfl,hx,hs1,h1,hx1⟩
 have HS1:=zh h1
 have HX1:=zh hx1
 have HST1:=zh hs1
 clear h1 hx1 hs1
 go_wp2_with fail
 refine (byte_pg R st1 w0 w1 (uh HS1)).mono ?_
 rintro e w2 ⟨y,st2,rfl,hy,hs2,h2,hx2⟩
 have HS2:=zh h2
 have HX2:=zh hx2
 have HST2:=zh hs2
 have e1:=K.or_256 x y hx.1 (by omega) hy.1 (by omega)
 clear h2 hx2 hs2
 go_wp2
 go_ret
 refine⟨x * 256+y,st2,rfl,by omega,?_,uh HS2,(uh HX1).trans (uh HX2)⟩
 have k:Stp (bindR one? fun x=>bindR one? fun y=>pureR (x * 256+y)) st (x * 256+y) st2:=(uh HST1).bind ((uh HST2).bind (Stp.pure _ _))
 refine Stp.congr (fun l=>?_) k
 match l with
 | []=>rfl
 | [_]=>rfl
 | _ :: _ :: _=>rfl
theorem B2.setR {R A:Nat} {a b:World} (h:B2 R A a b) (j:Nat) (u:Value):B2 R A a (b.setCell ⟨R,j,none⟩ u) :=
 h.trans ⟨rfl,rfl,rfl,by simp[World.setCell],fun k _ hR _=>Below.heap_setCell _ _ _ _ hR⟩
theorem stp_id {st st1:Option (List Int)} {i:Int} (h:Stp two? st i st1):Stp id? st i (if i=0 then none else st1):=by
 cases st with
 | none=>obtain rfl:st1=none:=h;split <;> rfl
 | some l =>
  unfold Stp at h |-
  simp only at h |-
  unfold id?
  cases hq:two? l with
  | none=>rw[hq]at h;obtain rfl:st1=none:=h;simp
  | some r =>
   obtain⟨y,t⟩:=r
   rw[hq]at h
   obtain⟨rfl,rfl⟩:=h
   simp only
   by_cases hi:i=0
   ·simp[hi]
   ·simp[hi]
theorem RP.gone {w0:GW} {w:World} {R:Nat} {st:Option (List Int)} (h:RP w0 w R st):∃ ao n cap,w.cell? ⟨R,0,none⟩=some (.slice ao n cap)/\(n<=cap/\cap<=maxLen)/\(∃ k:Nat,w.cell? ⟨R,1,none⟩=some (.int .i64 k))/\w.frozen? ⟨R,1,none⟩=false/\RP w0 (w.setCell ⟨R,1,none⟩ (.int .i64 n)) R (st.map fun _=>[]):=by
 obtain⟨ao,n,cap,k,bad,L,hc,hy,hk,hn,hw,hR,hst⟩:=h
 have hl:=byt_len hy
 refine⟨ao,n,cap,hc.1,hl.2,⟨k,hc.2.1.1⟩,hc.2.1.2,⟨ao,n,cap,n,bad,L,hc.setAt n,hy,Nat.le_refl _,hn,((BX.refl R isAny w).set 1 _ trivial).keep hw hR,hR,?_⟩⟩
 subst hst
 cases bad
 ·show some []=some (L.drop n)
  rw[List.drop_of_length_le (by omega)]
 ·rfl
theorem body_3 (R A:Nat) (d:Bool) (q:Int) (r:Bool) (st:Option (List Int)) (w0:GW) (w:World) (h:RP w0 w R st) (hp:Pk w A (pk0 3 d q r)) (hA:A≠R) (hA0:w0.heap.size<=A) (hq:0<=q/\q<=2):Calls Tryz.prog 53 #[.pointer (some ⟨R,0,none⟩),.pointer (some ⟨A,0,none⟩)] w (BodyPg w0 R A (pa0 3 d q r) st w):=by
 have hRw:=h.lt
 have hAw:=hp.lt
 have c0:=hp.kind
 simp only[pk0]at c0
 have HP:=zh hp
 have HS:=zh h
 clear hp h
 go_enter Tryz.func53,Tryz.ntmps53
 go_wp2_with fail
 refine (text_pg R st w0 w (uh HS)).mono ?_
 rintro e w1 ⟨t,st1,rfl,hs1,h1,hx1⟩
 have hp1:=(uh HP).oth hx1 hA
 have c4:=hp1.topic
 have f4:=hp1.topic_f
 have c2q:=hp1.qos
 simp only[pk0]at c2q c4
 have HP1:=zh (hp1.set_topic t)
 have HS1:=zh (h1.set A 4 (.string t) hA hA0)
 have HB1:Hid (B2 R A w (w1.setCell ⟨A,4,none⟩ (.string t))):=(B2.bx hx1).set 4 _
 have HST1:=zh hs1
 clear hp1 h1 hx1 hs1 HP HS c0
 go_upto_if 52 with fail
 generalize w1.setCell ⟨A,4,none⟩ (.string t)=wy at HP1 HS1 HB1 |-
 clear c4 f4 c2q
 have c5:=(uh HP1).id
 have f5:=(uh HP1).id_f
 simp only[pk0]at c5
 go_cut [] from 5 (fun wx=>∃ (i:Int) (st2:Option (List Int)),Hid (Stp (if 0 < q then id? else pureR 0) st1 i st2)/\Hid (RP w0 wx R st2)/\Hid (Pk wx A { pk0 3 d q r with topic:=t,id:=i })/\Hid (B2 R A w wx))
 case first =>
  by_cases hq0:0 < q
  ·go_wp2_with fail
   refine (pair_pg R st1 w0 _ (uh HS1)).mono ?_
   rintro e w2 ⟨i,st2,rfl,hi,hs2,h2,hx2⟩
   have hp2:=(uh HP1).oth hx2 hA
   have d5:=hp2.id
   have g5:=hp2.id_f
   simp only[pk0]at d5
   have HP2:=zh (hp2.set_id i)
   have HS2:=zh (h2.set A 5 (.int .i64 i) hA hA0)
   have HB2:Hid (B2 R A w (w2.setCell ⟨A,5,none⟩ (.int .i64 i))):=((uh HB1).trans (B2.bx hx2)).set 5 _
   have HST2:=zh (stp_id hs2)
   clear hp2 h2 hx2 hs2 HP1 HS1 HB1 c5 f5
   go_upto_region 15 with fail
   generalize w2.setCell ⟨A,5,none⟩ (.int .i64 i)=wx at HP2 HS2 HB2 |-
   clear d5 g5
   have e5:=(uh HP2).id
   simp only at e5
   by_cases hi0:i=0
   ·rw[if_pos hi0]at HST2
    have HI:=zh hi0
    have hib:(i == 0)=true:=by simpa using hi0
    clear hi0
    obtain⟨bb,c2,f2,_⟩:=(uh HS2).c2
    go_wp2
    go_meet
    case rel=>exact⟨i,none,(by show Stp _ _ _ _;rw[if_pos hq0];exact uh HST2),(uh HS2).bad,(uh HP2).blk (Below.heap_setCell _ _ _ _ hA),(uh HB2).setR 2 _⟩
   ·rw[if_neg hi0]at HST2
    have hib:(i == 0)=false:=by simpa using hi0
    go_wp2
    go_meet
    case rel=>exact⟨i,st2,(by show Stp _ _ _ _;rw[if_pos hq0];exact uh HST2),HS2,HP2,HB2⟩
  ·go_wp2
   go_meet
   case rel=>exact⟨0,st1,(by show Stp _ _ _ _;rw[if_neg (by omega)];exact Stp.pure _ _),HS1,HP1,HB1⟩
 case rest =>
 obtain⟨i,st2,HST2,HS2,HP2,HB2⟩:=hcut
 obtain⟨wx,hwx⟩:∃ wx,wx=wc:=⟨_,rfl⟩
 subst hwx
 clear HP1 HS1 HB1 c5 f5
 have hRx:R < wx.heap.size:=(uh HS2).lt
 have hAx:A < wx.heap.size:=(uh HP2).lt
 go_wp2_with fail
 refine (props_pg R 3 st2 w0 _ (uh HS2)).mono ?_
 rintro e w3 ⟨s,x,st3,rfl,hO3,hs3,h3,hx3⟩
 have hp3:=(uh HP2).oth hx3 hA
 have c7:=hp3.props
 have f7:=hp3.props_f
 simp only[pk0]at c7
 have HP3:=zh (hp3.set_props s)
 have HS3:=zh (h3.set A 7 s.val hA hA0)
 have HB3:Hid (B2 R A w (w3.setCell ⟨A,7,none⟩ s.val)):=((uh HB2).trans (B2.bx hx3)).set 7 _
 have HO3:Hid ((w3.setCell ⟨A,7,none⟩ s.val).ownsRow wx.heap.size 88 4 s.val x.length (pcs x)):=owns_b2 (R:=R) (uh hO3) ((B2.refl R A w3).set 7 _) hRx hAx
 have hxw:w.heap.size<=wx.heap.size:=(uh HB2).size
 have HST3:=zh hs3
 clear hp3 h3 hx3 hs3 HP2 HS2 HB2 hO3
 go_wp2_with fail
 refine (left_pg R st3 w0 _ (uh HS3)).mono ?_
 rintro e w4 ⟨v,l,rfl,hv,he1,he2,hb4⟩
 have hp4:=(uh HP3).below hb4
 have c6:=hp4.payload
 have f6:=hp4.payload_f
 simp only[pk0]at c6
 have hs4:=(uh HS3).below hb4
 have hcv:=conv_byt w4 v l ((uh hv).below hs4.keep)
 have HP4:=zh (hp4.set_payload (bs l))
 have HS4:=zh (hs4.set A 6 (.string (bs l)) hA hA0)
 have HB4:Hid (B2 R A w (w4.setCell ⟨A,6,none⟩ (.string (bs l)))):=((uh HB3).trans (B2.bel hb4)).set 6 _
 have HO4:Hid ((w4.setCell ⟨A,6,none⟩ (.string (bs l))).ownsRow wx.heap.size 88 4 s.val x.length (pcs x)):=owns_b2 (R:=R) (uh HO3) ((B2.bel hb4).set 6 _) hRx hAx
 have HE:=zh he1
 clear hp4 hs4 hb4 HP3 HS3 HB3 HO3 c7 f7 he1 he2 hv
 go_upto_region 19 with fail
 generalize w4.setCell ⟨A,6,none⟩ (.string (bs l))=wz at HP4 HS4 HB4 HO4 |-
 clear c6 f6 hcv
 obtain⟨ao,n,cap,e0,⟨en1,en2⟩,⟨kk,e1⟩,g1,hS5⟩:=(uh HS4).gone
 unfold maxLen at en2
 have HS5:=zh hS5
 clear hS5
 go_wp2
 go_end0
 refine⟨rfl,_,{ pa0 3 d q r with topic:=t,id:=i,props:=x,payload:=bs l },_,(uh HP4).blk (Below.heap_setCell _ _ _ _ hA),?_,uh HS5,(uh HB4).setR 1 _,.inr ⟨⟨rfl,rfl,rfl,rfl,rfl,rfl,rfl,rfl,rfl,rfl,rfl,rfl⟩,owns_mono (owns_b2 (A:=A) (uh HO4) ((B2.refl R A wz).setR 1 _) hRx hAx) hxw,wills0 _ _,row0 _ _ _ _,row0 _ _ _ _,row0 _ _ _ _,row0 _ _ _ _,row0 _ _ _ _⟩⟩
 have hall:Stp allR st3 (bs l) (st3.map fun _=>[]):=by
  cases st3 with
  | none=>rfl
  | some l'=>obtain rfl:=(uh HE) l' rfl;exact⟨rfl,rfl⟩
 have k2:Stp (publish? q) st (t,i,x,bs l) (st3.map fun _=>[]):=by
  unfold publish?
  exact (uh HST1).bind ((uh HST2).bind ((uh HST3).bind (hall.bind (Stp.pure _ _))))
 exact Stp.bind (g:=fun r'=>pureR ({ pa0 3 d q r with topic:=r'.1,id:=r'.2.1,props:=r'.2.2.1,payload:=r'.2.2.2 }:Pa)) k2 (Stp.pure _ _)
end Go.Proofs.YtdkmmmjjdlnnoaaGreatDoor.K
namespace Go.Proofs.YtdkmmmjjdlnnoaaGreatDoor.K.B
open Go.RowKit
open Go.Proofs.YtdkmmmjjdlnnoaaGreatDoor.K
set_option maxRecDepth 100000
theorem RT.ebind {α β:Type} {f:List Int->Option (α×List Int)} {g:α->List Int->Option (β×List Int)} {ys zs:List Int} {x:α} {y:β} (h:RT f ys x) (k:ET (g x) zs y):ET (bindR f g) (ys++zs) y:=by
 unfold ET bindR
 rw[h]
 exact k
theorem RT.ebind0 {α β:Type} {f:List Int->Option (α×List Int)} {g:α->List Int->Option (β×List Int)} {zs:List Int} {x:α} {y:β} (h:RT f [] x) (k:ET (g x) zs y):ET (bindR f g) zs y:=RT.ebind (ys:=[]) h k
theorem rt_two {k:Int} (h:in16 k=true):RT two? (b2 k) k:=fun r=>by
 unfold in16 at h
 simp only[Bool.and_eq_true,decide_eq_true_eq]at h
 show some (k / 256 % 256 * 256+k % 256,r)=some (k,r)
 have:k / 256 % 256 * 256+k % 256=k:=by omega
 rw[this]
theorem rt_id {k:Int} (h:(in16 k && k != 0)=true):RT id? (b2 k) k:=fun r=>by
 rw[Bool.and_eq_true]at h
 have h2:=rt_two h.1 r
 unfold id?
 rw[h2]
 have h0:k≠0:=bne_iff_ne.1 h.2
 show (if k=0 then none else some (k,r))=_
 rw[if_neg h0]
theorem drop_tx (s:ByteArray) (r:List Int):(tx s++r).drop (((2+s.size:Nat):Int).toNat)=r:=by
 have:(((2+s.size:Nat):Int).toNat)=(tx s).length:=by rw[tx_length];rfl
 rw[this,List.drop_left]
theorem rt_text {s:ByteArray} (h:okT s=true):RT text? (tx s) s:=fun r=>by
 have e:=gt_tx s r (of_decide_eq_true h)
 unfold text?
 rw[e]
 show (if (0:Int)=0 then some (s,(tx s++r).drop (((2+s.size:Nat):Int).toNat)) else none)=_
 rw[if_pos rfl,drop_tx]
theorem rng_l {a b:List Int} (h:Rng (a++b)):Rng a:=fun j=>by
 by_cases hj:j < a.length
 ·have:=h j
  rw[List.getD_eq_getElem?_getD,List.getElem?_append_left hj,<- List.getD_eq_getElem?_getD]at this
  exact this
 ·rw[List.getD_eq_getElem?_getD,List.getElem?_eq_none (by omega)];simp
end Go.Proofs.YtdkmmmjjdlnnoaaGreatDoor.K.B
namespace Go.Proofs.YtdkmmmjjdlnnoaaGreatDoor.K.B
open Go.RowKit
open Go.Proofs.YtdkmmmjjdlnnoaaGreatDoor.K
set_option maxRecDepth 100000
theorem back_3 {P:Pa} {l:List Int} (hk:P.kind=3) (h:eb P=some l) (hr:Rng l):ET (body? (pa0 3 P.dup P.qos P.retain)) l P:=by
 unfold eb at h
 rw[if_neg (by omega),if_neg (by omega),if_pos hk]at h
 obtain⟨h1,he⟩:=must_inv h
 unfold sPub at h1
 obtain⟨t1,h2,-,rfl⟩:=add_inv h1
 obtain⟨t2,h3,hp,rfl⟩:=add_inv h2
 rw[hk]at hp
 have hpr:=rt_props hp (rng_r (rng_l hr))
 have hall:ET allR (sb P.payload) P.payload:=by
  unfold ET allR
  rw[bs_sb]
 have e:body? (pa0 3 P.dup P.qos P.retain)=bindR (publish? P.qos) fun r=>pureR { (pa0 3 P.dup P.qos P.retain)with topic:=r.1,id:=r.2.1,props:=r.2.2.1,payload:=r.2.2.2 }:=rfl
 by_cases hq:0 < P.qos
 ·rw[if_pos hq]at h3 he
  obtain⟨t3,h4,hid,rfl⟩:=add_inv h3
  obtain⟨_,e5,ht,rfl⟩:=add_inv (st:=some []) h4
  cases e5
  have hri:=rt_id hid
  have htx:=rt_text ht
  have hpb:ET (publish? P.qos) ((([]++tx P.topic)++b2 P.id++pbs P.props)++sb P.payload) (P.topic,P.id,P.props,P.payload):=by
   rw[List.nil_append,List.append_assoc,List.append_assoc]
   unfold publish?
   rw[if_pos hq]
   exact RT.ebind htx (RT.ebind hri (RT.ebind hpr (hall.last _ rfl)))
  rw[e]
  refine hpb.last _ ?_
  obtain⟨⟨e1,e2,e3,e4⟩,⟨e5,e6,e7,e8⟩,⟨e9,e10,e11⟩,e12,e13,e14,e15,e16,e17,e18⟩:=emp_inv he
  obtain⟨kind,dup,qos,retain,topic,id,payload,props,client,clean,keep,wills,user,pass,code,session,subs,filters,codes⟩:=P
  obtain rfl:client=⟨#[]⟩:=no_text e11
  obtain rfl:clean=false:=e3
  obtain rfl:keep=0:=e7
  obtain rfl:wills=[]:=no_list e13
  obtain rfl:user=[]:=no_list e14
  obtain rfl:pass=[]:=no_list e15
  obtain rfl:code=0:=e8
  obtain rfl:session=false:=e4
  obtain rfl:subs=[]:=no_list e16
  obtain rfl:filters=[]:=no_list e17
  obtain rfl:codes=[]:=no_list e18
  obtain rfl:kind=3:=hk
  rfl
 ·rw[if_neg hq]at h3 he
  obtain⟨_,e5,ht,h6⟩:∃ t,some ([]:List Int)=some t/\okT P.topic=true/\t2=t++tx P.topic:=add_inv (st:=some []) (by
   have k:∀ x:Option (List Int),x.bind some=x:=fun x=>by cases x <;> rfl
   have h3':=h3
   rw[k]at h3'
   exact h3')
  cases e5
  subst h6
  have htx:=rt_text ht
  have hpb:ET (publish? P.qos) ((([]++tx P.topic)++pbs P.props)++sb P.payload) (P.topic,0,P.props,P.payload):=by
   rw[List.nil_append,List.append_assoc]
   unfold publish?
   rw[if_neg hq]
   exact RT.ebind htx (RT.ebind0 (fun r=>rfl) (RT.ebind hpr (hall.last _ rfl)))
  rw[e]
  refine hpb.last _ ?_
  obtain⟨⟨e1,e2,e3,e4⟩,⟨e5,e6,e7,e8⟩,⟨e9,e10,e11⟩,e12,e13,e14,e15,e16,e17,e18⟩:=emp_inv he
  obtain⟨kind,dup,qos,retain,topic,id,payload,props,client,clean,keep,wills,user,pass,code,session,subs,filters,codes⟩:=P
  obtain rfl:id=0:=e6
  obtain rfl:client=⟨#[]⟩:=no_text e11
  obtain rfl:clean=false:=e3
  obtain rfl:keep=0:=e7
  obtain rfl:wills=[]:=no_list e13
  obtain rfl:user=[]:=no_list e14
  obtain rfl:pass=[]:=no_list e15
  obtain rfl:code=0:=e8
  obtain rfl:session=false:=e4
  obtain rfl:subs=[]:=no_list e16
  obtain rfl:filters=[]:=no_list e17
  obtain rfl:codes=[]:=no_list e18
  obtain rfl:kind=3:=hk
  rfl
end Go.Proofs.YtdkmmmjjdlnnoaaGreatDoor.K.B
