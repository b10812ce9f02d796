/- Proved here: helpers, one text behind the other. -/
import Derived.Test.YtdkmmmjjdlnnoaaGreatDoorZC20
import Derived.Test.YtdkmmmjjdlnnoaaGreatDoorZC12
import Derived.Test.YtdkmmmjjdlnnoaaGreatDoorZK3R1
import Derived.Test.YtdkmmmjjdlnnoaaGreatDoorZC22
import Derived.Test.YtdkmmmjjdlnnoaaGreatDoorZC3
import Derived.Test.YtdkmmmjjdlnnoaaGreatDoorZC26
import Derived.Test.YtdkmmmjjdlnnoaaGreatDoorZC13
import Derived.Test.YtdkmmmjjdlnnoaaGreatDoorZC21
import Derived.Test.YtdkmmmjjdlnnoaaGreatDoorZC15
import Derived.Test.YtdkmmmjjdlnnoaaGreatDoorZC14
import Derived.Lib.AppendStr
import Derived.Test.YtdkmmmjjdlnnoaaGreatDoorZC27
set_option maxHeartbeats 20000000
namespace Go.Proofs.YtdkmmmjjdlnnoaaGreatDoor.K
open Go.RowKit
set_option maxRecDepth 100000
theorem all_any (R n:Nat) (st:Option (List Int)) (w0 w:World) (h:RS w0 w R st) (ao:Option Addr) (cap:Nat) (h19:w.cell? ⟨R,19,none⟩=some (.slice ao n cap)) :
  Calls Tryz.prog 137 #[.pointer (some ⟨R,0,none⟩),.int .i64 n] w fun e w'=>∃ v l,e=.returned v/\Hid (Byt w' v l)/\Stp allR st (bs l) (st.map fun _=>[])/\RS w0 w' R (st.map fun _=>[])/\BX R isRE w w':=by
 obtain⟨hX,⟨c,hd⟩,bv,l,E,hr,hb,hw,hR,hst⟩:=h
 obtain rfl:bv=.slice ao n cap:=by have:=hr.1.symm.trans h19;simpa using this
 have hl:n=l.length:=by
  obtain⟨ao',cap',e,_⟩:=hb.form
  simp only[Value.slice.injEq]at e
  exact e.2.1
 refine (next_ok R _ E l n w0 w hr hb (by omega)).mono ?_
 rintro e w' ⟨v,bv',rfl,hv,hbv,hr',hx⟩
 rw[hl,List.take_length]at hv
 rw[hl,List.drop_length]at hbv
 have hk:=hx.keep hw hR
 refine⟨v,l,rfl,hv.below hk,?_,⟨xs_grow (X:=fun k=>k=R) hX hx.size,⟨c,(hx.cell 1 isRE1).trans hd⟩,bv',[],E,hr',hbv,hk,hR,?_⟩,hx⟩
 ·rcases hst with⟨rfl,_⟩ | ⟨rfl,_⟩
  ·exact⟨rfl,rfl⟩
  ·exact rfl
 ·rcases hst with⟨rfl,rfl⟩ | ⟨rfl,d,k,hd',he⟩
  ·exact .inl ⟨rfl,rfl⟩
  ·exact .inr ⟨rfl,d,k,hd',ErO.bx (X:=fun k=>k=R) hx rfl he⟩
def PubPost (w0:World) (R:Nat) (p:Pkv) (st:Option (List Int)) (w:World) (e:Ending) (w':World):Prop :=
 e=.returned (.tuple #[])/\∃ (t:ByteArray) (i:Int) (s:Sl) (x:List Pr) (y:ByteArray) (st':Option (List Int)),Pk w' R { p with topic:=t,id:=i,props:=s,payload:=y }/\Hid (w'.ownsRow w.heap.size 88 4 s.val x.length (pcs x))/\Stp (publish? p.qos) st (t,i,x,y) st'/\RS w0 w' R st'/\BX R isAny w w'
theorem pub_end (R:Nat) (p q:Pkv) (st:Option (List Int)) (w0 w w2:World) (t:ByteArray) (i:Int) (st2:Option (List Int)) (HX2:Hid (BX R isAny w w2)) (hlt:R < w.heap.size)
  (HST:Hid (∀ x y st',Stp (bindR (props? 3) fun x=>bindR allR fun y=>pureR (t,i,x,y)) st2 (t,i,x,y) st'->Stp (publish? p.qos) st (t,i,x,y) st')) (HQ:Hid (q={ p with topic:=t,id:=i }))
  (w3:World) (s:Sl) (x:List Pr) (st3:Option (List Int)) (hO:Hid (w3.ownsRow w2.heap.size 88 4 s.val x.length (pcs x))) (HST3:Hid (Stp (props? 3) st2 x st3)) (HX3:Hid (BX R isAny w2 w3)) (HP3:Hid (Pk w3 R { q with props:=s }))
  (w4:World) (l:List Int) (HST4:Hid (Stp allR st3 (bs l) (st3.map fun _=>[]))) (HS4:Hid (RS w0 w4 R (st3.map fun _=>[]))) (HX4:Hid (BX R isRE w3 w4)):PubPost w0 R p st w (.returned (.tuple #[])) (w4.setCell ⟨R,6,none⟩ (.string (bs l))):=by
 have e:=uh HQ
 subst e
 have hB:w.heap.size<=w2.heap.size:=(uh HX2).size
 refine⟨rfl,t,i,s,x,bs l,_,((uh HP3).bx (uh HX4)).set_payload (bs l),?_,(uh HST) _ _ _ ((uh HST3).bind ((uh HST4).bind (Stp.pure _ _))),(uh HS4).set 6 _ (by decide),(((uh HX2).trans (uh HX3)).trans (uh HX4).any).set 6 _ trivial⟩
 exact owns_mono (owns_bx (owns_bx (uh hO) (uh HX4) (Nat.lt_of_lt_of_le hlt hB)) ((BX.refl R isAny w4).set 6 _ trivial) (Nat.lt_of_lt_of_le hlt hB)) hB
theorem publish_any (R:Nat) (p:Pkv) (st:Option (List Int)) (w0 w:World) (h:RS w0 w R st) (hp:Pk w R p) (hk:p.kind=3) (hi:p.id=0):Calls Tryz.prog 93 #[.pointer (some ⟨R,0,none⟩)] w (PubPost w0 R p st w):=by
 have hlt:=h.lt
 have HP:=zh hp
 have HS:=zh h
 have HK:=zh hk
 have HI:=zh hi
 clear hp h hk hi
 go_enter Tryz.func93,Tryz.ntmps93
 go_wp2_with fail
 refine (text_any R st w0 w (uh HS)).mono ?_
 rintro e w1 ⟨t,st1,rfl,hts,hs1,h1,hx1⟩
 have hp1:=(uh HP).bx hx1
 have c4:=hp1.topic
 have f4:=hp1.topic_f
 have c2:=hp1.qos
 have c0:=hp1.kind
 have HP1:=zh (hp1.set_topic t)
 have HS1:=zh (h1.set 4 (.string t) (by decide))
 have HX1:=zh ((hx1.any).set 4 (.string t) trivial)
 have HST1:=zh hs1
 clear hp1 h1 hx1 hs1
 rw[uh HK]at c0
 by_cases hq:0 < p.qos
 ·go_wp2_with fail
  refine (id_any R st1 w0 _ (uh HS1)).mono ?_
  rintro e w2 ⟨i,st2,rfl,hii,hs2,h2,hx2⟩
  have hp2:=(uh HP1).bx hx2
  have d5:=hp2.id
  have g5:=hp2.id_f
  have d0:=hp2.kind
  have HP2:=zh (hp2.set_id i)
  have HS2:=zh (h2.set 5 (.int .i64 i) (by decide))
  have HX2:=zh (((uh HX1).trans hx2.any).set 5 (.int .i64 i) trivial)
  have HST2:Hid (∀ x y st',Stp (bindR (props? 3) fun x=>bindR allR fun y=>pureR (t,i,x,y)) st2 (t,i,x,y) st'->Stp (publish? p.qos) st (t,i,x,y) st'):=fun x y st' k=>by
   unfold publish?
   rw[if_pos hq]
   exact (uh HST1).bind (hs2.bind k)
  clear hp2 h2 hx2 hs2 c4 f4 c2 c0
  rw[show ({ p with topic:=t }:Pkv).kind=3 from uh HK]at d0
  go_wp2_with fail
  refine (props_any R 3 st2 w0 _ (uh HS2)).mono ?_
  rintro e w3 ⟨s,x,st3,rfl,hO,hs3,h3,hx3⟩
  have hp3:=(uh HP2).bx hx3
  have e7:=hp3.props
  have f7:=hp3.props_f
  obtain⟨ao,n,cap,g19,⟨gc1,gc2⟩,gl⟩:=(h3.set 7 s.val (by decide)).rest
  unfold maxLen at gc2
  have G19:=zh g19
  have k19:w3.cell? ⟨R,19,none⟩=some (.slice ao n cap):=by rw[World.cell?_setCell_other _ _ _ _ (by intro e;simp at e)]at g19;exact g19
  have HP3:=zh (hp3.set_props s)
  have HS3:=zh (h3.set 7 s.val (by decide))
  have HX3:=zh ((hx3.any).set 7 s.val trivial)
  have HST3:=zh hs3
  have HO3:Hid ((w3.setCell ⟨R,7,none⟩ s.val).ownsRow (w2.setCell ⟨R,5,none⟩ (.int .i64 i)).heap.size 88 4 s.val x.length (pcs x)):=owns_bx (uh hO) ((BX.refl R isAny w3).set 7 _ trivial) (Nat.lt_of_lt_of_le hlt (uh HX2).size)
  clear hp3 h3 hx3 hs3 d5 g5 d0 g19 gl hO
  go_wp2_with fail
  refine (all_any R n st3 w0 _ (uh HS3) ao cap (uh G19)).mono ?_
  rintro e w4 ⟨v,l,rfl,hv,hs4,h4,hx4⟩
  have hcv:=conv_byt w4 v l (uh hv)
  have hp4:=(uh HP3).bx hx4
  have c6:=hp4.payload
  have f6:=hp4.payload_f
  have HX4:=zh hx4
  have HS4:=zh h4
  have HST4:=zh hs4
  clear hx4 h4 hs4 hp4 e7 f7 k19 hv
  go_wp2
  go_end0
  exact pub_end R p { p with topic:=t,id:=i } st w0 w _ t i st2 HX2 hlt HST2 (zh rfl) _ s x st3 HO3 HST3 HX3 HP3 w4 l HST4 HS4 HX4
 ·have HST2:Hid (∀ x y st',Stp (bindR (props? 3) fun x=>bindR allR fun y=>pureR (t,(0:Int),x,y)) st1 (t,(0:Int),x,y) st'->Stp (publish? p.qos) st (t,(0:Int),x,y) st'):=fun x y st' k=>by
   unfold publish?
   rw[if_neg hq]
   exact (uh HST1).bind ((Stp.pure 0 st1).bind k)
  go_wp2_with fail
  refine (props_any R 3 st1 w0 _ (uh HS1)).mono ?_
  rintro e w3 ⟨s,x,st3,rfl,hO,hs3,h3,hx3⟩
  have hp3:=(uh HP1).bx hx3
  have e7:=hp3.props
  have f7:=hp3.props_f
  obtain⟨ao,n,cap,g19,⟨gc1,gc2⟩,gl⟩:=(h3.set 7 s.val (by decide)).rest
  unfold maxLen at gc2
  have G19:=zh g19
  have k19:w3.cell? ⟨R,19,none⟩=some (.slice ao n cap):=by rw[World.cell?_setCell_other _ _ _ _ (by intro e;simp at e)]at g19;exact g19
  have HP3:=zh (hp3.set_props s)
  have HS3:=zh (h3.set 7 s.val (by decide))
  have HX3:=zh ((hx3.any).set 7 s.val trivial)
  have HST3:=zh hs3
  have HO3:Hid ((w3.setCell ⟨R,7,none⟩ s.val).ownsRow (w1.setCell ⟨R,4,none⟩ (.string t)).heap.size 88 4 s.val x.length (pcs x)):=owns_bx (uh hO) ((BX.refl R isAny w3).set 7 _ trivial) (Nat.lt_of_lt_of_le hlt (uh HX1).size)
  clear hp3 h3 hx3 hs3 c4 f4 c2 c0 g19 gl hO
  go_wp2_with fail
  refine (all_any R n st3 w0 _ (uh HS3) ao cap (uh G19)).mono ?_
  rintro e w4 ⟨v,l,rfl,hv,hs4,h4,hx4⟩
  have hcv:=conv_byt w4 v l (uh hv)
  have hp4:=(uh HP3).bx hx4
  have c6:=hp4.payload
  have f6:=hp4.payload_f
  have HX4:=zh hx4
  have HS4:=zh h4
  have HST4:=zh hs4
  clear hx4 h4 hs4 hp4 e7 f7 k19 hv
  go_wp2
  go_end0
  exact pub_end R p { p with topic:=t } st w0 w _ t 0 st1 HX1 hlt HST2 (by show _=_;rw[<- uh HI]) _ s x st3 HO3 HST3 HX3 HP3 w4 l HST4 HS4 HX4
theorem rng2 {x y:Int} (h:0<=x/\x<=255) (k:0<=y/\y<=255):∀ j,0<=([x,y]:List Int).getD j 0/\([x,y]:List Int).getD j 0<=255:=by
 intro j
 match j with
 | 0=>exact h
 | 1=>exact k
 | j+2=>simp
theorem wtwo_any (W:Nat) (bv E:Value) (sz:Nat) (T:List Int) (n:Int) (w:World) (h:WS w W bv sz T E) (hE:EV E) (hn:-9223372036854775808<=n/\n<=9223372036854775807) (hs:sz<=4611686018427387904) (hT:T.length<=65536) :
  Calls Tryz.prog 109 #[.pointer (some ⟨W,0,none⟩),.int .i64 n] w (AddPost W bv sz T [n / 256 % 256,n % 256] (mst (decide (0<=n) && decide (n < 65536)) E) w):=by
 have HS:=zh h
 have hW:W < w.heap.size:=cell_lt h.wt.1.1
 have HM:=zh (fun c=>wmust_gen W bv E sz c w h.wt hE)
 clear h
 go_enter Tryz.func109,Tryz.ntmps109
 go_wp2_with fail
 all_goals (
  refine ((uh HM) _).mono ?_
  rintro e w1 ⟨rfl,hw1,hx1,hev⟩
  have HS1:=zh ((uh HS).bx hx1 hw1)
  have HX1:=zh hx1
  have hz1:=hx1.size
  have HE1:=zh hev
  clear hw1 hx1 hev HM HS
  have HA:Hid (Below w1.heap.size w1 (w1.alloc (.cells #[.int .u8 (n / 256 % 256),.int .u8 (n % 256)] 5))):=bal _ _
  have HS2:=zh ((uh HS1).below (uh HA))
  have HRW:Hid ((w1.alloc (.cells #[.int .u8 (n / 256 % 256),.int .u8 (n % 256)] 5)).ownsRow (W+1) 5 1 (.slice (some ⟨w1.heap.size,0,none⟩) 2 2) 2 ([n / 256 % 256,n % 256].map (Value.int .u8))):=⟨rfl,.inr ⟨w1.heap.size,2,#[.int .u8 (n / 256 % 256),.int .u8 (n % 256)],rfl,by omega,heap_alloc_new _ _,Nat.le_refl _,by unfold maxLen;omega,rfl,rfl⟩⟩
  have hb:0<=n % 256/\n % 256<=255:=by omega
  have hb2:0<=n / 256 % 256/\n / 256 % 256<=255:=by omega
  have HAD:=zh (wadd_any W bv _ .nilIface sz T [n / 256 % 256,n % 256] (.slice (some ⟨w1.heap.size,0,none⟩) 2 2) _ (uh HS2) (uh HE1) (.inl rfl) (fun w' hx=>byt_bxw (uh HRW) (rng2 hb2 hb) hx (Nat.lt_succ_self _)) hs (by simp) hT)
  rw[fst_nil (uh HE1)]at HAD
  go_wp2_with fail
  refine (uh HAD).mono ?_
  rintro e w3 hp
  have HP:=zh (hp.ahead (uh HX1) (uh HA) (fun j (e:j=21)=>by subst e;decide) (by omega))
  obtain⟨bv',rfl,-⟩:=hp
  clear HAD HS2 HRW HS1
  go_wp2
  go_end0
  have hh:=uh HP
  first
   | (have h0:(0:Int)<=n:=(by assumption);rw[decide_eq_true h0,Bool.true_and];exact hh)
   | (have h0:n < 0:=(by assumption);rw[decide_eq_false (by omega),Bool.false_and];exact hh))
theorem wid_any (W:Nat) (bv E:Value) (sz:Nat) (T:List Int) (n:Int) (w:World) (h:WS w W bv sz T E) (hE:EV E) (hn:-9223372036854775808<=n/\n<=9223372036854775807) (hs:sz<=4611686018427387904) (hT:T.length<=65536) :
  Calls Tryz.prog 66 #[.pointer (some ⟨W,0,none⟩),.int .i64 n] w (AddPost W bv sz T [n / 256 % 256,n % 256] (mst (decide (0<=n) && decide (n < 65536)) (mst (n != 0) E)) w):=by
 have HS:=zh h
 have hW:W < w.heap.size:=cell_lt h.wt.1.1
 have HM:=zh (wmust_gen W bv E sz (n != 0) w h.wt hE)
 clear h
 go_enter Tryz.func66,Tryz.ntmps66
 go_wp2_with fail
 refine (uh HM).mono ?_
 rintro e w1 ⟨rfl,hw1,hx1,hev⟩
 have HAD:=zh (wtwo_any W bv _ sz T n w1 ((uh HS).bx hx1 hw1) hev hn hs hT)
 have HX1:=zh hx1
 clear hw1 hx1 hev HM HS
 go_wp2_with fail
 refine (uh HAD).mono ?_
 rintro e w3 hp
 have HP:=zh (hp.ahead (uh HX1) (Below.refl _ _) (fun j (e:j=21)=>by subst e;decide) (Nat.lt_of_lt_of_le hW (uh HX1).size))
 obtain⟨bv',rfl,-⟩:=hp
 clear HAD
 go_wp2
 go_end0
 exact uh HP
theorem wtext_ok (W:Nat) (bv E:Value) (sz:Nat) (T:List Int) (s:ByteArray) (w:World) (h:WS w W bv sz T E) (hE:EV E) (hc:chk (sb s)=0) (hs:sz<=4611686018427387904) (hT:T.length<=65536) :
  Calls Tryz.prog 108 #[.pointer (some ⟨W,0,none⟩),.string s] w (AddPost W bv sz T (tx s) E w):=by
 have HS:=zh h
 have hW:W < w.heap.size:=cell_lt h.wt.1.1
 have hs2:s.size<=65535:=by have:=chk_0 hc;rw[sb_length]at this;exact this
 have hl:=tx_length s
 have hr:=tx_range s hs2
 have HP:=zh (put_ok s w hc)
 have HR:=zh hr
 have HE:=zh hE
 clear h hc hr hE
 go_enter Tryz.func108,Tryz.ntmps108
 go_wp2_with fail
 refine (uh HP).mono ?_
 rintro e w1 ⟨v,rfl,hown,hb⟩
 have HA:=zh hb
 have HS1:=zh ((uh HS).below hb)
 have HAD:=zh (wadd_any W bv E .nilIface sz T (tx s) v w1 (uh HS1) (uh HE) (.inl rfl) (fun w' hx=>byt_bxw (B:=w.heap.size) (by rw[hl];exact uh hown) (uh HR) hx hW) hs (by rw[hl];omega) hT)
 rw[fst_nil (uh HE)]at HAD
 clear hown hb HP HS
 go_wp2_with fail
 refine (uh HAD).mono ?_
 rintro e w3 hp
 have HQ:=zh (hp.ahead (BX.refl W isT w) (uh HA) (fun _ e=>e) hW)
 obtain⟨bv',rfl,-⟩:=hp
 clear HAD HS1
 go_wp2
 go_end0
 exact uh HQ
theorem mst_mst {c d:Bool} {E:Value} (hE:EV E):mst c (mst d E)=mst (c && d) E:=by
 rcases hE with rfl | ⟨t,x,rfl⟩
 ·cases c <;> cases d <;> rfl
 ·rw[mst_if,mst_if,mst_if]
theorem er_off {w:World} {W:Nat} {bv:Value} {sz:Nat} {T:List Int} {E:Value} {c:Bool} (hW:WS w W bv sz T E) (hc:w.cell? ⟨W,1,none⟩=some (.bool c)) (h2:bv.ownBlock=none\/2<=T.length):∀ {d:Nat} {v:Value} {n:Int},Er w d v n->ErO w (offX W bv) d v n
 | 0,_,_,h=>h
 | _+1,_,_,⟨b,u,h1,k2,h3⟩=>by
  obtain⟨t,x,hu⟩:=h3.iface
  refine⟨b,u,h1,?_,k2,er_off hW hc h2 h3⟩
  subst hu
  rintro (e | e)
  ·subst e
   rw[hc]at k2
   cases k2
  ·rcases h2 with h2 | h2
   ·rw[h2]at e;cases e
   ·rcases hW.row.2 with⟨rfl,h0⟩ | ⟨g,cap,cur,rfl,_,hg,hn,_,hsz,hx⟩
    ·cases e
    ·cases e
     have hy:=byt_of_owns hW.row hW.rng
     obtain⟨ao,cap',hv,_,_,hc'⟩:=hy
     simp only[Value.slice.injEq]at hv
     obtain⟨rfl,_,_⟩:=hv
     rcases hc' with rfl | ⟨b',off',e',hc'⟩
     ·simp at h2
     ·simp only[Option.some.injEq,Addr.mk.injEq,and_true]at e'
      obtain⟨rfl,rfl⟩:=e'
      have k:=hc' 1 (by omega)
      rw[Nat.zero_add,k2]at k
      cases k
theorem id_q {w0 w:World} {W:Nat} {p:Pkv} {st:Option (List Int)} {m:Nat} (h:WQ w0 w W p st m) (n:Int) (hn:-9223372036854775808<=n/\n<=9223372036854775807) (hm:m<=4611686018427387904):Calls Tryz.prog 66 #[.pointer (some ⟨W,0,none⟩),.int .i64 n] w (QPost w0 W p (st.bind (sAdd (in16 n && n != 0) (b2 n))) (m+2) w):=by
 obtain⟨h1,h2,h3,bv,sz,T,E,h4,h5,h6,h7⟩:=h
 refine (wid_any W bv E sz T n w h4 h7.ev hn (by omega) h5.1).mono ?_
 intro e w' hA
 rw[mst_mst h7.ev]at hA
 exact wq_step (in16 n && n != 0) h4 h6 h5 h7 h1 h2 h3 hA (by simp) (fun l _=>.inr (by simp))
theorem add_bad_q {w0 w:World} {W:Nat} {p:Pkv} {st:Option (List Int)} {m:Nat} (h:WQ w0 w W p st m) (t:TypeId) (x:Value) (he:∃ d n,d<=2/\Er w d (.iface t x) n) (hl:∀ l,st=some l->l.length≠1) (hm:m<=4611686018427387904) :
  Calls Tryz.prog 114 #[.pointer (some ⟨W,0,none⟩),.slice none 0 0,.iface t x] w (QPost w0 W p none m w):=by
 obtain⟨h1,h2,h3,bv,sz,T,E,h4,h5,h6,h7⟩:=h
 refine (wadd_bad W bv E t x sz T w h4 h7.ev (by omega)).mono ?_
 rintro r w' ⟨rfl,k1,k2⟩
 have hF:FW W bv.ownBlock w w':=FW.of_bx k2 (fun _ e=>e)
 refine⟨rfl,⟨hF.below h1 h2 (fun g e=>by have:=ws_rows h4 g e;omega),h2,h3.fw hF,bv,sz,T,_,k1,h5,h6,?_⟩,FT.of_bx k2⟩
 cases st with
 | none =>
  obtain⟨d,n,hd,he⟩:=h7
  obtain⟨t',x',rfl⟩:=he.iface
  rw[fst_if]
  exact⟨d,n,hd,he.fw hF.fb (.inl rfl)⟩
 | some l =>
  obtain⟨rfl,_,_,k⟩:=h7
  obtain⟨d,n,hd,he⟩:=he
  exact⟨d,n,hd,(er_off h4 h3.dup (k.elim .inl (fun k=>k.elim .inr (fun k=>absurd k (hl l rfl)))) he).fw hF.fb (.inl rfl)⟩
theorem tx_ne (s:ByteArray):tx s≠[]:=fun e=>by have:=tx_length s;rw[e]at this;simp at this;omega
theorem text_q {w0 w:World} {W:Nat} {p:Pkv} {st:Option (List Int)} {m:Nat} (h:WQ w0 w W p st m) (s:ByteArray) (hs:s.size<=4611686018427387904) (hl:∀ l,st=some l->l.length≠1) (hm:m<=4611686018427387904) :
  Calls Tryz.prog 108 #[.pointer (some ⟨W,0,none⟩),.string s] w (QPost w0 W p (st.bind (sAdd (okT s) (tx s))) (m+70000) w):=by
 by_cases hc:chk (sb s)=0
 ·have hk:okT s=true:=decide_eq_true hc
  rw[hk]
  have h2:s.size<=65535:=by have:=chk_0 hc;rw[sb_length]at this;exact this
  obtain⟨h1,h2',h3,bv,sz,T,E,h4,h5,h6,h7⟩:=h
  refine (wtext_ok W bv E sz T s w h4 h7.ev hc (by omega) h5.1).mono ?_
  intro e w' hA
  have hT:=tx_length s
  obtain⟨k1,k2,k3⟩:=wq_step true h4 h6 h5 h7 h1 h2' h3 hA (tx_ne s) (fun l e=>.inl (hl l e))
  exact⟨k1,k2.mono (by omega),k3⟩
 ·have hk:okT s=false:=decide_eq_false hc
  rw[hk,bind_no]
  have HQ:=zh h
  have HL:=zh hl
  have HP:=zh (tput_bad s w hs hc)
  clear h hc hk hl
  go_enter Tryz.func108,Tryz.ntmps108
  go_wp2_with fail
  refine (uh HP).mono ?_
  rintro e w1 ⟨x,n,rfl,hi,hb⟩
  have HA:=zh (add_bad_q ((uh HQ).below hb) 125 x (by obtain⟨d,hd,he⟩:=er_of_inn (uh hi);exact⟨d,n,hd,he⟩) (uh HL) hm)
  have HB:=zh hb
  clear hb HP HQ hi
  go_wp2_with fail
  refine (uh HA).mono ?_
  rintro e w2 ⟨rfl,hq,hf⟩
  have HQ2:=zh (hq.mono (show m<=m+70000 from by omega))
  have HF:=zh ((FT.of_below (W:=W) (uh HB)).trans hf)
  clear hq hf HA
  go_wp2
  go_end0
  exact⟨rfl,uh HQ2,uh HF⟩
theorem take_str (W j:Nat) (x:ByteArray) (w:World) (hc:w.cell? ⟨W,j,none⟩=some (.string x)) (hf:w.frozen? ⟨W,j,none⟩=false):Calls Tryz.prog 110 #[.pointer (some ⟨W,j,none⟩)] w fun e w'=>e=.returned (.string x)/\w'=w.setCell ⟨W,j,none⟩ (.string ⟨#[]⟩):=by
 go_enter Tryz.func110,Tryz.ntmps110
 go_wp2
 go_ret
 exact⟨rfl,rfl⟩
theorem take_qos_q {w0 w:World} {W:Nat} {p:Pkv} {st:Option (List Int)} {m:Nat} (h:WQ w0 w W p st m) (x:Int) (hx:p.qos=x):Calls Tryz.prog 62 #[.pointer (some ⟨W,2,none⟩)] w fun e w'=>e=.returned (.int .i64 x)/\WQ w0 w' W p.no_qos st m:=by
 subst hx
 refine (take_int W 2 p.qos w h.pk.qos h.pk.qos_f).mono ?_
 rintro e w' ⟨rfl,rfl⟩
 exact⟨rfl,h.set p.no_qos 2 (by omega) (fun j hj=>by unfold Pkv.no_qos Pkv.cell;split <;> first | rfl | exact absurd rfl hj)⟩
theorem take_topic_q {w0 w:World} {W:Nat} {p:Pkv} {st:Option (List Int)} {m:Nat} (h:WQ w0 w W p st m) (x:ByteArray) (hx:p.topic=x):Calls Tryz.prog 110 #[.pointer (some ⟨W,4,none⟩)] w fun e w'=>e=.returned (.string x)/\WQ w0 w' W p.no_topic st m:=by
 subst hx
 refine (take_str W 4 p.topic w h.pk.topic h.pk.topic_f).mono ?_
 rintro e w' ⟨rfl,rfl⟩
 exact⟨rfl,h.set p.no_topic 4 (by omega) (fun j hj=>by unfold Pkv.no_topic Pkv.cell;split <;> first | rfl | exact absurd rfl hj)⟩
theorem take_id_q {w0 w:World} {W:Nat} {p:Pkv} {st:Option (List Int)} {m:Nat} (h:WQ w0 w W p st m) (x:Int) (hx:p.id=x):Calls Tryz.prog 62 #[.pointer (some ⟨W,5,none⟩)] w fun e w'=>e=.returned (.int .i64 x)/\WQ w0 w' W p.no_id st m:=by
 subst hx
 refine (take_int W 5 p.id w h.pk.id h.pk.id_f).mono ?_
 rintro e w' ⟨rfl,rfl⟩
 exact⟨rfl,h.set p.no_id 5 (by omega) (fun j hj=>by unfold Pkv.no_id Pkv.cell;split <;> first | rfl | exact absurd rfl hj)⟩
theorem take_payload_q {w0 w:World} {W:Nat} {p:Pkv} {st:Option (List Int)} {m:Nat} (h:WQ w0 w W p st m) (x:ByteArray) (hx:p.payload=x):Calls Tryz.prog 110 #[.pointer (some ⟨W,6,none⟩)] w fun e w'=>e=.returned (.string x)/\WQ w0 w' W p.no_payload st m:=by
 subst hx
 refine (take_str W 6 p.payload w h.pk.payload h.pk.payload_f).mono ?_
 rintro e w' ⟨rfl,rfl⟩
 exact⟨rfl,h.set p.no_payload 6 (by omega) (fun j hj=>by unfold Pkv.no_payload Pkv.cell;split <;> first | rfl | exact absurd rfl hj)⟩
theorem Ge2.one {st:Option (List Int)} (h:Ge2 st):∀ l,st=some l->l.length≠1:=fun l e=>by have:=h l e;omega
theorem pbs_ne (l:List Pr):pbs l≠[]:=fun e=>by
 unfold pbs at e
 have h:=V.put_len (body l).length
 rw[(List.append_eq_nil_iff.1 e).1]at h
 simp at h
theorem props_q {w0 w:World} {W:Nat} {p:Pkv} {st:Option (List Int)} {m:Nat} (h:WQ w0 w W p st m) (v:Value) (l:List Pr) (place:Int) (hP:Prp w v l) (hmx:l.length<=4398046511104) (hsm:Go.Proofs.YtdkmmmjjdlnnoaaGreatDoor.Small l) (hl:∀ l,st=some l->l.length≠1) (hm:m<=4611686018427387904) :
  Calls Tryz.prog 63 #[.pointer (some ⟨W,0,none⟩),v,.int .i64 place] w (QPost w0 W p (st.bind (sAdd (okP place l) (pbs l))) (m+5000000) w):=by
 have HQ:=zh h
 have HL:=zh hl
 have HP:=zh (putU_any v l place w hP hmx hsm)
 obtain⟨ao,cap,rfl⟩:=hP.form
 have hW:=h.lt
 clear h hl hP hsm
 go_enter Tryz.func63,Tryz.ntmps63
 go_wp2_with fail
 refine (uh HP).mono ?_
 rintro e w1 ⟨hb,⟨hk,v1,rfl,ho,hr⟩ | ⟨hk,x,rfl,he⟩⟩
 ·have HK:=zh hk
  have hle:=pbs_le (of_decide_eq_true hk)
  have HA:Hid (Calls Tryz.prog 114 #[.pointer (some ⟨W,0,none⟩),v1,.nilIface] w1 (QPost w0 W p (st.bind (sAdd true (pbs l))) (m+5000000) w1)):=by
   obtain⟨h1,h2,h3,bv,sz,T,E,h4,h5,h6,h7⟩:=(uh HQ).below hb
   refine (wadd_any W bv E .nilIface sz T (pbs l) v1 w1 h4 h7.ev (.inl rfl) (fun w' hx=>byt_bxw (B:=w.heap.size) ho hr hx hW) (by omega) (by omega) h5.1).mono ?_
   intro e w' hA
   rw[fst_nil h7.ev]at hA
   obtain⟨k1,k2,k3⟩:=wq_step true h4 h6 h5 h7 h1 h2 h3 hA (pbs_ne l) (fun l' e=>.inl ((uh HL) l' e))
   exact⟨k1,k2.mono (by omega),k3⟩
  have HB:=zh hb
  clear hb ho hr HP HQ hk
  go_wp2_with fail
  refine (uh HA).mono ?_
  rintro e w2 ⟨rfl,hq,hf⟩
  have HF:=zh ((FT.of_below (W:=W) (uh HB)).trans hf)
  have HQ2:=zh hq
  clear hq hf HA
  go_wp2
  go_end0
  exact⟨rfl,by rw[uh HK];exact uh HQ2,uh HF⟩
 ·have HK:=zh hk
  have HA:=zh (add_bad_q ((uh HQ).below hb) 125 x he (uh HL) hm)
  have HB:=zh hb
  clear hb he HP HQ hk
  go_wp2_with fail
  refine (uh HA).mono ?_
  rintro e w2 ⟨rfl,hq,hf⟩
  have HF:=zh ((FT.of_below (W:=W) (uh HB)).trans hf)
  have HQ2:=zh (hq.mono (show m<=m+5000000 from by omega))
  clear hq hf HA
  go_wp2
  go_end0
  exact⟨rfl,by rw[uh HK,bind_no];exact uh HQ2,uh HF⟩
theorem packet_k3 (R:Nat) (dup:Bool) (qos:Int) (retain:Bool) (st:Option (List Int)) (w0 w:World) (h:RS w0 w R st) (hp:Pk w R (pk0 3 dup qos retain)) (hl:∀ l,st=some l->l.length<=65536):Calls Tryz.prog 46 #[.pointer (some ⟨R,0,none⟩)] w (PackPost w0 R (pa0 3 dup qos retain) st w):=by
 have hlt:=h.lt
 have c0:=hp.kind
 have HP:=zh hp
 have HS:=zh h
 have HL:=zh hl
 clear hp h hl
 simp only[pk0]at c0
 go_enter Tryz.func46,Tryz.ntmps46
 go_wp2_with fail
 refine (publish_any R (pk0 3 dup qos retain) st w0 w (uh HS) (uh HP) rfl rfl).mono ?_
 rintro e w1 ⟨rfl,t,i,s,x,y,st1,hp1,hO1,hs1,h1,hx1⟩
 have HP1:=zh hp1
 have HS1:=zh h1
 have HX1:=zh hx1
 have HST1:Hid (Stp (publish? qos) st (t,i,x,y) st1):=hs1
 clear hp1 h1 hx1 hs1
 obtain⟨ao,n,cap,c19,⟨g1,g2⟩,gl⟩:=(uh HS1).rest
 unfold maxLen at g2
 have GL:=zh gl
 clear gl
 have HM:Hid (Mean w1 w.heap.size { (pk0 3 dup qos retain)with topic:=t,id:=i,props:=s,payload:=y } { (pa0 3 dup qos retain)with topic:=t,id:=i,props:=x,payload:=y }):=⟨⟨rfl,rfl,rfl,rfl,rfl,rfl,rfl,rfl,rfl,rfl,rfl,rfl⟩,uh hO1,wills0 _ _,row0 _ _ _ _,row0 _ _ _ _,row0 _ _ _ _,row0 _ _ _ _,row0 _ _ _ _⟩
 have hbz:((n:Int) == 0)=decide (n=0):=by by_cases h:n=0 <;> simp[h]
 go_wp2_with fail
 refine (must_any R _ st1 w0 _ (uh HS1)).mono ?_
 rintro e wz ⟨rfl,hz,hxz⟩
 have HZ:=zh hz
 have HXZ:=zh hxz
 clear hz hxz
 go_wp2
 go_end0
 have hBY:Stp (body? (pa0 3 dup qos retain)) st { (pa0 3 dup qos retain)with topic:=t,id:=i,props:=x,payload:=y } st1:=by
  show Stp (bindR (publish? qos) fun r=>pureR { (pa0 3 dup qos retain)with topic:=r.1,id:=r.2.1,props:=r.2.2.1,payload:=r.2.2.2 }) st { (pa0 3 dup qos retain)with topic:=t,id:=i,props:=x,payload:=y } st1
  exact (uh HST1).bind (Stp.pure _ _)
 exact⟨rfl,{ (pk0 3 dup qos retain)with topic:=t,id:=i,props:=s,payload:=y },{ (pa0 3 dup qos retain)with topic:=t,id:=i,props:=x,payload:=y },_,(uh HP1).bx (uh HXZ),(uh HM).bx (uh HXZ) hlt,packet_stp hBY (stp_end (uh GL) _ (by first | exact hbz | rfl | simp)),uh HZ,(uh HX1).trans (uh HXZ).any⟩
theorem pay_no {w0 w w2:World} {W:Nat} {p:Pkv} {st:Option (List Int)} {m:Nat} {bv:Value} {sz:Nat} {T:List Int} {E:Value} (s:ByteArray) (h1:Below w0.heap.size w0 w) (h2:w0.heap.size<=W) (h3:Pk w W p) (h4:WS w W bv sz T E) (h5:T.length<=65536/\T.length<=sz) (h6:sz<=m) (h7:Sg w W bv sz T E st)
  (hw:Wtr w2 W bv ((sz:Int)+(s.size:Int)) E) (hx:BX W is20 w w2) (hr:¬ sz+s.size<=65536):WF w0 w2 W p (st.bind (sAdd true (sb s))) (m+s.size):=by
 have hF:FW W bv.ownBlock w w2:=FW.of_bx hx (fun j (e:j=20)=>by subst e;decide)
 refine⟨hF.below h1 h2 (fun g e=>by have:=ws_rows h4 g e;omega),h2,h3.fw hF,bv,sz+s.size,T,E,h4.bx hx (by rw[Int.natCast_add];exact hw),⟨h5.1,by omega⟩,by omega,?_⟩
 cases st with
 | none=>obtain⟨d,n,hd,he⟩:=h7;exact⟨d,n,hd,(he.fw hF.fb (.inl rfl)).weak (fun _ e=>.inl e)⟩
 | some l =>
  obtain⟨rfl,k2,k3,_⟩:=h7
  have hl:(l++sb s).length=sz+s.size:=by rw[List.length_append,sb_length];omega
  exact⟨rfl,hl.symm,fun k=>absurd k (by rw[hl];exact hr)⟩
theorem pay_yes {w0 w w2 w3:World} {W:Nat} {p:Pkv} {st:Option (List Int)} {m:Nat} {bv v3:Value} {sz:Nat} {T:List Int} {E:Value} (s:ByteArray) (h1:Below w0.heap.size w0 w) (h2:w0.heap.size<=W) (h3:Pk w W p) (h4:WS w W bv sz T E) (h5:T.length<=65536/\T.length<=sz) (h6:sz<=m) (h7:Sg w W bv sz T E st)
  (hw:Wtr w2 W bv ((sz:Int)+(s.size:Int)) E) (hx:BX W is20 w w2) (hr:sz+s.size<=65536)
  (ho:w3.ownsRow (W+1) 5 1 v3 (T.length+s.size) ((T++sb s).map (Value.int .u8))) (hg:w2.grownBy w3 bv.ownBlock):WF w0 (w3.setCell ⟨W,19,none⟩ v3) W p (st.bind (sAdd true (sb s))) (m+s.size):=by
 have hW:W < w.heap.size:=cell_lt h3.kind
 have hrow:=ws_rows h4
 have hne:some W≠bv.ownBlock:=fun e=>by have:=hrow W e.symm;omega
 have hW2:W < w2.heap.size:=Nat.lt_of_lt_of_le hW hx.size
 have hF1:FW W bv.ownBlock w w2:=FW.of_bx hx (fun j (e:j=20)=>by subst e;decide)
 have hF2:FW W bv.ownBlock w2 w3:=FW.of_grown hg hW2 hne
 have hF3:FW W none w3 (w3.setCell ⟨W,19,none⟩ v3):=FW.of_bx ((BX.refl W isT w3).set 19 v3 (Nat.le_refl _)) (fun _ e=>e)
 have hF:FW W bv.ownBlock w (w3.setCell ⟨W,19,none⟩ v3):=(hF1.trans hF2 (fun g e=>.inl e)).trans hF3 (fun g e=>by cases e)
 have hb3:w3.heap[W]?=w2.heap[W]?:=hg.block W hW2 hne
 have hc:∀ j,w3.cell? ⟨W,j,none⟩=w2.cell? ⟨W,j,none⟩:=fun j=>World.cell?_of_block hb3
 have hfz:∀ j,w3.frozen? ⟨W,j,none⟩=w2.frozen? ⟨W,j,none⟩:=fun j=>World.frozen?_of_block hb3
 obtain⟨⟨a1,a2⟩,⟨b1,b2⟩,d1,d2⟩:=hw
 have hTl:(T++sb s).length=T.length+s.size:=by rw[List.length_append,sb_length]
 refine⟨hF.below h1 h2 (fun g e=>by have:=hrow g e;omega),h2,h3.fw hF,v3,sz+s.size,T++sb s,E,⟨⟨⟨World.cell?_setCell_same _ _ _ ((hc 19).trans a1),by rw[World.frozen?_setCell];exact (hfz 19).trans a2⟩,⟨(World.cell?_setCell_other _ _ _ _ (fun e=>by simp at e)).trans ((hc 20).trans (by rw[Int.natCast_add];exact b1)),by rw[World.frozen?_setCell];exact (hfz 20).trans b2⟩,(World.cell?_setCell_other _ _ _ _ (fun e=>by simp at e)).trans ((hc 21).trans d1),by rw[World.frozen?_setCell];exact (hfz 21).trans d2⟩,?_,?_⟩,⟨by omega,by omega⟩,by omega,?_⟩
 ·rw[hTl]
  exact owns_out ho (Nat.lt_succ_self _)
 ·intro j
  have r1:=h4.rng j
  have r2:=sb_range s (j - T.length)
  by_cases hj:j < T.length
  ·rw[List.getD_eq_getElem?_getD,List.getElem?_append_left hj,<- List.getD_eq_getElem?_getD];exact r1
  ·rw[List.getD_eq_getElem?_getD,List.getElem?_append_right (by omega),<- List.getD_eq_getElem?_getD];exact r2
 cases st with
 | none=>obtain⟨d,n,hd,he⟩:=h7;exact⟨d,n,hd,(he.fw hF.fb (.inl rfl)).weak (fun _ e=>.inl e)⟩
 | some l =>
  obtain⟨rfl,k2,k3,_⟩:=h7
  have hl:(l++sb s).length=sz+s.size:=by rw[List.length_append,sb_length];omega
  exact⟨rfl,hl.symm,fun k=>by rw[k3 (by rw[hl]at k;omega)]⟩
theorem bind_some' (x:Option (List Int)):x.bind some=x:=by cases x <;> rfl
theorem ge2_tx (s:ByteArray) (c:Bool):Ge2 ((some []).bind (sAdd c (tx s))):=fun l e=>by
 cases c
 ·cases e
 ·cases e
  have:=tx_length s
  simp
  omega
theorem pub_pos {w0 w:World} {W:Nat} {p:Pkv} (h:WQ w0 w W p (some []) 0) (l:List Pr) (hP:Prp w0 p.props.val l) (hmx:l.length<=4398046511104) (hsm:Go.Proofs.YtdkmmmjjdlnnoaaGreatDoor.Small l) (hto:p.topic.size<=4611686018427387904) (hpy:p.payload.size<=1073741824) (hid:-9223372036854775808<=p.id/\p.id<=9223372036854775807) (hq:0 < p.qos) :
  Calls Tryz.prog 65 #[.pointer (some ⟨W,0,none⟩)] w (GPost w0 W p.no_dup.no_retain.no_topic.no_qos.no_id.no_props.no_payload (sPub p.topic p.qos p.id p.kind l p.payload []) 2000000000):=by
 have HP:=zh hP
 have HSM:=zh hsm
 have d1:=h.pk.dup
 have d2:=h.pk.dup_f
 have d3:(w.setCell ⟨W,1,none⟩ (.bool false)).cell? ⟨W,3,none⟩=some (.bool p.retain):=h.no_dup.pk.retain
 have d4:(w.setCell ⟨W,1,none⟩ (.bool false)).frozen? ⟨W,3,none⟩=false:=h.no_dup.pk.retain_f
 have HQ:=zh h.no_dup.no_retain
 have HPO:Hid (∀ W':World,W'=(w.setCell ⟨W,1,none⟩ (.bool false)).setCell ⟨W,3,none⟩ (.bool false)->WQ w0 W' W p.no_dup.no_retain (some []) 0):=fun W' e=>by rw[e];exact uh HQ
 clear h hP hsm HQ
 go_enter Tryz.func65,Tryz.ntmps65
 go_upto_region 2 with fail
 have HQ:=zh ((uh HPO) _ rfl)
 generalize (w.setCell ⟨W,1,none⟩ (.bool false)).setCell ⟨W,3,none⟩ (.bool false)=w1 at HQ |-
 clear HPO d1 d2 d3 d4
 go_wp2_with fail
 refine (take_topic_q (uh HQ) p.topic rfl).mono ?_
 rintro e w2 ⟨rfl,hq2⟩
 have HQ2:=zh hq2
 clear hq2 HQ
 go_wp2_with fail
 refine (text_q (uh HQ2) p.topic hto (fun l e=>by cases e;simp) (by omega)).mono ?_
 rintro e w3 ⟨rfl,hq3,-⟩
 have HQ3:=zh hq3
 have HG3:=zh (ge2_tx p.topic (okT p.topic))
 generalize hs3:(some []).bind (sAdd (okT p.topic) (tx p.topic))=s3 at HQ3 HG3
 have HS3:=zh hs3
 clear hq3 HQ2 hs3
 go_wp2_with fail
 refine (take_qos_q (uh HQ3) p.qos rfl).mono ?_
 rintro e w4 ⟨rfl,hq4⟩
 have HQ4:=zh hq4
 clear hq4 HQ3
 go_wp2_with fail
 refine (take_id_q (uh HQ4) p.id rfl).mono ?_
 rintro e w5 ⟨rfl,hq5⟩
 have HQ5:=zh hq5
 clear hq5 HQ4
 go_wp2_with fail
 refine (id_q (uh HQ5) p.id hid (by omega)).mono ?_
 rintro e w6 ⟨rfl,hq6,-⟩
 have HG6:=zh ((uh HG3).add (in16 p.id && p.id != 0) (b2 p.id))
 have HQ6:=zh hq6
 obtain⟨s6,HS6⟩:∃ s6,Hid (s6=s3.bind (sAdd (in16 p.id && p.id != 0) (b2 p.id))):=⟨_,rfl⟩
 rw[<- uh HS6]at HG6 HQ6
 clear hq6 HQ5 HG3
 go_wp2_with fail
 have HQd:=zh ((uh HQ6).below (below_drewN (Below.refl _ _) 1))
 clear HQ6
 refine wp_region_noPanic ?_
 refine wp_region_held_drew (S:=fun w'=>w'.cell? ⟨W,0,none⟩=some (.int .i64 p.kind)) (by kernel_rfl) (uh HQd).pk.kind (fun hHeld=>?_)
 refine rtk 0 (h:=?_)
 refine rtk 1 (h:=?_)
 refine rtk 2 (h:=?_)
 refine rtk 3 (h:=?_)
 refine rtk 5 (h:=?_)
 refine rtk 6 (h:=?_)
 refine rtk 7 (h:=?_)
 refine rtk 8 (h:=?_)
 refine rcl 4 (h:=fun K hK=>?_)
 go_simp
 refine (take_props_q (uh HQd) p.props rfl).mono ?_
 rintro e wp1 ⟨rfl,hqp⟩
 have HQp:=zh hqp
 clear hqp HQd
 refine hK.out _ _ (uh HQp).pk.kind (fun hHeld=>?_)
 clear hK K
 refine rcl 9 (h:=fun K hK=>?_)
 go_simp
 refine (props_q (uh HQp) p.props.val l p.kind ((uh HP).below (uh HQp).bel) hmx (uh HSM) (uh HG6).one (by omega)).mono ?_
 rintro e wp2 ⟨rfl,hqp,-⟩
 have HQ7:=zh hqp
 clear hqp HQp
 refine hK.out _ _ (uh HQ7).pk.kind (fun hHeld=>?_)
 clear hK K
 refine wpAnyH_done (by kernel_rfl) ?_ _
 refine NoPanic.normal ?_
 obtain⟨s7,HS7⟩:∃ s7,Hid (s7=s6.bind (sAdd (okP p.kind l) (pbs l))):=⟨_,rfl⟩
 rw[<- uh HS7]at HQ7
 go_wp2_with fail
 refine (take_payload_q (uh HQ7) p.payload rfl).mono ?_
 rintro e w8 ⟨rfl,hq8⟩
 have HFIN:Hid (∀ W' m',WF w0 W' W p.no_dup.no_retain.no_topic.no_qos.no_id.no_props.no_payload (s7.bind (sAdd true (sb p.payload))) m'->m'<=2000000000->GPost w0 W p.no_dup.no_retain.no_topic.no_qos.no_id.no_props.no_payload (sPub p.topic p.qos p.id p.kind l p.payload []) 2000000000 (.returned (.tuple #[])) W'):=fun W' m' k hm'=>by
  refine⟨rfl,?_⟩
  have e:sPub p.topic p.qos p.id p.kind l p.payload []=s7.bind (sAdd true (sb p.payload)):=by
   unfold sPub
   rw[uh HS7,uh HS6,<- uh HS3,if_pos hq]
   first | rfl | (rw[bind_some'];rfl)
  rw[e]
  exact k.mono hm'
 obtain⟨h1,h2,h3,bv,sz,T,E,h4,h5,h6,h7⟩:=hq8
 have hszz:(sz:Int)<=6000000:=by omega
 have hW8:W < w8.heap.size:=cell_lt h3.kind
 have HR:=zh (room_any W bv E sz p.payload.size w8 h4.wt (by omega) (by omega) (by omega) (by omega))
 have HNO:Hid (∀ W',Wtr W' W bv ((sz:Int)+(p.payload.size:Int)) E->BX W is20 w8 W'->¬ sz+p.payload.size<=65536->WF w0 W' W p.no_dup.no_retain.no_topic.no_qos.no_id.no_props.no_payload (s7.bind (sAdd true (sb p.payload))) (_+p.payload.size)):=fun W' a b c=>pay_no p.payload h1 h2 h3 h4 h5 h6 h7 a b c
 have HYES:Hid (∀ W2 W3 v3,Wtr W2 W bv ((sz:Int)+(p.payload.size:Int)) E->BX W is20 w8 W2->sz+p.payload.size<=65536->W3.ownsRow (W+1) 5 1 v3 (T.length+p.payload.size) ((T++sb p.payload).map (Value.int .u8))->W2.grownBy W3 bv.ownBlock->WF w0 (W3.setCell ⟨W,19,none⟩ v3) W p.no_dup.no_retain.no_topic.no_qos.no_id.no_props.no_payload (s7.bind (sAdd true (sb p.payload))) (_+p.payload.size)):=fun W2 W3 v3 a b c d e=>pay_yes p.payload h1 h2 h3 h4 h5 h6 h7 a b c d e
 have HWS:=zh h4
 have hT1:=h5.1
 clear h1 h2 h3 h4 h5 h6 h7 HQ7 HP HSM HS7 HS6 HS3 HG6
 generalize hpl:p.payload=pay at *
 clear hpl
 go_wp2_with fail
 refine (uh HR).mono ?_
 rintro e w9 ⟨rfl,hw9,hx9⟩
 by_cases hr:sz+pay.size<=65536
 ·have hd:decide ((sz:Int)+(pay.size:Int)<=65536)=true:=decide_eq_true (by omega)
  have HO9:=zh (owns_bx (uh HWS).row hx9 (Nat.lt_succ_self _))
  have hz9:=hx9.size
  have HY:=zh ((uh HYES) w9)
  have HW9:=zh hw9
  have HX9:=zh hx9
  obtain⟨a9,n9,c9,rfl⟩:∃ a n p,bv=.slice a n p:=by
   rcases (uh HO9).2 with⟨rfl,_⟩ | ⟨g,cap,cur,rfl,_⟩
   ·exact⟨_,_,_,rfl⟩
   ·exact⟨_,_,_,rfl⟩
  obtain⟨⟨k1,kf1⟩,-,-⟩:=hw9
  clear hx9 HNO HYES HR
  obtain⟨i0,hi,hz0,hz1,hz2⟩:=info_parts Tryz.infoU8
  go_wp2_with (first
   | (at_builtin;refine Lib.wpList_append_own_string _ rfl _ _ 33 9 rfl (W+1) 5 i0 Tryz.underlying33 Tryz.underlying9 hi hz0 hz1 hz2 (.slice a9 n9 c9) T.length (T.map (Value.int .u8)) rfl (uh HO9) pay rfl (by unfold maxLen;omega) (by omega) (by omega) ?_)
   | go_in)
  intro v3 w10 hown3 hg3 _
  have hne:some W≠(Value.slice a9 n9 c9).ownBlock:=fun e=>by have:=owns_blk (uh HO9) W e.symm;omega
  have hb3:w10.heap[W]?=w9.heap[W]?:=hg3.block W (by omega) hne
  have c3:w10.cell? ⟨W,19,none⟩=some (.slice a9 n9 c9):=(World.cell?_of_block hb3).trans k1
  have f3:w10.frozen? ⟨W,19,none⟩=false:=(World.frozen?_of_block hb3).trans kf1
  have HF:=zh ((uh HFIN) (w10.setCell ⟨W,19,none⟩ v3) _ ((uh HY) w10 v3 (uh HW9) (uh HX9) hr (by rw[List.map_append,<- strCells_sb];exact hown3) hg3) (by omega))
  obtain⟨a3,n3,p3,rfl⟩:∃ a n p,v3=.slice a n p:=by
   rcases hown3.2 with⟨rfl,_⟩ | ⟨g,cap,cur,rfl,_⟩
   ·exact⟨_,_,_,rfl⟩
   ·exact⟨_,_,_,rfl⟩
  clear hown3 hg3 hb3 hne HY HFIN HO9 HWS k1 kf1 HW9 HX9
  go_wp2
  go_end0
  exact uh HF
 ·have hd:decide ((sz:Int)+(pay.size:Int)<=65536)=false:=decide_eq_false (by omega)
  have HF:=zh ((uh HFIN) w9 _ ((uh HNO) w9 hw9 hx9 hr) (by omega))
  clear hw9 hx9 HR HNO HYES
  go_wp2
  go_end0
  exact uh HF
theorem pub_zero {w0 w:World} {W:Nat} {p:Pkv} (h:WQ w0 w W p (some []) 0) (l:List Pr) (hP:Prp w0 p.props.val l) (hmx:l.length<=4398046511104) (hsm:Go.Proofs.YtdkmmmjjdlnnoaaGreatDoor.Small l) (hto:p.topic.size<=4611686018427387904) (hpy:p.payload.size<=1073741824) (hq:¬ 0 < p.qos) :
  Calls Tryz.prog 65 #[.pointer (some ⟨W,0,none⟩)] w (GPost w0 W p.no_dup.no_retain.no_topic.no_qos.no_props.no_payload (sPub p.topic p.qos p.id p.kind l p.payload []) 2000000000):=by
 have HP:=zh hP
 have HSM:=zh hsm
 have d1:=h.pk.dup
 have d2:=h.pk.dup_f
 have d3:(w.setCell ⟨W,1,none⟩ (.bool false)).cell? ⟨W,3,none⟩=some (.bool p.retain):=h.no_dup.pk.retain
 have d4:(w.setCell ⟨W,1,none⟩ (.bool false)).frozen? ⟨W,3,none⟩=false:=h.no_dup.pk.retain_f
 have HQ:=zh h.no_dup.no_retain
 have HPO:Hid (∀ W':World,W'=(w.setCell ⟨W,1,none⟩ (.bool false)).setCell ⟨W,3,none⟩ (.bool false)->WQ w0 W' W p.no_dup.no_retain (some []) 0):=fun W' e=>by rw[e];exact uh HQ
 clear h hP hsm HQ
 go_enter Tryz.func65,Tryz.ntmps65
 go_upto_region 2 with fail
 have HQ:=zh ((uh HPO) _ rfl)
 generalize (w.setCell ⟨W,1,none⟩ (.bool false)).setCell ⟨W,3,none⟩ (.bool false)=w1 at HQ |-
 clear HPO d1 d2 d3 d4
 go_wp2_with fail
 refine (take_topic_q (uh HQ) p.topic rfl).mono ?_
 rintro e w2 ⟨rfl,hq2⟩
 have HQ2:=zh hq2
 clear hq2 HQ
 go_wp2_with fail
 refine (text_q (uh HQ2) p.topic hto (fun l e=>by cases e;simp) (by omega)).mono ?_
 rintro e w3 ⟨rfl,hq3,-⟩
 have HQ3:=zh hq3
 have HG3:=zh (ge2_tx p.topic (okT p.topic))
 generalize hs3:(some []).bind (sAdd (okT p.topic) (tx p.topic))=s3 at HQ3 HG3
 have HS3:=zh hs3
 clear hq3 HQ2 hs3
 go_wp2_with fail
 refine (take_qos_q (uh HQ3) p.qos rfl).mono ?_
 rintro e w4 ⟨rfl,hq4⟩
 have HQ4:=zh hq4
 clear hq4 HQ3
 have HQ6:Hid (WQ w0 w4 W p.no_dup.no_retain.no_topic.no_qos s3 (0+70000+2)):=(uh HQ4).mono (by omega)
 have HG6:=HG3
 obtain⟨s6,HS6⟩:∃ s6,Hid (s6=s3):=⟨_,rfl⟩
 rw[<- uh HS6]at HG6 HQ6
 clear HQ4 HG3
 go_wp2_with fail
 have HQd:=zh ((uh HQ6).below (below_drewN (Below.refl _ _) 1))
 clear HQ6
 refine wp_region_noPanic ?_
 refine wp_region_held_drew (S:=fun w'=>w'.cell? ⟨W,0,none⟩=some (.int .i64 p.kind)) (by kernel_rfl) (uh HQd).pk.kind (fun hHeld=>?_)
 refine rtk 0 (h:=?_)
 refine rtk 1 (h:=?_)
 refine rtk 2 (h:=?_)
 refine rtk 3 (h:=?_)
 refine rtk 5 (h:=?_)
 refine rtk 6 (h:=?_)
 refine rtk 7 (h:=?_)
 refine rtk 8 (h:=?_)
 refine rcl 4 (h:=fun K hK=>?_)
 go_simp
 refine (take_props_q (uh HQd) p.props rfl).mono ?_
 rintro e wp1 ⟨rfl,hqp⟩
 have HQp:=zh hqp
 clear hqp HQd
 refine hK.out _ _ (uh HQp).pk.kind (fun hHeld=>?_)
 clear hK K
 refine rcl 9 (h:=fun K hK=>?_)
 go_simp
 refine (props_q (uh HQp) p.props.val l p.kind ((uh HP).below (uh HQp).bel) hmx (uh HSM) (uh HG6).one (by omega)).mono ?_
 rintro e wp2 ⟨rfl,hqp,-⟩
 have HQ7:=zh hqp
 clear hqp HQp
 refine hK.out _ _ (uh HQ7).pk.kind (fun hHeld=>?_)
 clear hK K
 refine wpAnyH_done (by kernel_rfl) ?_ _
 refine NoPanic.normal ?_
 obtain⟨s7,HS7⟩:∃ s7,Hid (s7=s6.bind (sAdd (okP p.kind l) (pbs l))):=⟨_,rfl⟩
 rw[<- uh HS7]at HQ7
 go_wp2_with fail
 refine (take_payload_q (uh HQ7) p.payload rfl).mono ?_
 rintro e w8 ⟨rfl,hq8⟩
 have HFIN:Hid (∀ W' m',WF w0 W' W p.no_dup.no_retain.no_topic.no_qos.no_props.no_payload (s7.bind (sAdd true (sb p.payload))) m'->m'<=2000000000->GPost w0 W p.no_dup.no_retain.no_topic.no_qos.no_props.no_payload (sPub p.topic p.qos p.id p.kind l p.payload []) 2000000000 (.returned (.tuple #[])) W'):=fun W' m' k hm'=>by
  refine⟨rfl,?_⟩
  have e:sPub p.topic p.qos p.id p.kind l p.payload []=s7.bind (sAdd true (sb p.payload)):=by
   unfold sPub
   rw[uh HS7,uh HS6,<- uh HS3,if_neg (show ¬ 0 < p.qos from by omega)]
   first | rfl | (rw[bind_some'];rfl)
  rw[e]
  exact k.mono hm'
 obtain⟨h1,h2,h3,bv,sz,T,E,h4,h5,h6,h7⟩:=hq8
 have hszz:(sz:Int)<=6000000:=by omega
 have hW8:W < w8.heap.size:=cell_lt h3.kind
 have HR:=zh (room_any W bv E sz p.payload.size w8 h4.wt (by omega) (by omega) (by omega) (by omega))
 have HNO:Hid (∀ W',Wtr W' W bv ((sz:Int)+(p.payload.size:Int)) E->BX W is20 w8 W'->¬ sz+p.payload.size<=65536->WF w0 W' W p.no_dup.no_retain.no_topic.no_qos.no_props.no_payload (s7.bind (sAdd true (sb p.payload))) (_+p.payload.size)):=fun W' a b c=>pay_no p.payload h1 h2 h3 h4 h5 h6 h7 a b c
 have HYES:Hid (∀ W2 W3 v3,Wtr W2 W bv ((sz:Int)+(p.payload.size:Int)) E->BX W is20 w8 W2->sz+p.payload.size<=65536->W3.ownsRow (W+1) 5 1 v3 (T.length+p.payload.size) ((T++sb p.payload).map (Value.int .u8))->W2.grownBy W3 bv.ownBlock->WF w0 (W3.setCell ⟨W,19,none⟩ v3) W p.no_dup.no_retain.no_topic.no_qos.no_props.no_payload (s7.bind (sAdd true (sb p.payload))) (_+p.payload.size)):=fun W2 W3 v3 a b c d e=>pay_yes p.payload h1 h2 h3 h4 h5 h6 h7 a b c d e
 have HWS:=zh h4
 have hT1:=h5.1
 clear h1 h2 h3 h4 h5 h6 h7 HQ7 HP HSM HS7 HS6 HS3 HG6
 generalize hpl:p.payload=pay at *
 clear hpl
 go_wp2_with fail
 refine (uh HR).mono ?_
 rintro e w9 ⟨rfl,hw9,hx9⟩
 by_cases hr:sz+pay.size<=65536
 ·have hd:decide ((sz:Int)+(pay.size:Int)<=65536)=true:=decide_eq_true (by omega)
  have HO9:=zh (owns_bx (uh HWS).row hx9 (Nat.lt_succ_self _))
  have hz9:=hx9.size
  have HY:=zh ((uh HYES) w9)
  have HW9:=zh hw9
  have HX9:=zh hx9
  obtain⟨a9,n9,c9,rfl⟩:∃ a n p,bv=.slice a n p:=by
   rcases (uh HO9).2 with⟨rfl,_⟩ | ⟨g,cap,cur,rfl,_⟩
   ·exact⟨_,_,_,rfl⟩
   ·exact⟨_,_,_,rfl⟩
  obtain⟨⟨k1,kf1⟩,-,-⟩:=hw9
  clear hx9 HNO HYES HR
  obtain⟨i0,hi,hz0,hz1,hz2⟩:=info_parts Tryz.infoU8
  go_wp2_with (first
   | (at_builtin;refine Lib.wpList_append_own_string _ rfl _ _ 33 9 rfl (W+1) 5 i0 Tryz.underlying33 Tryz.underlying9 hi hz0 hz1 hz2 (.slice a9 n9 c9) T.length (T.map (Value.int .u8)) rfl (uh HO9) pay rfl (by unfold maxLen;omega) (by omega) (by omega) ?_)
   | go_in)
  intro v3 w10 hown3 hg3 _
  have hne:some W≠(Value.slice a9 n9 c9).ownBlock:=fun e=>by have:=owns_blk (uh HO9) W e.symm;omega
  have hb3:w10.heap[W]?=w9.heap[W]?:=hg3.block W (by omega) hne
  have c3:w10.cell? ⟨W,19,none⟩=some (.slice a9 n9 c9):=(World.cell?_of_block hb3).trans k1
  have f3:w10.frozen? ⟨W,19,none⟩=false:=(World.frozen?_of_block hb3).trans kf1
  have HF:=zh ((uh HFIN) (w10.setCell ⟨W,19,none⟩ v3) _ ((uh HY) w10 v3 (uh HW9) (uh HX9) hr (by rw[List.map_append,<- strCells_sb];exact hown3) hg3) (by omega))
  obtain⟨a3,n3,p3,rfl⟩:∃ a n p,v3=.slice a n p:=by
   rcases hown3.2 with⟨rfl,_⟩ | ⟨g,cap,cur,rfl,_⟩
   ·exact⟨_,_,_,rfl⟩
   ·exact⟨_,_,_,rfl⟩
  clear hown3 hg3 hb3 hne HY HFIN HO9 HWS k1 kf1 HW9 HX9
  go_wp2
  go_end0
  exact uh HF
 ·have hd:decide ((sz:Int)+(pay.size:Int)<=65536)=false:=decide_eq_false (by omega)
  have HF:=zh ((uh HFIN) w9 _ ((uh HNO) w9 hw9 hx9 hr) (by omega))
  clear hw9 hx9 HR HNO HYES
  go_wp2
  go_end0
  exact uh HF
end Go.Proofs.YtdkmmmjjdlnnoaaGreatDoor.K
