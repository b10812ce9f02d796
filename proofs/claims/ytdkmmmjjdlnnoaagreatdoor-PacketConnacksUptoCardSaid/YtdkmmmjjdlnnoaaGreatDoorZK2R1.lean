/- Proved here: helpers, one text behind the other. -/
import Derived.Test.YtdkmmmjjdlnnoaaGreatDoorZC22
import Derived.Test.YtdkmmmjjdlnnoaaGreatDoorZC3
import Derived.Test.YtdkmmmjjdlnnoaaGreatDoorZC26
import Derived.Test.YtdkmmmjjdlnnoaaGreatDoorZC13
import Derived.Test.YtdkmmmjjdlnnoaaGreatDoorZC21
import Derived.Test.YtdkmmmjjdlnnoaaGreatDoorZC15
import Derived.Test.YtdkmmmjjdlnnoaaGreatDoorZC14
import Derived.Test.YtdkmmmjjdlnnoaaGreatDoorZC27
import Derived.Test.YtdkmmmjjdlnnoaaGreatDoorZC29
import Derived.Deep.Cut
import Derived.Test.YtdkmmmjjdlnnoaaGreatDoorZC32
import Derived.Test.YtdkmmmjjdlnnoaaGreatDoorZC33
import Derived.Test.YtdkmmmjjdlnnoaaGreatDoorZC38
import Derived.Test.YtdkmmmjjdlnnoaaGreatDoorZC6
import Derived.Test.YtdkmmmjjdlnnoaaGreatDoorZC42
import Derived.Test.YtdkmmmjjdlnnoaaGreatDoorZC40
import Derived.Test.YtdkmmmjjdlnnoaaGreatDoorZC44
set_option maxHeartbeats 20000000
namespace Go.Proofs.YtdkmmmjjdlnnoaaGreatDoor.K
open Go.RowKit
set_option maxRecDepth 100000
theorem wone_any (W:Nat) (bv E:Value) (sz:Nat) (T:List Int) (n:Int) (w:World) (h:WS w W bv sz T E) (hE:EV E) (hn:-9223372036854775808<=n/\n<=9223372036854775807) (hs:sz<=4611686018427387904) (hT:T.length<=65536) :
  Calls Tryz.prog 60 #[.pointer (some ⟨W,0,none⟩),.int .i64 n] w (AddPost W bv sz T [n % 256] (mst (decide (0<=n) && decide (n < 256)) E) w):=by
 have HS:=zh h
 have hW:W < w.heap.size:=cell_lt h.wt.1.1
 have HM:=zh (fun c=>wmust_gen W bv E sz c w h.wt hE)
 clear h
 go_enter Tryz.func60,Tryz.ntmps60
 go_wp2_with fail
 all_goals (
  refine ((uh HM) _).mono ?_
  rintro e w1 ⟨rfl,hw1,hx1,hev⟩
  have HS1:=zh ((uh HS).bx hx1 hw1)
  have HX1:=zh hx1
  have hz1:=hx1.size
  have HE1:=zh hev
  clear hw1 hx1 hev HM HS
  have HA:Hid (Below w1.heap.size w1 (w1.alloc (.cells #[.int .u8 (n % 256)] 5))):=bal _ _
  have HS2:=zh ((uh HS1).below (uh HA))
  have HRW:Hid ((w1.alloc (.cells #[.int .u8 (n % 256)] 5)).ownsRow (W+1) 5 1 (.slice (some ⟨w1.heap.size,0,none⟩) 1 1) 1 ([n % 256].map (Value.int .u8))):=⟨rfl,.inr ⟨w1.heap.size,1,#[.int .u8 (n % 256)],rfl,by omega,heap_alloc_new _ _,Nat.le_refl _,by unfold maxLen;omega,rfl,rfl⟩⟩
  have hb:0<=n % 256/\n % 256<=255:=by omega
  have HAD:=zh (wadd_any W bv _ .nilIface sz T [n % 256] (.slice (some ⟨w1.heap.size,0,none⟩) 1 1) _ (uh HS2) (uh HE1) (.inl rfl) (fun w' hx=>byt_bxw (uh HRW) (rng1 hb) hx (Nat.lt_succ_self _)) hs (by simp) hT)
  rw[fst_nil (uh HE1)]at HAD
  go_wp2_with fail
  refine (uh HAD).mono ?_
  rintro e w3 hp
  have HP:=zh (hp.ahead (uh HX1) (uh HA) (fun j (e:j=21)=>by subst e;decide) (by omega))
  obtain⟨bv',rfl,-⟩:=hp
  clear HAD HS2 HRW HS1
  go_wp2
  go_end0
  have hh:=uh HP
  first
   | (have h0:(0:Int)<=n:=(by assumption);rw[decide_eq_true h0,Bool.true_and];exact hh)
   | (have h0:n < 0:=(by assumption);rw[decide_eq_false (by omega),Bool.false_and];exact hh))
theorem rng2 {x y:Int} (h:0<=x/\x<=255) (k:0<=y/\y<=255):∀ j,0<=([x,y]:List Int).getD j 0/\([x,y]:List Int).getD j 0<=255:=by
 intro j
 match j with
 | 0=>exact h
 | 1=>exact k
 | j+2=>simp
theorem er_off {w:World} {W:Nat} {bv:Value} {sz:Nat} {T:List Int} {E:Value} {c:Bool} (hW:WS w W bv sz T E) (hc:w.cell? ⟨W,1,none⟩=some (.bool c)) (h2:bv.ownBlock=none\/2<=T.length):∀ {d:Nat} {v:Value} {n:Int},Er w d v n->ErO w (offX W bv) d v n
 | 0,_,_,h=>h
 | _+1,_,_,⟨b,u,h1,k2,h3⟩=>by
  obtain⟨t,x,hu⟩:=h3.iface
  refine⟨b,u,h1,?_,k2,er_off hW hc h2 h3⟩
  subst hu
  rintro (e | e)
  ·subst e
   rw[hc]at k2
   cases k2
  ·rcases h2 with h2 | h2
   ·rw[h2]at e;cases e
   ·rcases hW.row.2 with⟨rfl,h0⟩ | ⟨g,cap,cur,rfl,_,hg,hn,_,hsz,hx⟩
    ·cases e
    ·cases e
     have hy:=byt_of_owns hW.row hW.rng
     obtain⟨ao,cap',hv,_,_,hc'⟩:=hy
     simp only[Value.slice.injEq]at hv
     obtain⟨rfl,_,_⟩:=hv
     rcases hc' with rfl | ⟨b',off',e',hc'⟩
     ·simp at h2
     ·simp only[Option.some.injEq,Addr.mk.injEq,and_true]at e'
      obtain⟨rfl,rfl⟩:=e'
      have k:=hc' 1 (by omega)
      rw[Nat.zero_add,k2]at k
      cases k
theorem one_q {w0 w:World} {W:Nat} {p:Pkv} {st:Option (List Int)} {m:Nat} (h:WQ w0 w W p st m) (n:Int) (hn:-9223372036854775808<=n/\n<=9223372036854775807) (hm:m<=4611686018427387904):Calls Tryz.prog 60 #[.pointer (some ⟨W,0,none⟩),.int .i64 n] w (QPost w0 W p (st.bind (sAdd (in8 n) [n % 256])) (m+1) w):=by
 obtain⟨h1,h2,h3,bv,sz,T,E,h4,h5,h6,h7⟩:=h
 refine (wone_any W bv E sz T n w h4 h7.ev hn (by omega) h5.1).mono ?_
 intro e w' hA
 exact wq_step (in8 n) h4 h6 h5 h7 h1 h2 h3 hA (by simp) (fun l _=>.inr (by simp))
theorem add_bad_q {w0 w:World} {W:Nat} {p:Pkv} {st:Option (List Int)} {m:Nat} (h:WQ w0 w W p st m) (t:TypeId) (x:Value) (he:∃ d n,d<=2/\Er w d (.iface t x) n) (hl:∀ l,st=some l->l.length≠1) (hm:m<=4611686018427387904) :
  Calls Tryz.prog 114 #[.pointer (some ⟨W,0,none⟩),.slice none 0 0,.iface t x] w (QPost w0 W p none m w):=by
 obtain⟨h1,h2,h3,bv,sz,T,E,h4,h5,h6,h7⟩:=h
 refine (wadd_bad W bv E t x sz T w h4 h7.ev (by omega)).mono ?_
 rintro r w' ⟨rfl,k1,k2⟩
 have hF:FW W bv.ownBlock w w':=FW.of_bx k2 (fun _ e=>e)
 refine⟨rfl,⟨hF.below h1 h2 (fun g e=>by have:=ws_rows h4 g e;omega),h2,h3.fw hF,bv,sz,T,_,k1,h5,h6,?_⟩,FT.of_bx k2⟩
 cases st with
 | none =>
  obtain⟨d,n,hd,he⟩:=h7
  obtain⟨t',x',rfl⟩:=he.iface
  rw[fst_if]
  exact⟨d,n,hd,he.fw hF.fb (.inl rfl)⟩
 | some l =>
  obtain⟨rfl,_,_,k⟩:=h7
  obtain⟨d,n,hd,he⟩:=he
  exact⟨d,n,hd,(er_off h4 h3.dup (k.elim .inl (fun k=>k.elim .inr (fun k=>absurd k (hl l rfl)))) he).fw hF.fb (.inl rfl)⟩
theorem take_bool (W j:Nat) (x:Bool) (w:World) (hc:w.cell? ⟨W,j,none⟩=some (.bool x)) (hf:w.frozen? ⟨W,j,none⟩=false):Calls Tryz.prog 61 #[.pointer (some ⟨W,j,none⟩)] w fun e w'=>e=.returned (.bool x)/\w'=w.setCell ⟨W,j,none⟩ (.bool false):=by
 go_enter Tryz.func61,Tryz.ntmps61
 go_wp2
 go_ret
 exact⟨rfl,rfl⟩
theorem take_code_q {w0 w:World} {W:Nat} {p:Pkv} {st:Option (List Int)} {m:Nat} (h:WQ w0 w W p st m) (x:Int) (hx:p.code=x):Calls Tryz.prog 62 #[.pointer (some ⟨W,14,none⟩)] w fun e w'=>e=.returned (.int .i64 x)/\WQ w0 w' W p.no_code st m:=by
 subst hx
 refine (take_int W 14 p.code w h.pk.code h.pk.code_f).mono ?_
 rintro e w' ⟨rfl,rfl⟩
 exact⟨rfl,h.set p.no_code 14 (by omega) (fun j hj=>by unfold Pkv.no_code Pkv.cell;split <;> first | rfl | exact absurd rfl hj)⟩
theorem take_session_q {w0 w:World} {W:Nat} {p:Pkv} {st:Option (List Int)} {m:Nat} (h:WQ w0 w W p st m) (x:Bool) (hx:p.session=x):Calls Tryz.prog 61 #[.pointer (some ⟨W,15,none⟩)] w fun e w'=>e=.returned (.bool x)/\WQ w0 w' W p.no_session st m:=by
 subst hx
 refine (take_bool W 15 p.session w h.pk.session h.pk.session_f).mono ?_
 rintro e w' ⟨rfl,rfl⟩
 exact⟨rfl,h.set p.no_session 15 (by omega) (fun j hj=>by unfold Pkv.no_session Pkv.cell;split <;> first | rfl | exact absurd rfl hj)⟩
theorem Ge2.one {st:Option (List Int)} (h:Ge2 st):∀ l,st=some l->l.length≠1:=fun l e=>by have:=h l e;omega
theorem pbs_ne (l:List Pr):pbs l≠[]:=fun e=>by
 unfold pbs at e
 have h:=V.put_len (body l).length
 rw[(List.append_eq_nil_iff.1 e).1]at h
 simp at h
theorem props_q {w0 w:World} {W:Nat} {p:Pkv} {st:Option (List Int)} {m:Nat} (h:WQ w0 w W p st m) (v:Value) (l:List Pr) (place:Int) (hP:Prp w v l) (hmx:l.length<=4398046511104) (hsm:Go.Proofs.YtdkmmmjjdlnnoaaGreatDoor.Small l) (hl:∀ l,st=some l->l.length≠1) (hm:m<=4611686018427387904) :
  Calls Tryz.prog 63 #[.pointer (some ⟨W,0,none⟩),v,.int .i64 place] w (QPost w0 W p (st.bind (sAdd (okP place l) (pbs l))) (m+5000000) w):=by
 have HQ:=zh h
 have HL:=zh hl
 have HP:=zh (putU_any v l place w hP hmx hsm)
 obtain⟨ao,cap,rfl⟩:=hP.form
 have hW:=h.lt
 clear h hl hP hsm
 go_enter Tryz.func63,Tryz.ntmps63
 go_wp2_with fail
 refine (uh HP).mono ?_
 rintro e w1 ⟨hb,⟨hk,v1,rfl,ho,hr⟩ | ⟨hk,x,rfl,he⟩⟩
 ·have HK:=zh hk
  have hle:=pbs_le (of_decide_eq_true hk)
  have HA:Hid (Calls Tryz.prog 114 #[.pointer (some ⟨W,0,none⟩),v1,.nilIface] w1 (QPost w0 W p (st.bind (sAdd true (pbs l))) (m+5000000) w1)):=by
   obtain⟨h1,h2,h3,bv,sz,T,E,h4,h5,h6,h7⟩:=(uh HQ).below hb
   refine (wadd_any W bv E .nilIface sz T (pbs l) v1 w1 h4 h7.ev (.inl rfl) (fun w' hx=>byt_bxw (B:=w.heap.size) ho hr hx hW) (by omega) (by omega) h5.1).mono ?_
   intro e w' hA
   rw[fst_nil h7.ev]at hA
   obtain⟨k1,k2,k3⟩:=wq_step true h4 h6 h5 h7 h1 h2 h3 hA (pbs_ne l) (fun l' e=>.inl ((uh HL) l' e))
   exact⟨k1,k2.mono (by omega),k3⟩
  have HB:=zh hb
  clear hb ho hr HP HQ hk
  go_wp2_with fail
  refine (uh HA).mono ?_
  rintro e w2 ⟨rfl,hq,hf⟩
  have HF:=zh ((FT.of_below (W:=W) (uh HB)).trans hf)
  have HQ2:=zh hq
  clear hq hf HA
  go_wp2
  go_end0
  exact⟨rfl,by rw[uh HK];exact uh HQ2,uh HF⟩
 ·have HK:=zh hk
  have HA:=zh (add_bad_q ((uh HQ).below hb) 125 x he (uh HL) hm)
  have HB:=zh hb
  clear hb he HP HQ hk
  go_wp2_with fail
  refine (uh HA).mono ?_
  rintro e w2 ⟨rfl,hq,hf⟩
  have HF:=zh ((FT.of_below (W:=W) (uh HB)).trans hf)
  have HQ2:=zh (hq.mono (show m<=m+5000000 from by omega))
  clear hq hf HA
  go_wp2
  go_end0
  exact⟨rfl,by rw[uh HK,bind_no];exact uh HQ2,uh HF⟩
theorem packet_k2 (R:Nat) (st:Option (List Int)) (w0 w:World) (h:RS w0 w R st) (hp:Pk w R (pk0 2 false 0 false)) (hl:∀ l,st=some l->l.length<=65536):Calls Tryz.prog 46 #[.pointer (some ⟨R,0,none⟩)] w (PackPost w0 R (pa0 2 false 0 false) st w):=by
 have hlt:=h.lt
 have c0:=hp.kind
 have HP:=zh hp
 have HS:=zh h
 have HL:=zh hl
 clear hp h hl
 simp only[pk0]at c0
 go_enter Tryz.func46,Tryz.ntmps46
 go_wp2_with fail
 refine (one_any R st w0 w (uh HS)).mono ?_
 rintro e w1 ⟨f,st1,rfl,hf,hs1,h1,hx1⟩
 have HP1:=zh ((uh HP).bx hx1)
 have HS1:=zh h1
 have HX1:=zh hx1
 have HST1:=zh hs1
 clear h1 hx1 hs1
 go_wp2_with fail
 refine (must_any R _ st1 w0 w1 (uh HS1)).mono ?_
 rintro e w2 ⟨rfl,h2,hx2⟩
 have hp2:=(uh HP1).bx hx2
 have c15:=hp2.session
 have f15:=hp2.session_f
 have HP2:=zh (hp2.set_session (f == 1))
 have HS2:=zh (h2.set 15 (.bool (f == 1)) (by decide))
 have HX2:=zh ((((uh HX1).trans hx2).any).set 15 (.bool (f == 1)) trivial)
 clear hp2 h2 hx2
 go_wp2_with fail
 refine (one_any R _ w0 _ (uh HS2)).mono ?_
 rintro e w3 ⟨c,st3,rfl,-,hs3,h3,hx3⟩
 have hp3:=(uh HP2).bx hx3
 have c14:=hp3.code
 have f14:=hp3.code_f
 have d0:w3.cell? ⟨R,0,none⟩=some (.int .i64 2):=hp3.kind
 have HP3:=zh (hp3.set_code c)
 have HS3:=zh (h3.set 14 (.int .i64 c) (by decide))
 have HX3:=zh (((uh HX2).trans hx3.any).set 14 (.int .i64 c) trivial)
 have HST3:=zh hs3
 clear hp3 h3 hx3 hs3 c15 f15
 go_wp2_with fail
 refine (props_any R 2 st3 w0 _ (uh HS3)).mono ?_
 rintro e w4 ⟨t,x,st4,rfl,hO4,hs4,h4,hx4⟩
 have hp4:=(uh HP3).bx hx4
 have c7:=hp4.props
 have f7:=hp4.props_f
 have HP4:=zh (hp4.set_props t)
 have HS4:=zh (h4.set 7 t.val (by decide))
 have HX4:=zh (((uh HX3).trans hx4.any).set 7 t.val trivial)
 have HST4:=zh hs4
 have HO4:Hid ((w4.setCell ⟨R,7,none⟩ t.val).ownsRow w.heap.size 88 4 t.val x.length (pcs x)):=owns_bx (owns_mono (uh hO4) (uh HX3).size) ((BX.refl R isAny w4).set 7 _ trivial) hlt
 clear hp4 h4 hx4 hs4 hO4 c14 f14 d0
 obtain⟨ao,n,cap,c19,⟨g1,g2⟩,gl⟩:=(uh HS4).rest
 unfold maxLen at g2
 have GL:=zh gl
 clear gl
 have HM:Hid (Mean (w4.setCell ⟨R,7,none⟩ t.val) w.heap.size { (pk0 2 false 0 false)with session:=f == 1,code:=c,props:=t } { (pa0 2 false 0 false)with session:=f == 1,code:=c,props:=x }):=⟨⟨rfl,rfl,rfl,rfl,rfl,rfl,rfl,rfl,rfl,rfl,rfl,rfl⟩,uh HO4,wills0 _ _,row0 _ _ _ _,row0 _ _ _ _,row0 _ _ _ _,row0 _ _ _ _,row0 _ _ _ _⟩
 have hbz:((n:Int) == 0)=decide (n=0):=by by_cases h:n=0 <;> simp[h]
 go_wp2_with fail
 refine (must_any R _ st4 w0 _ (uh HS4)).mono ?_
 rintro e wz ⟨rfl,hz,hxz⟩
 have HZ:=zh hz
 have HXZ:=zh hxz
 clear hz hxz
 go_wp2
 go_end0
 have hBY:Stp (body? (pa0 2 false 0 false)) st { (pa0 2 false 0 false)with session:=f == 1,code:=c,props:=x } st4:=by
  show Stp (bindR one? fun f=>bindR (mustR (decide (f<=1))) fun _=>bindR one? fun c=>bindR (props? 2) fun x=>pureR { (pa0 2 false 0 false)with session:=f == 1,code:=c,props:=x }) st { (pa0 2 false 0 false)with session:=f == 1,code:=c,props:=x } st4
  exact (uh HST1).bind ((Stp.must _ st1).bind ((uh HST3).bind ((uh HST4).bind (Stp.pure _ _))))
 exact⟨rfl,{ (pk0 2 false 0 false)with session:=f == 1,code:=c,props:=t },{ (pa0 2 false 0 false)with session:=f == 1,code:=c,props:=x },_,(uh HP4).bx (uh HXZ),(uh HM).bx (uh HXZ) hlt,packet_stp hBY (stp_end (uh GL) _ (by first | exact hbz | rfl | simp)),uh HZ,(uh HX4).trans (uh HXZ).any⟩
theorem ge2_ones (a b:Int):Ge2 (((some []).bind (sAdd (in8 a) [a % 256])).bind (sAdd (in8 b) [b % 256])):=fun l e=>by
 cases ha:in8 a
 ·rw[ha]at e;cases e
 ·cases hb:in8 b
  ·rw[ha,hb]at e;cases e
  ·rw[ha,hb]at e;cases e;simp
theorem pk_connack {w0 w:World} {W:Nat} {p:Pkv} (h:WQ w0 w W p (some []) 0) (hf:Fit p) (l:List Pr) (hP:Prp w0 p.props.val l) (hmx:l.length<=4398046511104) (hsm:Go.Proofs.YtdkmmmjjdlnnoaaGreatDoor.Small l) (hk:p.kind=2) :
  Calls Tryz.prog 36 #[.pointer (some ⟨W,0,none⟩)] w (GPost w0 W p.no_session.no_code.no_props (((((some []).bind (sAdd (in8 (fv p.session 1)) [fv p.session 1 % 256])).bind (sAdd (in8 p.code) [p.code % 256])).bind (sAdd (okP p.kind l) (pbs l))).bind (sMust (emp (p.no_session.no_code.no_props)))) (0+1+1+5000000)):=by
 have hkc:=h.pk.kind
 have HP:=zh hP
 have HSM:=zh hsm
 clear hP hsm
 have HQ:=zh h
 rw[hk]at hkc
 have HK8:=zh hk
 clear h hk
 go_enter Tryz.func36,Tryz.ntmps36
 go_wp2_with fail
 refine (take_session_q (uh HQ) p.session rfl).mono ?_
 rintro e w1 ⟨rfl,hq1⟩
 have HQ1:=zh hq1
 clear hq1 HQ hkc
 go_wp2_with fail
 refine (flag_is p.session 1 _).mono ?_
 rintro e w2 ⟨rfl,hw2⟩
 obtain rfl:=hw2.symm
 clear hw2
 have hfv:-9223372036854775808<=fv p.session 1/\fv p.session 1<=9223372036854775807:=by unfold fv;split <;> decide
 go_wp2_with fail
 refine (one_q (uh HQ1) (fv p.session 1) hfv (by omega)).mono ?_
 rintro e w3 ⟨rfl,hq3,-⟩
 have HQ3:=zh hq3
 clear hq3 HQ1
 go_wp2_with fail
 refine (take_code_q (uh HQ3) p.code rfl).mono ?_
 rintro e w4 ⟨rfl,hq4⟩
 have HQ4:=zh hq4
 clear hq4 HQ3
 go_wp2_with fail
 refine (one_q (uh HQ4) p.code hf.nums.2.2.2 (by omega)).mono ?_
 rintro e w5 ⟨rfl,hq5,-⟩
 have HQ5:=zh hq5
 have HG5:=zh (ge2_ones (fv p.session 1) p.code)
 clear hq5 HQ4
 go_wp2_with fail
 have HQd:=zh ((uh HQ5).below (below_drewN (Below.refl _ _) 1))
 clear HQ5
 refine wp_region_noPanic ?_
 refine wp_region_held_drew (S:=fun w'=>w'.cell? ⟨W,0,none⟩=some (.int .i64 p.kind)) (by kernel_rfl) (uh HQd).pk.kind (fun hHeld=>?_)
 refine rtk 0 (h:=?_)
 refine rtk 1 (h:=?_)
 refine rtk 2 (h:=?_)
 refine rtk 3 (h:=?_)
 refine rtk 5 (h:=?_)
 refine rtk 6 (h:=?_)
 refine rtk 7 (h:=?_)
 refine rtk 8 (h:=?_)
 refine rcl 4 (h:=fun K hK=>?_)
 go_simp
 refine (take_props_q (uh HQd) p.props rfl).mono ?_
 rintro e wp1 ⟨rfl,hqp⟩
 have HQp:=zh hqp
 clear hqp HQd
 refine hK.out _ _ (uh HQp).pk.kind (fun hHeld=>?_)
 clear hK K
 refine rcl 9 (h:=fun K hK=>?_)
 go_simp
 refine (props_q (uh HQp) p.props.val l p.kind ((uh HP).below (uh HQp).bel) hmx (uh HSM) (uh HG5).one (by omega)).mono ?_
 rintro e wp2 ⟨rfl,hqp,-⟩
 have HQ6:=zh hqp
 clear hqp HQp
 refine hK.out _ _ (uh HQ6).pk.kind (fun hHeld=>?_)
 clear hK K
 refine wpAnyH_done (by kernel_rfl) ?_ _
 refine NoPanic.normal ?_
 have HF:=zh (uh HQ6).wf
 clear HQ6
 go_upto_region 25 with fail
 iterate 13 go_step
 refine wpList_load_mid rfl 31 _ rfl W 0 rfl (p.no_session.no_code.no_props).cells _ (uh HF).pk.range Tryz.underlying31 rfl packet_size ?_
 simp only[Act.put,List.setIfInBounds_toArray,List.set_cons_zero,List.set_cons_succ]
 go_wp2_with fail
 refine (empty_any (p.no_session.no_code.no_props) hf.no_session.no_code.no_props _).mono ?_
 rintro e x1 ⟨rfl,hx1⟩
 have HFa:=zh ((uh HF).below hx1)
 clear hx1 HF
 go_wp2_with fail
 refine (must_f (uh HFa) (emp (p.no_session.no_code.no_props))).mono ?_
 rintro e x2 ⟨rfl,hx2⟩
 have HFb:=zh hx2
 clear hx2 HFa
 go_wp2
 go_end0
 exact⟨rfl,uh HFb⟩
theorem gcode_any (n:Int) (w:World):Calls Tryz.prog 76 #[.int .i64 n] w fun e w'=>e=.returned (.bool (codeO n))/\w'=w:=by
 unfold codeO
 by_cases h:0<=n
 ·rw[decide_eq_true h]
  go_enter Tryz.func76,Tryz.ntmps76
  go_wp2
  go_ret
  exact⟨rfl,rfl⟩
 ·rw[decide_eq_false h]
  go_enter Tryz.func76,Tryz.ntmps76
  go_wp2
  go_ret
  exact⟨rfl,rfl⟩
def Pkv.wi_code (p:Pkv) (x:Int):Pkv:={ p with code:=x }
theorem MS.wi_code {w0 w:World} {B X:Nat} {q x:Pkv} (h:MS w0 w B X q x) (y:Int):MS w0 (w.setCell ⟨X,14,none⟩ (.int .i64 y)) B X q (x.wi_code y) :=
 h.set (x.wi_code y) 14 (by omega) (fun j hj=>by unfold Pkv.wi_code Pkv.cell;split <;> first | rfl | exact absurd rfl hj)
def Pkv.wi_session (p:Pkv) (x:Bool):Pkv:={ p with session:=x }
theorem MS.wi_session {w0 w:World} {B X:Nat} {q x:Pkv} (h:MS w0 w B X q x) (y:Bool):MS w0 (w.setCell ⟨X,15,none⟩ (.bool y)) B X q (x.wi_session y) :=
 h.set (x.wi_session y) 15 (by omega) (fun j hj=>by unfold Pkv.wi_session Pkv.cell;split <;> first | rfl | exact absurd rfl hj)
theorem gb_connack (q:Pkv) (l:List Pr) (w:World) (hP:Prp w q.props.val l) (hok:okP q.kind l=true) (hk:q.kind=2):Calls Tryz.prog 40 #[q.val] w (GPut ([fv q.session 1 % 256,q.code % 256]++pbs l) w):=by
 obtain⟨hok1,h32⟩:=chkP0 (of_decide_eq_true hok)
 have hple:=pbs_le (of_decide_eq_true hok)
 have HPN:=zh (pk_new w q)
 have HB0:Hid (Below w.heap.size w (w.alloc (.cells q.cells.toArray 31))):=bal _ _
 have HBY:Hid (∀ W,Below w.heap.size w W->Calls Tryz.prog 83 #[.slice q.props.ao l.length q.props.cap] W (PutP (pbs l) W)):=fun W hW=>by
  have k:=rbytes_any q.props.val l q.kind W (hP.below hW) (by omega) hok1
  rw[show q.props.val=.slice q.props.ao q.props.n q.props.cap from rfl,prp_n hP]at k
  exact k
 have HTL:Hid (∀ W,Below w.heap.size w W->Calls Tryz.prog 86 #[.agg q.cells.toArray] W (GPut (gtl q.code l) W)):=fun W hW=>gtail_any q l q.kind W (hP.below hW) hok
 have HQN:=zh (prp_n hP)
 have HKK:=zh hk
 clear hP hok hok1 hk
 go_enter Tryz.func40,Tryz.ntmps40
 go_upto_region 1 with fail
 change Code.wp _ _ _ _ (w.alloc (.cells q.cells.toArray 31))
 have hsz:(w.alloc (.cells q.cells.toArray 31)).heap.size=w.heap.size+1:=by simp
 generalize w.alloc (.cells q.cells.toArray 31)=wa at HPN HB0 hsz |-
 have b0:=(uh HPN).kind
 rw[uh HKK]at b0
 have b7:=(uh HPN).props
 rw[show q.props.val=.slice q.props.ao q.props.n q.props.cap from rfl,uh HQN]at b7
 go_wp2_with fail
 have HS:Hid (∀ W,Below wa.heap.size wa W->W.cell? ⟨w.heap.size,15,none⟩=some (.bool q.session)/\W.cell? ⟨w.heap.size,14,none⟩=some (.int .i64 q.code)/\W.cell? ⟨w.heap.size,7,none⟩=some (.slice q.props.ao l.length q.props.cap)):=fun W hW=>⟨((uh HPN).below hW).session,((uh HPN).below hW).code,(hW.cell (cell_lt b7)).trans b7⟩
 refine wp_region_noPanic ?_
 refine wp_region_held_drew (S:=(fun w'=>w'.cell? ⟨w.heap.size,15,none⟩=some (.bool q.session)/\w'.cell? ⟨w.heap.size,14,none⟩=some (.int .i64 q.code)/\w'.cell? ⟨w.heap.size,7,none⟩=some (.slice q.props.ao l.length q.props.cap))) (by kernel_rfl) ((uh HS) _ (below_drewN (Below.refl _ _) 1)) (fun hHeld=>?_)
 have HBd:Hid (Below wa.heap.size wa wa.drew):=below_drewN (Below.refl _ _) 1
 have hszd:wa.drew.heap.size=w.heap.size+1:=hsz
 generalize wa.drew=wd at HBd hHeld hszd |-
 have hz:IntKind.u8.wrap q.code=q.code % 256:=by rfl
 have hy:IntKind.u8.wrap (fv q.session 1)=fv q.session 1 % 256:=by rfl
 have HRNG:∀ j,0<=([fv q.session 1 % 256,q.code % 256]:List Int).getD j 0/\([fv q.session 1 % 256,q.code % 256]:List Int).getD j 0<=255:=rng2 (by omega) (by omega)
 have HE:Hid ([fv q.session 1 % 256,q.code % 256]++pbs l=[fv q.session 1 % 256,q.code % 256]++pbs l):=rfl
 generalize hz2:q.code % 256=z at hz HRNG
 generalize hy2:fv q.session 1 % 256=y at hy HRNG
 have HZ2:=zh hz2
 have HY0:=zh hy2
 clear hz2 hy2 b0 b7 HE
 refine rtk 0 (h:=?_)
 refine rtk 1 (h:=?_)
 refine rtk 4 (h:=?_)
 refine rtk 5 (h:=?_)
 refine rtk 6 (h:=?_)
 refine rtk 8 (h:=?_)
 refine rtk 9 (h:=?_)
 refine rcl 2 (h:=fun K hK=>?_)
 go_simp
 refine (gflag_any q.session 1 _).mono ?_
 rintro e w0 ⟨rfl,hw0⟩
 obtain rfl:=hw0.symm
 clear hw0
 refine hK.out _ _ hHeld (fun hHeld=>?_)
 clear hK K
 refine rtk 3 (h:=?_)
 refine wpAnyH_ready (rs:=[7,10]) (by kernel_rfl) (by simp) ?_
 refine rac (h:=fun K hK=>?_) (hs:=rac (h:=fun K hK=>?_) (hs:=AllReadyH.nil))
 ·go_simp
  have HBx:Hid (Below wa.heap.size wa (wd.alloc (.cells #[.int .u8 y,.int .u8 z] 5))):=(uh HBd).alloc (uh HBd).size _
  have HRx:Hid (Rwb (wd.alloc (.cells #[.int .u8 y,.int .u8 z] 5)) (w.heap.size+1) (.slice (some ⟨w.heap.size+1,0,none⟩) 2 2) [y,z]):=by
   have k:=rwb_new wd [y,z] (by simp) (by simp) HRNG
   rw[hszd]at k
   exact k
  refine hK.out _ _ ((uh HS) _ (uh HBx)) (fun hHeld=>?_)
  clear hK K
  generalize wd.alloc (.cells #[.int .u8 y,.int .u8 z] 5)=w1 at HBx HRx hHeld |-
  refine rcl 10 (h:=fun K hK=>?_)
  go_simp
  refine ((uh HBY) _ (bnx2 (uh HB0) (uh HBx))).mono ?_
  rintro e w2 ⟨vb,rfl,hy2,hb2⟩
  have HB2:Hid (Below wa.heap.size wa w2):=bnx2 (uh HBx) hb2
  have HR2:=zh ((uh HRx).below hb2)
  have HY2:=hy2
  clear hb2 hy2 HBx HRx
  refine hK.out _ _ ((uh HS) _ (uh HB2)) (fun hHeld=>?_)
  clear hK K
  refine rcl 11 (h:=fun K hK=>?_)
  refine step_append_byt rfl _ _ rfl (w.heap.size+1) (.slice (some ⟨w.heap.size+1,0,none⟩) 2 2) 2 [y,z] rfl (uh HR2).1 vb (pbs l) rfl (uh HY2) (by first | omega | (simp;omega)) (by have:=(uh HB2).size;omega) ?_
  intro v3 w3 hown3 hg3
  have HB3:Hid (Below wa.heap.size wa w3):=(uh HB2).grown hg3 (uh HB2).size (fun g hg=>by have:=owns_blk (uh HR2).1 g hg;omega)
  have HR3:Hid (Rwb w3 (w.heap.size+1) v3 ([y,z]++(pbs l))):=⟨by rw[List.length_append];exact hown3,range_app (uh HR2).2 (uh HY2).range⟩
  clear hown3 hg3
  refine hK.out _ _ ((uh HS) _ (uh HB3)) (fun hHeld=>?_)
  clear hK K
  simp only[Act.put,List.setIfInBounds_toArray,List.set_cons_zero,List.set_cons_succ]
  refine rtk 12 (h:=?_)
  refine wpAnyH_done (by kernel_rfl) ?_ _
  refine NoPanic.normal ?_
  go_wp2
  go_ret
  exact⟨_,rfl,by rw[uh HZ2,uh HY0];exact (uh HR3).mono (Nat.le_succ _),bnx2 (uh HB0) (uh HB3)⟩
 ·go_simp
  refine ((uh HBY) _ (bnx2 (uh HB0) (uh HBd))).mono ?_
  rintro e w1 ⟨vb,rfl,hy1,hb1⟩
  have HB1:Hid (Below wa.heap.size wa w1):=bnx2 (uh HBd) hb1
  refine hK.out _ _ ((uh HS) _ (uh HB1)) (fun hHeld=>?_)
  clear hK K
  refine rcl 7 (h:=fun K hK=>?_)
  go_simp
  have HB2:Hid (Below wa.heap.size wa (w1.alloc (.cells #[.int .u8 y,.int .u8 z] 5))):=(uh HB1).alloc (uh HB1).size _
  have hz1:=(uh HB1).size
  have HR2:Hid (Rwb (w1.alloc (.cells #[.int .u8 y,.int .u8 z] 5)) (w.heap.size+1) (.slice (some ⟨w1.heap.size,0,none⟩) 2 2) [y,z]):=(rwb_new w1 [y,z] (by simp) (by simp) HRNG).mono (by omega)
  have HY2:=zh ((uh hy1).below ((Below.refl _ _).alloc (Nat.le_refl _) (.cells #[.int .u8 y,.int .u8 z] 5)))
  refine hK.out _ _ ((uh HS) _ (uh HB2)) (fun hHeld=>?_)
  clear hK K hb1 hy1
  generalize w1.alloc (.cells #[.int .u8 y,.int .u8 z] 5)=w2 at HB2 HR2 HY2 hHeld |-
  refine rcl 11 (h:=fun K hK=>?_)
  refine step_append_byt rfl _ _ rfl (w.heap.size+1) (.slice (some ⟨w1.heap.size,0,none⟩) 2 2) 2 [y,z] rfl (uh HR2).1 vb (pbs l) rfl (uh HY2) (by first | omega | (simp;omega)) (by have:=(uh HB2).size;omega) ?_
  intro v3 w3 hown3 hg3
  have HB3:Hid (Below wa.heap.size wa w3):=(uh HB2).grown hg3 (uh HB2).size (fun g hg=>by have:=owns_blk (uh HR2).1 g hg;omega)
  have HR3:Hid (Rwb w3 (w.heap.size+1) v3 ([y,z]++(pbs l))):=⟨by rw[List.length_append];exact hown3,range_app (uh HR2).2 (uh HY2).range⟩
  clear hown3 hg3
  refine hK.out _ _ ((uh HS) _ (uh HB3)) (fun hHeld=>?_)
  clear hK K
  simp only[Act.put,List.setIfInBounds_toArray,List.set_cons_zero,List.set_cons_succ]
  refine rtk 12 (h:=?_)
  refine wpAnyH_done (by kernel_rfl) ?_ _
  refine NoPanic.normal ?_
  go_wp2
  go_ret
  exact⟨_,rfl,by rw[uh HZ2,uh HY0];exact (uh HR3).mono (Nat.le_succ _),bnx2 (uh HB0) (uh HB3)⟩
theorem only_connack (P:Pa):empA P.no_session.no_code.no_props=true ↔ (⟨P.kind,false,0,false,⟨#[]⟩,0,⟨#[]⟩,P.props,⟨#[]⟩,false,0,[],[],[],P.code,P.session,[],[],[]⟩:Pa)=P:=by
 unfold empA
 rw[decide_eq_true_iff]
 obtain⟨p_kind,p_dup,p_qos,p_retain,p_topic,p_id,p_payload,p_props,p_client,p_clean,p_keep,p_wills,p_user,p_pass,p_code,p_session,p_subs,p_filters,p_codes⟩:=P
 constructor
 ·rintro⟨⟨e_dup,e_retain,e_clean,e_session⟩,⟨e_qos,e_id,e_keep,e_code⟩,⟨e_topic,e_payload,e_client⟩,e_props,e_wills,e_user,e_pass,e_subs,e_filters,e_codes⟩
  simp only[Pa.mk.injEq]
  exact⟨trivial,e_dup.symm,e_qos.symm,e_retain.symm,(bsz.1 e_topic).symm,e_id.symm,(bsz.1 e_payload).symm,trivial,(bsz.1 e_client).symm,e_clean.symm,e_keep.symm,(List.length_eq_zero_iff.1 e_wills).symm,(List.length_eq_zero_iff.1 e_user).symm,(List.length_eq_zero_iff.1 e_pass).symm,trivial,trivial,(List.length_eq_zero_iff.1 e_subs).symm,(List.length_eq_zero_iff.1 e_filters).symm,(List.length_eq_zero_iff.1 e_codes).symm⟩
 ·intro h
  simp only[Pa.mk.injEq]at h
  obtain⟨h_kind,h_dup,h_qos,h_retain,h_topic,h_id,h_payload,h_props,h_client,h_clean,h_keep,h_wills,h_user,h_pass,h_code,h_session,h_subs,h_filters,h_codes⟩:=h
  exact⟨⟨h_dup.symm,h_retain.symm,h_clean.symm,rfl⟩,⟨h_qos.symm,h_id.symm,h_keep.symm,rfl⟩,⟨bsz.2 h_topic.symm,bsz.2 h_payload.symm,bsz.2 h_client.symm⟩,rfl,List.length_eq_zero_iff.2 h_wills.symm,List.length_eq_zero_iff.2 h_user.symm,List.length_eq_zero_iff.2 h_pass.symm,List.length_eq_zero_iff.2 h_subs.symm,List.length_eq_zero_iff.2 h_filters.symm,List.length_eq_zero_iff.2 h_codes.symm⟩
theorem may_connack (q:Pkv) (P:Pa) (w:World) (hR:RPk w q P) (hmx:P.props.length<=1000000000) (hsm:Go.Proofs.YtdkmmmjjdlnnoaaGreatDoor.Small P.props) (E:Bool) (hEQ:∀ W,Below w.heap.size w W->Calls Tryz.prog 24 #[.agg (((xk q).wi_session q.session).wi_code q.code).cells.toArray,.agg q.cells.toArray] W fun e w'=>e=.returned (.bool E)/\Below W.heap.size W w') (hk:P.kind=2) :
  Calls Tryz.prog 39 #[q.val] w fun e w'=>e=.returned (.bool (tlB P (codeO q.code) E))/\Below w.heap.size w w':=by
 have HEQ:=zh hEQ
 have HMX0:=zh hmx
 have HSM:=zh hsm
 have HRP:=zh hR.props
 have HQN:=zh hR.cnt.ns.1
 have HKP:=zh hR.sc.1
 have hk2:=hk
 rw[<- hR.sc.1]at hk2
 have HKK:=zh hk2
 have HSC:=zh hR
 clear hEQ hsm hR hk hk2
 have HPN:=zh (pk_new w q)
 have HMN:=zh (ms_new w q)
 have HX:Hid ((w.alloc (.cells q.cells.toArray 31)).heap.size=w.heap.size+1):=by show _=_;simp
 go_enter Tryz.func39,Tryz.ntmps39
 go_upto_region 1 with fail
 change Code.wp _ _ _ _ (w.alloc (.cells q.cells.toArray 31))
 generalize w.alloc (.cells q.cells.toArray 31)=wa at HPN HMN HX |-
 have c0:=(uh HPN).kind
 have c7:=(uh HPN).props
 iterate 13 go_step
 refine Go.Proofs.YtdkmmmjjdlnnoaaGreatDoor.wpList_value rfl (packet_build2 _ _ _ _ _ _ _ q rfl rfl _) ?_
 simp only[Act.put,List.setIfInBounds_toArray,List.set_cons_zero,List.set_cons_succ]
 refine Go.Proofs.YtdkmmmjjdlnnoaaGreatDoor.wpList_value rfl (mpacket_alloc _ _ _ _ _ _) ?_
 simp only[Act.put,List.setIfInBounds_toArray,List.set_cons_zero,List.set_cons_succ]
 refine Go.Proofs.YtdkmmmjjdlnnoaaGreatDoor.wpList_skip rfl (mpacket_store _ _ _ _ _ _ _ (xk q) wa rfl rfl) ?_
 simp only[Act.put]
 have HM:Hid (MS w (wa.alloc (.cells (xk q).cells.toArray 31)) w.heap.size wa.heap.size q (xk q)):=by rw[uh HX];exact uh HMN
 generalize wa.alloc (.cells (xk q).cells.toArray 31)=w1 at HM |-
 generalize wa.heap.size=X at HM |-
 generalize hBB:w.heap.size=B at HM |-
 have HBB:=zh hBB
 clear c0 c7 HPN HMN HX hBB
 have c0:=(uh HM).pb.kind
 rw[uh HKK]at c0
 go_wp2_with fail
 have HMd0:Hid (MS w w1.drew B X q (xk q)):=(uh HM).below (below_drewN (Below.refl _ _) 1)
 clear HM c0
 refine wp_region_noPanic ?_
 refine wp_region_held_drew (S:=(fun w'=>w'.cell? ⟨B,15,none⟩=some (.bool q.session)/\w'.cell? ⟨B,14,none⟩=some (.int .i64 q.code))) (by kernel_rfl) ⟨(uh HMd0).pb.session,(uh HMd0).pb.code⟩ (fun hHeld=>?_)
 generalize w1.drew=wd0 at HMd0 hHeld |-
 refine rtk 0 (h:=?_)
 refine rtk 1 (h:=?_)
 refine rtk 2 (h:=?_)
 refine rtk 3 (h:=?_)
 refine rtk 4 (h:=?_)
 have x15:=(uh HMd0).px.session
 have y15:=(uh HMd0).px.session_f
 have HMd1:=zh ((uh HMd0).wi_session q.session)
 refine rcl 5 (h:=fun K hK=>?_)
 go_simp
 refine hK.out _ _ ⟨(uh HMd1).pb.session,(uh HMd1).pb.code⟩ (fun hHeld=>?_)
 clear hK K x15 y15 HMd0
 generalize World.setCell _ ⟨X,15,none⟩ (.bool q.session)=wd1 at HMd1 hHeld |-
 refine rtk 6 (h:=?_)
 have x14:=(uh HMd1).px.code
 have y14:=(uh HMd1).px.code_f
 have HMd2:=zh ((uh HMd1).wi_code q.code)
 refine rcl 7 (h:=fun K hK=>?_)
 go_simp
 refine hK.out _ _ ⟨(uh HMd2).pb.session,(uh HMd2).pb.code⟩ (fun hHeld=>?_)
 clear hK K x14 y14 HMd1
 generalize World.setCell _ ⟨X,14,none⟩ (.int .i64 q.code)=wd2 at HMd2 hHeld |-
 refine wpAnyH_done (by kernel_rfl) ?_ _
 refine NoPanic.normal ?_
 have HM:=HMd2
 clear HMd2 hHeld
 have b14:=(uh HM).pb.code
 go_wp2_with fail
 refine (gcode_any q.code _).mono ?_
 rintro e w3 ⟨rfl,hw3⟩
 obtain rfl:=hw3.symm
 clear hw3 b14
 generalize hcc:codeO q.code=c
 have HCC:=zh hcc
 clear hcc
 cases c
 ·have HR:Hid (tlB P (codeO q.code) E=false):=by show _=_;rw[uh HCC];rfl
  go_wp2
  go_ret
  exact⟨by rw[uh HR];rfl,(uh HM).bel⟩
 ·go_upto_region 55 with fail
  iterate 7 go_step
  refine mpList_wanted (by rfl) fun K hK=>wp_load_mid 31 _ rfl X 0 rfl (((xk q).wi_session q.session).wi_code q.code).cells _ (uh HM).px.range Tryz.underlying31 rfl packet_size (hK _ _ ?_)
  clear hK K
  simp only[Act.put,List.setIfInBounds_toArray,List.set_cons_zero,List.set_cons_succ]
  refine mpList_wanted (by rfl) fun K hK=>wp_load_mid 31 _ rfl B 0 rfl q.cells _ (uh HM).pb.range Tryz.underlying31 rfl packet_size (hK _ _ ?_)
  clear hK K
  simp only[Act.put,List.setIfInBounds_toArray,List.set_cons_zero,List.set_cons_succ]
  go_wp2_with fail
  refine ((uh HEQ) _ (uh HM).bel).mono ?_
  rintro e wz ⟨rfl,hbz⟩
  have HZ:=zh ((uh HM).below hbz)
  clear hbz HM
  have z0:=(uh HZ).pb.kind
  have z7:=(uh HZ).pb.props
  rw[show q.props.val=.slice q.props.ao q.props.n q.props.cap from rfl,uh HQN]at z7
  cases E
  ·have HR:Hid (tlB P (codeO q.code) false=false):=by show _=_;rw[uh HCC];rfl
   go_wp2
   go_ret
   exact⟨by rw[uh HR];rfl,(uh HZ).bel⟩
  ·by_cases hp0:P.props.length=0
   ·have HR:Hid (tlB P (codeO q.code) true=true):=by show _=_;unfold tlB;rw[uh HCC,decide_eq_true hp0];rfl
    rw[hp0]at z7
    clear hp0
    go_wp2
    go_ret
    exact⟨by rw[uh HR];rfl,(uh HZ).bel⟩
   ·have HR:Hid (tlB P (codeO q.code) true=okP P.kind P.props):=by show _=_;unfold tlB;rw[uh HCC,decide_eq_false hp0];rfl
    have hp1:((P.props.length:Int) == 0)=false:=beq_false_of_ne (by omega)
    clear hp0
    rw[uh HKP]at z0
    go_wp2_with fail
    refine (gprops_any _ P.props P.kind _ (by rw[<- uh HQN];exact (uh HRP).below (uh HZ).bel) hmx (uh HSM)).mono ?_
    rintro e wy ⟨rfl,hby⟩
    have HY:=zh ((uh HZ).below hby)
    clear hby HZ
    go_wp2
    go_ret
    exact⟨by rw[uh HR];rfl,(uh HY).bel⟩
theorem mayA_connack {w:World} {q:Pkv} {P:Pa} (hR:RPk w q P) (hM:Mid P) (hk:P.kind=2):Calls Tryz.prog 39 #[q.val] w fun e w'=>e=.returned (.bool (tlB P (codeO P.code) (empA P.no_session.no_code.no_props)))/\Below w.heap.size w w':=by
 have hB:=hM.big
 obtain⟨h0,h1,h2,h3,h4,h5,h6,h7,h8,h9,h10,h11⟩:=hR.sc
 have hx:RPk w (((xk q).wi_session q.session).wi_code q.code) (⟨P.kind,false,0,false,⟨#[]⟩,0,⟨#[]⟩,P.props,⟨#[]⟩,false,0,[],[],[],P.code,P.session,[],[],[]⟩:Pa):=⟨⟨h0,rfl,rfl,rfl,rfl,rfl,rfl,rfl,rfl,rfl,h10,h11⟩,hR.props,⟨none,0,rfl,⟨Nat.le_refl _,Nat.zero_le _⟩,.inl rfl⟩,⟨none,0,rfl,⟨Nat.le_refl _,Nat.zero_le _⟩,.inl rfl⟩,⟨none,0,rfl,⟨Nat.le_refl _,Nat.zero_le _⟩,.inl rfl⟩,⟨none,0,rfl,⟨Nat.le_refl _,Nat.zero_le _⟩,.inl rfl⟩,⟨none,0,rfl,⟨Nat.le_refl _,Nat.zero_le _⟩,.inl rfl⟩,⟨none,0,rfl,⟨Nat.le_refl _,Nat.zero_le _⟩,.inl rfl⟩⟩
 have hs:Small (⟨P.kind,false,0,false,⟨#[]⟩,0,⟨#[]⟩,P.props,⟨#[]⟩,false,0,[],[],[],P.code,P.session,[],[],[]⟩:Pa):=⟨by have:=hB.lists;have:=hM.props;simp;try omega,by have:=hB.lists;simp;try omega,by have:=hB.lists;simp;try omega⟩
 have k:=may_connack q P w hR hM.props hB.props (empA P.no_session.no_code.no_props) (heq_of hx hR hs (only_connack P)) hk
 rw[h10]at k
 exact k
theorem enc_connack {w:World} {q:Pkv} {P:Pa} (hR:RPk w q P) (hB:Big P) (hk:P.kind=2):Calls Tryz.prog 19 #[q.val] w (EncQ (fkA P).1 (fkA P).2 q.kind (eb P) w):=by
 have hc:=hR.cnt
 have hf:=hB.fit hc
 obtain⟨h0,h1,h2,h3,h4,h5,h6,h7,h8,h9,h10,h11⟩:=hc.sc
 have hL:=hB.lists
 have k:=hk
 rw[<- h0]at k
 refine enc_core q (q.no_session.no_code.no_props) _ _ _ (0+1+1+5000000) w (by omega) (fun W=>fk_any q P hc W) (fun w0 w1 W hb hQ=>?_)
 have e:=(hc.no_session.no_code.no_props).emp
 unfold eb
 rw[if_neg (by omega),if_pos (by omega),<- e,<- h0,<- h10,<- h11]
 exact pk_connack hQ hf P.props (hR.props.below hb) hB.lists.1 hB.props k
theorem br_eb_2 {P:Pa} (h:P.kind=2) (X:Option (List Int)) (hX:((((some []).bind (sAdd (in8 (fv P.session 1)) [fv P.session 1 % 256])).bind (sAdd (in8 P.code) [P.code % 256])).bind (sAdd (okP P.kind P.props) (pbs P.props))).bind (sMust (empA P.no_session.no_code.no_props))=X):eb P=X:=by
 unfold eb
 rw[if_neg (by omega),if_pos h]
 exact hX
theorem br_may_2 {P:Pa} (h:P.kind=2) (X:Bool) (hX:tlB P (codeO P.code) (empA P.no_session.no_code.no_props)=X):mayA P=X:=by
 unfold mayA
 rw[if_neg (by omega),if_pos h]
 exact hX
theorem br_gb_2 {P:Pa} (h:P.kind=2) (X:List Int) (hX:[fv P.session 1 % 256,P.code % 256]++pbs P.props=X):gbd P=X:=by
 unfold gbd
 rw[if_neg (by omega),if_pos h]
 exact hX
theorem in8_code (n:Int):in8 n=codeO n:=by
 unfold in8 codeO
 rw[show decide (n < 256)=decide (n<=255) from decide_eq_decide.2 (by omega)]
theorem in8_fv (b:Bool):in8 (fv b 1)=true:=by cases b <;> rfl
theorem eb_2 {P:Pa} (h:P.kind=2):eb P=if mayA P then some (gbd P) else none:=by
 rw[br_eb_2 h _ rfl,br_may_2 h _ rfl,br_gb_2 h _ rfl,tlB_eq,in8_fv,in8_code]
 cases codeO P.code <;> cases okP P.kind P.props <;> cases empA P.no_session.no_code.no_props <;> simp[sAdd,sMust]
theorem B2.setR {R A:Nat} {a b:World} (h:B2 R A a b) (j:Nat) (u:Value):B2 R A a (b.setCell ⟨R,j,none⟩ u) :=
 h.trans ⟨rfl,rfl,rfl,by simp[World.setCell],fun k _ hR _=>Below.heap_setCell _ _ _ _ hR⟩
theorem bind_none' {α β:Type} (o:Option α):(o.bind fun _=>(none:Option β))=none:=by cases o <;> rfl
theorem Stp.not {st:Option (List Int)} {b:Bool} (h:b=false):Stp (mustR b) st () none:=by subst h;cases st <;> rfl
theorem connack_eq {β:Type} (g:Int->Int->List Pr->β) (l:List Int):bindR one? (fun f=>bindR one? fun c=>bindR (props? 2) fun x=>bindR (mustR (decide (f<=1))) fun _=>pureR (g f c x)) l=bindR one? (fun f=>bindR (mustR (decide (f<=1))) fun _=>bindR one? fun c=>bindR (props? 2) fun x=>pureR (g f c x)) l:=by
 simp only[bindR,mustR,pureR]
 cases one? l with
 | none=>rfl
 | some a =>
  simp only[Option.bind_some]
  cases decide (a.1<=1)
  ·simp only[Bool.false_eq_true,if_false,Option.bind_none,bind_none']
  ·simp only[if_true,Option.bind_some]
theorem body_2 (R A:Nat) (d:Bool) (q:Int) (r:Bool) (st:Option (List Int)) (w0:GW) (w:World) (h:RP w0 w R st) (hp:Pk w A (pk0 2 d q r)) (hA:A≠R) (hA0:w0.heap.size<=A):Calls Tryz.prog 53 #[.pointer (some ⟨R,0,none⟩),.pointer (some ⟨A,0,none⟩)] w (BodyPg w0 R A (pa0 2 d q r) st w):=by
 have hRw:=h.lt
 have hAw:=hp.lt
 have c0:=hp.kind
 simp only[pk0]at c0
 have HP:=zh hp
 have HS:=zh h
 clear hp h
 go_enter Tryz.func53,Tryz.ntmps53
 go_wp2_with fail
 refine (byte_pg R st w0 w (uh HS)).mono ?_
 rintro e w1 ⟨f,st1,rfl,hf,hs1,h1,hx1⟩
 have hp1:=(uh HP).oth hx1 hA
 have c15:=hp1.session
 have f15:=hp1.session_f
 have HP1:=zh (hp1.set_session (f == 1))
 have HS1:=zh (h1.set A 15 (.bool (f == 1)) hA hA0)
 have HB1:Hid (B2 R A w (w1.setCell ⟨A,15,none⟩ (.bool (f == 1)))):=(B2.bx hx1).set 15 _
 have HST1:=zh hs1
 clear hp1 h1 hx1 hs1 HP HS c0
 go_wp2_with fail
 refine (byte_pg R st1 w0 _ (uh HS1)).mono ?_
 rintro e w2 ⟨c,st2,rfl,hc,hs2,h2,hx2⟩
 have hp2:=(uh HP1).oth hx2 hA
 have c14:=hp2.code
 have f14:=hp2.code_f
 have HP2:=zh (hp2.set_code c)
 have HS2:=zh (h2.set A 14 (.int .i64 c) hA hA0)
 have HB2:Hid (B2 R A w (w2.setCell ⟨A,14,none⟩ (.int .i64 c))):=((uh HB1).trans (B2.bx hx2)).set 14 _
 have HST2:=zh hs2
 clear hp2 h2 hx2 hs2 HP1 HS1 HB1 c15 f15
 go_wp2_with fail
 refine (props_pg R 2 st2 w0 _ (uh HS2)).mono ?_
 rintro e w3 ⟨t,x,st3,rfl,hO3,hs3,h3,hx3⟩
 have hp3:=(uh HP2).oth hx3 hA
 have c7:=hp3.props
 have f7:=hp3.props_f
 have HP3:=zh (hp3.set_props t)
 have HS3:=zh (h3.set A 7 t.val hA hA0)
 have HB3:Hid (B2 R A w (w3.setCell ⟨A,7,none⟩ t.val)):=((uh HB2).trans (B2.bx hx3)).set 7 _
 have HO3:Hid ((w3.setCell ⟨A,7,none⟩ t.val).ownsRow w.heap.size 88 4 t.val x.length (pcs x)):=owns_mono (owns_b2 (R:=R) (uh hO3) ((B2.refl R A w3).set 7 _) (Nat.lt_of_lt_of_le hRw (uh HB2).size) (Nat.lt_of_lt_of_le hAw (uh HB2).size)) (uh HB2).size
 have HST3:=zh hs3
 clear hp3 h3 hx3 hs3 HP2 HS2 HB2 hO3 c14 f14
 have HEQ:Hid (∀ st',Stp (mustR (decide (f<=1))) st3 () st'->Stp (body? (pa0 2 d q r)) st { pa0 2 d q r with session:=f == 1,code:=c,props:=x } st'):=fun st' k=>Stp.congr (connack_eq fun f c x=>({ pa0 2 d q r with session:=f == 1,code:=c,props:=x }:Pa)) ((uh HST1).bind ((uh HST2).bind ((uh HST3).bind (k.bind (Stp.pure _ _)))))
 by_cases hf1:f<=1
 ·go_upto_region 9 with fail
  generalize w3.setCell ⟨A,7,none⟩ t.val=wz at HP3 HS3 HB3 HO3 |-
  clear c7 f7
  go_wp2
  go_end0
  exact⟨rfl,_,_,st3,uh HP3,(uh HEQ) _ (Stp.yes (decide_eq_true hf1)),uh HS3,uh HB3,.inr ⟨⟨rfl,rfl,rfl,rfl,rfl,rfl,rfl,rfl,rfl,rfl,rfl,rfl⟩,uh HO3,wills0 _ _,row0 _ _ _ _,row0 _ _ _ _,row0 _ _ _ _,row0 _ _ _ _,row0 _ _ _ _⟩⟩
 ·go_upto_region 9 with fail
  generalize w3.setCell ⟨A,7,none⟩ t.val=wz at HP3 HS3 HB3 HO3 |-
  clear c7 f7
  obtain⟨bb,c2,f2,_⟩:=(uh HS3).c2
  go_wp2
  go_end0
  exact⟨rfl,_,_,none,(uh HP3).blk (Below.heap_setCell _ _ _ _ hA),(uh HEQ) _ (Stp.not (decide_eq_false (by omega))),(uh HS3).bad,(uh HB3).setR 2 _,.inl rfl⟩
end Go.Proofs.YtdkmmmjjdlnnoaaGreatDoor.K
namespace Go.Proofs.YtdkmmmjjdlnnoaaGreatDoor.K.B
open Go.RowKit
open Go.Proofs.YtdkmmmjjdlnnoaaGreatDoor.K
set_option maxRecDepth 100000
theorem RT.bind0 {α β:Type} {f:List Int->Option (α×List Int)} {g:α->List Int->Option (β×List Int)} {zs:List Int} {x:α} {y:β} (h:RT f [] x) (k:RT (g x) zs y):RT (bindR f g) zs y:=RT.bind (ys:=[]) h k
theorem rt_must {b:Bool} (hb:b=true):RT (mustR b) [] ():=fun r=>by
 unfold mustR
 rw[if_pos hb]
 rfl
theorem rt_one (n:Int):RT one? [n] n:=fun _=>rfl
end Go.Proofs.YtdkmmmjjdlnnoaaGreatDoor.K.B
namespace Go.Proofs.YtdkmmmjjdlnnoaaGreatDoor.K.B
open Go.RowKit
open Go.Proofs.YtdkmmmjjdlnnoaaGreatDoor.K
set_option maxRecDepth 100000
theorem back_2 {P:Pa} {l:List Int} (hk:P.kind=2) (h:eb P=some l) (hr:Rng l):ET (body? (pa0 2 false 0 false)) l P:=by
 unfold eb at h
 rw[if_neg (by omega),if_pos hk]at h
 obtain⟨h1,he⟩:=must_inv h
 obtain⟨t1,h2,hp,rfl⟩:=add_inv h1
 obtain⟨t2,h3,hc,rfl⟩:=add_inv h2
 obtain⟨t3,h4,hs,rfl⟩:=add_inv h3
 cases h4
 rw[hk]at hp
 have hpr:=rt_props hp (rng_r hr)
 have hc1:P.code % 256=P.code:=by
  unfold in8 at hc
  simp only[Bool.and_eq_true,decide_eq_true_eq]at hc
  omega
 rw[hc1]
 obtain⟨⟨e1,e2,e3,e4⟩,⟨e5,e6,e7,e8⟩,⟨e9,e10,e11⟩,e12,e13,e14,e15,e16,e17,e18⟩:=emp_inv he
 obtain⟨kind,dup,qos,retain,topic,id,payload,props,client,clean,keep,wills,user,pass,code,session,subs,filters,codes⟩:=P
 obtain rfl:dup=false:=e1
 obtain rfl:qos=0:=e5
 obtain rfl:retain=false:=e2
 obtain rfl:topic=⟨#[]⟩:=no_text e9
 obtain rfl:id=0:=e6
 obtain rfl:payload=⟨#[]⟩:=no_text e10
 obtain rfl:client=⟨#[]⟩:=no_text e11
 obtain rfl:clean=false:=e3
 obtain rfl:keep=0:=e7
 obtain rfl:wills=[]:=no_list e13
 obtain rfl:user=[]:=no_list e14
 obtain rfl:pass=[]:=no_list e15
 obtain rfl:subs=[]:=no_list e16
 obtain rfl:filters=[]:=no_list e17
 obtain rfl:codes=[]:=no_list e18
 obtain rfl:kind=2:=hk
 dsimp only at *
 have e:body? (pa0 2 false 0 false)=bindR one? fun f=>bindR (mustR (decide (f<=1))) fun _=>bindR one? fun c=>bindR (props? 2) fun x=>pureR { (pa0 2 false 0 false)with session:=f == 1,code:=c,props:=x }:=rfl
 rw[e]
 cases session
 ·exact (RT.bind (ys:=[0]) (rt_one 0) (RT.bind0 (rt_must rfl) (RT.bind (ys:=[code]) (rt_one code) (hpr.last _ rfl)))).et
 ·exact (RT.bind (ys:=[1]) (rt_one 1) (RT.bind0 (rt_must rfl) (RT.bind (ys:=[code]) (rt_one code) (hpr.last _ rfl)))).et
end Go.Proofs.YtdkmmmjjdlnnoaaGreatDoor.K.B
