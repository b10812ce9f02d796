/- Proved here: helpers, one text behind the other. -/
import Derived.Test.YtdkmmmjjdlnnoaaGreatDoorZC20
import Derived.Test.YtdkmmmjjdlnnoaaGreatDoorZC22
import Derived.Test.YtdkmmmjjdlnnoaaGreatDoorZC26
import Derived.Test.YtdkmmmjjdlnnoaaGreatDoorZC13
import Derived.Test.YtdkmmmjjdlnnoaaGreatDoorZC21
import Derived.Test.YtdkmmmjjdlnnoaaGreatDoorZC15
import Derived.Test.YtdkmmmjjdlnnoaaGreatDoorZC6
import Derived.Test.YtdkmmmjjdlnnoaaGreatDoorZC27
import Derived.Test.YtdkmmmjjdlnnoaaGreatDoorZC29
import Derived.Deep.Cut
import Derived.Test.YtdkmmmjjdlnnoaaGreatDoorZC32
import Derived.Test.YtdkmmmjjdlnnoaaGreatDoorZC33
import Derived.Test.YtdkmmmjjdlnnoaaGreatDoorZC38
import Derived.Test.YtdkmmmjjdlnnoaaGreatDoorZC42
import Derived.Test.YtdkmmmjjdlnnoaaGreatDoorZC40
import Derived.Test.YtdkmmmjjdlnnoaaGreatDoorZC44
set_option maxHeartbeats 20000000
namespace Go.Proofs.YtdkmmmjjdlnnoaaGreatDoor.K
open Go.RowKit
set_option maxRecDepth 100000
def ReasonPost (w0:World) (R:Nat) (p:Pkv) (st:Option (List Int)) (w:World) (e:Ending) (w':World):Prop :=
 e=.returned (.tuple #[])/\∃ (c:Int) (t:Sl) (x:List Pr) (st':Option (List Int)),Pk w' R { p with code:=c,props:=t }/\Hid (w'.ownsRow w.heap.size 88 4 t.val x.length (pcs x))/\Stp (reason? p.kind) st (c,x) st'/\RS w0 w' R st'/\BX R isAny w w'
theorem len_nil {st:Option (List Int)} {n:Nat} (h:∀ l,st=some l->l.length=n) (hn:n=0):st=none\/st=some []:=by
 cases st with
 | none=>exact .inl rfl
 | some l=>exact .inr (by rw[List.length_eq_zero_iff.1 ((h l rfl).trans hn)])
theorem owns_nil (w:World) (B:Nat) (e:TypeId) (s:Nat):w.ownsRow B e s (Sl.val ⟨none,0,0⟩) 0 []:=World.ownsRow_nil _ _ _ _
theorem reason_any (R:Nat) (p:Pkv) (st:Option (List Int)) (w0 w:World) (h:RS w0 w R st) (hp:Pk w R p) (hc:p.code=0) (hpr:p.props=⟨none,0,0⟩):Calls Tryz.prog 96 #[.pointer (some ⟨R,0,none⟩)] w (ReasonPost w0 R p st w):=by
 have hlt:=h.lt
 obtain⟨ao,n,cap,h19,⟨hc1,hc2⟩,hl⟩:=h.rest
 unfold maxLen at hc2
 have HP:=zh hp
 have HS:=zh h
 have HL:=zh hl
 have HC:=zh hc
 have HPR:=zh hpr
 clear hp h hl hc hpr
 by_cases hn:n=0
 ·subst hn
  go_enter Tryz.func96,Tryz.ntmps96
  go_wp2
  go_end0
  refine⟨rfl,0,⟨none,0,0⟩,[],st,?_,owns_nil _ _ _ _,?_,uh HS,BX.refl _ _ _⟩
  ·have e:{ p with code:=0,props:=⟨none,0,0⟩ }=p:=by rw[<- uh HC,<- uh HPR]
   rw[e]
   exact uh HP
  ·rcases len_nil (uh HL) rfl with rfl | rfl
   ·exact rfl
   ·exact⟨rfl,rfl⟩
 ·go_enter Tryz.func96,Tryz.ntmps96
  go_wp2_with fail
  refine (one_any R st w0 w (uh HS)).mono ?_
  rintro e w1 ⟨c,st1,rfl,hc,hs1,h1,hx1⟩
  have hp1:=(uh HP).bx hx1
  have c14:=hp1.code
  have f14:=hp1.code_f
  have c0:=hp1.kind
  have c7:=hp1.props
  have f7:=hp1.props_f
  obtain⟨ao1,n1,cap1,g19,⟨gc1,gc2⟩,gl⟩:=h1.rest
  unfold maxLen at gc2
  have HP1:=zh hp1
  have HS1:=zh h1
  have HX1:=zh hx1
  have HST1:=zh hs1
  have GL:=zh gl
  clear hp1 h1 hx1 hs1 gl h19
  by_cases hn1:n1=0
  ·subst hn1
   go_wp2
   go_end0
   refine⟨rfl,c,⟨none,0,0⟩,[],st1,?_,owns_nil _ _ _ _,?_,(uh HS1).set 14 _ (by decide),((uh HX1).any).set 14 _ trivial⟩
   ·have e:{ p with code:=c,props:=⟨none,0,0⟩ }={ p with code:=c }:=by rw[<- uh HPR]
    rw[e]
    exact (uh HP1).set_code c
   ·have k:=uh HST1
    cases st with
    | none=>exact k
    | some l =>
     cases l with
     | nil=>exact absurd ((uh HL) [] rfl) (fun e=>hn e.symm)
     | cons y t =>
      obtain⟨rfl,rfl⟩:=k
      have ht:t=[]:=List.length_eq_zero_iff.1 ((uh GL) t rfl)
      simp[Stp,reason?,ht]
  ·have HP2:=zh ((uh HP1).set_code c)
   have HS2:=zh ((uh HS1).set 14 (.int .i64 c) (by decide))
   have HX2:=zh (((uh HX1).any).set 14 (.int .i64 c) trivial)
   go_wp2_with fail
   refine (props_any R p.kind st1 w0 _ (uh HS2)).mono ?_
   rintro e w3 ⟨t,x,st3,rfl,hO,hs3,h3,hx3⟩
   have hp3:=(uh HP2).bx hx3
   have d7:=hp3.props
   have e7:=hp3.props_f
   have HP3:=zh hp3
   have HS3:=zh h3
   have HX3:=zh hx3
   have HST3:=zh hs3
   clear hp3 h3 hx3 hs3 c14 f14 c0 c7 f7 g19
   go_wp2
   go_end0
   have hB:w.heap.size<=(w1.setCell ⟨R,14,none⟩ (.int .i64 c)).heap.size:=(uh HX2).size
   refine⟨rfl,c,t,x,st3,(uh HP3).set_props t,?_,?_,(uh HS3).set 7 _ (by decide),((uh HX2).trans (uh HX3).any).set 7 _ trivial⟩
   ·exact owns_mono (owns_bx (uh hO) ((BX.refl R isAny w3).set 7 _ trivial) (Nat.lt_of_lt_of_le hlt hB)) hB
   ·have k:=uh HST1
    have k3:=uh HST3
    cases st with
    | none =>
     obtain rfl:st1=none:=k
     exact k3
    | some l =>
     cases l with
     | nil=>exact absurd ((uh HL) [] rfl) (fun e=>hn e.symm)
     | cons y t' =>
      obtain⟨rfl,rfl⟩:=k
      have ht:t'≠[]:=fun e=>hn1 (by rw[<- (uh GL) t' rfl,e];rfl)
      simp only[Stp,reason?,if_neg ht]
      simp only[Stp]at k3
      cases hq:props? p.kind t' with
      | none=>rw[hq]at k3;simpa using k3
      | some r =>
       obtain⟨r1,r2⟩:=r
       rw[hq]at k3
       obtain⟨rfl,rfl⟩:=k3
       simp
theorem wone_any (W:Nat) (bv E:Value) (sz:Nat) (T:List Int) (n:Int) (w:World) (h:WS w W bv sz T E) (hE:EV E) (hn:-9223372036854775808<=n/\n<=9223372036854775807) (hs:sz<=4611686018427387904) (hT:T.length<=65536) :
  Calls Tryz.prog 60 #[.pointer (some ⟨W,0,none⟩),.int .i64 n] w (AddPost W bv sz T [n % 256] (mst (decide (0<=n) && decide (n < 256)) E) w):=by
 have HS:=zh h
 have hW:W < w.heap.size:=cell_lt h.wt.1.1
 have HM:=zh (fun c=>wmust_gen W bv E sz c w h.wt hE)
 clear h
 go_enter Tryz.func60,Tryz.ntmps60
 go_wp2_with fail
 all_goals (
  refine ((uh HM) _).mono ?_
  rintro e w1 ⟨rfl,hw1,hx1,hev⟩
  have HS1:=zh ((uh HS).bx hx1 hw1)
  have HX1:=zh hx1
  have hz1:=hx1.size
  have HE1:=zh hev
  clear hw1 hx1 hev HM HS
  have HA:Hid (Below w1.heap.size w1 (w1.alloc (.cells #[.int .u8 (n % 256)] 5))):=bal _ _
  have HS2:=zh ((uh HS1).below (uh HA))
  have HRW:Hid ((w1.alloc (.cells #[.int .u8 (n % 256)] 5)).ownsRow (W+1) 5 1 (.slice (some ⟨w1.heap.size,0,none⟩) 1 1) 1 ([n % 256].map (Value.int .u8))):=⟨rfl,.inr ⟨w1.heap.size,1,#[.int .u8 (n % 256)],rfl,by omega,heap_alloc_new _ _,Nat.le_refl _,by unfold maxLen;omega,rfl,rfl⟩⟩
  have hb:0<=n % 256/\n % 256<=255:=by omega
  have HAD:=zh (wadd_any W bv _ .nilIface sz T [n % 256] (.slice (some ⟨w1.heap.size,0,none⟩) 1 1) _ (uh HS2) (uh HE1) (.inl rfl) (fun w' hx=>byt_bxw (uh HRW) (rng1 hb) hx (Nat.lt_succ_self _)) hs (by simp) hT)
  rw[fst_nil (uh HE1)]at HAD
  go_wp2_with fail
  refine (uh HAD).mono ?_
  rintro e w3 hp
  have HP:=zh (hp.ahead (uh HX1) (uh HA) (fun j (e:j=21)=>by subst e;decide) (by omega))
  obtain⟨bv',rfl,-⟩:=hp
  clear HAD HS2 HRW HS1
  go_wp2
  go_end0
  have hh:=uh HP
  first
   | (have h0:(0:Int)<=n:=(by assumption);rw[decide_eq_true h0,Bool.true_and];exact hh)
   | (have h0:n < 0:=(by assumption);rw[decide_eq_false (by omega),Bool.false_and];exact hh))
theorem one_q {w0 w:World} {W:Nat} {p:Pkv} {st:Option (List Int)} {m:Nat} (h:WQ w0 w W p st m) (n:Int) (hn:-9223372036854775808<=n/\n<=9223372036854775807) (hm:m<=4611686018427387904):Calls Tryz.prog 60 #[.pointer (some ⟨W,0,none⟩),.int .i64 n] w (QPost w0 W p (st.bind (sAdd (in8 n) [n % 256])) (m+1) w):=by
 obtain⟨h1,h2,h3,bv,sz,T,E,h4,h5,h6,h7⟩:=h
 refine (wone_any W bv E sz T n w h4 h7.ev hn (by omega) h5.1).mono ?_
 intro e w' hA
 exact wq_step (in8 n) h4 h6 h5 h7 h1 h2 h3 hA (by simp) (fun l _=>.inr (by simp))
theorem take_code_q {w0 w:World} {W:Nat} {p:Pkv} {st:Option (List Int)} {m:Nat} (h:WQ w0 w W p st m) (x:Int) (hx:p.code=x):Calls Tryz.prog 62 #[.pointer (some ⟨W,14,none⟩)] w fun e w'=>e=.returned (.int .i64 x)/\WQ w0 w' W p.no_code st m:=by
 subst hx
 refine (take_int W 14 p.code w h.pk.code h.pk.code_f).mono ?_
 rintro e w' ⟨rfl,rfl⟩
 exact⟨rfl,h.set p.no_code 14 (by omega) (fun j hj=>by unfold Pkv.no_code Pkv.cell;split <;> first | rfl | exact absurd rfl hj)⟩
theorem bind_bind (st:Option (List Int)) (f g:List Int->Option (List Int)):(st.bind f).bind g=st.bind fun t=>(f t).bind g:=by cases st <;> rfl
theorem reason_f {w0 w:World} {W:Nat} {p:Pkv} {st:Option (List Int)} {m:Nat} (h:WQ w0 w W p st m) (l:List Pr) (hP:Prp w0 p.props.val l) (hmx:l.length<=4398046511104) (hsm:Go.Proofs.YtdkmmmjjdlnnoaaGreatDoor.Small l) (cd:Int) (hcd:p.code=cd) (hc:-9223372036854775808<=cd/\cd<=9223372036854775807) (hm:m<=4611686018427380000) :
  Calls Tryz.prog 68 #[.pointer (some ⟨W,0,none⟩)] w (GPost w0 W p.no_code.no_props (st.bind (sReason cd p.kind l)) (m+5000001)):=by
 have hn:=prp_n hP
 have HN:=zh hn
 have HQ:=zh h
 have HP:=zh hP
 have HCD:=zh hcd
 have hsz:=h.lt
 clear h hP hcd
 go_enter Tryz.func68,Tryz.ntmps68
 go_wp2_with fail
 refine wp_region_noPanic ?_
 refine wp_region_held_drew (S:=fun _=>True) (by kernel_rfl) trivial (fun hHeld=>?_)
 refine rtk 0 (h:=?_)
 refine rtk 1 (h:=?_)
 refine rtk 2 (h:=?_)
 refine rtk 3 (h:=?_)
 refine rtk 5 (h:=?_)
 refine rtk 6 (h:=?_)
 refine rtk 7 (h:=?_)
 refine rtk 8 (h:=?_)
 refine rcl 4 (h:=fun K hK=>?_)
 go_simp
 refine (take_code_q ((uh HQ).below (below_drewN (Below.refl _ _) 1)) cd (uh HCD)).mono ?_
 rintro e w1 ⟨rfl,hq1⟩
 have HQ1:=zh hq1
 clear hq1 HQ
 refine hK.out _ _ trivial (fun hHeld=>?_)
 clear hK K
 refine rcl 9 (h:=fun K hK=>?_)
 go_simp
 refine (take_props_q (uh HQ1) p.props rfl).mono ?_
 rintro e w2 ⟨rfl,hq2⟩
 have HQ2:=zh hq2
 clear hq2 HQ1
 refine hK.out _ _ trivial (fun hHeld=>?_)
 clear hK K
 refine rtk 10 (h:=?_)
 refine rtk 11 (h:=?_)
 refine wpAnyH_done (by kernel_rfl) ?_ _
 refine NoPanic.normal ?_
 rw[show p.props.val=.slice p.props.ao p.props.n p.props.cap from rfl,hn]
 by_cases hl0:l.length=0
 ·have HE:Hid (∀ t,sReason cd p.kind l t=if cd=0 then some t else sAdd (in8 cd) [cd % 256] t):=fun t=>by unfold sReason;rw[if_pos hl0]
  rw[hl0]
  by_cases hc0:cd=0
  ·have HF:Hid (GPost w0 W p.no_code.no_props (st.bind (sReason cd p.kind l)) (m+5000001) (.returned (.tuple #[])) w2):=by
    rw[show sReason cd p.kind l=some from funext fun t=>by rw[uh HE t,if_pos hc0]]
    refine⟨rfl,?_⟩
    have k:=(uh HQ2).wf.mono (show m<=m+5000001 from by omega)
    cases st <;> exact k
   clear HE
   subst hc0
   go_wp2
   go_end0
   exact uh HF
  ·have hcb:(cd != 0)=true:=by simpa using hc0
   go_wp2_with fail
   refine (one_q (uh HQ2) cd hc (by omega)).mono ?_
   rintro e w3 ⟨rfl,hq3,-⟩
   have HF:Hid (GPost w0 W p.no_code.no_props (st.bind (sReason cd p.kind l)) (m+5000001) (.returned (.tuple #[])) w3):=by
    rw[show sReason cd p.kind l=sAdd (in8 cd) [cd % 256] from funext fun t=>by rw[uh HE t,if_neg hc0]]
    exact⟨rfl,hq3.wf.mono (by omega)⟩
   clear hq3
   go_wp2
   go_end0
   exact uh HF
 ·have HE:Hid (∀ t,sReason cd p.kind l t=(sAdd (in8 cd) [cd % 256] t).bind (sAdd (okP p.kind l) (pbs l))):=fun t=>by unfold sReason;rw[if_neg hl0]
  have hlp:0 < l.length:=by omega
  have HS:=zh hsm
  clear hsm
  by_cases hc0:cd=0
  ·subst hc0
   go_wp2_with fail
   refine (one_q (uh HQ2) (0) hc (by omega)).mono ?_
   rintro e w3 ⟨rfl,hq3,-⟩
   have HQ3:=zh hq3
   have hk:w3.cell? ⟨W,0,none⟩=some (.int .i64 p.kind):=hq3.pk.kind
   clear hq3 HQ2
   go_wp2_with fail
   refine (props_f (uh HQ3) _ l p.kind (by rw[<- uh HN];exact (uh HP).below (uh HQ3).bel) hmx (uh HS) (by omega)).mono ?_
   rintro e w4 ⟨rfl,hq4,-⟩
   have HF:Hid (GPost w0 W p.no_code.no_props (st.bind (sReason (0) p.kind l)) (m+5000001) (.returned (.tuple #[])) w4):=by
    rw[show sReason (0) p.kind l=fun t=>(sAdd (in8 (0)) [(0) % 256] t).bind (sAdd (okP p.kind l) (pbs l)) from funext (uh HE),<- bind_bind]
    exact⟨rfl,hq4.mono (by omega)⟩
   clear hq4
   go_wp2
   go_end0
   exact uh HF
  ·have hcb:(cd != 0)=true:=by simpa using hc0
   go_wp2_with fail
   refine (one_q (uh HQ2) (cd) hc (by omega)).mono ?_
   rintro e w3 ⟨rfl,hq3,-⟩
   have HQ3:=zh hq3
   have hk:w3.cell? ⟨W,0,none⟩=some (.int .i64 p.kind):=hq3.pk.kind
   clear hq3 HQ2
   go_wp2_with fail
   refine (props_f (uh HQ3) _ l p.kind (by rw[<- uh HN];exact (uh HP).below (uh HQ3).bel) hmx (uh HS) (by omega)).mono ?_
   rintro e w4 ⟨rfl,hq4,-⟩
   have HF:Hid (GPost w0 W p.no_code.no_props (st.bind (sReason (cd) p.kind l)) (m+5000001) (.returned (.tuple #[])) w4):=by
    rw[show sReason (cd) p.kind l=fun t=>(sAdd (in8 (cd)) [(cd) % 256] t).bind (sAdd (okP p.kind l) (pbs l)) from funext (uh HE),<- bind_bind]
    exact⟨rfl,hq4.mono (by omega)⟩
   clear hq4
   go_wp2
   go_end0
   exact uh HF
theorem packet_k15 (R:Nat) (st:Option (List Int)) (w0 w:World) (h:RS w0 w R st) (hp:Pk w R (pk0 15 false 0 false)) (hl:∀ l,st=some l->l.length<=65536):Calls Tryz.prog 46 #[.pointer (some ⟨R,0,none⟩)] w (PackPost w0 R (pa0 15 false 0 false) st w):=by
 have hlt:=h.lt
 have c0:=hp.kind
 have HP:=zh hp
 have HS:=zh h
 have HL:=zh hl
 clear hp h hl
 simp only[pk0]at c0
 go_enter Tryz.func46,Tryz.ntmps46
 have HP1:=HP
 have HS1:=HS
 have HX1:Hid (BX R isAny w w):=BX.refl _ _ _
 go_wp2_with fail
 refine (reason_any R (pk0 15 false 0 false) st w0 _ (uh HS1) (uh HP1) rfl rfl).mono ?_
 rintro e w2 ⟨rfl,c,t,x,st2,hp2,hO2,hs2,h2,hx2⟩
 have HP2:=zh hp2
 have HS2:=zh h2
 have HX2:=zh ((uh HX1).trans hx2)
 have HST2:Hid (Stp (reason? 15) st (c,x) st2):=hs2
 have HO2:Hid (w2.ownsRow w.heap.size 88 4 t.val x.length (pcs x)):=owns_mono (uh hO2) (uh HX1).size
 clear hp2 h2 hx2 hs2 hO2
 obtain⟨ao,n,cap,c19,⟨g1,g2⟩,gl⟩:=(uh HS2).rest
 unfold maxLen at g2
 have GL:=zh gl
 clear gl
 have HM:Hid (Mean w2 w.heap.size { (pk0 15 false 0 false)with code:=c,props:=t } { (pa0 15 false 0 false)with code:=c,props:=x }):=⟨⟨rfl,rfl,rfl,rfl,rfl,rfl,rfl,rfl,rfl,rfl,rfl,rfl⟩,uh HO2,wills0 _ _,row0 _ _ _ _,row0 _ _ _ _,row0 _ _ _ _,row0 _ _ _ _,row0 _ _ _ _⟩
 have hbz:((n:Int) == 0)=decide (n=0):=by by_cases h:n=0 <;> simp[h]
 go_wp2_with fail
 refine (must_any R _ st2 w0 _ (uh HS2)).mono ?_
 rintro e wz ⟨rfl,hz,hxz⟩
 have HZ:=zh hz
 have HXZ:=zh hxz
 clear hz hxz
 go_wp2
 go_end0
 have hBY:Stp (body? (pa0 15 false 0 false)) st { (pa0 15 false 0 false)with code:=c,props:=x } st2:=by
  show Stp (bindR (reason? 15) fun r=>pureR { (pa0 15 false 0 false)with code:=r.1,props:=r.2 }) st { (pa0 15 false 0 false)with code:=c,props:=x } st2
  exact (uh HST2).bind (Stp.pure _ _)
 exact⟨rfl,{ (pk0 15 false 0 false)with code:=c,props:=t },{ (pa0 15 false 0 false)with code:=c,props:=x },_,(uh HP2).bx (uh HXZ),(uh HM).bx (uh HXZ) hlt,packet_stp hBY (stp_end (uh GL) _ (by first | exact hbz | rfl | simp)),uh HZ,(uh HX2).trans (uh HXZ).any⟩
theorem pk_reason {w0 w:World} {W:Nat} {p:Pkv} (h:WQ w0 w W p (some []) 0) (hf:Fit p) (l:List Pr) (hP:Prp w0 p.props.val l) (hmx:l.length<=4398046511104) (hsm:Go.Proofs.YtdkmmmjjdlnnoaaGreatDoor.Small l) (hk:p.kind=14\/p.kind=15) :
  Calls Tryz.prog 36 #[.pointer (some ⟨W,0,none⟩)] w (GPost w0 W p.no_code.no_props (((some []).bind (sReason p.code p.kind l)).bind (sMust (emp (p.no_code.no_props)))) (0+5000001)):=by
 have hkc:=h.pk.kind
 have HP:=zh hP
 have HSM:=zh hsm
 clear hP hsm
 have HQ:=zh h
 have HKK:=zh hk
 rcases hk with hk | hk <;> rw[hk]at hkc <;> clear hk h
 all_goals (
  go_enter Tryz.func36,Tryz.ntmps36
  go_wp2_with fail
  refine (reason_f (uh HQ) l (uh HP) hmx (uh HSM) p.code rfl hf.nums.2.2.2 (by omega)).mono ?_
  rintro e w1 ⟨rfl,hq1⟩
  have HF:=zh hq1
  clear hq1 HQ hkc
  go_upto_region 25 with fail
  iterate 13 go_step
  refine wpList_load_mid rfl 31 _ rfl W 0 rfl (p.no_code.no_props).cells _ (uh HF).pk.range Tryz.underlying31 rfl packet_size ?_
  simp only[Act.put,List.setIfInBounds_toArray,List.set_cons_zero,List.set_cons_succ]
  go_wp2_with fail
  refine (empty_any (p.no_code.no_props) hf.no_code.no_props _).mono ?_
  rintro e x1 ⟨rfl,hx1⟩
  have HFa:=zh ((uh HF).below hx1)
  clear hx1 HF
  go_wp2_with fail
  refine (must_f (uh HFa) (emp (p.no_code.no_props))).mono ?_
  rintro e x2 ⟨rfl,hx2⟩
  have HFb:=zh hx2
  clear hx2 HFa
  go_wp2
  go_end0
  exact⟨rfl,uh HFb⟩)
theorem gcode_any (n:Int) (w:World):Calls Tryz.prog 76 #[.int .i64 n] w fun e w'=>e=.returned (.bool (codeO n))/\w'=w:=by
 unfold codeO
 by_cases h:0<=n
 ·rw[decide_eq_true h]
  go_enter Tryz.func76,Tryz.ntmps76
  go_wp2
  go_ret
  exact⟨rfl,rfl⟩
 ·rw[decide_eq_false h]
  go_enter Tryz.func76,Tryz.ntmps76
  go_wp2
  go_ret
  exact⟨rfl,rfl⟩
def Pkv.wi_code (p:Pkv) (x:Int):Pkv:={ p with code:=x }
theorem MS.wi_code {w0 w:World} {B X:Nat} {q x:Pkv} (h:MS w0 w B X q x) (y:Int):MS w0 (w.setCell ⟨X,14,none⟩ (.int .i64 y)) B X q (x.wi_code y) :=
 h.set (x.wi_code y) 14 (by omega) (fun j hj=>by unfold Pkv.wi_code Pkv.cell;split <;> first | rfl | exact absurd rfl hj)
theorem gb_reason (q:Pkv) (l:List Pr) (w:World) (hP:Prp w q.props.val l) (hok:okP q.kind l=true) (hk:q.kind=14\/q.kind=15):Calls Tryz.prog 40 #[q.val] w (GPut (gtl q.code l) w):=by
 obtain⟨hok1,h32⟩:=chkP0 (of_decide_eq_true hok)
 have hple:=pbs_le (of_decide_eq_true hok)
 have HPN:=zh (pk_new w q)
 have HB0:Hid (Below w.heap.size w (w.alloc (.cells q.cells.toArray 31))):=bal _ _
 have HBY:Hid (∀ W,Below w.heap.size w W->Calls Tryz.prog 83 #[.slice q.props.ao l.length q.props.cap] W (PutP (pbs l) W)):=fun W hW=>by
  have k:=rbytes_any q.props.val l q.kind W (hP.below hW) (by omega) hok1
  rw[show q.props.val=.slice q.props.ao q.props.n q.props.cap from rfl,prp_n hP]at k
  exact k
 have HTL:Hid (∀ W,Below w.heap.size w W->Calls Tryz.prog 86 #[.agg q.cells.toArray] W (GPut (gtl q.code l) W)):=fun W hW=>gtail_any q l q.kind W (hP.below hW) hok
 have HQN:=zh (prp_n hP)
 have HKK:=zh hk
 clear hP hok hok1 hk
 go_enter Tryz.func40,Tryz.ntmps40
 go_upto_region 1 with fail
 change Code.wp _ _ _ _ (w.alloc (.cells q.cells.toArray 31))
 have hsz:(w.alloc (.cells q.cells.toArray 31)).heap.size=w.heap.size+1:=by simp
 generalize w.alloc (.cells q.cells.toArray 31)=wa at HPN HB0 hsz |-
 have b0:=(uh HPN).kind
 rcases uh HKK with hk | hk <;> rw[hk]at b0 <;> clear hk
 all_goals (
  go_upto_region 23 with fail
  go_step
  refine wpList_load_mid rfl 31 _ rfl w.heap.size 0 rfl q.cells _ (uh HPN).range Tryz.underlying31 rfl packet_size ?_
  simp only[Act.put,List.setIfInBounds_toArray,List.set_cons_zero,List.set_cons_succ]
  go_wp2_with fail
  refine ((uh HTL) _ (uh HB0)).mono ?_
  rintro e w1 ⟨v,rfl,hr,hb⟩
  have HR:=zh ((uh hr).mono (uh HB0).size)
  have HB:=zh (bnx2 (uh HB0) hb)
  obtain⟨va,vn,vc,rfl⟩:=(uh hr).form
  clear hr hb
  go_wp2
  go_ret
  exact⟨_,rfl,HR,uh HB⟩)
theorem only_reason (P:Pa):empA P.no_code.no_props=true ↔ (⟨P.kind,false,0,false,⟨#[]⟩,0,⟨#[]⟩,P.props,⟨#[]⟩,false,0,[],[],[],P.code,false,[],[],[]⟩:Pa)=P:=by
 unfold empA
 rw[decide_eq_true_iff]
 obtain⟨p_kind,p_dup,p_qos,p_retain,p_topic,p_id,p_payload,p_props,p_client,p_clean,p_keep,p_wills,p_user,p_pass,p_code,p_session,p_subs,p_filters,p_codes⟩:=P
 constructor
 ·rintro⟨⟨e_dup,e_retain,e_clean,e_session⟩,⟨e_qos,e_id,e_keep,e_code⟩,⟨e_topic,e_payload,e_client⟩,e_props,e_wills,e_user,e_pass,e_subs,e_filters,e_codes⟩
  simp only[Pa.mk.injEq]
  exact⟨trivial,e_dup.symm,e_qos.symm,e_retain.symm,(bsz.1 e_topic).symm,e_id.symm,(bsz.1 e_payload).symm,trivial,(bsz.1 e_client).symm,e_clean.symm,e_keep.symm,(List.length_eq_zero_iff.1 e_wills).symm,(List.length_eq_zero_iff.1 e_user).symm,(List.length_eq_zero_iff.1 e_pass).symm,trivial,e_session.symm,(List.length_eq_zero_iff.1 e_subs).symm,(List.length_eq_zero_iff.1 e_filters).symm,(List.length_eq_zero_iff.1 e_codes).symm⟩
 ·intro h
  simp only[Pa.mk.injEq]at h
  obtain⟨h_kind,h_dup,h_qos,h_retain,h_topic,h_id,h_payload,h_props,h_client,h_clean,h_keep,h_wills,h_user,h_pass,h_code,h_session,h_subs,h_filters,h_codes⟩:=h
  exact⟨⟨h_dup.symm,h_retain.symm,h_clean.symm,h_session.symm⟩,⟨h_qos.symm,h_id.symm,h_keep.symm,rfl⟩,⟨bsz.2 h_topic.symm,bsz.2 h_payload.symm,bsz.2 h_client.symm⟩,rfl,List.length_eq_zero_iff.2 h_wills.symm,List.length_eq_zero_iff.2 h_user.symm,List.length_eq_zero_iff.2 h_pass.symm,List.length_eq_zero_iff.2 h_subs.symm,List.length_eq_zero_iff.2 h_filters.symm,List.length_eq_zero_iff.2 h_codes.symm⟩
theorem may_reason (q:Pkv) (P:Pa) (w:World) (hR:RPk w q P) (hmx:P.props.length<=1000000000) (hsm:Go.Proofs.YtdkmmmjjdlnnoaaGreatDoor.Small P.props) (E:Bool) (hEQ:∀ W,Below w.heap.size w W->Calls Tryz.prog 24 #[.agg ((xk q).wi_code q.code).cells.toArray,.agg q.cells.toArray] W fun e w'=>e=.returned (.bool E)/\Below W.heap.size W w') (hk:P.kind=14\/P.kind=15) :
  Calls Tryz.prog 39 #[q.val] w fun e w'=>e=.returned (.bool (tlB P (codeO q.code) E))/\Below w.heap.size w w':=by
 have HEQ:=zh hEQ
 have HSM:=zh hsm
 have HRP:=zh hR.props
 have HQN:=zh hR.cnt.ns.1
 have HKP:=zh hR.sc.1
 have hk2:=hk
 rw[<- hR.sc.1]at hk2
 have HKK:=zh hk2
 have HSC:=zh hR
 clear hEQ hsm hR hk hk2
 have HPN:=zh (pk_new w q)
 have HMN:=zh (ms_new w q)
 have HX:Hid ((w.alloc (.cells q.cells.toArray 31)).heap.size=w.heap.size+1):=by show _=_;simp
 go_enter Tryz.func39,Tryz.ntmps39
 go_upto_region 1 with fail
 change Code.wp _ _ _ _ (w.alloc (.cells q.cells.toArray 31))
 generalize w.alloc (.cells q.cells.toArray 31)=wa at HPN HMN HX |-
 have c0:=(uh HPN).kind
 have c7:=(uh HPN).props
 iterate 13 go_step
 refine Go.Proofs.YtdkmmmjjdlnnoaaGreatDoor.wpList_value rfl (packet_build2 _ _ _ _ _ _ _ q rfl rfl _) ?_
 simp only[Act.put,List.setIfInBounds_toArray,List.set_cons_zero,List.set_cons_succ]
 refine Go.Proofs.YtdkmmmjjdlnnoaaGreatDoor.wpList_value rfl (mpacket_alloc _ _ _ _ _ _) ?_
 simp only[Act.put,List.setIfInBounds_toArray,List.set_cons_zero,List.set_cons_succ]
 refine Go.Proofs.YtdkmmmjjdlnnoaaGreatDoor.wpList_skip rfl (mpacket_store _ _ _ _ _ _ _ (xk q) wa rfl rfl) ?_
 simp only[Act.put]
 have HM:Hid (MS w (wa.alloc (.cells (xk q).cells.toArray 31)) w.heap.size wa.heap.size q (xk q)):=by rw[uh HX];exact uh HMN
 generalize wa.alloc (.cells (xk q).cells.toArray 31)=w1 at HM |-
 generalize wa.heap.size=X at HM |-
 generalize hBB:w.heap.size=B at HM |-
 have HBB:=zh hBB
 clear c0 c7 HPN HMN HX hBB
 have c0:=(uh HM).pb.kind
 rcases uh HKK with hk | hk <;> rw[hk]at c0 <;> clear hk
 all_goals (
  have b14:=(uh HM).pb.code
  have x14:=(uh HM).px.code
  have y14:=(uh HM).px.code_f
  go_upto_region 54 with fail
  have HM2:=zh ((uh HM).wi_code q.code)
  generalize w1.setCell ⟨X,14,none⟩ (.int .i64 q.code)=w2 at HM2 |-
  clear HM b14 x14 y14 c0
  have HM:=HM2
  clear HM2
  have b14:=(uh HM).pb.code
  go_wp2_with fail
  refine (gcode_any q.code _).mono ?_
  rintro e w3 ⟨rfl,hw3⟩
  obtain rfl:=hw3.symm
  clear hw3 b14
  have HCD:Hid True:=trivial
  generalize hcc:codeO q.code=c
  have HCC:=zh hcc
  clear hcc
  cases c
  ·have HR:Hid (tlB P (codeO q.code) E=false):=by show _=_;rw[uh HCC];rfl
   go_wp2
   go_ret
   exact⟨by rw[uh HR];rfl,(uh HM).bel⟩
  ·go_upto_region 55 with fail
   iterate 7 go_step
   refine mpList_wanted (by rfl) fun K hK=>wp_load_mid 31 _ rfl X 0 rfl ((xk q).wi_code q.code).cells _ (uh HM).px.range Tryz.underlying31 rfl packet_size (hK _ _ ?_)
   clear hK K
   simp only[Act.put,List.setIfInBounds_toArray,List.set_cons_zero,List.set_cons_succ]
   refine mpList_wanted (by rfl) fun K hK=>wp_load_mid 31 _ rfl B 0 rfl q.cells _ (uh HM).pb.range Tryz.underlying31 rfl packet_size (hK _ _ ?_)
   clear hK K
   simp only[Act.put,List.setIfInBounds_toArray,List.set_cons_zero,List.set_cons_succ]
   go_wp2_with fail
   refine ((uh HEQ) _ (uh HM).bel).mono ?_
   rintro e wz ⟨rfl,hbz⟩
   have HZ:=zh ((uh HM).below hbz)
   clear hbz HM
   have z0:=(uh HZ).pb.kind
   have z7:=(uh HZ).pb.props
   rw[show q.props.val=.slice q.props.ao q.props.n q.props.cap from rfl,uh HQN]at z7
   cases E
   ·have HR:Hid (tlB P (codeO q.code) false=false):=by show _=_;rw[uh HCC];rfl
    go_wp2
    go_ret
    exact⟨by rw[uh HR];rfl,(uh HZ).bel⟩
   ·by_cases hp0:P.props.length=0
    ·have HR:Hid (tlB P (codeO q.code) true=true):=by show _=_;unfold tlB;rw[uh HCC,decide_eq_true hp0];rfl
     rw[hp0]at z7
     clear hp0
     go_wp2
     go_ret
     exact⟨by rw[uh HR];rfl,(uh HZ).bel⟩
    ·have HR:Hid (tlB P (codeO q.code) true=okP P.kind P.props):=by show _=_;unfold tlB;rw[uh HCC,decide_eq_false hp0];rfl
     have hp1:((P.props.length:Int) == 0)=false:=beq_false_of_ne (by omega)
     clear hp0
     rw[uh HKP]at z0
     go_wp2_with fail
     refine (gprops_any _ P.props P.kind _ (by rw[<- uh HQN];exact (uh HRP).below (uh HZ).bel) hmx (uh HSM)).mono ?_
     rintro e wy ⟨rfl,hby⟩
     have HY:=zh ((uh HZ).below hby)
     clear hby HZ
     go_wp2
     go_ret
     exact⟨by rw[uh HR];rfl,(uh HY).bel⟩)
theorem mayA_reason {w:World} {q:Pkv} {P:Pa} (hR:RPk w q P) (hM:Mid P) (hk:P.kind=14\/P.kind=15):Calls Tryz.prog 39 #[q.val] w fun e w'=>e=.returned (.bool (tlB P (codeO P.code) (empA P.no_code.no_props)))/\Below w.heap.size w w':=by
 have hB:=hM.big
 obtain⟨h0,h1,h2,h3,h4,h5,h6,h7,h8,h9,h10,h11⟩:=hR.sc
 have hx:RPk w ((xk q).wi_code q.code) (⟨P.kind,false,0,false,⟨#[]⟩,0,⟨#[]⟩,P.props,⟨#[]⟩,false,0,[],[],[],P.code,false,[],[],[]⟩:Pa):=⟨⟨h0,rfl,rfl,rfl,rfl,rfl,rfl,rfl,rfl,rfl,h10,rfl⟩,hR.props,⟨none,0,rfl,⟨Nat.le_refl _,Nat.zero_le _⟩,.inl rfl⟩,⟨none,0,rfl,⟨Nat.le_refl _,Nat.zero_le _⟩,.inl rfl⟩,⟨none,0,rfl,⟨Nat.le_refl _,Nat.zero_le _⟩,.inl rfl⟩,⟨none,0,rfl,⟨Nat.le_refl _,Nat.zero_le _⟩,.inl rfl⟩,⟨none,0,rfl,⟨Nat.le_refl _,Nat.zero_le _⟩,.inl rfl⟩,⟨none,0,rfl,⟨Nat.le_refl _,Nat.zero_le _⟩,.inl rfl⟩⟩
 have hs:Small (⟨P.kind,false,0,false,⟨#[]⟩,0,⟨#[]⟩,P.props,⟨#[]⟩,false,0,[],[],[],P.code,false,[],[],[]⟩:Pa):=⟨by have:=hB.lists;have:=hM.props;simp;try omega,by have:=hB.lists;simp;try omega,by have:=hB.lists;simp;try omega⟩
 have k:=may_reason q P w hR hM.props hB.props (empA P.no_code.no_props) (heq_of hx hR hs (only_reason P)) hk
 rw[h10]at k
 exact k
theorem enc_reason {w:World} {q:Pkv} {P:Pa} (hR:RPk w q P) (hB:Big P) (hk:P.kind=14\/P.kind=15):Calls Tryz.prog 19 #[q.val] w (EncQ (fkA P).1 (fkA P).2 q.kind (eb P) w):=by
 have hc:=hR.cnt
 have hf:=hB.fit hc
 obtain⟨h0,h1,h2,h3,h4,h5,h6,h7,h8,h9,h10,h11⟩:=hc.sc
 have hL:=hB.lists
 have k:=hk
 rw[<- h0]at k
 refine enc_core q (q.no_code.no_props) _ _ _ (0+5000001) w (by omega) (fun W=>fk_any q P hc W) (fun w0 w1 W hb hQ=>?_)
 have e:=(hc.no_code.no_props).emp
 unfold eb
 rw[if_neg (by omega),if_neg (by omega),if_neg (by omega),if_neg (by omega),if_neg (by omega),if_neg (by omega),if_neg (by omega),if_pos (by omega),<- e,<- h0,<- h10]
 exact pk_reason hQ hf P.props (hR.props.below hb) hB.lists.1 hB.props k
theorem br_eb_14 {P:Pa} (h:P.kind=14\/P.kind=15) (X:Option (List Int)) (hX:((some []).bind (sReason P.code P.kind P.props)).bind (sMust (empA P.no_code.no_props))=X):eb P=X:=by
 unfold eb
 rw[if_neg (by omega),if_neg (by omega),if_neg (by omega),if_neg (by omega),if_neg (by omega),if_neg (by omega),if_neg (by omega),if_pos h]
 exact hX
theorem br_may_14 {P:Pa} (h:P.kind=14\/P.kind=15) (X:Bool) (hX:tlB P (codeO P.code) (empA P.no_code.no_props)=X):mayA P=X:=by
 unfold mayA
 rw[if_neg (by omega),if_neg (by omega),if_neg (by omega),if_neg (by omega),if_neg (by omega),if_neg (by omega),if_neg (by omega),if_neg (by omega),if_pos h]
 exact hX
theorem br_gb_14 {P:Pa} (h:P.kind=14\/P.kind=15) (X:List Int) (hX:gtl P.code P.props=X):gbd P=X:=by
 unfold gbd
 rw[if_neg (by omega),if_neg (by omega),if_neg (by omega),if_neg (by omega),if_neg (by omega),if_pos h]
 exact hX
theorem in8_code (n:Int):in8 n=codeO n:=by
 unfold in8 codeO
 rw[show decide (n < 256)=decide (n<=255) from decide_eq_decide.2 (by omega)]
theorem reason_eq (code kind:Int) (l:List Pr) (t:List Int):sReason code kind l t=if codeO code && okP kind l then some (t++gtl code l) else none:=by
 unfold sReason sAdd
 rw[in8_code]
 by_cases h:l.length=0
 ·have e:gtl code l=if code=0 then [] else [code % 256]:=by unfold gtl;rw[if_neg (by omega)]
  rw[e,okP_nil _ h,Bool.and_true,if_pos h]
  by_cases hc:code=0
  ·rw[hc]
   simp[codeO]
  ·rw[if_neg hc,if_neg hc]
 ·have e:gtl code l=[code % 256]++pbs l:=by unfold gtl;rw[if_pos (by omega)]
  rw[e,if_neg h]
  cases codeO code <;> cases okP kind l <;> simp
theorem eb_14 {P:Pa} (h:P.kind=14\/P.kind=15):eb P=if mayA P then some (gbd P) else none:=by
 rw[br_eb_14 h _ rfl,br_may_14 h _ rfl,br_gb_14 h _ rfl,tlB_eq]
 simp only[Option.bind_some,reason_eq]
 cases codeO P.code <;> cases okP P.kind P.props <;> cases empA P.no_code.no_props <;> simp[sMust]
def moreB:Option (List Int)->Bool
 | none=>false
 | some l=>!l.isEmpty
theorem more_pg (R:Nat) (st:Option (List Int)) (w0:GW) (w:World) (h:RP w0 w R st):Calls Tryz.prog 145 #[.pointer (some ⟨R,0,none⟩)] w fun e w'=>e=.returned (.bool (moreB st))/\Below w.heap.size w w':=by
 obtain⟨ao,n,cap,k,bad,L,hc,hy,hk,hn,hw,hR,hst⟩:=h
 obtain⟨hl,hc1,hc2⟩:=byt_len hy
 unfold maxLen at hc2
 have HD:=zh (bel_drew w)
 obtain⟨h0,⟨h1,f1⟩,h2,f2⟩:=hc
 cases bad
 ·have HM:Hid (moreB st=decide (k < n)):=by
   show _=_
   rw[hst]
   show (!(L.drop k).isEmpty)=_
   rcases Nat.lt_or_ge k n with a | a
   ·rw[decide_eq_true (by omega)]
    cases hd:L.drop k with
    | nil=>have:=congrArg List.length hd;rw[List.length_drop,hl]at this;simp at this;omega
    | cons x t=>rfl
   ·rw[decide_eq_false (by omega),List.drop_of_length_le (by omega)]
    rfl
  clear hst hy hw hl
  go_enter Tryz.func145,Tryz.ntmps145
  go_wp2_with fail
  refine wp_region_noPanic ?_
  refine wp_region_held_drew (S:=(fun w'=>w'.cell? ⟨R,0,none⟩=some (.slice ao n cap)/\w'.cell? ⟨R,1,none⟩=some (.int .i64 (k:Nat))/\w'.cell? ⟨R,2,none⟩=some (.bool false))) (by kernel_rfl) ⟨by simpa using h0,by simpa using h1,by simpa using h2⟩ (fun hHeld=>?_)
  refine rtk 0 (h:=?_)
  refine rtk 1 (h:=?_)
  refine rtk 2 (h:=?_)
  refine rtk 3 (h:=?_)
  refine rtk 4 (h:=?_)
  refine rtk 5 (h:=?_)
  refine rtk 6 (h:=?_)
  refine rtk 7 (h:=?_)
  refine rtk 8 (h:=?_)
  refine rtk 9 (h:=?_)
  refine rtk 10 (h:=?_)
  refine rtk 11 (h:=?_)
  refine rtk 12 (h:=?_)
  refine rtk 13 (h:=?_)
  refine rtk 14 (h:=?_)
  refine rtk 15 (h:=?_)
  refine rtk 16 (h:=?_)
  refine rcl 17 (h:=fun K hK=>?_)
  go_simp
  refine hK.out _ _ ⟨by simpa using h0,by simpa using h1,by simpa using h2⟩ (fun hHeld=>?_)
  clear hK K
  refine wpAnyH_done (by kernel_rfl) ?_ _
  refine NoPanic.normal ?_
  go_wp2
  go_ret
  exact⟨by rw[uh HM];rfl,uh HD⟩
 ·obtain rfl:st=none:=hst
  clear hy hw hl
  go_enter Tryz.func145,Tryz.ntmps145
  go_wp2_with fail
  refine wp_region_noPanic ?_
  refine wp_region_held_drew (S:=(fun w'=>w'.cell? ⟨R,0,none⟩=some (.slice ao n cap)/\w'.cell? ⟨R,1,none⟩=some (.int .i64 (k:Nat))/\w'.cell? ⟨R,2,none⟩=some (.bool true))) (by kernel_rfl) ⟨by simpa using h0,by simpa using h1,by simpa using h2⟩ (fun hHeld=>?_)
  refine rtk 0 (h:=?_)
  refine rtk 1 (h:=?_)
  refine rtk 2 (h:=?_)
  refine rtk 3 (h:=?_)
  refine rtk 4 (h:=?_)
  refine rtk 5 (h:=?_)
  refine rsk 6 (h:=?_)
  refine rsk 7 (h:=?_)
  refine rsk 8 (h:=?_)
  refine rsk 9 (h:=?_)
  refine rsk 10 (h:=?_)
  refine rsk 11 (h:=?_)
  refine rsk 12 (h:=?_)
  refine rsk 13 (h:=?_)
  refine rsk 14 (h:=?_)
  refine rsk 15 (h:=?_)
  refine rtk 16 (h:=?_)
  refine rcl 17 (h:=fun K hK=>?_)
  go_simp
  refine hK.out _ _ ⟨by simpa using h0,by simpa using h1,by simpa using h2⟩ (fun hHeld=>?_)
  clear hK K
  refine wpAnyH_done (by kernel_rfl) ?_ _
  refine NoPanic.normal ?_
  go_wp2
  go_ret
  exact⟨rfl,uh HD⟩
theorem moreB_no {st:Option (List Int)} (h:moreB st=false):st=none\/st=some []:=by
 cases st with
 | none=>exact .inl rfl
 | some l=>cases l with
  | nil=>exact .inr rfl
  | cons a t=>cases h
theorem moreB_yes {st:Option (List Int)} (h:moreB st=true):∃ l,st=some l/\l≠[]:=by
 cases st with
 | none=>cases h
 | some l=>cases l with
  | nil=>cases h
  | cons a t=>exact⟨_,rfl,by simp⟩
def TailPg (w0:GW) (R A:Nat) (p:Pkv) (st:Option (List Int)) (w:World) (e:Ending) (w':World):Prop :=
 e=.returned (.tuple #[])/\∃ (c:Int) (t:Sl) (x:List Pr) (st':Option (List Int)),Pk w' A { p with code:=c,props:=t }/\Hid (w'.ownsRow w.heap.size 88 4 t.val x.length (pcs x))/\Stp (reason? p.kind) st (c,x) st'/\RP w0 w' R st'/\B2 R A w w'
theorem tail_pg (R A:Nat) (p:Pkv) (st:Option (List Int)) (w0:GW) (w:World) (h:RP w0 w R st) (hp:Pk w A p) (hA:A≠R) (hA0:w0.heap.size<=A) (hc:p.code=0) (hpr:p.props=⟨none,0,0⟩):Calls Tryz.prog 105 #[.pointer (some ⟨R,0,none⟩),.pointer (some ⟨A,0,none⟩)] w (TailPg w0 R A p st w):=by
 have hlt:=h.lt
 have hla:=hp.lt
 have HP:=zh hp
 have HS:=zh h
 have HC:=zh hc
 have HPR:=zh hpr
 clear hp h hc hpr
 cases hm:moreB st
 ·go_enter Tryz.func105,Tryz.ntmps105
  go_wp2_with fail
  refine (more_pg R st w0 w (uh HS)).mono ?_
  rintro e w1 ⟨rfl,hb1⟩
  rw[hm]
  have HS1:=zh ((uh HS).below hb1)
  have HB1:=zh hb1
  clear hb1
  go_wp2_with fail
  refine (more_pg R st w0 w1 (uh HS1)).mono ?_
  rintro e w2 ⟨rfl,hb2⟩
  rw[hm]
  have HB2:Hid (Below w.heap.size w w2):=(uh HB1).trans (hb2.mono (uh HB1).size)
  clear hb2
  go_wp2
  go_end0
  refine⟨rfl,0,⟨none,0,0⟩,[],st,?_,owns_nil _ _ _ _,?_,(uh HS).below (uh HB2),B2.bel (uh HB2)⟩
  ·have e:{ p with code:=0,props:=⟨none,0,0⟩ }=p:=by rw[<- uh HC,<- uh HPR]
   rw[e]
   exact (uh HP).below (uh HB2)
  ·rcases moreB_no hm with rfl | rfl
   ·exact rfl
   ·exact⟨rfl,rfl⟩
 ·obtain⟨l,rfl,hl⟩:=moreB_yes hm
  obtain⟨y,t,rfl⟩:∃ y t,l=y :: t:=by cases l with | nil=>exact absurd rfl hl | cons y t=>exact⟨y,t,rfl⟩
  clear hl
  go_enter Tryz.func105,Tryz.ntmps105
  go_wp2_with fail
  refine (more_pg R _ w0 w (uh HS)).mono ?_
  rintro e w1 ⟨rfl,hb1⟩
  rw[hm]
  have HS1:=zh ((uh HS).below hb1)
  have HP1:=zh ((uh HP).below hb1)
  have HB1:Hid (B2 R A w w1):=B2.bel hb1
  clear hb1 hm
  go_wp2_with fail
  refine (byte_pg R _ w0 w1 (uh HS1)).mono ?_
  rintro e w2 ⟨c,st2,rfl,hcr,hs2,h2,hx2⟩
  obtain⟨rfl,rfl⟩:=hs2
  have hp2:=(uh HP1).oth hx2 hA
  have c14:=hp2.code
  have f14:=hp2.code_f
  have c0:=hp2.kind
  have HP2:=zh (hp2.set_code c)
  have HS2:=zh (h2.set A 14 (.int .i64 c) hA hA0)
  have HB2:Hid (B2 R A w (w2.setCell ⟨A,14,none⟩ (.int .i64 c))):=((uh HB1).trans (B2.bx hx2)).set 14 _
  clear hp2 h2 hx2
  cases ht:t with
  | nil =>
   subst ht
   go_wp2_with fail
   refine (more_pg R _ w0 _ (uh HS2)).mono ?_
   rintro e w3 ⟨rfl,hb3⟩
   rw[show moreB (some [])=false from rfl]
   have HB3:Hid (B2 R A w w3):=(uh HB2).trans (B2.bel hb3)
   have HP3:=zh ((uh HP2).below hb3)
   have HS3:=zh ((uh HS2).below hb3)
   clear hb3
   go_wp2
   go_end0
   refine⟨rfl,c,⟨none,0,0⟩,[],_,?_,owns_nil _ _ _ _,?_,uh HS3,uh HB3⟩
   ·have e:{ p with code:=c,props:=⟨none,0,0⟩ }={ p with code:=c }:=by rw[<- uh HPR]
    rw[e]
    exact uh HP3
   ·exact⟨rfl,rfl⟩
  | cons y' t' =>
   subst ht
   go_wp2_with fail
   refine (more_pg R _ w0 _ (uh HS2)).mono ?_
   rintro e w3 ⟨rfl,hb3⟩
   rw[show moreB (some (y' :: t'))=true from rfl]
   have HB3:Hid (B2 R A w w3):=(uh HB2).trans (B2.bel hb3)
   have hp3:=(uh HP2).below hb3
   have d0:=hp3.kind
   have HP3:=zh hp3
   have HS3:=zh ((uh HS2).below hb3)
   clear hb3 hp3 c14 f14 c0
   go_wp2_with fail
   refine (props_pg R _ _ w0 _ (uh HS3)).mono ?_
   rintro e w4 ⟨s,x,st4,rfl,hO,hs4,h4,hx4⟩
   have hp4:=(uh HP3).oth hx4 hA
   have d7:=hp4.props
   have e7:=hp4.props_f
   have HP4:=zh (hp4.set_props s)
   have HS4:=zh (h4.set A 7 s.val hA hA0)
   have HB4:Hid (B2 R A w (w4.setCell ⟨A,7,none⟩ s.val)):=((uh HB3).trans (B2.bx hx4)).set 7 _
   have HST4:=zh hs4
   have hB:w.heap.size<=w3.heap.size:=(uh HB3).size
   clear hp4 h4 hx4 hs4 d0
   go_wp2
   go_end0
   refine⟨rfl,c,s,x,st4,uh HP4,?_,?_,uh HS4,uh HB4⟩
   ·exact owns_mono (owns_b2 (uh hO) ((B2.refl R A w4).set 7 _) (Nat.lt_of_lt_of_le hlt hB) (Nat.lt_of_lt_of_le hla hB)) hB
   ·have k3:=uh HST4
    simp only[Stp,reason?]at k3 |-
    cases hq:props? p.kind (y' :: t') with
    | none=>rw[show ({ p with code:=c }:Pkv).kind=p.kind from rfl,hq]at k3;simpa using k3
    | some r =>
     obtain⟨r1,r2⟩:=r
     rw[show ({ p with code:=c }:Pkv).kind=p.kind from rfl,hq]at k3
     obtain⟨rfl,rfl⟩:=k3
     simp
theorem body_15 (R A:Nat) (d:Bool) (q:Int) (r:Bool) (st:Option (List Int)) (w0:GW) (w:World) (h:RP w0 w R st) (hp:Pk w A (pk0 15 d q r)) (hA:A≠R) (hA0:w0.heap.size<=A):Calls Tryz.prog 53 #[.pointer (some ⟨R,0,none⟩),.pointer (some ⟨A,0,none⟩)] w (BodyPg w0 R A (pa0 15 d q r) st w):=by
 have hRw:=h.lt
 have hAw:=hp.lt
 have c0:=hp.kind
 simp only[pk0]at c0
 have HP:=zh hp
 have HS:=zh h
 clear hp h
 go_enter Tryz.func53,Tryz.ntmps53
 go_wp2_with fail
 refine (tail_pg R A _ st w0 w (uh HS) (uh HP) hA hA0 rfl rfl).mono ?_
 rintro e w1 ⟨rfl,c,t,x,st1,hp1,hO1,hs1,h1,hb1⟩
 have HP1:=zh hp1
 have HS1:=zh h1
 have HST1:=zh hs1
 have HB1:=zh hb1
 clear hp1 h1 hs1 hb1
 go_wp2
 go_end0
 exact⟨rfl,_,{ pa0 15 d q r with code:=c,props:=x },st1,uh HP1,Stp.bind (g:=fun (r':Int×List Pr)=>pureR ({ pa0 15 d q r with code:=r'.1,props:=r'.2 }:Pa)) (uh HST1) (Stp.pure _ _),uh HS1,uh HB1,.inr ⟨⟨rfl,rfl,rfl,rfl,rfl,rfl,rfl,rfl,rfl,rfl,rfl,rfl⟩,uh hO1,wills0 _ _,row0 _ _ _ _,row0 _ _ _ _,row0 _ _ _ _,row0 _ _ _ _,row0 _ _ _ _⟩⟩
end Go.Proofs.YtdkmmmjjdlnnoaaGreatDoor.K
namespace Go.Proofs.YtdkmmmjjdlnnoaaGreatDoor.K.B
open Go.RowKit
open Go.Proofs.YtdkmmmjjdlnnoaaGreatDoor.K
set_option maxRecDepth 100000
theorem reason_back {code kind:Int} {l:List Pr} {t z:List Int} (h:sReason code kind l t=some z) (hr:Rng z):∃ ys,z=t++ys/\ET (reason? kind) ys (code,l):=by
 unfold sReason at h
 by_cases h0:l.length=0
 ·rw[if_pos h0]at h
  obtain rfl:=no_list h0
  by_cases h1:code=0
  ·rw[if_pos h1]at h
   cases h
   subst h1
   exact⟨[],by rw[List.append_nil],rfl⟩
  ·rw[if_neg h1]at h
   obtain⟨_,e,hc,rfl⟩:=add_inv (st:=some t) h
   cases e
   refine⟨_,rfl,?_⟩
   unfold in8 at hc
   simp only[Bool.and_eq_true,decide_eq_true_eq]at hc
   have:code % 256=code:=by omega
   rw[this]
   rfl
 ·rw[if_neg h0]at h
  obtain⟨t1,h2,hp,rfl⟩:=add_inv h
  obtain⟨_,e,hc,rfl⟩:=add_inv (st:=some t) h2
  cases e
  unfold in8 at hc
  simp only[Bool.and_eq_true,decide_eq_true_eq]at hc
  have e1:code % 256=code:=by omega
  refine⟨[code % 256]++pbs l,by rw[List.append_assoc],?_⟩
  rw[e1]
  have hpr:=(rt_props hp (rng_r hr)).et
  have hne:pbs l≠[]:=fun e=>by
   have:=congrArg List.length e
   unfold pbs at this
   rw[List.length_append,List.length_nil]at this
   have h4:=(V.sz_bounds ((body l).length:Int)).1
   have h5:1<=(V.put ((body l).length:Int)).length:=by
    rcases hq:V.put ((body l).length:Int)with _ | ⟨a,r⟩
    ·exfalso
     revert hq
     unfold V.put
     repeat' split
     all_goals simp
    ·simp
   omega
  show (if pbs l=[] then some ((code,[]),[]) else (props? kind (pbs l)).map fun r=>((code,r.1),r.2))=_
  rw[if_neg hne,hpr]
  rfl
end Go.Proofs.YtdkmmmjjdlnnoaaGreatDoor.K.B
