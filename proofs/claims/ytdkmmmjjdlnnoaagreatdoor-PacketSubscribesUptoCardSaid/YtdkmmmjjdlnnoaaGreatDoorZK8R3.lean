/- Proved here: helpers, one text behind the other. -/
import Derived.Test.YtdkmmmjjdlnnoaaGreatDoorZC26
import Derived.Test.YtdkmmmjjdlnnoaaGreatDoorZC15
import Derived.Test.YtdkmmmjjdlnnoaaGreatDoorZC21
import Derived.Test.YtdkmmmjjdlnnoaaGreatDoorZK8R2
import Derived.Test.YtdkmmmjjdlnnoaaGreatDoorZK8R1
import Derived.Test.YtdkmmmjjdlnnoaaGreatDoorZC14
import Derived.Test.YtdkmmmjjdlnnoaaGreatDoorZC22
import Derived.Test.YtdkmmmjjdlnnoaaGreatDoorZC27
import Derived.Test.YtdkmmmjjdlnnoaaGreatDoorZC17
import Derived.Test.YtdkmmmjjdlnnoaaGreatDoorZC29
import Derived.Test.YtdkmmmjjdlnnoaaGreatDoorZC32
import Derived.Deep.Cut
import Derived.Deep.CutBlock
import Derived.Test.YtdkmmmjjdlnnoaaGreatDoorZC33
set_option maxHeartbeats 20000000
namespace Go.Proofs.YtdkmmmjjdlnnoaaGreatDoor.K
open Go.RowKit
set_option maxRecDepth 100000
theorem bind_bind (st:Option (List Int)) (f g:List Int->Option (List Int)):(st.bind f).bind g=st.bind fun t=>(f t).bind g:=by cases st <;> rfl
theorem Ge2.one {st:Option (List Int)} (h:Ge2 st):∀ l,st=some l->l.length≠1:=fun l e=>by have:=h l e;omega
theorem Ge2.sub {st:Option (List Int)} (h:Ge2 st) (s:Sb):Ge2 (st.bind (sSub s)):=fun l e =>
 (((h.must (opk s.qos s.handling)).add (okT s.filter) (tx s.filter)).add (in8 (opb s)) [opb s % 256]) l (by rw[<- e];cases st <;> rfl)
theorem sub_q {w0 w:World} {W:Nat} {p:Pkv} {st:Option (List Int)} {m:Nat} (h:WQ w0 w W p st m) (s:Sb) (hs:s.filter.size<=4611686018427387904) (hg:Ge2 st) (hm:m<=4611686018427300000) :
  Calls Tryz.prog 119 #[.pointer (some ⟨W,0,none⟩),s.val] w (QPost w0 W p (st.bind (sSub s)) (m+70001) w):=by
 have HQ:=zh (h.below ((Below.refl _ _).alloc (Nat.le_refl _) (.cells #[.string s.filter,.int .i64 s.qos,.bool s.nolocal,.bool s.aspub,.int .i64 s.handling] 93)))
 have HG:=zh hg
 have hW:=h.lt
 clear h hg
 have HE:Hid (st.bind (sSub s)=((st.bind (sMust (opk s.qos s.handling))).bind (sAdd (okT s.filter) (tx s.filter))).bind (sAdd (in8 (opb s)) [opb s % 256])):=by show _=_;cases st <;> rfl
 go_enter Tryz.func119,Tryz.ntmps119
 go_wp2_with fail
 refine (optionsOf_any s.filter s.qos s.nolocal s.aspub s.handling _).mono ?_
 rintro e w1 ⟨rfl,hb1⟩
 have HQ1:=zh ((uh HQ).below hb1)
 have HN1:Hid (w1.heap[w.heap.size]?=some (.cells #[.string s.filter,.int .i64 s.qos,.bool s.nolocal,.bool s.aspub,.int .i64 s.handling] 93)):=(hb1.block _ (by simp)).trans (heap_alloc_new _ _)
 have HF1:Hid (FT W w w1):=(FT.of_below (bal _ _)).trans (FT.of_below hb1)
 clear hb1 HQ
 go_wp2_with fail
 refine (must_q (uh HQ1) (opk s.qos s.handling)).mono ?_
 rintro e w2 ⟨rfl,hq2,hf2⟩
 have HQ2:=zh hq2
 have HN2:=zh (hf2.cell (uh HN1) (by omega) (by decide))
 have HF2:=zh ((uh HF1).trans hf2)
 have c2:w2.cell? ⟨w.heap.size,0,none⟩=some (.string s.filter):=by unfold World.cell?;dsimp only;rw[uh HN2];rfl
 clear hq2 hf2 HQ1 HN1 HF1
 go_wp2_with fail
 refine (text_q (uh HQ2) s.filter hs ((uh HG).must _).one (by omega)).mono ?_
 rintro e w3 ⟨rfl,hq3,hf3⟩
 have HQ3:=zh hq3
 have HF3:=zh ((uh HF2).trans hf3)
 clear hq3 hf3 HQ2 HN2 HF2 c2
 go_wp2_with fail
 refine (one_q (uh HQ3) (opb s) (or_range _ _) (by omega)).mono ?_
 rintro e w4 ⟨rfl,hq4,hf4⟩
 have HF4:=zh ((uh HF3).trans hf4)
 have HQ4:=zh (hq4.mono (show _<=m+70001 from by omega))
 clear hq4 hf4 HQ3 HF3
 go_wp2
 go_end0
 exact⟨rfl,by rw[uh HE];exact uh HQ4,uh HF4⟩
theorem each_app {α:Type} (f:α->List Int->Option (List Int)) (b:α):∀ (l:List α) (t:List Int),sEach f (l++[b]) t=(sEach f l t).bind (f b)
 | [],t=>by
  have k:∀ x:Option (List Int),x.bind (sEach f [])=x:=fun x=>by cases x <;> rfl
  exact k _
 | a :: r,t=>by
  show (f a t).bind (sEach f (r++[b]))=((f a t).bind (sEach f r)).bind (f b)
  cases f a t with
  | none=>rfl
  | some u=>exact each_app f b r u
theorem each_snoc {α:Type} (f:α->List Int->Option (List Int)) (d:α) (st:Option (List Int)) (l:List α) (k:Nat) (hk:k < l.length):st.bind (sEach f (l.take (k+1)))=(st.bind (sEach f (l.take k))).bind (f (l.getD k d)):=by
 rw[List.take_add_one,List.getElem?_eq_getElem hk,bind_bind,List.getD_eq_getElem?_getD,List.getElem?_eq_getElem hk]
 cases st with
 | none=>rfl
 | some t=>exact each_app f _ _ t
theorem each_nil {α:Type} (f:α->List Int->Option (List Int)) (st:Option (List Int)) (l:List α):st.bind (sEach f (l.take 0))=st:=by cases st <;> rfl
theorem pbs_ne (l:List Pr):pbs l≠[]:=fun e=>by
 unfold pbs at e
 have h:=V.put_len (body l).length
 rw[(List.append_eq_nil_iff.1 e).1]at h
 simp at h
theorem props_q {w0 w:World} {W:Nat} {p:Pkv} {st:Option (List Int)} {m:Nat} (h:WQ w0 w W p st m) (v:Value) (l:List Pr) (place:Int) (hP:Prp w v l) (hmx:l.length<=4398046511104) (hsm:Go.Proofs.YtdkmmmjjdlnnoaaGreatDoor.Small l) (hl:∀ l,st=some l->l.length≠1) (hm:m<=4611686018427387904) :
  Calls Tryz.prog 63 #[.pointer (some ⟨W,0,none⟩),v,.int .i64 place] w (QPost w0 W p (st.bind (sAdd (okP place l) (pbs l))) (m+5000000) w):=by
 have HQ:=zh h
 have HL:=zh hl
 have HP:=zh (putU_any v l place w hP hmx hsm)
 obtain⟨ao,cap,rfl⟩:=hP.form
 have hW:=h.lt
 clear h hl hP hsm
 go_enter Tryz.func63,Tryz.ntmps63
 go_wp2_with fail
 refine (uh HP).mono ?_
 rintro e w1 ⟨hb,⟨hk,v1,rfl,ho,hr⟩ | ⟨hk,x,rfl,he⟩⟩
 ·have HK:=zh hk
  have hle:=pbs_le (of_decide_eq_true hk)
  have HA:Hid (Calls Tryz.prog 114 #[.pointer (some ⟨W,0,none⟩),v1,.nilIface] w1 (QPost w0 W p (st.bind (sAdd true (pbs l))) (m+5000000) w1)):=by
   obtain⟨h1,h2,h3,bv,sz,T,E,h4,h5,h6,h7⟩:=(uh HQ).below hb
   refine (wadd_any W bv E .nilIface sz T (pbs l) v1 w1 h4 h7.ev (.inl rfl) (fun w' hx=>byt_bxw (B:=w.heap.size) ho hr hx hW) (by omega) (by omega) h5.1).mono ?_
   intro e w' hA
   rw[fst_nil h7.ev]at hA
   obtain⟨k1,k2,k3⟩:=wq_step true h4 h6 h5 h7 h1 h2 h3 hA (pbs_ne l) (fun l' e=>.inl ((uh HL) l' e))
   exact⟨k1,k2.mono (by omega),k3⟩
  have HB:=zh hb
  clear hb ho hr HP HQ hk
  go_wp2_with fail
  refine (uh HA).mono ?_
  rintro e w2 ⟨rfl,hq,hf⟩
  have HF:=zh ((FT.of_below (W:=W) (uh HB)).trans hf)
  have HQ2:=zh hq
  clear hq hf HA
  go_wp2
  go_end0
  exact⟨rfl,by rw[uh HK];exact uh HQ2,uh HF⟩
 ·have HK:=zh hk
  have HA:=zh (add_bad_q ((uh HQ).below hb) 125 x he (uh HL) hm)
  have HB:=zh hb
  clear hb he HP HQ hk
  go_wp2_with fail
  refine (uh HA).mono ?_
  rintro e w2 ⟨rfl,hq,hf⟩
  have HF:=zh ((FT.of_below (W:=W) (uh HB)).trans hf)
  have HQ2:=zh (hq.mono (show m<=m+5000000 from by omega))
  clear hq hf HA
  go_wp2
  go_end0
  exact⟨rfl,by rw[uh HK,bind_no];exact uh HQ2,uh HF⟩
theorem stp_le {α:Type} {f:List Int->Option (α×List Int)} (hf:∀ l x l',f l=some (x,l')->l'.length<=l.length) {st:Option (List Int)} {l':List Int} {x:α} (h:Stp f st x (some l')):∃ l,st=some l/\l'.length<=l.length:=by
 cases st with
 | none=>cases h
 | some l =>
  unfold Stp at h
  simp only at h
  cases hq:f l with
  | none=>rw[hq]at h;cases h
  | some r =>
   obtain⟨y,l2⟩:=r
   rw[hq]at h
   obtain⟨_,e⟩:=h
   cases e
   exact⟨l,rfl,hf l y l' hq⟩
theorem stp_le2 {α β:Type} {f:List Int->Option (α×List Int)} {g:List Int->Option (β×List Int)} (hf:∀ l x l',f l=some (x,l')->l'.length<=l.length) (hg:∀ l x l',g l=some (x,l')->l'.length<=l.length) {st st1:Option (List Int)} {l':List Int} {x:α} {y:β} (h:Stp f st x st1) (h2:Stp g st1 y (some l')) (hl:∀ l,st=some l->l.length<=65536):l'.length<=65536:=by
 obtain⟨l1,rfl,k1⟩:=stp_le hg h2
 obtain⟨l0,rfl,k0⟩:=stp_le hf h
 have:=hl l0 rfl
 omega
theorem id?_le (l:List Int) (x:Int) (l':List Int) (h:id? l=some (x,l')):l'.length<=l.length:=by
 unfold id? at h
 match l,h with
 | [],h=>cases h
 | [a],h=>cases h
 | a :: b :: t,h =>
  simp only[two?]at h
  split at h
  ·cases h
  ·simp at h
   obtain⟨_,rfl⟩:=h
   simp
   omega
theorem props?_le (place:Int) (l:List Int) (x:List Pr) (l':List Int) (h:props? place l=some (x,l')):l'.length<=l.length:=by
 unfold props? at h
 split at h
 ·simp at h
  obtain⟨_,rfl⟩:=h
  rw[List.length_drop]
  omega
 ·cases h
theorem packet_k8 (R:Nat) (st:Option (List Int)) (w0 w:World) (h:RS w0 w R st) (hp:Pk w R (pk0 8 false 0 false)) (hl:∀ l,st=some l->l.length<=65536):Calls Tryz.prog 46 #[.pointer (some ⟨R,0,none⟩)] w (PackPost w0 R (pa0 8 false 0 false) st w):=by
 have hlt:=h.lt
 have c0:=hp.kind
 have HP:=zh hp
 have HS:=zh h
 have HL:=zh hl
 clear hp h hl
 simp only[pk0]at c0
 go_enter Tryz.func46,Tryz.ntmps46
 go_wp2_with fail
 refine (id_any R st w0 w (uh HS)).mono ?_
 rintro e w1 ⟨i,st1,rfl,-,hs1,h1,hx1⟩
 have hp1:=(uh HP).bx hx1
 have c5:=hp1.id
 have f5:=hp1.id_f
 have d0:w1.cell? ⟨R,0,none⟩=some (.int .i64 8):=hp1.kind
 have HP1:=zh (hp1.set_id i)
 have HS1:=zh (h1.set 5 (.int .i64 i) (by decide))
 have HX1:=zh ((hx1.any).set 5 (.int .i64 i) trivial)
 have HST1:=zh hs1
 clear hp1 h1 hx1 hs1 c0
 go_wp2_with fail
 refine (props_any R 8 st1 w0 _ (uh HS1)).mono ?_
 rintro e w2 ⟨t,x,st2,rfl,hO2,hs2,h2,hx2⟩
 have hp2:=(uh HP1).bx hx2
 have c7:=hp2.props
 have f7:=hp2.props_f
 have HP2:=zh (hp2.set_props t)
 have HS2:=zh (h2.set 7 t.val (by decide))
 have HX2:=zh (((uh HX1).trans hx2.any).set 7 t.val trivial)
 have HST2:=zh hs2
 have HO2:Hid ((w2.setCell ⟨R,7,none⟩ t.val).ownsRow w.heap.size 88 4 t.val x.length (pcs x)):=owns_bx (owns_mono (uh hO2) (uh HX1).size) ((BX.refl R isAny w2).set 7 _ trivial) hlt
 have HL2:Hid (∀ l,st2=some l->l.length<=65536):=fun l hl=>by
  subst hl
  exact stp_le2 id?_le (props?_le _) (uh HST1) hs2 (uh HL)
 clear hp2 h2 hx2 hs2 hO2 c5 f5 d0
 go_wp2_with fail
 refine (list_subs R { (pk0 8 false 0 false)with id:=i,props:=t } st2 w0 _ (uh HS2) (uh HP2) rfl (uh HL2) rfl).mono ?_
 rintro e w3 ⟨rfl,td,d,st3,hp3,hO3,hs3,h3,hx3⟩
 have HP3:=zh hp3
 have HS3:=zh h3
 have HX3:=zh ((uh HX2).trans hx3)
 have HST3:=zh hs3
 have HO3:=zh (owns_bx (uh HO2) hx3 hlt)
 have HD3:=zh (owns_mono (uh hO3) (uh HX2).size)
 clear hp3 h3 hx3 hs3 hO3 c7 f7
 obtain⟨ao,n,cap,c19,⟨g1,g2⟩,gl⟩:=(uh HS3).rest
 unfold maxLen at g2
 have GL:=zh gl
 clear gl
 have HM:Hid (Mean w3 w.heap.size { (pk0 8 false 0 false)with id:=i,props:=t,subs:=td } { (pa0 8 false 0 false)with id:=i,props:=x,subs:=d }):=⟨⟨rfl,rfl,rfl,rfl,rfl,rfl,rfl,rfl,rfl,rfl,rfl,rfl⟩,uh HO3,wills0 _ _,row0 _ _ _ _,row0 _ _ _ _,uh HD3,row0 _ _ _ _,row0 _ _ _ _⟩
 have hbz:((n:Int) == 0)=decide (n=0):=by by_cases h:n=0 <;> simp[h]
 go_wp2_with fail
 refine (must_any R _ st3 w0 _ (uh HS3)).mono ?_
 rintro e wz ⟨rfl,hz,hxz⟩
 have HZ:=zh hz
 have HXZ:=zh hxz
 clear hz hxz
 go_wp2
 go_end0
 have hBY:Stp (body? (pa0 8 false 0 false)) st { (pa0 8 false 0 false)with id:=i,props:=x,subs:=d } st3:=by
  show Stp (bindR id? fun i=>bindR (props? 8) fun x=>bindR (list? sub?) fun d=>pureR { (pa0 8 false 0 false)with id:=i,props:=x,subs:=d }) st { (pa0 8 false 0 false)with id:=i,props:=x,subs:=d } st3
  exact (uh HST1).bind ((uh HST2).bind ((uh HST3).bind (Stp.pure _ _)))
 exact⟨rfl,{ (pk0 8 false 0 false)with id:=i,props:=t,subs:=td },{ (pa0 8 false 0 false)with id:=i,props:=x,subs:=d },_,(uh HP3).bx (uh HXZ),(uh HM).bx (uh HXZ) hlt,packet_stp hBY (stp_end (uh GL) _ (by first | exact hbz | rfl | simp)),uh HZ,(uh HX3).trans (uh HXZ).any⟩
theorem wl_subs_core {w0 w:World} {W:Nat} {p:Pkv} {st:Option (List Int)} {m:Nat} (h:WQ w0 w W p st m) (hk:p.kind=8) (ss:List Sb) (len:Nat) (hln:ss.length=len) (ao:Option Addr) (cap:Nat) (hv:p.subs.val=.slice ao len cap) (hlc:len<=cap) (hS:ss=[]\/∃ b off,ao=some ⟨b,off,none⟩/\SbAt w0 b off ss) (hz:∀ k,k < ss.length->(ss.getD k sb0).filter.size<=4611686018427387904) (hg:Ge2 st) (c:Nat) (hc:70001<=c) (hm:m+len * c<=4611686018427300000) :
  Calls Tryz.prog 67 #[.pointer (some ⟨W,0,none⟩)] w fun e w'=>e=.returned (.tuple #[])/\WQ w0 w' W p.no_subs ((st.bind (sMust (mc len))).bind (sEach sSub ss)) (m+len * c):=by
 have HG:=zh hg
 have HZ:=zh hz
 clear hz
 have hkc:=h.pk.kind
 rw[hk]at hkc
 have HQ:=zh h
 have HV:=zh hv
 have HS:=zh hS
 have HLN:=zh hln
 have hlen:len<=4611686018427300000:=Nat.le_trans (Nat.le_mul_of_pos_right _ (by omega)) (show len * c<=4611686018427300000 from by omega)
 clear h hg hv hS hln
 go_enter Tryz.func67,Tryz.ntmps67
 go_wp2_with fail
 refine (take_subs_q (uh HQ) _ rfl).mono ?_
 rintro e w1 ⟨rfl,hq1⟩
 rw[uh HV]
 have HQ1:=zh hq1
 clear hq1 HQ HV hkc
 go_wp2_with fail
 refine (mayCount_any _ _).mono ?_
 rintro e w2 ⟨rfl,hw2⟩
 obtain rfl:=hw2.symm
 clear hw2
 go_wp2_with fail
 refine (must_q (uh HQ1) (mc len)).mono ?_
 rintro e w3 ⟨rfl,hq3,-⟩
 have HQ3:=zh hq3
 have HG3:=zh ((uh HG).must (mc len))
 clear hq3 HQ1 HG
 obtain⟨s1,HST⟩:∃ s1,Hid (s1=st.bind (sMust (mc len))):=⟨_,rfl⟩
 rw[<- uh HST]at HQ3 HG3
 go_wp2
 go_loopw [51] (fun i wr=>∃ k:Nat,k<=len/\i=.int .i64 k/\Hid (WQ w0 wr W p.no_subs (s1.bind (sEach sSub (ss.take k))) (m+k * c))/\Hid (Ge2 (s1.bind (sEach sSub (ss.take k))))) (fun i _=>len - (intOf i).toNat)
 case atStart=>exact⟨0,Nat.zero_le _,rfl,by rw[each_nil,Nat.zero_mul];exact HQ3,by rw[each_nil];exact HG3⟩
 case round =>
  obtain⟨k,hk,rfl,HQK,HGK⟩:=hrel
  clear HQ3 HG3
  by_cases hlt:k < len
  ·have hkl:k < ss.length:=by rw[uh HLN];exact hlt
   have HE:=zh (each_snoc sSub sb0 s1 ss k hkl)
   have hmk:m+k * c+c<=4611686018427300000:=by
    have:=Nat.mul_le_mul_right c (show k+1<=len from hlt)
    rw[Nat.succ_mul]at this
    omega
   have HMS:Hid (m+k * c+c=m+(k+1) * c):=by show _=_;rw[Nat.succ_mul];omega
   obtain⟨b,off,rfl,hcl⟩:∃ b off,ao=some ⟨b,off,none⟩/\SbAt w0 b off ss:=by
    rcases uh HS with e | k
    ·rw[e]at hkl;simp at hkl
    ·exact k
   have hb:=hcl k hkl
   have hB:=(uh HQK).bel
   obtain⟨d0,d1,d2,d3,d4⟩:=hb
   have hbl:b < w0.heap.size:=cell_lt d0
   have e0:=(hB.cell hbl).trans d0
   have e1:=(hB.cell hbl).trans d1
   have e2:=(hB.cell hbl).trans d2
   have e3:=(hB.cell hbl).trans d3
   have e4:=(hB.cell hbl).trans d4
   have hzz:=(uh HZ) k hkl
   clear d0 d1 d2 d3 d4
   generalize ss.getD k sb0=sv at e0 e1 e2 e3 e4 hzz HE
   clear hcl hB
   generalize m+k * c=mk at HQK hmk HMS
   go_wp2_with fail
   refine (sub_q ((uh HQK).below (bal _ _)) sv hzz (uh HGK) (by omega)).mono ?_
   rintro e w5 ⟨rfl,hq5,-⟩
   have HQ5:=zh (hq5.mono (show _<=mk+c from by omega))
   clear hq5 HQK e0 e1 e2 e3 e4
   go_wp2
   go_roundw
   case rel=>exact⟨k+1,by omega,by go_num,by rw[uh HE,<- uh HMS];exact HQ5,by rw[uh HE];exact (uh HGK).sub _⟩
   case measure=>simp[intOf];omega
  ·obtain rfl:k=len:=by omega
   have HF:Hid (WQ w0 wr W p.no_subs ((st.bind (sMust (mc k))).bind (sEach sSub ss)) (m+k * c)):=by
    have q:=uh HQK
    rw[List.take_of_length_le (Nat.le_of_eq (uh HLN)),uh HST]at q
    exact q
   go_wp2
   go_end0
   exact⟨rfl,uh HF⟩
theorem wl_subs {w0 w:World} {W:Nat} {p:Pkv} {st:Option (List Int)} {m:Nat} (h:WQ w0 w W p st m) (hk:p.kind=8) (ss:List Sb) (hS:Sbs w0 p.subs.val ss) (hz:∀ k,k < ss.length->(ss.getD k sb0).filter.size<=4611686018427387904) (hg:Ge2 st) (c:Nat) (hc:70001<=c) (hm:m+ss.length * c<=4611686018427300000) :
  Calls Tryz.prog 67 #[.pointer (some ⟨W,0,none⟩)] w fun e w'=>e=.returned (.tuple #[])/\WQ w0 w' W p.no_subs ((st.bind (sMust (mc ss.length))).bind (sEach sSub ss)) (m+ss.length * c):=by
 obtain⟨ao,cap,hv,⟨hlc,_⟩,hS⟩:=hS
 exact wl_subs_core h hk ss _ rfl ao cap hv hlc hS hz hg c hc hm
theorem Ge2.of_add (st:Option (List Int)) (c:Bool) {ys:List Int} (h:2<=ys.length):Ge2 (st.bind (sAdd c ys)):=fun l e=>by
 cases st with
 | none=>cases e
 | some t =>
  cases c
  ·cases e
  ·cases e
   rw[List.length_append]
   omega
theorem pk_subs {w0 w:World} {W:Nat} {p:Pkv} (h:WQ w0 w W p (some []) 0) (hf:Fit p) (l:List Pr) (hP:Prp w0 p.props.val l) (hmx:l.length<=4398046511104) (hsm:Go.Proofs.YtdkmmmjjdlnnoaaGreatDoor.Small l) (ss:List Sb) (hS:Sbs w0 p.subs.val ss) (hz:∀ k,k < ss.length->(ss.getD k sb0).filter.size<=4611686018427387904) (c:Nat) (hc:70001<=c) (hm:5000002+ss.length * c<=4611686018427300000) (hk:p.kind=8) :
  Calls Tryz.prog 36 #[.pointer (some ⟨W,0,none⟩)] w (GPost w0 W p.no_id.no_props.no_subs ((((((some []).bind (sAdd (in16 p.id && p.id != 0) (b2 p.id))).bind (sAdd (okP p.kind l) (pbs l))).bind (sMust (mc ss.length))).bind (sEach sSub ss)).bind (sMust (emp (p.no_id.no_props.no_subs)))) (5000002+ss.length * c)):=by
 have hkc:=h.pk.kind
 have HP:=zh hP
 have HSM:=zh hsm
 clear hP hsm
 have HS:=zh hS
 have HZ:=zh hz
 clear hS hz
 have HQ:=zh h
 rw[hk]at hkc
 have HK8:=zh hk
 clear h hk
 go_enter Tryz.func36,Tryz.ntmps36
 go_wp2_with fail
 refine (take_id_q (uh HQ) p.id rfl).mono ?_
 rintro e w1 ⟨rfl,hq1⟩
 have HQ1:=zh hq1
 clear hq1 HQ hkc
 go_wp2_with fail
 refine (id_q (uh HQ1) p.id hf.nums.2.1 (by omega)).mono ?_
 rintro e w2 ⟨rfl,hq2,-⟩
 have HQ2:=zh hq2
 have HG2:=zh (Ge2.of_add (some []) (in16 p.id && p.id != 0) (show 2<=(b2 p.id).length from Nat.le_refl _))
 clear hq2 HQ1
 go_wp2_with fail
 have HQd:=zh ((uh HQ2).below (below_drewN (Below.refl _ _) 1))
 clear HQ2
 refine wp_region_noPanic ?_
 refine wp_region_held_drew (S:=fun w'=>w'.cell? ⟨W,0,none⟩=some (.int .i64 p.kind)) (by kernel_rfl) (uh HQd).pk.kind (fun hHeld=>?_)
 refine rtk 0 (h:=?_)
 refine rtk 1 (h:=?_)
 refine rtk 2 (h:=?_)
 refine rtk 3 (h:=?_)
 refine rtk 5 (h:=?_)
 refine rtk 6 (h:=?_)
 refine rtk 7 (h:=?_)
 refine rtk 8 (h:=?_)
 refine rcl 4 (h:=fun K hK=>?_)
 go_simp
 refine (take_props_q (uh HQd) p.props rfl).mono ?_
 rintro e wp1 ⟨rfl,hqp⟩
 have HQp:=zh hqp
 clear hqp HQd
 refine hK.out _ _ (uh HQp).pk.kind (fun hHeld=>?_)
 clear hK K
 refine rcl 9 (h:=fun K hK=>?_)
 go_simp
 refine (props_q (uh HQp) p.props.val l p.kind ((uh HP).below (uh HQp).bel) hmx (uh HSM) (uh HG2).one (by omega)).mono ?_
 rintro e wp2 ⟨rfl,hqp,-⟩
 have HQ3:=zh hqp
 clear hqp HQp
 refine hK.out _ _ (uh HQ3).pk.kind (fun hHeld=>?_)
 clear hK K
 refine wpAnyH_done (by kernel_rfl) ?_ _
 refine NoPanic.normal ?_
 have HG3:=zh ((uh HG2).add (okP p.kind l) (pbs l))
 clear HG2
 go_wp2_with fail
 refine (wl_subs (uh HQ3) (uh HK8) ss (uh HS) (uh HZ) (uh HG3) c hc (by omega)).mono ?_
 rintro e w5 ⟨rfl,hq5⟩
 have HF:=zh (hq5.wf.mono (show _<=5000002+ss.length * c from by omega))
 clear hq5 HQ3 HG3
 go_upto_region 25 with fail
 iterate 13 go_step
 refine wpList_load_mid rfl 31 _ rfl W 0 rfl (p.no_id.no_props.no_subs).cells _ (uh HF).pk.range Tryz.underlying31 rfl packet_size ?_
 simp only[Act.put,List.setIfInBounds_toArray,List.set_cons_zero,List.set_cons_succ]
 go_wp2_with fail
 refine (empty_any (p.no_id.no_props.no_subs) hf.no_id.no_props.no_subs _).mono ?_
 rintro e x1 ⟨rfl,hx1⟩
 have HFa:=zh ((uh HF).below hx1)
 clear hx1 HF
 go_wp2_with fail
 refine (must_f (uh HFa) (emp (p.no_id.no_props.no_subs))).mono ?_
 rintro e x2 ⟨rfl,hx2⟩
 have HFb:=zh hx2
 clear hx2 HFa
 go_wp2
 go_end0
 exact⟨rfl,uh HFb⟩
theorem gtext_any (s:ByteArray) (c:Bool) (hc:okT s=c) (w:World) (hs:s.size<=4611686018427387904):Calls Tryz.prog 74 #[.string s] w fun e w'=>e=.returned (.bool c)/\Below w.heap.size w w':=by
 subst hc
 unfold okT
 have HR:=zh (rcheck_any s w hs)
 by_cases h:chk (sb s)=0
 ·rw[h]at HR |-
  go_enter Tryz.func74,Tryz.ntmps74
  go_wp2_with fail
  refine (uh HR).mono ?_
  rintro e w1 ⟨rfl,hb⟩
  have HB:=zh hb
  clear hb
  go_wp2
  go_ret
  exact⟨rfl,uh HB⟩
 ·rw[decide_eq_false h]
  generalize chk (sb s)=n at h HR
  have hn:(n == 0)=false:=beq_false_of_ne h
  go_enter Tryz.func74,Tryz.ntmps74
  go_wp2_with fail
  refine (uh HR).mono ?_
  rintro e w1 ⟨rfl,hb⟩
  have HB:=zh hb
  clear hb
  go_wp2
  go_ret
  exact⟨rfl,uh HB⟩
theorem gid_any (n:Int) (w:World):Calls Tryz.prog 77 #[.int .i64 n] w fun e w'=>e=.returned (.bool (idO n))/\w'=w:=by
 unfold idO
 by_cases h:1<=n
 ·rw[decide_eq_true h]
  go_enter Tryz.func77,Tryz.ntmps77
  go_wp2
  go_ret
  exact⟨rfl,rfl⟩
 ·rw[decide_eq_false h]
  go_enter Tryz.func77,Tryz.ntmps77
  go_wp2
  go_ret
  exact⟨rfl,rfl⟩
theorem gsome_any (n:Int) (w:World):Calls Tryz.prog 78 #[.int .i64 n] w fun e w'=>e=.returned (.bool (mc n))/\w'=w:=by
 unfold mc
 by_cases h:1<=n
 ·rw[decide_eq_true h]
  go_enter Tryz.func78,Tryz.ntmps78
  go_wp2
  go_ret
  exact⟨rfl,rfl⟩
 ·rw[decide_eq_false h]
  go_enter Tryz.func78,Tryz.ntmps78
  go_wp2
  go_ret
  exact⟨rfl,rfl⟩
theorem maySub_any (s:Sb) (w:World) (hto:s.filter.size<=4611686018427387904):Calls Tryz.prog 79 #[s.val] w fun e w'=>e=.returned (.bool (msB s))/\Below w.heap.size w w':=by
 obtain⟨fi,qo,nl,ap,ha⟩:=s
 have HB0:Hid (Below w.heap.size w (w.alloc (.cells #[.string fi,.int .i64 qo,.bool nl,.bool ap,.int .i64 ha] 93))):=bal _ _
 dsimp only at hto
 cases ht:okT fi
 ·have HE:Hid (msB ⟨fi,qo,nl,ap,ha⟩=false):=by show _=_;unfold msB;simp only[ht];rfl
  go_enter Tryz.func79,Tryz.ntmps79
  go_wp2_with fail
  refine (gtext_any fi false ht _ hto).mono ?_
  rintro e w1 ⟨rfl,hb⟩
  have HB:=zh ((uh HB0).trans (hb.mono (uh HB0).size))
  clear hb
  go_wp2
  go_ret
  exact⟨by rw[uh HE];rfl,uh HB⟩
 ·have HT:=zh ht
  clear ht
  have HM:Hid (msB ⟨fi,qo,nl,ap,ha⟩=(decide (0<=qo) && (decide (qo<=2) && (decide (0<=ha) && decide (ha<=2))))):=by show _=_;unfold msB;simp only[uh HT];rfl
  go_enter Tryz.func79,Tryz.ntmps79
  go_wp2_with fail
  refine (gtext_any fi true (uh HT) _ hto).mono ?_
  rintro e w1 ⟨rfl,hb⟩
  have c1:w1.cell? ⟨w.heap.size,1,none⟩=some (.int .i64 qo):=(hb.cell (by simp)).trans (by simp)
  have c4:w1.cell? ⟨w.heap.size,4,none⟩=some (.int .i64 ha):=(hb.cell (by simp)).trans (by simp)
  have HB:=zh ((uh HB0).trans (hb.mono (uh HB0).size))
  clear hb
  generalize w.heap.size=B at c1 c4 |-
  by_cases h2:0<=qo
  ·by_cases h3:qo<=2
   ·by_cases h4:0<=ha
    ·have HE:Hid (msB ⟨fi,qo,nl,ap,ha⟩=decide (ha<=2)):=by show _=_;rw[uh HM,decide_eq_true h2,decide_eq_true h3,decide_eq_true h4];rfl
     go_wp2
     go_ret
     exact⟨by rw[uh HE];rfl,uh HB⟩
    ·have HE:Hid (msB ⟨fi,qo,nl,ap,ha⟩=false):=by show _=_;rw[uh HM,decide_eq_false h4];simp
     go_wp2
     go_ret
     exact⟨by rw[uh HE];rfl,uh HB⟩
   ·have HE:Hid (msB ⟨fi,qo,nl,ap,ha⟩=false):=by show _=_;rw[uh HM,decide_eq_false h3];simp
    go_wp2
    go_ret
    exact⟨by rw[uh HE];rfl,uh HB⟩
  ·have HE:Hid (msB ⟨fi,qo,nl,ap,ha⟩=false):=by show _=_;rw[uh HM,decide_eq_false h2];simp
   go_wp2
   go_ret
   exact⟨by rw[uh HE];rfl,uh HB⟩
def Pkv.wi_id (p:Pkv) (x:Int):Pkv:={ p with id:=x }
theorem MS.wi_id {w0 w:World} {B X:Nat} {q x:Pkv} (h:MS w0 w B X q x) (y:Int):MS w0 (w.setCell ⟨X,5,none⟩ (.int .i64 y)) B X q (x.wi_id y) :=
 h.set (x.wi_id y) 5 (by omega) (fun j hj=>by unfold Pkv.wi_id Pkv.cell;split <;> first | rfl | exact absurd rfl hj)
theorem gtwo_any (n:Int) (w:World):Calls Tryz.prog 85 #[.int .i64 n] w fun e w'=>∃ v,e=.returned v/\Hid (Rwb w' w.heap.size v (b2 n))/\Below w.heap.size w w':=by
 have HR:Hid (Rwb (w.alloc (.cells #[.int .u8 (n / 256 % 256),.int .u8 (n % 256)] 5)) w.heap.size (.slice (some ⟨w.heap.size,0,none⟩) 2 2) (b2 n)):=rwb_new w (b2 n) (by simp) (by simp) (rng2 (by omega) (by omega))
 have HB:Hid (Below w.heap.size w (w.alloc (.cells #[.int .u8 (n / 256 % 256),.int .u8 (n % 256)] 5))):=bal _ _
 go_enter Tryz.func85,Tryz.ntmps85
 go_wp2
 go_ret
 exact⟨_,rfl,HR,uh HB⟩
theorem Pk.grow2 {w w':World} {B:Nat} {q:Pkv} {row:Option Nat} (h:Pk w B q) (hg:w.grownBy w' row) (hr:some B≠row):Pk w' B q:=fun j hj=>by
 have hb:=hg.block B (cell_lt h.kind) hr
 exact⟨(World.cell?_of_block hb).trans (h j hj).1,(World.frozen?_of_block hb).trans (h j hj).2⟩
theorem below_grown {w0 w w':World} {v:Value} {l:List Int} (h:Below w0.heap.size w0 w) (hr:Rwb w (w0.heap.size+1) v l) (hg:w.grownBy w' v.ownBlock):Below w0.heap.size w0 w':=h.grown hg h.size (fun g e=>by have:=owns_blk hr.1 g e;omega)
def sbz:Sb:=⟨⟨#[]⟩,0,false,false,0⟩
theorem sub_size:(Tryz.prog.info? 93).map (·.size)=some 5:=by kernel_rfl
theorem gsub_alloc (ρ:Operand->Value) (dst:Option Tmp) (ty:TypeId) (pos:String) (after:Array Edge) (w:World) :
  (execOp ρ ⟨dst,.alloc 93,ty,pos,after,none⟩).run Tryz.prog w=.ok (.value (.pointer (some ⟨w.heap.size,0,none⟩))) (w.alloc (.cells (sbc sbz) 93)):=by
 kernel_rfl
theorem gsub_store (a:Act) (dst:Option Tmp) (x y:Operand) (ty:TypeId) (pos:String) (after:Array Edge) (s:Sb) (w:World) (hx:a.eval x=.pointer (some ⟨w.heap.size,0,none⟩)) (hy:a.eval y=s.val) :
  (execOp a.eval ⟨dst,.store 93 x y,ty,pos,after,none⟩).run Tryz.prog (w.alloc (.cells (sbc sbz) 93))=.ok .skip (w.alloc (.cells (sbc s) 93)):=by
 show Sem.run Tryz.prog (do Instr.storeAt 93 (a.eval x) (a.eval y);pure Next.skip) _=_
 rw[hx,hy,show s.val=.agg (sbc s) from rfl]
 simp only[Sem.run_bind]
 rw[run_storeAt_new w 93 (sbc sbz) (sbc s) (by rw[sub_size];rfl) rfl (by simp[sbc,Value.oneCell'])]
 rfl
theorem sbx_new (w:World) (s:Sb):SBx (w.alloc (.cells (sbc s) 93)) w.heap.size s:=.of (heap_alloc_new _ _)
theorem lst_le {r c k:Nat} (h:r<=c+k * 70000) (hk:k<=16):r<=c+1120000:=by omega
theorem gopt_wrap {s:Sb} (h1:0<=s.qos) (h2:s.qos<=3) (h3:0<=s.handling) (h4:s.handling<=3):IntKind.u8.wrap (IntKind.i64.wrap (IntKind.i64.wrap (IntKind.i64.wrap (s.qos+fv s.nolocal 4)+fv s.aspub 8)+IntKind.i64.wrap (16 * s.handling)))=gopt s % 256:=by
 have r1:=fv_range s.nolocal 4 (by omega)
 have r2:=fv_range s.aspub 8 (by omega)
 unfold gopt
 generalize fv s.nolocal 4=x at r1 |-
 generalize fv s.aspub 8=y at r2 |-
 simp[IntKind.wrap,IntKind.bits,IntKind.signed]
 omega
theorem flat_snoc {α:Type} (f:α->List Int) (l:List α) (d:α) (k:Nat) (hk:k < l.length):(l.take (k+1)).flatMap f=(l.take k).flatMap f++f (l.getD k d):=by
 rw[List.take_add_one,List.getElem?_eq_getElem hk,List.flatMap_append,List.getD_eq_getElem?_getD,List.getElem?_eq_getElem hk]
 simp
theorem box_off {w:World} {B g:Nat} {v:Value} {l:List Int} {c:Array Value} (h:Rwb w B v l) (hb:w.heap[g]?=some (.cells c 93)):v.ownBlock≠some g:=fun e=>by
 rcases h.1.2 with⟨rfl,_⟩ | ⟨g',cap,cur,rfl,_,hg,_⟩
 ·cases e
 ·cases e
  rw[hg]at hb
  cases hb
theorem gb_lists (q:Pkv) (l:List Pr) (w:World) (hP:Prp w q.props.val l) (hok:okP q.kind l=true) (ss:List Sb) (fs:List ByteArray) (cs:List Int) (hS:Sbs w q.subs.val ss) (hF:Txs w q.filters.val fs) (hC:Nms w q.codes.val cs) (ns:ss.length<=16) (nf:fs.length<=16) (nc:cs.length<=16) (zs:∀ k,k < ss.length->(ss.getD k sb0).filter.size<=65535/\0<=(ss.getD k sb0).qos/\(ss.getD k sb0).qos<=3/\0<=(ss.getD k sb0).handling/\(ss.getD k sb0).handling<=3) (zf:∀ k,k < fs.length->(fs.getD k ⟨#[]⟩).size<=65535) (hk:q.kind=8\/q.kind=9\/q.kind=10\/q.kind=11):Calls Tryz.prog 40 #[q.val] w (GPut ((((b2 q.id++pbs l)++ss.flatMap gsub)++fs.flatMap tx)++cs.flatMap gcod) w):=by
 obtain⟨ao1,cap1,hv,⟨hlc1,hcm1⟩,hx⟩:=hS
 obtain⟨m1,hm1⟩:∃ m,m=ss.length:=⟨_,rfl⟩
 rw[<- hm1]at hv hlc1 ns
 have HV1:=zh hv
 have HS1:=zh hx
 have HN1:=zh hm1.symm
 clear hv hx hm1
 obtain⟨ao2,cap2,hv,⟨hlc2,hcm2⟩,hx⟩:=hF
 obtain⟨m2,hm2⟩:∃ m,m=fs.length:=⟨_,rfl⟩
 rw[<- hm2]at hv hlc2 nf
 have HV2:=zh hv
 have HS2:=zh hx
 have HN2:=zh hm2.symm
 clear hv hx hm2
 obtain⟨ao3,cap3,hv,⟨hlc3,hcm3⟩,hx⟩:=hC
 obtain⟨m3,hm3⟩:∃ m,m=cs.length:=⟨_,rfl⟩
 rw[<- hm3]at hv hlc3 nc
 have HV3:=zh hv
 have HS3:=zh hx
 have HN3:=zh hm3.symm
 clear hv hx hm3
 have HZS:=zh zs
 have HZF:=zh zf
 clear zs zf
 obtain⟨hok1,h32⟩:=chkP0 (of_decide_eq_true hok)
 have hple:=pbs_le (of_decide_eq_true hok)
 have HPN:=zh (pk_new w q)
 have HB0:Hid (Below w.heap.size w (w.alloc (.cells q.cells.toArray 31))):=bal _ _
 have HBY:Hid (∀ W,Below w.heap.size w W->Calls Tryz.prog 83 #[.slice q.props.ao l.length q.props.cap] W (PutP (pbs l) W)):=fun W hW=>by
  have k:=rbytes_any q.props.val l q.kind W (hP.below hW) (by omega) hok1
  rw[show q.props.val=.slice q.props.ao q.props.n q.props.cap from rfl,prp_n hP]at k
  exact k
 have HTL:Hid (∀ W,Below w.heap.size w W->Calls Tryz.prog 86 #[.agg q.cells.toArray] W (GPut (gtl q.code l) W)):=fun W hW=>gtail_any q l q.kind W (hP.below hW) hok
 have HQN:=zh (prp_n hP)
 have HKK:=zh hk
 clear hP hok hok1 hk
 go_enter Tryz.func40,Tryz.ntmps40
 go_upto_region 1 with fail
 change Code.wp _ _ _ _ (w.alloc (.cells q.cells.toArray 31))
 have hsz:(w.alloc (.cells q.cells.toArray 31)).heap.size=w.heap.size+1:=by simp
 generalize w.alloc (.cells q.cells.toArray 31)=wa at HPN HB0 hsz |-
 have b0:=(uh HPN).kind
 obtain⟨kd,hkd⟩:∃ k,k=q.kind:=⟨_,rfl⟩
 rw[<- hkd]at b0 HKK
 clear hkd
 -- cutA
 go_upto_block 0 with fail
 go_cut [] from 8 (fun wx=>wx=wa)
 case first =>
  rcases uh HKK with rfl | rfl | rfl | rfl
  all_goals (
   go_wp2_with fail
   go_meet
   case rel=>rfl)
 case rest =>
  obtain rfl:=hcut.symm
  clear hcut b0
  -- cutB
  have b7:=(uh HPN).props
  rw[show q.props.val=.slice q.props.ao q.props.n q.props.cap from rfl,uh HQN]at b7
  go_wp2_with fail
  have HS:Hid (∀ W,Below wa.heap.size wa W->W.cell? ⟨w.heap.size,5,none⟩=some (.int .i64 q.id)/\W.cell? ⟨w.heap.size,7,none⟩=some (.slice q.props.ao l.length q.props.cap)):=fun W hW=>⟨((uh HPN).below hW).id,(hW.cell (cell_lt b7)).trans b7⟩
  refine wp_region_noPanic ?_
  refine wp_region_held_drew (S:=(fun w'=>w'.cell? ⟨w.heap.size,5,none⟩=some (.int .i64 q.id)/\w'.cell? ⟨w.heap.size,7,none⟩=some (.slice q.props.ao l.length q.props.cap))) (by kernel_rfl) ((uh HS) _ (below_drewN (Below.refl _ _) 1)) (fun hHeld=>?_)
  have HBd:Hid (Below wa.heap.size wa wa.drew):=below_drewN (Below.refl _ _) 1
  have hszd:wa.drew.heap.size=w.heap.size+1:=hsz
  generalize wa.drew=wd at HBd hHeld hszd |-
  clear b7
  refine rtk 0 (h:=?_)
  refine rtk 1 (h:=?_)
  refine rtk 3 (h:=?_)
  refine rtk 4 (h:=?_)
  refine rcl 2 (h:=fun K hK=>?_)
  go_simp
  refine (gtwo_any q.id _).mono ?_
  rintro e w1 ⟨v1,rfl,hr1,hb1⟩
  have HB1:Hid (Below wa.heap.size wa w1):=bnx2 (uh HBd) hb1
  have HR1:Hid (Rwb w1 (w.heap.size+1) v1 (b2 q.id)):=(uh hr1).mono (by omega)
  clear hr1 hb1
  refine hK.out _ _ ((uh HS) _ (uh HB1)) (fun hHeld=>?_)
  clear hK K
  refine rcl 5 (h:=fun K hK=>?_)
  go_simp
  refine ((uh HBY) _ (bnx2 (uh HB0) (uh HB1))).mono ?_
  rintro e w2 ⟨v2,rfl,hy2,hb2⟩
  have HB2:Hid (Below wa.heap.size wa w2):=bnx2 (uh HB1) hb2
  have HR2:=zh ((uh HR1).below hb2)
  clear hb2
  refine hK.out _ _ ((uh HS) _ (uh HB2)) (fun hHeld=>?_)
  clear hK K
  refine rcl 6 (h:=fun K hK=>?_)
  refine step_append_byt rfl _ _ rfl (w.heap.size+1) v1 2 (b2 q.id) rfl (uh HR2).1 v2 (pbs l) rfl (uh hy2) (by omega) (by have:=(uh HB2).size;omega) ?_
  intro v3 w3 hown3 hg3
  have HB3:Hid (Below wa.heap.size wa w3):=(uh HB2).grown hg3 (uh HB2).size (fun g hg=>by have:=owns_blk (uh HR2).1 g hg;omega)
  have HR3:Hid (Rwb w3 (w.heap.size+1) v3 (b2 q.id++pbs l)):=⟨by rw[List.length_append];exact hown3,range_app (uh HR2).2 (uh hy2).range⟩
  clear hown3 hg3
  refine hK.out _ _ ((uh HS) _ (uh HB3)) (fun hHeld=>?_)
  clear hK K
  simp only[Act.put,List.setIfInBounds_toArray,List.set_cons_zero,List.set_cons_succ]
  refine rtk 7 (h:=?_)
  refine wpAnyH_done (by kernel_rfl) ?_ _
  refine NoPanic.normal ?_
  have HP3:=zh ((uh HPN).below (uh HB3))
  have HB3:=zh (bnx2 (uh HB0) (uh HB3))
  obtain⟨va3,vn3,vc3,rfl⟩:=(uh HR3).form
  clear hHeld HPN HS HBd HB1 HB2 HR1 HR2 hy2
  obtain⟨L0,HEL0⟩:∃ L:List Int,Hid (L=b2 q.id++pbs l):=⟨_,rfl⟩
  have nL0:L0.length<=5000002:=by rw[uh HEL0];rw[List.length_append];simp;omega
  rw[<- uh HEL0]at HR3
  -- cutC
  go_wp2_with fail
  go_loopw [3,4,5] (fun s3 s4 s5 wr=>∃ (k:Nat) (R:List Int),k<=m1/\s4=.int .i64 k/\R.length<=5000002+k * 70000/\Hid (R=L0++(ss.take k).flatMap gsub)/\Hid (Rwb wr (w.heap.size+1) s3 R)/\Hid (Below w.heap.size w wr)/\Hid (Pk wr w.heap.size q)) (fun _ s4 _ _=>m1 - (intOf s4).toNat)
  case atStart=>exact⟨0,L0,Nat.zero_le _,rfl,by omega,by show _=_;simp,HR3,HB3,HP3⟩
  case round =>
   clear HR3 HB3 HP3
   obtain⟨k,R,hk,rfl,hRl,HER,HR,HB,HP⟩:=hrel
   obtain⟨bva,bvn,bvc,rfl⟩:=(uh HR).form
   have p16:=(uh HP).subs
   rw[uh HV1]at p16
   by_cases hlt:k < m1
   ·have hkl:k < ss.length:=by rw[uh HN1];exact hlt
    have HSN:=zh (flat_snoc gsub ss sb0 k hkl)
    obtain⟨b,off,hao,hat⟩:∃ b off,ao1=some ⟨b,off,none⟩/\SbAt w b off ss:=by
     rcases uh HS1 with e | k
     ·rw[e]at hkl;simp at hkl
     ·exact k
    rw[hao]at p16
    have HAO:=zh hao
    have hat:=hat k hkl
    have hB:=(uh HB)
    obtain⟨d0,d1,d2,d3,d4⟩:=hat
    have hbl:b < w.heap.size:=cell_lt d0
    have e0:=(hB.cell hbl).trans d0
    have e1:=(hB.cell hbl).trans d1
    have e2:=(hB.cell hbl).trans d2
    have e3:=(hB.cell hbl).trans d3
    have e4:=(hB.cell hbl).trans d4
    have hzz:=(uh HZS) k hkl
    clear d0 d1 d2 d3 d4
    generalize ss.getD k sb0=sv at e0 e1 e2 e3 e4 hzz HSN
    go_upto_region 28 with fail
    iterate 16 go_step
    refine Go.Proofs.YtdkmmmjjdlnnoaaGreatDoor.wpList_value rfl (gsub_alloc _ _ _ _ _ _) ?_
    simp only[Act.put,List.setIfInBounds_toArray,List.set_cons_zero,List.set_cons_succ]
    refine Go.Proofs.YtdkmmmjjdlnnoaaGreatDoor.wpList_skip rfl (gsub_store _ _ _ _ _ _ _ sv wr rfl rfl) ?_
    simp only[Act.put]
    have HX:=zh (sbx_new wr sv)
    have hbx:Below wr.heap.size wr (wr.alloc (.cells (sbc sv) 93)):=bal _ _
    have HBx:=zh (bnx2 (uh HB) hbx)
    have HPx:=zh ((uh HP).below hbx)
    have HRx:=zh ((uh HR).below hbx)
    have hszr:=(uh HB).size
    generalize wr.alloc (.cells (sbc sv) 93)=wx at HX HBx HPx HRx |-
    obtain⟨G,hG⟩:∃ g,g=wr.heap.size:=⟨_,rfl⟩
    rw[<- hG]at HX |-
    clear hbx HB HP HR e0 e1 e2 e3 e4 p16 hG
    have f0:=(uh HX).c0
    obtain⟨hz0,hz1,hz2,hz3,hz4⟩:=hzz
    obtain⟨fl,hfl⟩:∃ s,s=sv.filter:=⟨_,rfl⟩
    rw[<- hfl]at f0 hz0
    have HFL:=zh hfl
    clear hfl
    have HB:=HBx
    have HP:=HPx
    have HR:=HRx
    clear HBx HPx HRx
    go_wp2_with fail
    refine (Go.Proofs.YtdkmmmjjdlnnoaaGreatDoor.bin_any fl _ hz0).mono ?_
    rintro e w1 ⟨v1,rfl,hown1,hb1⟩
    have hzz:=hz0
    have HX1:=zh ((uh HX).below hb1)
    clear f0 HX
    have HB1:=zh (bnx2 (uh HB) hb1)
    have HP1:=zh ((uh HP).below hb1)
    have HR1:=zh ((uh HR).below hb1)
    have HG1:=zh (tx_range fl hzz)
    have HY1:Hid (Byt w1 v1 (tx fl)):=Rwb.byt (B:=0) ⟨by rw[tx_length];exact owns_mono (uh hown1) (Nat.zero_le _),uh HG1⟩
    obtain⟨va1,vc1,rfl,-,-⟩:=(uh HY1).form
    clear hown1 hb1 HB HP HR
    obtain⟨M1,HEM1⟩:∃ L:List Int,Hid (L=tx fl):=⟨_,rfl⟩
    have nM1:M1.length<=65537:=by rw[uh HEM1];rw[tx_length];omega
    rw[<- uh HEM1]at HY1 HG1 |-
    go_wp2_with (first
     | (at_builtin;refine wpList_append_byt _ rfl _ _ rfl (w.heap.size+1) (.slice bva bvn bvc) R.length R rfl (uh HR1).1 (.slice va1 M1.length vc1) M1 rfl (uh HY1) (by first | omega | (simp;omega)) (cell_lt (uh HP1).kind) ?_)
     | go_in)
    intro v2 w2 hown hg
    have HR2:=zh ((uh HR1).more (uh HG1) (by first | exact hown | (rw[<- List.map_append];exact hown)))
    have HB2:Hid (Below w.heap.size w w2):=below_grown (uh HB1) (uh HR1) hg
    have HP2:=zh ((uh HP1).grow2 hg (uh HR1).off)
    have HX2:=zh ((uh HX1).grow hg (fun e=>box_off (uh HR1) (uh HX1).blk e.symm))
    obtain⟨va2,vn2,vc2,rfl⟩:=(uh HR2).form
    clear hown hg HR1 HB1 HP1 HX1 HY1
    obtain⟨R2,HER2⟩:∃ L:List Int,Hid (L=R++M1):=⟨_,rfl⟩
    have nR2:R2.length<=R.length+65537:=by rw[uh HER2];rw[List.length_append];omega
    rw[<- uh HER2]at HR2
    go_wp2_with fail
    have HS:Hid (∀ W,Below w2.heap.size w2 W->(fun w'=>w'.cell? ⟨G,1,none⟩=some (.int .i64 sv.qos)/\w'.cell? ⟨G,2,none⟩=some (.bool sv.nolocal)/\w'.cell? ⟨G,3,none⟩=some (.bool sv.aspub)/\w'.cell? ⟨G,4,none⟩=some (.int .i64 sv.handling)) W):=fun W hW=>by
     have k:=(uh HX2).below hW
     exact⟨k.c1,k.c2,k.c3,k.c4⟩
    refine wp_region_noPanic ?_
    have hbd:Below w2.heap.size w2 w2.drew:=below_drewN (Below.refl _ _) 1
    refine wp_region_held_drew (S:=(fun w'=>w'.cell? ⟨G,1,none⟩=some (.int .i64 sv.qos)/\w'.cell? ⟨G,2,none⟩=some (.bool sv.nolocal)/\w'.cell? ⟨G,3,none⟩=some (.bool sv.aspub)/\w'.cell? ⟨G,4,none⟩=some (.int .i64 sv.handling))) (by kernel_rfl) ((uh HS) _ hbd) (fun hHeld=>?_)
    have HBd:=zh hbd
    have HRd:=zh ((uh HR2).below hbd)
    have HPd:=zh ((uh HP2).below hbd)
    have HBB:=zh (bnx2 (uh HB2) hbd)
    generalize w2.drew=wd at HBd HRd HPd HBB hHeld |-
    clear hbd HR2 HP2 HB2
    have r1:=fv_range sv.nolocal 4 (by omega)
    have r2:=fv_range sv.aspub 8 (by omega)
    have hz:IntKind.u8.wrap (IntKind.i64.wrap (IntKind.i64.wrap (IntKind.i64.wrap (sv.qos+fv sv.nolocal 4)+fv sv.aspub 8)+IntKind.i64.wrap (16 * sv.handling)))=gopt sv % 256:=gopt_wrap hz1 hz2 hz3 hz4
    have HRNG:∀ j,0<=([gopt sv % 256]:List Int).getD j 0/\([gopt sv % 256]:List Int).getD j 0<=255:=rng1 (by omega)
    obtain⟨z,hzz2⟩:∃ z,z=gopt sv % 256:=⟨_,rfl⟩
    rw[<- hzz2]at hz HRNG
    have HZ2:=zh hzz2
    clear hzz2
    refine rtk 0 (h:=?_)
    refine rtk 1 (h:=?_)
    refine rtk 2 (h:=?_)
    refine rtk 3 (h:=?_)
    refine rtk 4 (h:=?_)
    refine rtk 7 (h:=?_)
    refine rtk 8 (h:=?_)
    refine rtk 11 (h:=?_)
    refine rtk 12 (h:=?_)
    refine rtk 13 (h:=?_)
    refine rcl 5 (h:=fun K hK=>?_)
    go_simp
    refine (gflag_any sv.nolocal 4 _).mono ?_
    rintro e w0 ⟨rfl,hw0⟩
    obtain rfl:=hw0.symm
    clear hw0
    refine hK.out _ _ hHeld (fun hHeld=>?_)
    clear hK K
    refine rtk 6 (h:=?_)
    refine rcl 9 (h:=fun K hK=>?_)
    go_simp
    refine (gflag_any sv.aspub 8 _).mono ?_
    rintro e w0 ⟨rfl,hw0⟩
    obtain rfl:=hw0.symm
    clear hw0
    refine hK.out _ _ hHeld (fun hHeld=>?_)
    clear hK K
    refine rtk 10 (h:=?_)
    refine rtk 14 (h:=?_)
    refine rtk 15 (h:=?_)
    refine rcl 16 (h:=fun K hK=>?_)
    go_simp
    have hba:Below wd.heap.size wd (wd.alloc (.cells #[.int .u8 z] 5)):=bal _ _
    have HRx:Hid (Rwb (wd.alloc (.cells #[.int .u8 z] 5)) wd.heap.size (.slice (some ⟨wd.heap.size,0,none⟩) 1 1) [z]):=rwb_new wd [z] (by simp) (by simp) HRNG
    have HB3:=zh (bnx2 (uh HBd) hba)
    have HR3:=zh ((uh HRd).below hba)
    have HP3:=zh ((uh HPd).below hba)
    have HBB3:=zh (bnx2 (uh HBB) hba)
    have HY3:=zh (uh HRx).byt
    refine hK.out _ _ ((uh HS) _ (uh HB3)) (fun hHeld=>?_)
    clear hK K hba HRx HBd HRd HPd HBB
    generalize wd.alloc (.cells #[.int .u8 z] 5)=w3 at HB3 HR3 HP3 HBB3 HY3 hHeld |-
    refine rcl 17 (h:=fun K hK=>?_)
    refine step_append_byt rfl _ _ rfl (w.heap.size+1) (.slice va2 vn2 vc2) R2.length R2 rfl (uh HR3).1 (.slice (some ⟨wd.heap.size,0,none⟩) 1 1) [z] rfl (uh HY3) (by simp;omega) (cell_lt (uh HP3).kind) ?_
    intro v4 w4 hown hg
    have HR4:=zh ((uh HR3).more HRNG (by first | exact hown | (rw[<- List.map_append];exact hown)))
    have HB4:Hid (Below w.heap.size w w4):=below_grown (uh HBB3) (uh HR3) hg
    have HP4:=zh ((uh HP3).grow2 hg (uh HR3).off)
    have hX3:SBx w3 G sv:=(uh HX2).below (uh HB3)
    have hX4:SBx w4 G sv:=hX3.grow hg (fun e=>box_off (uh HR3) hX3.blk e.symm)
    refine hK.out _ _ ⟨hX4.c1,hX4.c2,hX4.c3,hX4.c4⟩ (fun hHeld=>?_)
    obtain⟨va4,vn4,vc4,rfl⟩:=(uh HR4).form
    clear hK K hown hg HR3 HP3 HBB3 HY3 HB3 hX3 hX4 HX2 HS
    simp only[Act.put,List.setIfInBounds_toArray,List.set_cons_zero,List.set_cons_succ]
    refine rtk 18 (h:=?_)
    refine wpAnyH_done (by kernel_rfl) ?_ _
    refine NoPanic.normal ?_
    clear hHeld
    go_wp2
    go_roundw
    case rel=>exact⟨k+1,R2++[z],by omega,by go_num,by rw[List.length_append,Nat.succ_mul];simp;omega,by show _=_;rw[uh HER2,uh HEM1,uh HZ2,uh HER,uh HSN,uh HFL];simp[gsub],HR4,HB4,HP4⟩
    case measure=>simp[intOf];omega
   ·obtain rfl:m1=k:=by omega
    have HER2:Hid (R=L0++ss.flatMap gsub):=by show _=_;rw[uh HER,List.take_of_length_le (Nat.le_of_eq (uh HN1))]
    have hR2:R.length<=6120002:=lst_le hRl ns
    clear HER hRl
    obtain⟨L1,hL⟩:∃ L:List Int,L=R:=⟨_,rfl⟩
    subst hL
    have HEL1:=HER2
    have nL1:=hR2
    clear HER2 hR2
    go_wp2_with fail
    go_loopw [3,6] (fun s3 s6 wr=>∃ (k:Nat) (R:List Int),k<=m2/\s6=.int .i64 k/\R.length<=6120002+k * 70000/\Hid (R=L1++(fs.take k).flatMap tx)/\Hid (Rwb wr (w.heap.size+1) s3 R)/\Hid (Below w.heap.size w wr)/\Hid (Pk wr w.heap.size q)) (fun _ s6 _=>m2 - (intOf s6).toNat)
    case atStart=>exact⟨0,L1,Nat.zero_le _,rfl,by omega,by show _=_;simp,HR,HB,HP⟩
    case round =>
     clear HR HB HP
     obtain⟨k,R,hk,rfl,hRl,HER,HR,HB,HP⟩:=hrel
     obtain⟨bva,bvn,bvc,rfl⟩:=(uh HR).form
     have p17:=(uh HP).filters
     rw[uh HV2]at p17
     by_cases hlt:k < m2
     ·have hkl:k < fs.length:=by rw[uh HN2];exact hlt
      have HSN:=zh (flat_snoc tx fs ⟨#[]⟩ k hkl)
      obtain⟨b,off,hao,hat⟩:∃ b off,ao2=some ⟨b,off,none⟩/\∀ j,j < fs.length->w.cell? ⟨b,off+j,none⟩=some (.string (fs.getD j ⟨#[]⟩)):=by
       rcases uh HS2 with e | k
       ·rw[e]at hkl;simp at hkl
       ·exact k
      rw[hao]at p17
      have HAO:=zh hao
      have hat:=hat k hkl
      have hB:=(uh HB)
      have hbl:b < w.heap.size:=cell_lt hat
      have e0:=(hB.cell hbl).trans hat
      have hzz:=(uh HZF) k hkl
      generalize fs.getD k ⟨#[]⟩=fl at e0 hzz HSN hat
      clear hat
      go_wp2_with fail
      refine (Go.Proofs.YtdkmmmjjdlnnoaaGreatDoor.bin_any fl _ hzz).mono ?_
      rintro e w1 ⟨v1,rfl,hown1,hb1⟩
      have HB1:=zh (bnx2 (uh HB) hb1)
      have HP1:=zh ((uh HP).below hb1)
      have HR1:=zh ((uh HR).below hb1)
      have HG1:=zh (tx_range fl hzz)
      have HY1:Hid (Byt w1 v1 (tx fl)):=Rwb.byt (B:=0) ⟨by rw[tx_length];exact owns_mono (uh hown1) (Nat.zero_le _),uh HG1⟩
      obtain⟨va1,vc1,rfl,-,-⟩:=(uh HY1).form
      clear hown1 hb1 HB HP HR
      obtain⟨M1,HEM1⟩:∃ L:List Int,Hid (L=tx fl):=⟨_,rfl⟩
      have nM1:M1.length<=65537:=by rw[uh HEM1];rw[tx_length];omega
      rw[<- uh HEM1]at HY1 HG1 |-
      go_wp2_with (first
       | (at_builtin;refine wpList_append_byt _ rfl _ _ rfl (w.heap.size+1) (.slice bva bvn bvc) R.length R rfl (uh HR1).1 (.slice va1 M1.length vc1) M1 rfl (uh HY1) (by first | omega | (simp;omega)) (cell_lt (uh HP1).kind) ?_)
       | go_in)
      intro v2 w2 hown hg
      have HR2:=zh ((uh HR1).more (uh HG1) (by first | exact hown | (rw[<- List.map_append];exact hown)))
      have HB2:Hid (Below w.heap.size w w2):=below_grown (uh HB1) (uh HR1) hg
      have HP2:=zh ((uh HP1).grow2 hg (uh HR1).off)
      obtain⟨va2,vn2,vc2,rfl⟩:=(uh HR2).form
      clear hown hg HR1 HB1 HP1 p17 e0
      go_wp2
      go_roundw
      case rel=>exact⟨k+1,R++M1,by omega,by go_num,by rw[List.length_append,Nat.succ_mul];omega,by show _=_;rw[uh HEM1,uh HER,uh HSN,List.append_assoc],HR2,HB2,HP2⟩
      case measure=>simp[intOf];omega
     ·obtain rfl:m2=k:=by omega
      have HER2:Hid (R=L1++fs.flatMap tx):=by show _=_;rw[uh HER,List.take_of_length_le (Nat.le_of_eq (uh HN2))]
      have hR2:R.length<=7240002:=lst_le hRl nf
      clear HER hRl
      obtain⟨L2,hL⟩:∃ L:List Int,L=R:=⟨_,rfl⟩
      subst hL
      have HEL2:=HER2
      have nL2:=hR2
      clear HER2 hR2
      go_wp2_with fail
      go_loopw [3,7] (fun s3 s7 wr=>∃ (k:Nat) (R:List Int),k<=m3/\s7=.int .i64 k/\R.length<=7240002+k * 70000/\Hid (R=L2++(cs.take k).flatMap gcod)/\Hid (Rwb wr (w.heap.size+1) s3 R)/\Hid (Below w.heap.size w wr)/\Hid (Pk wr w.heap.size q)) (fun _ s7 _=>m3 - (intOf s7).toNat)
      case atStart=>exact⟨0,L2,Nat.zero_le _,rfl,by omega,by show _=_;simp,HR,HB,HP⟩
      case round =>
       clear HR HB HP
       obtain⟨k,R,hk,rfl,hRl,HER,HR,HB,HP⟩:=hrel
       obtain⟨bva,bvn,bvc,rfl⟩:=(uh HR).form
       have p18:=(uh HP).codes
       rw[uh HV3]at p18
       by_cases hlt:k < m3
       ·have hkl:k < cs.length:=by rw[uh HN3];exact hlt
        have HSN:=zh (flat_snoc gcod cs 0 k hkl)
        obtain⟨b,off,hao,hat⟩:∃ b off,ao3=some ⟨b,off,none⟩/\∀ j,j < cs.length->w.cell? ⟨b,off+j,none⟩=some (.int .i64 (cs.getD j 0)):=by
         rcases uh HS3 with e | k
         ·rw[e]at hkl;simp at hkl
         ·exact k
        rw[hao]at p18
        have HAO:=zh hao
        have hat:=hat k hkl
        have hB:=(uh HB)
        have hbl:b < w.heap.size:=cell_lt hat
        have e0:=(hB.cell hbl).trans hat
        generalize cs.getD k 0=cd at e0 HSN hat
        clear hat
        have hz:IntKind.u8.wrap cd=cd % 256:=by rfl
        have HG1:=zh (rng1 (x:=cd % 256) (by omega))
        have HBx:Hid (Below w.heap.size w (wr.alloc (.cells #[.int .u8 (cd % 256)] 5))):=(uh HB).alloc (uh HB).size _
        have HRx:Hid (Rwb (wr.alloc (.cells #[.int .u8 (cd % 256)] 5)) wr.heap.size (.slice (some ⟨wr.heap.size,0,none⟩) 1 1) [cd % 256]):=rwb_new wr [cd % 256] (by simp) (by simp) (uh HG1)
        have HPx:=zh ((uh HP).below ((Below.refl _ _).alloc (Nat.le_refl _) (.cells #[.int .u8 (cd % 256)] 5)))
        have HR1:=zh ((uh HR).below ((Below.refl _ _).alloc (Nat.le_refl _) (.cells #[.int .u8 (cd % 256)] 5)))
        have HY1:=zh (uh HRx).byt
        have hszr:=(uh HB).size
        go_wp2_with (first
         | (at_builtin;refine wpList_append_byt _ rfl _ _ rfl (w.heap.size+1) (.slice bva bvn bvc) R.length R rfl (uh HR1).1 (.slice (some ⟨wr.heap.size,0,none⟩) 1 1) [cd % 256] rfl (uh HY1) (by first | omega | (simp;omega)) (cell_lt (uh HPx).kind) ?_)
         | go_in)
        intro v2 w2 hown hg
        have HR2:=zh ((uh HR1).more (uh HG1) (by first | exact hown | (rw[<- List.map_append];exact hown)))
        have HB2:Hid (Below w.heap.size w w2):=below_grown (uh HBx) (uh HR1) hg
        have HP2:=zh ((uh HPx).grow2 hg (uh HR1).off)
        obtain⟨va2,vn2,vc2,rfl⟩:=(uh HR2).form
        clear hown hg HR1 HBx HPx HRx HY1 p18 e0
        go_wp2
        go_roundw
        case rel=>exact⟨k+1,R++[cd % 256],by omega,by go_num,by rw[List.length_append,Nat.succ_mul];simp;omega,by show _=_;rw[uh HER,uh HSN,List.append_assoc];rfl,HR2,HB2,HP2⟩
        case measure=>simp[intOf];omega
       ·obtain rfl:m3=k:=by omega
        have HER2:Hid (R=L2++cs.flatMap gcod):=by show _=_;rw[uh HER,List.take_of_length_le (Nat.le_of_eq (uh HN3))]
        have hR2:R.length<=8360002:=lst_le hRl nc
        clear HER hRl
        go_wp2
        go_ret
        exact⟨_,rfl,by rw[uh HER2,uh HEL2,uh HEL1,uh HEL0]at HR;exact (uh HR).mono (Nat.le_succ _),uh HB⟩
end Go.Proofs.YtdkmmmjjdlnnoaaGreatDoor.K
