/- Proved here: helpers, one text behind the other. -/
import Derived.Test.YtccnjdgaldbgnaaGreatDoorZC32
import Derived.Test.YtccnjdgaldbgnaaGreatDoorZC34
import Derived.Test.YtccnjdgaldbgnaaGreatDoorZC8
import Derived.Test.YtccnjdgaldbgnaaGreatDoorZC7
import Derived.Test.YtccnjdgaldbgnaaGreatDoorZC33
import Derived.Test.YtccnjdgaldbgnaaGreatDoorZC20
import Derived.Test.YtccnjdgaldbgnaaGreatDoorZC5
import Derived.Test.YtccnjdgaldbgnaaGreatDoorZC23
set_option maxHeartbeats 20000000
namespace Go.Proofs.YtccnjdgaldbgnaaGreatDoor.K
open Go.RowKit
set_option maxRecDepth 100000
theorem Nms.below {w w':World} {v:Value} {l:List Int} (h:Nms w v l) (hb:Below w.heap.size w w'):Nms w' v l:=by
 obtain⟨ao,cap,h1,h2,h3⟩:=h
 refine⟨ao,cap,h1,h2,?_⟩
 rcases h3 with h3 | ⟨b,off,e,hc⟩
 ·exact .inl h3
 ·exact .inr ⟨b,off,e,fun j hj=>(hb.cell (p:=⟨b,off+j,none⟩) (cell_lt (hc j hj))).trans (hc j hj)⟩
theorem Txs.below {w w':World} {v:Value} {l:List ByteArray} (h:Txs w v l) (hb:Below w.heap.size w w'):Txs w' v l:=by
 obtain⟨ao,cap,h1,h2,h3⟩:=h
 refine⟨ao,cap,h1,h2,?_⟩
 rcases h3 with h3 | ⟨b,off,e,hc⟩
 ·exact .inl h3
 ·exact .inr ⟨b,off,e,fun j hj=>(hb.cell (p:=⟨b,off+j,none⟩) (cell_lt (hc j hj))).trans (hc j hj)⟩
theorem Sbs.below {w w':World} {v:Value} {l:List Sb} (h:Sbs w v l) (hb:Below w.heap.size w w'):Sbs w' v l:=by
 obtain⟨ao,cap,h1,h2,h3⟩:=h
 refine⟨ao,cap,h1,h2,?_⟩
 rcases h3 with h3 | ⟨b,off,e,hc⟩
 ·exact .inl h3
 ·refine .inr ⟨b,off,e,fun j hj=>?_⟩
  obtain⟨x1,x2,x3,x4,x5⟩:=hc j hj
  have hl:b < w.heap.size:=cell_lt x1
  exact⟨(hb.cell hl).trans x1,(hb.cell hl).trans x2,(hb.cell hl).trans x3,(hb.cell hl).trans x4,(hb.cell hl).trans x5⟩
theorem Wls.below {w w':World} {v:Value} {l:List Wl} (h:Wls w v l) (hb:Below w.heap.size w w'):Wls w' v l:=by
 obtain⟨ao,cap,h1,h2,h3⟩:=h
 refine⟨ao,cap,h1,h2,?_⟩
 rcases h3 with h3 | ⟨b,off,e,hc⟩
 ·exact .inl h3
 ·exact .inr ⟨b,off,e,fun j hj=>(hc j hj).below hb⟩
theorem tells_props {w:World} {va vb:Value} {l m:List Pr} (ha:Prp w va l) (hb:Prp w vb m) (hmx:l.length<=1000000000) (c:Bool) (hc:c=true ↔ l=m):Tells w 27 va vb c:=fun W hW=>by
 refine (eqp_any va vb l m W (ha.below hW) (hb.below hW) hmx).mono ?_
 rintro e w' ⟨⟨b,rfl,hbb⟩,k,rfl⟩
 obtain rfl:b=c:=Bool.eq_iff_iff.2 (hbb.trans hc.symm)
 exact⟨rfl,below_drewN (Below.refl _ _) k⟩
theorem tells_subs {w:World} {va vb:Value} {l m:List Sb} (ha:Sbs w va l) (hb:Sbs w vb m) (hmx:l.length<=1000000000) (c:Bool) (hc:c=true ↔ l=m):Tells w 30 va vb c:=fun W hW=>by
 refine (eqb_any va vb l m W (ha.below hW) (hb.below hW) hmx).mono ?_
 rintro e w' ⟨⟨b,rfl,hbb⟩,k,rfl⟩
 obtain rfl:b=c:=Bool.eq_iff_iff.2 (hbb.trans hc.symm)
 exact⟨rfl,below_drewN (Below.refl _ _) k⟩
theorem tells_wills {w:World} {va vb:Value} {l m:List Wl} (ha:Wls w va l) (hb:Wls w vb m) (hmx:l.length<=1000000000) (c:Bool) (hc:c=true ↔ l=m):Tells w 28 va vb c:=fun W hW=>by
 refine (eqws_any va vb l m W (ha.below hW) (hb.below hW) hmx).mono ?_
 rintro e w' ⟨⟨b,rfl,hbb⟩,hb'⟩
 obtain rfl:b=c:=Bool.eq_iff_iff.2 (hbb.trans hc.symm)
 exact⟨rfl,hb'⟩
theorem tells_strs {w:World} {va vb:Value} {l m:List ByteArray} (ha:Txs w va l) (hb:Txs w vb m) (c:Bool) (hc:c=true ↔ l=m):Tells w 29 va vb c:=fun W hW=>by
 refine (eqs_any va vb l m W (ha.below hW) (hb.below hW)).mono ?_
 rintro e w' ⟨rfl,k,rfl⟩
 exact⟨by rw[show c=decide (l=m) from Bool.eq_iff_iff.2 (hc.trans (decide_eq_true_iff).symm)],below_drewN (Below.refl _ _) k⟩
theorem tells_nums {w:World} {va vb:Value} {l m:List Int} (ha:Nms w va l) (hb:Nms w vb m) (c:Bool) (hc:c=true ↔ l=m):Tells w 31 va vb c:=fun W hW=>by
 refine (eqn_any va vb l m W (ha.below hW) (hb.below hW)).mono ?_
 rintro e w' ⟨rfl,k,rfl⟩
 exact⟨by rw[show c=decide (l=m) from Bool.eq_iff_iff.2 (hc.trans (decide_eq_true_iff).symm)],below_drewN (Below.refl _ _) k⟩
structure RPk (w:World) (p:Pkv) (P:Pa):Prop where
 sc:p.kind=P.kind/\p.dup=P.dup/\p.qos=P.qos/\p.retain=P.retain/\p.topic=P.topic/\p.id=P.id/\p.payload=P.payload/\p.client=P.client/\p.clean=P.clean/\p.keep=P.keep/\p.code=P.code/\p.session=P.session
 props:Prp w p.props.val P.props
 wills:Wls w p.wills.val P.wills
 user:Txs w p.user.val P.user
 pass:Txs w p.pass.val P.pass
 subs:Sbs w p.subs.val P.subs
 filters:Txs w p.filters.val P.filters
 codes:Nms w p.codes.val P.codes
theorem RPk.below {w w':World} {p:Pkv} {P:Pa} (h:RPk w p P) (hb:Below w.heap.size w w'):RPk w' p P :=
 ⟨h.sc,h.props.below hb,h.wills.below hb,h.user.below hb,h.pass.below hb,h.subs.below hb,h.filters.below hb,h.codes.below hb⟩
structure Small (P:Pa):Prop where
 props:P.props.length<=1000000000
 wills:P.wills.length<=1000000000
 subs:P.subs.length<=1000000000
theorem eqpk_same (p q:Pkv) (P:Pa) (w:World) (hp:RPk w p P) (hq:RPk w q P) (hs:Small P) :
  Calls Tryz.prog 17 #[p.val,q.val] w fun e w'=>e=.returned (.bool true)/\Below w.heap.size w w':=by
 obtain⟨x0,x1,x2,x3,x4,x5,x6,x7,x8,x9,x10,x11⟩:=hp.sc
 obtain⟨y0,y1,y2,y3,y4,y5,y6,y7,y8,y9,y10,y11⟩:=hq.sc
 exact eqpk_yes _ _ _ _ _ _ _ _ _ _ _ _ _ _ _ _ _ _ _ _ _ _ _ _ _ _ _ _ _ _ _ _ _ _ _ _ _ _ w
  (by rw[x0,y0];simp) (by rw[x1,y1];simp) (by rw[x2,y2];simp) (by rw[x3,y3];simp) (by rw[x4,y4];simp) (by rw[x5,y5];simp) (by rw[x6,y6];simp)
  (tells_props hp.props hq.props hs.props true (by simp)) (by rw[x7,y7];simp) (by rw[x8,y8];simp) (by rw[x9,y9];simp) (tells_wills hp.wills hq.wills hs.wills true (by simp))
  (tells_strs hp.user hq.user true (by simp)) (tells_strs hp.pass hq.pass true (by simp)) (by rw[x10,y10];simp) (by rw[x11,y11];simp) (tells_subs hp.subs hq.subs hs.subs true (by simp)) (tells_strs hp.filters hq.filters true (by simp)) (tells_nums hp.codes hq.codes true (by simp))
theorem bind_bind (st:Option (List Int)) (f g:List Int->Option (List Int)):(st.bind f).bind g=st.bind fun t=>(f t).bind g:=by cases st <;> rfl
theorem or_range (a b:Int):-9223372036854775808<=bits .or .i64 a b/\bits .or .i64 a b<=9223372036854775807:=by
 unfold bits
 constructor <;> simp[IntKind.wrap,IntKind.bits,IntKind.signed] <;> omega
def opb (s:Sb):Int:=opv s.qos s.nolocal s.aspub s.handling
def sSub (s:Sb) (t:List Int):Option (List Int):=((sMust (opk s.qos s.handling) t).bind (sAdd (okT s.filter) (tx s.filter))).bind (sAdd (in8 (opb s)) [opb s % 256])
def Ge2 (st:Option (List Int)):Prop:=∀ l,st=some l->2<=l.length
theorem Ge2.one {st:Option (List Int)} (h:Ge2 st):∀ l,st=some l->l.length≠1:=fun l e=>by have:=h l e;omega
theorem Ge2.add {st:Option (List Int)} (h:Ge2 st) (c:Bool) (ys:List Int):Ge2 (st.bind (sAdd c ys)):=fun l e=>by
 cases st with
 | none=>cases e
 | some t =>
  have:=h t rfl
  cases c
  ·cases e
  ·cases e
   rw[List.length_append]
   omega
theorem Ge2.must {st:Option (List Int)} (h:Ge2 st) (c:Bool):Ge2 (st.bind (sMust c)):=fun l e=>by
 cases st with
 | none=>cases e
 | some t =>
  cases c
  ·cases e
  ·cases e
   exact h _ rfl
theorem Ge2.sub {st:Option (List Int)} (h:Ge2 st) (s:Sb):Ge2 (st.bind (sSub s)):=fun l e =>
 (((h.must (opk s.qos s.handling)).add (okT s.filter) (tx s.filter)).add (in8 (opb s)) [opb s % 256]) l (by rw[<- e];cases st <;> rfl)
theorem sub_q {w0 w:World} {W:Nat} {p:Pkv} {st:Option (List Int)} {m:Nat} (h:WQ w0 w W p st m) (s:Sb) (hs:s.filter.size<=4611686018427387904) (hg:Ge2 st) (hm:m<=4611686018427300000) :
  Calls Tryz.prog 68 #[.pointer (some ⟨W,0,none⟩),s.val] w (QPost w0 W p (st.bind (sSub s)) (m+70001) w):=by
 have HQ:=zh (h.below ((Below.refl _ _).alloc (Nat.le_refl _) (.cells #[.string s.filter,.int .i64 s.qos,.bool s.nolocal,.bool s.aspub,.int .i64 s.handling] 122)))
 have HG:=zh hg
 have hW:=h.lt
 clear h hg
 have HE:Hid (st.bind (sSub s)=((st.bind (sMust (opk s.qos s.handling))).bind (sAdd (okT s.filter) (tx s.filter))).bind (sAdd (in8 (opb s)) [opb s % 256])):=by show _=_;cases st <;> rfl
 go_enter Tryz.func68,Tryz.ntmps68
 go_wp2_with fail
 refine (optionsOf_any s.filter s.qos s.nolocal s.aspub s.handling _).mono ?_
 rintro e w1 ⟨rfl,hb1⟩
 have HQ1:=zh ((uh HQ).below hb1)
 have HN1:Hid (w1.heap[w.heap.size]?=some (.cells #[.string s.filter,.int .i64 s.qos,.bool s.nolocal,.bool s.aspub,.int .i64 s.handling] 122)):=(hb1.block _ (by simp)).trans (heap_alloc_new _ _)
 have HF1:Hid (FT W w w1):=(FT.of_below (bal _ _)).trans (FT.of_below hb1)
 clear hb1 HQ
 go_wp2_with fail
 refine (must_q (uh HQ1) (opk s.qos s.handling)).mono ?_
 rintro e w2 ⟨rfl,hq2,hf2⟩
 have HQ2:=zh hq2
 have HN2:=zh (hf2.cell (uh HN1) (by omega) (by decide))
 have HF2:=zh ((uh HF1).trans hf2)
 have c2:w2.cell? ⟨w.heap.size,0,none⟩=some (.string s.filter):=by unfold World.cell?;dsimp only;rw[uh HN2];rfl
 clear hq2 hf2 HQ1 HN1 HF1
 go_wp2_with fail
 refine (text_q (uh HQ2) s.filter hs ((uh HG).must _).one (by omega)).mono ?_
 rintro e w3 ⟨rfl,hq3,hf3⟩
 have HQ3:=zh hq3
 have HF3:=zh ((uh HF2).trans hf3)
 clear hq3 hf3 HQ2 HN2 HF2 c2
 go_wp2_with fail
 refine (one_q (uh HQ3) (opb s) (or_range _ _) (by omega)).mono ?_
 rintro e w4 ⟨rfl,hq4,hf4⟩
 have HF4:=zh ((uh HF3).trans hf4)
 have HQ4:=zh (hq4.mono (show _<=m+70001 from by omega))
 clear hq4 hf4 HQ3 HF3
 go_wp2
 go_end0
 exact⟨rfl,by rw[uh HE];exact uh HQ4,uh HF4⟩
def sEach {α:Type} (f:α->List Int->Option (List Int)):List α->List Int->Option (List Int)
 | [],t=>some t
 | a :: r,t=>(f a t).bind (sEach f r)
theorem each_app {α:Type} (f:α->List Int->Option (List Int)) (b:α):∀ (l:List α) (t:List Int),sEach f (l++[b]) t=(sEach f l t).bind (f b)
 | [],t=>by
  have k:∀ x:Option (List Int),x.bind (sEach f [])=x:=fun x=>by cases x <;> rfl
  exact k _
 | a :: r,t=>by
  show (f a t).bind (sEach f (r++[b]))=((f a t).bind (sEach f r)).bind (f b)
  cases f a t with
  | none=>rfl
  | some u=>exact each_app f b r u
theorem each_snoc {α:Type} (f:α->List Int->Option (List Int)) (d:α) (st:Option (List Int)) (l:List α) (k:Nat) (hk:k < l.length):st.bind (sEach f (l.take (k+1)))=(st.bind (sEach f (l.take k))).bind (f (l.getD k d)):=by
 rw[List.take_add_one,List.getElem?_eq_getElem hk,bind_bind,List.getD_eq_getElem?_getD,List.getElem?_eq_getElem hk]
 cases st with
 | none=>rfl
 | some t=>exact each_app f _ _ t
theorem each_nil {α:Type} (f:α->List Int->Option (List Int)) (st:Option (List Int)) (l:List α):st.bind (sEach f (l.take 0))=st:=by cases st <;> rfl
theorem wf_step {w0 w w':World} {W:Nat} {p:Pkv} {bv:Value} {sz:Nat} {T ys:List Int} {E:Value} {st:Option (List Int)} {m:Nat} {e:Ending} (c:Bool) (hW:WS w W bv sz T E) (hm:sz<=m) (hT:T.length<=65536/\T.length<=sz) (hS:Sg w W bv sz T E st)
  (hb:Below w0.heap.size w0 w) (hlow:w0.heap.size<=W) (hpk:Pk w W p) (hA:AddPost W bv sz T ys (mst c E) w e w'):FPost w0 W p (st.bind (sAdd c ys)) (m+ys.length) w e w':=by
 obtain⟨bv',rfl,hW',hv,hF,hno⟩:=hA
 have hrow:=ws_rows hW
 refine⟨rfl,⟨hF.below hb hlow (fun g e=>by have:=hrow g e;omega),hlow,hpk.fw hF,bv',_,_,_,hW',?_,by omega,?_⟩,FT.of_fw hW hF⟩
 ·split
  ·rw[List.length_append]
   omega
  ·omega
 cases st with
 | none =>
  obtain⟨d,n,hd,he⟩:=hS
  obtain⟨t,x,rfl⟩:=he.iface
  rw[mst_if]
  exact⟨d,n,hd,(he.fw hF.fb hv).weak (fun _ e=>.inl e)⟩
 | some l =>
  obtain⟨rfl,h2,h3,h4⟩:=hS
  cases c
  ·exact⟨0,1,by omega,rfl⟩
  ·refine⟨rfl,by rw[List.length_append];omega,?_⟩
   intro hle
   rw[List.length_append]at hle
   rw[if_pos (by omega),h3 (by omega)]
theorem WF.mono {w0 w:World} {W:Nat} {p:Pkv} {st:Option (List Int)} {m m':Nat} (h:WF w0 w W p st m) (hm:m<=m'):WF w0 w W p st m':=by
 obtain⟨h1,h2,h3,bv,sz,T,E,h4,h5,h6,h7⟩:=h
 exact⟨h1,h2,h3,bv,sz,T,E,h4,h5,Nat.le_trans h6 hm,h7⟩
def okP (place:Int) (l:List Pr):Bool:=decide (chkP place l=0)
theorem chkP0 {place:Int} {l:List Pr} (h:chkP place l=0):okTo place l l.length/\l.length<=32:=by
 unfold chkP at h
 by_cases h1:∀ i,i < l.length->okAt place l i=true
 ·rw[if_pos h1]at h
  by_cases h2:l.length<=32
  ·exact⟨h1,h2⟩
  ·rw[if_neg h2]at h;cases h
 ·rw[if_neg h1]at h;cases h
theorem pbs_ne (l:List Pr):pbs l≠[]:=fun e=>by
 unfold pbs at e
 have h:=V.put_len (body l).length
 rw[(List.append_eq_nil_iff.1 e).1]at h
 simp at h
theorem pbs_le {place:Int} {l:List Pr} (h:chkP place l=0):(pbs l).length<=5000000:=by
 obtain⟨hok,h32⟩:=chkP0 h
 have hle:=body_le l place l.length (Nat.le_refl _) hok
 rw[List.take_of_length_le (Nat.le_refl _)]at hle
 unfold pbs
 rw[List.length_append]
 have:=V.put_len (body l).length
 omega
def PutU (place:Int) (l:List Pr) (w:World) (e:Ending) (w':World):Prop:=Below w.heap.size w w' /\
 ((okP place l=true/\∃ v,e=.returned (.tuple #[v,.nilIface])/\w'.ownsRow w.heap.size 5 1 v (pbs l).length ((pbs l).map (Value.int .u8))/\∀ j,0<=(pbs l).getD j 0/\(pbs l).getD j 0<=255) \/
  (okP place l=false/\∃ x,e=.returned (.tuple #[.slice none 0 0,.iface 62 x])/\∃ d n,d<=2/\Er w' d (.iface 62 x) n))
theorem putU_any (v:Value) (l:List Pr) (place:Int) (w:World) (h:Prp w v l) (hmx:l.length<=4398046511104) (hsm:Go.Proofs.YtccnjdgaldbgnaaGreatDoor.Small l):Calls Tryz.prog 64 #[v,.int .i64 place] w (PutU place l w):=by
 by_cases h32:l.length<=200
 ·refine (put_own v l place w h h32 hsm).mono ?_
  rintro e w' ⟨v',E,rfl,hy,hE,hb,ho,hn⟩
  refine⟨hb,?_⟩
  by_cases hc:chkP place l=0
  ·have hz:pbz place l=pbs l:=by unfold pbz;rw[if_pos hc]
   obtain⟨ho2,rfl⟩:=(uh ho) hc
   have hr:=(uh hy).range
   rw[hz]at ho2 hr
   exact .inl ⟨decide_eq_true hc,v',rfl,ho2,hr⟩
  ·obtain⟨rfl,x,rfl⟩:=(uh hn) hc
   rcases er_of_p (uh hE) with⟨h0,_⟩ | ⟨d,hd,he⟩
   ·exact absurd h0 hc
   ·exact .inr ⟨decide_eq_false hc,x,rfl,d,_,hd,he⟩
 ·refine (put_big v l place w h (by omega) hmx hsm).mono ?_
  rintro e w' ⟨x,n,rfl,hE,hb⟩
  refine⟨hb,.inr ⟨decide_eq_false (fun h=>by have:=(chkP0 h).2;omega),x,rfl,?_⟩⟩
  obtain⟨hE,hn⟩:=uh hE
  rcases er_of_p hE with⟨h0,_⟩ | ⟨d,hd,he⟩
  ·exact absurd h0 hn
  ·exact⟨d,n,hd,he⟩
theorem props_q {w0 w:World} {W:Nat} {p:Pkv} {st:Option (List Int)} {m:Nat} (h:WQ w0 w W p st m) (v:Value) (l:List Pr) (place:Int) (hP:Prp w v l) (hmx:l.length<=4398046511104) (hsm:Go.Proofs.YtccnjdgaldbgnaaGreatDoor.Small l) (hl:∀ l,st=some l->l.length≠1) (hm:m<=4611686018427387904) :
  Calls Tryz.prog 39 #[.pointer (some ⟨W,0,none⟩),v,.int .i64 place] w (QPost w0 W p (st.bind (sAdd (okP place l) (pbs l))) (m+5000000) w):=by
 have HQ:=zh h
 have HL:=zh hl
 have HP:=zh (putU_any v l place w hP hmx hsm)
 obtain⟨ao,cap,rfl⟩:=hP.form
 have hW:=h.lt
 clear h hl hP hsm
 go_enter Tryz.func39,Tryz.ntmps39
 go_wp2_with fail
 refine (uh HP).mono ?_
 rintro e w1 ⟨hb,⟨hk,v1,rfl,ho,hr⟩ | ⟨hk,x,rfl,he⟩⟩
 ·have HK:=zh hk
  have hle:=pbs_le (of_decide_eq_true hk)
  have HA:Hid (Calls Tryz.prog 63 #[.pointer (some ⟨W,0,none⟩),v1,.nilIface] w1 (QPost w0 W p (st.bind (sAdd true (pbs l))) (m+5000000) w1)):=by
   obtain⟨h1,h2,h3,bv,sz,T,E,h4,h5,h6,h7⟩:=(uh HQ).below hb
   refine (wadd_any W bv E .nilIface sz T (pbs l) v1 w1 h4 h7.ev (.inl rfl) (fun w' hx=>byt_bxw (B:=w.heap.size) ho hr hx hW) (by omega) (by omega) h5.1).mono ?_
   intro e w' hA
   rw[fst_nil h7.ev]at hA
   obtain⟨k1,k2,k3⟩:=wq_step true h4 h6 h5 h7 h1 h2 h3 hA (pbs_ne l) (fun l' e=>.inl ((uh HL) l' e))
   exact⟨k1,k2.mono (by omega),k3⟩
  have HB:=zh hb
  clear hb ho hr HP HQ hk
  go_wp2_with fail
  refine (uh HA).mono ?_
  rintro e w2 ⟨rfl,hq,hf⟩
  have HF:=zh ((FT.of_below (W:=W) (uh HB)).trans hf)
  have HQ2:=zh hq
  clear hq hf HA
  go_wp2
  go_end0
  exact⟨rfl,by rw[uh HK];exact uh HQ2,uh HF⟩
 ·have HK:=zh hk
  have HA:=zh (add_bad_q ((uh HQ).below hb) 62 x he (uh HL) hm)
  have HB:=zh hb
  clear hb he HP HQ hk
  go_wp2_with fail
  refine (uh HA).mono ?_
  rintro e w2 ⟨rfl,hq,hf⟩
  have HF:=zh ((FT.of_below (W:=W) (uh HB)).trans hf)
  have HQ2:=zh (hq.mono (show m<=m+5000000 from by omega))
  clear hq hf HA
  go_wp2
  go_end0
  exact⟨rfl,by rw[uh HK,bind_no];exact uh HQ2,uh HF⟩
theorem props_f {w0 w:World} {W:Nat} {p:Pkv} {st:Option (List Int)} {m:Nat} (h:WQ w0 w W p st m) (v:Value) (l:List Pr) (place:Int) (hP:Prp w v l) (hmx:l.length<=4398046511104) (hsm:Go.Proofs.YtccnjdgaldbgnaaGreatDoor.Small l) (hm:m<=4611686018427387904) :
  Calls Tryz.prog 39 #[.pointer (some ⟨W,0,none⟩),v,.int .i64 place] w (FPost w0 W p (st.bind (sAdd (okP place l) (pbs l))) (m+5000000) w):=by
 have HQ:=zh h
 have HP:=zh (putU_any v l place w hP hmx hsm)
 obtain⟨ao,cap,rfl⟩:=hP.form
 have hW:=h.lt
 clear h hP hsm
 go_enter Tryz.func39,Tryz.ntmps39
 go_wp2_with fail
 refine (uh HP).mono ?_
 rintro e w1 ⟨hb,⟨hk,v1,rfl,ho,hr⟩ | ⟨hk,x,rfl,he⟩⟩
 ·have HK:=zh hk
  have hle:=pbs_le (of_decide_eq_true hk)
  have HA:Hid (Calls Tryz.prog 63 #[.pointer (some ⟨W,0,none⟩),v1,.nilIface] w1 (FPost w0 W p (st.bind (sAdd true (pbs l))) (m+5000000) w1)):=by
   obtain⟨h1,h2,h3,bv,sz,T,E,h4,h5,h6,h7⟩:=(uh HQ).below hb
   refine (wadd_any W bv E .nilIface sz T (pbs l) v1 w1 h4 h7.ev (.inl rfl) (fun w' hx=>byt_bxw (B:=w.heap.size) ho hr hx hW) (by omega) (by omega) h5.1).mono ?_
   intro e w' hA
   rw[fst_nil h7.ev]at hA
   obtain⟨k1,k2,k3⟩:=wf_step true h4 h6 h5 h7 h1 h2 h3 hA
   exact⟨k1,k2.mono (by omega),k3⟩
  have HB:=zh hb
  clear hb ho hr HP HQ hk
  go_wp2_with fail
  refine (uh HA).mono ?_
  rintro e w2 ⟨rfl,hq,hf⟩
  have HF:=zh ((FT.of_below (W:=W) (uh HB)).trans hf)
  have HQ2:=zh hq
  clear hq hf HA
  go_wp2
  go_end0
  exact⟨rfl,by rw[uh HK];exact uh HQ2,uh HF⟩
 ·have HK:=zh hk
  have HA:=zh (add_bad_f ((uh HQ).below hb) 62 x he hm)
  have HB:=zh hb
  clear hb he HP HQ hk
  go_wp2_with fail
  refine (uh HA).mono ?_
  rintro e w2 ⟨rfl,hq,hf⟩
  have HF:=zh ((FT.of_below (W:=W) (uh HB)).trans hf)
  have HQ2:=zh (hq.mono (show m<=m+5000000 from by omega))
  clear hq hf HA
  go_wp2
  go_end0
  exact⟨rfl,by rw[uh HK,bind_no];exact uh HQ2,uh HF⟩
def sReason (code kind:Int) (l:List Pr) (t:List Int):Option (List Int) :=
 if l.length=0 then (if code=0 then some t else sAdd (in8 code) [code % 256] t) else (sAdd (in8 code) [code % 256] t).bind (sAdd (okP kind l) (pbs l))
def GPost (w0:World) (W:Nat) (p:Pkv) (st:Option (List Int)) (m:Nat) (e:Ending) (w':World):Prop:=e=.returned (.tuple #[])/\WF w0 w' W p st m
theorem prp_n {w:World} {s:Sl} {l:List Pr} (h:Prp w s.val l):s.n=l.length:=by
 obtain⟨ao,cap,h1,_⟩:=h
 simp only[Sl.val,Value.slice.injEq]at h1
 exact h1.2.1
theorem reason_f {w0 w:World} {W:Nat} {p:Pkv} {st:Option (List Int)} {m:Nat} (h:WQ w0 w W p st m) (l:List Pr) (hP:Prp w0 p.props.val l) (hmx:l.length<=4398046511104) (hsm:Go.Proofs.YtccnjdgaldbgnaaGreatDoor.Small l) (cd:Int) (hcd:p.code=cd) (hc:-9223372036854775808<=cd/\cd<=9223372036854775807) (hm:m<=4611686018427380000) :
  Calls Tryz.prog 44 #[.pointer (some ⟨W,0,none⟩)] w (GPost w0 W p.no_code.no_props (st.bind (sReason cd p.kind l)) (m+5000001)):=by
 have hn:=prp_n hP
 have HN:=zh hn
 have HQ:=zh h
 have HP:=zh hP
 have HCD:=zh hcd
 have hsz:=h.lt
 clear h hP hcd
 go_enter Tryz.func44,Tryz.ntmps44
 go_wp2_with fail
 refine wp_region_noPanic ?_
 refine wp_region_held_drew (S:=fun _=>True) (by kernel_rfl) trivial (fun hHeld=>?_)
 refine rtk 0 (h:=?_)
 refine rtk 1 (h:=?_)
 refine rtk 2 (h:=?_)
 refine rtk 3 (h:=?_)
 refine rtk 5 (h:=?_)
 refine rtk 6 (h:=?_)
 refine rtk 7 (h:=?_)
 refine rtk 8 (h:=?_)
 refine rcl 4 (h:=fun K hK=>?_)
 go_simp
 refine (take_code_q ((uh HQ).below (below_drewN (Below.refl _ _) 1)) cd (uh HCD)).mono ?_
 rintro e w1 ⟨rfl,hq1⟩
 have HQ1:=zh hq1
 clear hq1 HQ
 refine hK.out _ _ trivial (fun hHeld=>?_)
 clear hK K
 refine rcl 9 (h:=fun K hK=>?_)
 go_simp
 refine (take_props_q (uh HQ1) p.props rfl).mono ?_
 rintro e w2 ⟨rfl,hq2⟩
 have HQ2:=zh hq2
 clear hq2 HQ1
 refine hK.out _ _ trivial (fun hHeld=>?_)
 clear hK K
 refine rtk 10 (h:=?_)
 refine rtk 11 (h:=?_)
 refine wpAnyH_done (by kernel_rfl) ?_ _
 refine NoPanic.normal ?_
 rw[show p.props.val=.slice p.props.ao p.props.n p.props.cap from rfl,hn]
 by_cases hl0:l.length=0
 ·have HE:Hid (∀ t,sReason cd p.kind l t=if cd=0 then some t else sAdd (in8 cd) [cd % 256] t):=fun t=>by unfold sReason;rw[if_pos hl0]
  rw[hl0]
  by_cases hc0:cd=0
  ·have HF:Hid (GPost w0 W p.no_code.no_props (st.bind (sReason cd p.kind l)) (m+5000001) (.returned (.tuple #[])) w2):=by
    rw[show sReason cd p.kind l=some from funext fun t=>by rw[uh HE t,if_pos hc0]]
    refine⟨rfl,?_⟩
    have k:=(uh HQ2).wf.mono (show m<=m+5000001 from by omega)
    cases st <;> exact k
   clear HE
   subst hc0
   go_wp2
   go_end0
   exact uh HF
  ·have hcb:(cd != 0)=true:=by simpa using hc0
   go_wp2_with fail
   refine (one_q (uh HQ2) cd hc (by omega)).mono ?_
   rintro e w3 ⟨rfl,hq3,-⟩
   have HF:Hid (GPost w0 W p.no_code.no_props (st.bind (sReason cd p.kind l)) (m+5000001) (.returned (.tuple #[])) w3):=by
    rw[show sReason cd p.kind l=sAdd (in8 cd) [cd % 256] from funext fun t=>by rw[uh HE t,if_neg hc0]]
    exact⟨rfl,hq3.wf.mono (by omega)⟩
   clear hq3
   go_wp2
   go_end0
   exact uh HF
 ·have HE:Hid (∀ t,sReason cd p.kind l t=(sAdd (in8 cd) [cd % 256] t).bind (sAdd (okP p.kind l) (pbs l))):=fun t=>by unfold sReason;rw[if_neg hl0]
  have hlp:0 < l.length:=by omega
  have HS:=zh hsm
  clear hsm
  by_cases hc0:cd=0
  ·subst hc0
   go_wp2_with fail
   refine (one_q (uh HQ2) (0) hc (by omega)).mono ?_
   rintro e w3 ⟨rfl,hq3,-⟩
   have HQ3:=zh hq3
   have hk:w3.cell? ⟨W,0,none⟩=some (.int .i64 p.kind):=hq3.pk.kind
   clear hq3 HQ2
   go_wp2_with fail
   refine (props_f (uh HQ3) _ l p.kind (by rw[<- uh HN];exact (uh HP).below (uh HQ3).bel) hmx (uh HS) (by omega)).mono ?_
   rintro e w4 ⟨rfl,hq4,-⟩
   have HF:Hid (GPost w0 W p.no_code.no_props (st.bind (sReason (0) p.kind l)) (m+5000001) (.returned (.tuple #[])) w4):=by
    rw[show sReason (0) p.kind l=fun t=>(sAdd (in8 (0)) [(0) % 256] t).bind (sAdd (okP p.kind l) (pbs l)) from funext (uh HE),<- bind_bind]
    exact⟨rfl,hq4.mono (by omega)⟩
   clear hq4
   go_wp2
   go_end0
   exact uh HF
  ·have hcb:(cd != 0)=true:=by simpa using hc0
   go_wp2_with fail
   refine (one_q (uh HQ2) (cd) hc (by omega)).mono ?_
   rintro e w3 ⟨rfl,hq3,-⟩
   have HQ3:=zh hq3
   have hk:w3.cell? ⟨W,0,none⟩=some (.int .i64 p.kind):=hq3.pk.kind
   clear hq3 HQ2
   go_wp2_with fail
   refine (props_f (uh HQ3) _ l p.kind (by rw[<- uh HN];exact (uh HP).below (uh HQ3).bel) hmx (uh HS) (by omega)).mono ?_
   rintro e w4 ⟨rfl,hq4,-⟩
   have HF:Hid (GPost w0 W p.no_code.no_props (st.bind (sReason (cd) p.kind l)) (m+5000001) (.returned (.tuple #[])) w4):=by
    rw[show sReason (cd) p.kind l=fun t=>(sAdd (in8 (cd)) [(cd) % 256] t).bind (sAdd (okP p.kind l) (pbs l)) from funext (uh HE),<- bind_bind]
    exact⟨rfl,hq4.mono (by omega)⟩
   clear hq4
   go_wp2
   go_end0
   exact uh HF
def Emp (q:Pkv):Prop:=(q.dup=false/\q.retain=false/\q.clean=false/\q.session=false)/\(q.qos=0/\q.id=0/\q.keep=0/\q.code=0)/\(q.topic.size=0/\q.payload.size=0/\q.client.size=0)/\(q.props.n=0/\q.wills.n=0/\q.user.n=0/\q.pass.n=0/\q.subs.n=0/\q.filters.n=0/\q.codes.n=0)
instance (q:Pkv):Decidable (Emp q):=by unfold Emp;exact inferInstance
def emp (q:Pkv):Bool:=decide (Emp q)
structure Fit (q:Pkv):Prop where
 nums:(-9223372036854775808<=q.qos/\q.qos<=9223372036854775807)/\(-9223372036854775808<=q.id/\q.id<=9223372036854775807)/\(-9223372036854775808<=q.keep/\q.keep<=9223372036854775807)/\(-9223372036854775808<=q.code/\q.code<=9223372036854775807)
 texts:q.topic.size<=1000000000000000000/\q.payload.size<=1000000000000000000/\q.client.size<=1000000000000000000
 lists:q.props.n<=1000000000000000000/\q.wills.n<=1000000000000000000/\q.user.n<=1000000000000000000/\q.pass.n<=1000000000000000000/\q.subs.n<=1000000000000000000/\q.filters.n<=1000000000000000000/\q.codes.n<=1000000000000000000
theorem or_zero (a b:Int) (ha:-9223372036854775808<=a/\a<=9223372036854775807) (hb:-9223372036854775808<=b/\b<=9223372036854775807):bits .or .i64 a b=0 ↔ a=0/\b=0:=by
 constructor
 ·intro h
  have h':IntKind.i64.wrap ((BitVec.ofInt 64 a ||| BitVec.ofInt 64 b).toNat:Int)=0:=h
  rw[IntKind.wrap_i64]at h'
  have hlt:=(BitVec.ofInt 64 a ||| BitVec.ofInt 64 b).isLt
  have h0:(BitVec.ofInt 64 a ||| BitVec.ofInt 64 b).toNat=0:=by omega
  rw[BitVec.toNat_or]at h0
  obtain⟨ha0,hb0⟩:=Nat.or_eq_zero_iff.1 h0
  rw[BitVec.toNat_ofInt]at ha0 hb0
  omega
 ·rintro⟨rfl,rfl⟩
  rfl
theorem empty_any (q:Pkv) (hf:Fit q) (w:World):Calls Tryz.prog 46 #[q.val] w fun e w'=>e=.returned (.bool (emp q))/\Below w.heap.size w w':=by
 obtain⟨⟨f1,f2,f3,f4⟩,⟨t1,t2,t3⟩,l1,l2,l3,l4,l5,l6,l7⟩:=hf
 have HB:Hid (Below w.heap.size w (w.alloc (.cells q.cells.toArray 45))):=bal _ _
 have HPN:=zh (pk_new w q)
 have o1:=or_zero q.qos q.id f1 f2
 have r1:=or_range q.qos q.id
 have o2:=or_zero (bits .or .i64 q.qos q.id) q.keep r1 f3
 have r2:=or_range (bits .or .i64 q.qos q.id) q.keep
 have o3:=or_zero (bits .or .i64 (bits .or .i64 q.qos q.id) q.keep) q.code r2 f4
 have HE:Hid (emp q=(!(q.dup || q.retain || q.clean || q.session) && decide (bits .or .i64 (bits .or .i64 (bits .or .i64 q.qos q.id) q.keep) q.code=0) && decide (q.topic.size+q.payload.size+q.client.size=0) && decide (q.props.n+q.wills.n+q.user.n+q.pass.n+q.subs.n+q.filters.n+q.codes.n=0))):=by
  show _=_
  unfold emp
  rw[Bool.eq_iff_iff,decide_eq_true_iff]
  unfold Emp
  simp only[decide_eq_true_iff,Bool.and_eq_true,Bool.not_eq_true',Bool.or_eq_false_iff]
  rw[o3,o2,o1]
  constructor
  ·rintro⟨⟨a1,a2,a3,a4⟩,⟨b1,b2,b3,b4⟩,⟨c1,c2,c3⟩,d1,d2,d3,d4,d5,d6,d7⟩
   exact⟨⟨⟨⟨⟨⟨a1,a2⟩,a3⟩,a4⟩,⟨⟨b1,b2⟩,b3⟩,b4⟩,by omega⟩,by omega⟩
  ·rintro⟨⟨⟨⟨⟨⟨a1,a2⟩,a3⟩,a4⟩,⟨⟨b1,b2⟩,b3⟩,b4⟩,c⟩,d⟩
   exact⟨⟨a1,a2,a3,a4⟩,⟨b1,b2,b3,b4⟩,⟨by omega,by omega,by omega⟩,by omega,by omega,by omega,by omega,by omega,by omega,by omega⟩
 clear o1 o2 o3 r1 r2 f1 f2 f3 f4
 obtain⟨k0,k1,k2,k3,k4,k5,k6,k7,k8,k9,k10,k11,k12,k13,k14,k15,k16,k17,k18⟩:=(⟨(uh HPN).kind,(uh HPN).dup,(uh HPN).qos,(uh HPN).retain,(uh HPN).topic,(uh HPN).id,(uh HPN).payload,(uh HPN).props,(uh HPN).client,(uh HPN).clean,(uh HPN).keep,(uh HPN).wills,(uh HPN).user,(uh HPN).pass,(uh HPN).code,(uh HPN).session,(uh HPN).subs,(uh HPN).filters,(uh HPN).codes⟩:_/\_/\_/\_/\_/\_/\_/\_/\_/\_/\_/\_/\_/\_/\_/\_/\_/\_/\_)
 clear HPN k0
 go_enter Tryz.func46,Tryz.ntmps46
 go_upto_region 1 with fail
 change Code.wp _ _ _ _ (w.alloc (.cells q.cells.toArray 45))
 generalize w.alloc (.cells q.cells.toArray 45)=w1 at *
 generalize hN:bits .or .i64 (bits .or .i64 (bits .or .i64 q.qos q.id) q.keep) q.code=N at HE
 generalize q.dup=b1 at k1 HE
 generalize q.retain=b2 at k3 HE
 generalize q.clean=b3 at k9 HE
 generalize q.session=b4 at k15 HE
 cases b1
 ·cases b2
  ·cases b3
   ·cases b4
    ·by_cases hn:N=0
     ·subst hn
      by_cases ht:q.topic.size+q.payload.size+q.client.size=0
      ·have ht':((q.topic.size:Int)+(q.payload.size:Int)+(q.client.size:Int) == 0)=true:=by simp;omega
       by_cases hl:q.props.n+q.wills.n+q.user.n+q.pass.n+q.subs.n+q.filters.n+q.codes.n=0
       ·have hl':((q.props.n:Int)+(q.wills.n:Int)+(q.user.n:Int)+(q.pass.n:Int)+(q.subs.n:Int)+(q.filters.n:Int)+(q.codes.n:Int) == 0)=true:=by simp;omega
        have HR:Hid (emp q=true):=by show _=_;rw[uh HE,ht,hl];rfl
        clear HE ht hl
        go_wp2
        go_ret
        exact⟨by rw[uh HR];rfl,uh HB⟩
       ·have hl':((q.props.n:Int)+(q.wills.n:Int)+(q.user.n:Int)+(q.pass.n:Int)+(q.subs.n:Int)+(q.filters.n:Int)+(q.codes.n:Int) == 0)=false:=by simp;omega
        have HR:Hid (emp q=false):=by show _=_;rw[uh HE,ht,decide_eq_false hl];rfl
        clear HE ht hl
        go_wp2
        go_ret
        exact⟨by rw[uh HR];rfl,uh HB⟩
      ·have ht':((q.topic.size:Int)+(q.payload.size:Int)+(q.client.size:Int) == 0)=false:=by simp;omega
       have HR:Hid (emp q=false):=by show _=_;rw[uh HE,decide_eq_false ht];rfl
       clear HE ht
       go_wp2
       go_ret
       exact⟨by rw[uh HR];rfl,uh HB⟩
     ·have hn':(N == 0)=false:=beq_false_of_ne hn
      have HR:Hid (emp q=false):=by show _=_;rw[uh HE,decide_eq_false hn];rfl
      clear HE hn
      go_wp2
      go_ret
      exact⟨by rw[uh HR];rfl,uh HB⟩
    ·have HR:Hid (emp q=false):=by show _=_;rw[uh HE];rfl
     clear HE
     go_wp2
     go_ret
     exact⟨by rw[uh HR];rfl,uh HB⟩
   ·have HR:Hid (emp q=false):=by show _=_;rw[uh HE];rfl
    clear HE
    go_wp2
    go_ret
    exact⟨by rw[uh HR];rfl,uh HB⟩
  ·have HR:Hid (emp q=false):=by show _=_;rw[uh HE];rfl
   clear HE
   go_wp2
   go_ret
   exact⟨by rw[uh HR];rfl,uh HB⟩
 ·have HR:Hid (emp q=false):=by show _=_;rw[uh HE];rfl
  clear HE
  go_wp2
  go_ret
  exact⟨by rw[uh HR];rfl,uh HB⟩
theorem Fit.no_qos {q:Pkv} (h:Fit q):Fit q.no_qos:=by
 obtain⟨⟨a1,a2,a3,a4⟩,⟨b1,b2,b3⟩,c1,c2,c3,c4,c5,c6,c7⟩:=h
 refine⟨⟨?_,?_,?_,?_⟩,⟨?_,?_,?_⟩,?_,?_,?_,?_,?_,?_,?_⟩ <;> first | assumption | exact Nat.zero_le _ | exact (show (-9223372036854775808:Int)<=0/\(0:Int)<=9223372036854775807 from ⟨by decide,by decide⟩)
theorem Fit.no_topic {q:Pkv} (h:Fit q):Fit q.no_topic:=by
 obtain⟨⟨a1,a2,a3,a4⟩,⟨b1,b2,b3⟩,c1,c2,c3,c4,c5,c6,c7⟩:=h
 refine⟨⟨?_,?_,?_,?_⟩,⟨?_,?_,?_⟩,?_,?_,?_,?_,?_,?_,?_⟩ <;> first | assumption | exact Nat.zero_le _ | exact (show (-9223372036854775808:Int)<=0/\(0:Int)<=9223372036854775807 from ⟨by decide,by decide⟩)
theorem Fit.no_id {q:Pkv} (h:Fit q):Fit q.no_id:=by
 obtain⟨⟨a1,a2,a3,a4⟩,⟨b1,b2,b3⟩,c1,c2,c3,c4,c5,c6,c7⟩:=h
 refine⟨⟨?_,?_,?_,?_⟩,⟨?_,?_,?_⟩,?_,?_,?_,?_,?_,?_,?_⟩ <;> first | assumption | exact Nat.zero_le _ | exact (show (-9223372036854775808:Int)<=0/\(0:Int)<=9223372036854775807 from ⟨by decide,by decide⟩)
theorem Fit.no_payload {q:Pkv} (h:Fit q):Fit q.no_payload:=by
 obtain⟨⟨a1,a2,a3,a4⟩,⟨b1,b2,b3⟩,c1,c2,c3,c4,c5,c6,c7⟩:=h
 refine⟨⟨?_,?_,?_,?_⟩,⟨?_,?_,?_⟩,?_,?_,?_,?_,?_,?_,?_⟩ <;> first | assumption | exact Nat.zero_le _ | exact (show (-9223372036854775808:Int)<=0/\(0:Int)<=9223372036854775807 from ⟨by decide,by decide⟩)
theorem Fit.no_props {q:Pkv} (h:Fit q):Fit q.no_props:=by
 obtain⟨⟨a1,a2,a3,a4⟩,⟨b1,b2,b3⟩,c1,c2,c3,c4,c5,c6,c7⟩:=h
 refine⟨⟨?_,?_,?_,?_⟩,⟨?_,?_,?_⟩,?_,?_,?_,?_,?_,?_,?_⟩ <;> first | assumption | exact Nat.zero_le _ | exact (show (-9223372036854775808:Int)<=0/\(0:Int)<=9223372036854775807 from ⟨by decide,by decide⟩)
theorem Fit.no_client {q:Pkv} (h:Fit q):Fit q.no_client:=by
 obtain⟨⟨a1,a2,a3,a4⟩,⟨b1,b2,b3⟩,c1,c2,c3,c4,c5,c6,c7⟩:=h
 refine⟨⟨?_,?_,?_,?_⟩,⟨?_,?_,?_⟩,?_,?_,?_,?_,?_,?_,?_⟩ <;> first | assumption | exact Nat.zero_le _ | exact (show (-9223372036854775808:Int)<=0/\(0:Int)<=9223372036854775807 from ⟨by decide,by decide⟩)
theorem Fit.no_keep {q:Pkv} (h:Fit q):Fit q.no_keep:=by
 obtain⟨⟨a1,a2,a3,a4⟩,⟨b1,b2,b3⟩,c1,c2,c3,c4,c5,c6,c7⟩:=h
 refine⟨⟨?_,?_,?_,?_⟩,⟨?_,?_,?_⟩,?_,?_,?_,?_,?_,?_,?_⟩ <;> first | assumption | exact Nat.zero_le _ | exact (show (-9223372036854775808:Int)<=0/\(0:Int)<=9223372036854775807 from ⟨by decide,by decide⟩)
theorem Fit.no_wills {q:Pkv} (h:Fit q):Fit q.no_wills:=by
 obtain⟨⟨a1,a2,a3,a4⟩,⟨b1,b2,b3⟩,c1,c2,c3,c4,c5,c6,c7⟩:=h
 refine⟨⟨?_,?_,?_,?_⟩,⟨?_,?_,?_⟩,?_,?_,?_,?_,?_,?_,?_⟩ <;> first | assumption | exact Nat.zero_le _ | exact (show (-9223372036854775808:Int)<=0/\(0:Int)<=9223372036854775807 from ⟨by decide,by decide⟩)
theorem Fit.no_user {q:Pkv} (h:Fit q):Fit q.no_user:=by
 obtain⟨⟨a1,a2,a3,a4⟩,⟨b1,b2,b3⟩,c1,c2,c3,c4,c5,c6,c7⟩:=h
 refine⟨⟨?_,?_,?_,?_⟩,⟨?_,?_,?_⟩,?_,?_,?_,?_,?_,?_,?_⟩ <;> first | assumption | exact Nat.zero_le _ | exact (show (-9223372036854775808:Int)<=0/\(0:Int)<=9223372036854775807 from ⟨by decide,by decide⟩)
theorem Fit.no_pass {q:Pkv} (h:Fit q):Fit q.no_pass:=by
 obtain⟨⟨a1,a2,a3,a4⟩,⟨b1,b2,b3⟩,c1,c2,c3,c4,c5,c6,c7⟩:=h
 refine⟨⟨?_,?_,?_,?_⟩,⟨?_,?_,?_⟩,?_,?_,?_,?_,?_,?_,?_⟩ <;> first | assumption | exact Nat.zero_le _ | exact (show (-9223372036854775808:Int)<=0/\(0:Int)<=9223372036854775807 from ⟨by decide,by decide⟩)
theorem Fit.no_code {q:Pkv} (h:Fit q):Fit q.no_code:=by
 obtain⟨⟨a1,a2,a3,a4⟩,⟨b1,b2,b3⟩,c1,c2,c3,c4,c5,c6,c7⟩:=h
 refine⟨⟨?_,?_,?_,?_⟩,⟨?_,?_,?_⟩,?_,?_,?_,?_,?_,?_,?_⟩ <;> first | assumption | exact Nat.zero_le _ | exact (show (-9223372036854775808:Int)<=0/\(0:Int)<=9223372036854775807 from ⟨by decide,by decide⟩)
theorem Fit.no_session {q:Pkv} (h:Fit q):Fit q.no_session:=by
 obtain⟨⟨a1,a2,a3,a4⟩,⟨b1,b2,b3⟩,c1,c2,c3,c4,c5,c6,c7⟩:=h
 refine⟨⟨?_,?_,?_,?_⟩,⟨?_,?_,?_⟩,?_,?_,?_,?_,?_,?_,?_⟩ <;> first | assumption | exact Nat.zero_le _ | exact (show (-9223372036854775808:Int)<=0/\(0:Int)<=9223372036854775807 from ⟨by decide,by decide⟩)
theorem Fit.no_subs {q:Pkv} (h:Fit q):Fit q.no_subs:=by
 obtain⟨⟨a1,a2,a3,a4⟩,⟨b1,b2,b3⟩,c1,c2,c3,c4,c5,c6,c7⟩:=h
 refine⟨⟨?_,?_,?_,?_⟩,⟨?_,?_,?_⟩,?_,?_,?_,?_,?_,?_,?_⟩ <;> first | assumption | exact Nat.zero_le _ | exact (show (-9223372036854775808:Int)<=0/\(0:Int)<=9223372036854775807 from ⟨by decide,by decide⟩)
theorem Fit.no_filters {q:Pkv} (h:Fit q):Fit q.no_filters:=by
 obtain⟨⟨a1,a2,a3,a4⟩,⟨b1,b2,b3⟩,c1,c2,c3,c4,c5,c6,c7⟩:=h
 refine⟨⟨?_,?_,?_,?_⟩,⟨?_,?_,?_⟩,?_,?_,?_,?_,?_,?_,?_⟩ <;> first | assumption | exact Nat.zero_le _ | exact (show (-9223372036854775808:Int)<=0/\(0:Int)<=9223372036854775807 from ⟨by decide,by decide⟩)
theorem Fit.no_codes {q:Pkv} (h:Fit q):Fit q.no_codes:=by
 obtain⟨⟨a1,a2,a3,a4⟩,⟨b1,b2,b3⟩,c1,c2,c3,c4,c5,c6,c7⟩:=h
 refine⟨⟨?_,?_,?_,?_⟩,⟨?_,?_,?_⟩,?_,?_,?_,?_,?_,?_,?_⟩ <;> first | assumption | exact Nat.zero_le _ | exact (show (-9223372036854775808:Int)<=0/\(0:Int)<=9223372036854775807 from ⟨by decide,by decide⟩)
theorem Fit.no_dup {q:Pkv} (h:Fit q):Fit q.no_dup:=by
 obtain⟨⟨a1,a2,a3,a4⟩,⟨b1,b2,b3⟩,c1,c2,c3,c4,c5,c6,c7⟩:=h
 refine⟨⟨?_,?_,?_,?_⟩,⟨?_,?_,?_⟩,?_,?_,?_,?_,?_,?_,?_⟩ <;> first | assumption | exact Nat.zero_le _ | exact (show (-9223372036854775808:Int)<=0/\(0:Int)<=9223372036854775807 from ⟨by decide,by decide⟩)
theorem Fit.no_retain {q:Pkv} (h:Fit q):Fit q.no_retain:=by
 obtain⟨⟨a1,a2,a3,a4⟩,⟨b1,b2,b3⟩,c1,c2,c3,c4,c5,c6,c7⟩:=h
 refine⟨⟨?_,?_,?_,?_⟩,⟨?_,?_,?_⟩,?_,?_,?_,?_,?_,?_,?_⟩ <;> first | assumption | exact Nat.zero_le _ | exact (show (-9223372036854775808:Int)<=0/\(0:Int)<=9223372036854775807 from ⟨by decide,by decide⟩)
theorem Fit.no_clean {q:Pkv} (h:Fit q):Fit q.no_clean:=by
 obtain⟨⟨a1,a2,a3,a4⟩,⟨b1,b2,b3⟩,c1,c2,c3,c4,c5,c6,c7⟩:=h
 refine⟨⟨?_,?_,?_,?_⟩,⟨?_,?_,?_⟩,?_,?_,?_,?_,?_,?_,?_⟩ <;> first | assumption | exact Nat.zero_le _ | exact (show (-9223372036854775808:Int)<=0/\(0:Int)<=9223372036854775807 from ⟨by decide,by decide⟩)
theorem WF.below {w0 w w':World} {W:Nat} {p:Pkv} {st:Option (List Int)} {m:Nat} (h:WF w0 w W p st m) (hb:Below w.heap.size w w'):WF w0 w' W p st m:=by
 obtain⟨h1,h2,h3,bv,sz,T,E,h4,h5,h6,h7⟩:=h
 refine⟨h1.trans (hb.mono h1.size),h2,h3.below hb,bv,sz,T,E,h4.below hb,h5,h6,?_⟩
 cases st with
 | none=>obtain⟨d,n,hd,he⟩:=h7;exact⟨d,n,hd,ErO.bx (X:=fun b=>b=W) (may:=isAny) (BX.of_below hb (cell_lt h3.kind)) rfl he⟩
 | some l=>exact h7
theorem SgF.ev {w:World} {W:Nat} {sz:Nat} {T:List Int} {E:Value} {st:Option (List Int)} (h:SgF w W sz T E st):EV E:=by
 cases st with
 | none=>obtain⟨d,n,hd,he⟩:=h;exact .inr he.iface
 | some l=>exact .inl h.1
theorem must_f {w0 w:World} {W:Nat} {p:Pkv} {st:Option (List Int)} {m:Nat} (h:WF w0 w W p st m) (c:Bool):Calls Tryz.prog 45 #[.pointer (some ⟨W,0,none⟩),.bool c] w (GPost w0 W p (st.bind (sMust c)) m):=by
 obtain⟨h1,h2,h3,bv,sz,T,E,h4,h5,h6,h7⟩:=h
 refine (wmust_gen W bv E sz c w h4.wt h7.ev).mono ?_
 rintro r w' ⟨rfl,k1,k2,k3⟩
 have hF:FW W bv.ownBlock w w':=FW.of_bx k2 (fun j (e:j=21)=>by subst e;decide)
 refine⟨rfl,hF.below h1 h2 (fun g e=>by have:=ws_rows h4 g e;omega),h2,h3.fw hF,bv,sz,T,_,h4.bx k2 k1,h5,h6,?_⟩
 cases st with
 | none =>
  obtain⟨d,n,hd,he⟩:=h7
  obtain⟨t,x,rfl⟩:=he.iface
  rw[mst_if]
  exact⟨d,n,hd,ErO.bx (X:=fun b=>b=W) k2 rfl he⟩
 | some l =>
  obtain⟨rfl,k⟩:=h7
  cases c
  ·exact⟨0,1,by omega,rfl⟩
  ·exact⟨rfl,k⟩
end Go.Proofs.YtccnjdgaldbgnaaGreatDoor.K
