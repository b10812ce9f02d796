/- Proved here: helpers, one text behind the other. -/
import Derived.Test.YtpheelbbpiieiaaGreatDoorZC21
import Derived.Test.YtpheelbbpiieiaaGreatDoorZC7
import Derived.Test.YtpheelbbpiieiaaGreatDoorZC18
import Derived.Handy
import Derived.Test.YtpheelbbpiieiaaGreatDoorZC8
import Derived.Deep.RegionHeld3
set_option maxHeartbeats 20000000
namespace Go.Proofs.YtpheelbbpiieiaaGreatDoor.K
open Go.RowKit
structure Wl where
 topic:ByteArray
 payload:ByteArray
 qos:Int
 retain:Bool
 props:List Pr
structure Pa where
 kind:Int
 dup:Bool
 qos:Int
 retain:Bool
 topic:ByteArray
 id:Int
 payload:ByteArray
 props:List Pr
 client:ByteArray
 clean:Bool
 keep:Int
 wills:List Wl
 user:List ByteArray
 pass:List ByteArray
 code:Int
 session:Bool
 subs:List Sb
 filters:List ByteArray
 codes:List Int
def pa0 (kind:Int) (dup:Bool) (qos:Int) (retain:Bool):Pa:=⟨kind,dup,qos,retain,⟨#[]⟩,0,⟨#[]⟩,[],⟨#[]⟩,false,0,[],[],[],0,false,[],[],[]⟩
abbrev sl0:Sl:=⟨none,0,0⟩
def pk0 (kind:Int) (dup:Bool) (qos:Int) (retain:Bool):Pkv:=⟨kind,dup,qos,retain,⟨#[]⟩,0,⟨#[]⟩,sl0,⟨#[]⟩,false,0,sl0,sl0,sl0,0,false,sl0,sl0,sl0⟩
def Ws (w:World) (B:Nat) (ws:List Wv) (us:List Wl):Prop:=ws.length=us.length/\∀ (i:Nat) (a:Wv) (b:Wl),ws[i]?=some a->us[i]?=some b->a.topic=b.topic/\a.payload=b.payload/\a.qos=b.qos/\a.retain=b.retain/\w.ownsRow B 109 4 a.props.val b.props.length (pcs b.props)
structure Mean (w:World) (B:Nat) (p:Pkv) (P:Pa):Prop where
 sc:p.kind=P.kind/\p.dup=P.dup/\p.qos=P.qos/\p.retain=P.retain/\p.topic=P.topic/\p.id=P.id/\p.payload=P.payload/\p.client=P.client/\p.clean=P.clean/\p.keep=P.keep/\p.code=P.code/\p.session=P.session
 props:w.ownsRow B 109 4 p.props.val P.props.length (pcs P.props)
 wills:∃ ws,w.ownsRow B 112 5 p.wills.val P.wills.length (wcs ws)/\Ws w B ws P.wills
 user:w.ownsRow B 9 1 p.user.val P.user.length (P.user.map Value.string)
 pass:w.ownsRow B 9 1 p.pass.val P.pass.length (P.pass.map Value.string)
 subs:w.ownsRow B 114 5 p.subs.val P.subs.length (scs P.subs)
 filters:w.ownsRow B 9 1 p.filters.val P.filters.length (P.filters.map Value.string)
 codes:w.ownsRow B 3 1 p.codes.val P.codes.length (P.codes.map (Value.int .i64))
theorem row0 (w:World) (B:Nat) (e:TypeId) (s:Nat):w.ownsRow B e s sl0.val 0 []:=World.ownsRow_nil _ _ _ _
theorem wills0 (w:World) (B:Nat):∃ ws,w.ownsRow B 112 5 sl0.val 0 (wcs ws)/\Ws w B ws []:=⟨[],World.ownsRow_nil _ _ _ _,rfl,fun i a b h=>by simp at h⟩
theorem row_str {w:World} {B R U:Nat} {b:Bool} {us:Option ByteArray} (h:StrAt B R w b U us):w.ownsRow B 9 1 (isW U b).val us.toList.length (us.toList.map Value.string):=by
 cases b
 ·rw[h.1 rfl]
  exact row0 _ _ _ _
 ·obtain⟨t,rfl,h2,h3,h4,h5⟩:=h.2 rfl
  exact⟨rfl,.inr ⟨U,1,_,rfl,h2,h5,Nat.le_refl _,by unfold maxLen;simp,rfl,rfl⟩⟩
def wlOf (x:Int) (wl:Option (List Pr×ByteArray×ByteArray)):List Wl:=match wl with
 | none=>[]
 | some (q,t,y)=>[⟨t,y,x / 8 % 4,btest x 32,q⟩]
theorem row_will {w:World} {B N R V:Nat} {x:Int} {wl:Option (List Pr×ByteArray×ByteArray)} (h:WillAt B N R w x V wl) (hN:B<=N):∃ ws,w.ownsRow B 112 5 (isW V (btest x 4)).val (wlOf x wl).length (wcs ws)/\Ws w B ws (wlOf x wl):=by
 cases hb:btest x 4
 ·rw[h.1 hb]
  exact wills0 _ _
 ·obtain⟨q,t,y,tq,rfl,h2,h3,h4,h5,h6⟩:=h.2 hb
  refine⟨[⟨t,y,x / 8 % 4,btest x 32,tq⟩],⟨rfl,.inr ⟨V,1,_,rfl,h2,h5,Nat.le_refl _,by unfold maxLen;simp,rfl,rfl⟩⟩,rfl,fun i a b ha hb=>?_⟩
  match i,ha,hb with
  | 0,ha,hb =>
   simp[wlOf]at ha hb
   subst ha hb
   exact⟨rfl,rfl,rfl,rfl,owns_mono h6 hN⟩
  | i+1,ha,_=>simp at ha
def endR (l:List Int):Option (Unit×List Int):=if l.length=0 then some ((),l) else none
def ofCn (P:Pa) (n:Cn):Pa:={ P with clean:=btest n.x 2,keep:=n.keep,props:=n.props,client:=n.client,wills:=wlOf n.x n.will,user:=n.user.toList,pass:=n.pass.toList }
def body? (P:Pa):List Int->Option (Pa×List Int) :=
 if P.kind=1 then bindR connect? fun n=>pureR (ofCn P n)
 else if P.kind=2 then bindR one? fun f=>bindR (mustR (decide (f<=1))) fun _=>bindR one? fun c=>bindR (props? 2) fun x=>pureR { P with session:=f == 1,code:=c,props:=x }
 else if P.kind=3 then bindR (publish? P.qos) fun r=>pureR { P with topic:=r.1,id:=r.2.1,props:=r.2.2.1,payload:=r.2.2.2 }
 else if P.kind=8 then bindR id? fun i=>bindR (props? P.kind) fun x=>bindR (list? sub?) fun d=>pureR { P with id:=i,props:=x,subs:=d }
 else if P.kind=10 then bindR id? fun i=>bindR (props? P.kind) fun x=>bindR (list? text?) fun d=>pureR { P with id:=i,props:=x,filters:=d }
 else if P.kind=9\/P.kind=11 then bindR id? fun i=>bindR (props? P.kind) fun x=>bindR (list? one?) fun d=>pureR { P with id:=i,props:=x,codes:=d }
 else if P.kind=4\/P.kind=5\/P.kind=6\/P.kind=7 then bindR id? fun i=>bindR (reason? P.kind) fun r=>pureR { P with id:=i,code:=r.1,props:=r.2 }
 else if P.kind=14\/P.kind=15 then bindR (reason? P.kind) fun r=>pureR { P with code:=r.1,props:=r.2 }
 else pureR P
def packet? (P:Pa):List Int->Option (Pa×List Int):=bindR (body? P) fun P'=>bindR endR fun _=>pureR P'
theorem stp_end {st:Option (List Int)} {n:Nat} (h:∀ l,st=some l->l.length=n) (b:Bool) (hb:b=decide (n=0)):Stp endR st () (if b then st else none):=by
 cases st with
 | none=>cases b <;> rfl
 | some l =>
  have:=h l rfl
  subst hb
  unfold Stp endR
  by_cases hn:n=0
  ·simp[hn,this]
  ·simp[hn,this]
set_option maxRecDepth 100000
theorem sh16 (x:Int) (h0:0<=x) (h1:x<=255):x >>> 4=x / 16:=byte_cases (P:=fun x=>x >>> 4=x / 16) (by decide +kernel) x h0 h1
theorem and15 (x:Int) (h0:0<=x) (h1:x<=255):bits .and .i64 x 15=x % 16:=byte_cases (P:=fun x=>bits .and .i64 x 15=x % 16) (by decide +kernel) x h0 h1
theorem and8' (x:Int) (h0:0<=x) (h1:x<=255):(bits .and .i64 (x % 16) 8 != 0)=btest x 8:=byte_cases (P:=fun x=>(bits .and .i64 (x % 16) 8 != 0)=btest x 8) (by decide +kernel) x h0 h1
theorem and1' (x:Int) (h0:0<=x) (h1:x<=255):(bits .and .i64 (x % 16) 1 != 0)=btest x 1:=byte_cases (P:=fun x=>(bits .and .i64 (x % 16) 1 != 0)=btest x 1) (by decide +kernel) x h0 h1
theorem shq' (x:Int) (h0:0<=x) (h1:x<=255):bits .and .i64 (x % 16 / 2) 3=x / 2 % 4:=byte_cases (P:=fun x=>bits .and .i64 (x % 16 / 2) 3=x / 2 % 4) (by decide +kernel) x h0 h1
def bpk (b:Int):Pkv:=if b / 16=3 then pk0 3 (btest b 8) (b / 2 % 4) (btest b 1) else pk0 (b / 16) false 0 false
def bpa (b:Int):Pa:=if b / 16=3 then pa0 3 (btest b 8) (b / 2 % 4) (btest b 1) else pa0 (b / 16) false 0 false
def bfl (b:Int):Int:=if b / 16=3 then pfl (btest b 8) (b / 2 % 4) (btest b 1) else if b / 16=6\/b / 16=8\/b / 16=10 then 2 else 0
def bmay (b:Int):Bool:=if b / 16=3 then pok (btest b 8) (b / 2 % 4) else if b / 16=6\/b / 16=8\/b / 16=10 then true else decide (1<=b / 16) && decide (b / 16<=15)
def bok (b:Int):Bool:=bmay b && (bfl b == b % 16)
theorem flagsOf_b (b:Int) (w:World):Calls Tryz.prog 49 #[(bpk b).val] w fun e w'=>e=.returned (.tuple #[.int .i64 (bfl b),.bool (bmay b)])/\Below w.heap.size w w':=by
 unfold bfl bmay bpk
 by_cases h3:b / 16=3
 ·simp only[if_pos h3]
  exact flagsOf_pub _ w rfl
 ·simp only[if_neg h3]
  by_cases h6:b / 16=6\/b / 16=8\/b / 16=10
  ·simp only[if_pos h6]
   exact flagsOf_fixed _ w h6
  ·simp only[if_neg h6]
   exact flagsOf_other _ w h3 (fun e=>h6 (.inl e)) (fun e=>h6 (.inr (.inl e))) (fun e=>h6 (.inr (.inr e)))
theorem begin_any (b:Int) (h0:0<=b) (h1:b<=255) (w:World):Calls Tryz.prog 26 #[.int .i64 b] w fun e w'=>e=.returned (.tuple #[(bpk b).val,.bool (bok b)])/\Below w.heap.size w w':=by
 have k1:=sh16 b h0 h1
 have k2:=and15 b h0 h1
 have k3:=and8' b h0 h1
 have k4:=and1' b h0 h1
 have k5:=shq' b h0 h1
 by_cases h3:b / 16=3
 ·have e1:bpk b=pk0 3 (btest b 8) (b / 2 % 4) (btest b 1):=if_pos h3
  have HE:=zh e1
  clear e1
  have HPN:=zh (pk_new w (pk0 3 (btest b 8) (b / 2 % 4) (btest b 1)))
  have hbN:Hid (Below w.heap.size w (w.alloc (.cells (pk0 3 (btest b 8) (b / 2 % 4) (btest b 1)).cells.toArray 29))):=bal _ _
  have HFL:Hid (∀ W:World,Calls Tryz.prog 49 #[.agg (pk0 3 (btest b 8) (b / 2 % 4) (btest b 1)).cells.toArray] W fun e w'=>e=.returned (.tuple #[.int .i64 (bfl b),.bool (bmay b)])/\Below W.heap.size W w'):=fun W=>by
   have k:=flagsOf_b b W
   rw[uh HE]at k
   exact k
  have HR:Hid (∀ mb fl,bmay b=mb->bfl b=fl->bok b=(mb && (fl == b % 16))):=fun mb fl e1 e2=>by rw[<- e1,<- e2];rfl
  generalize hfl:bfl b=fl at HFL
  generalize hmb:bmay b=mb at HFL
  have HOK:=zh ((uh HR) mb fl hmb hfl)
  clear hfl hmb HR
  go_enter Tryz.func26,Tryz.ntmps26
  go_upto_region 6 with fail
  go_step
  refine wpList_load_mid rfl 29 _ rfl w.heap.size 0 rfl (pk0 3 (btest b 8) (b / 2 % 4) (btest b 1)).cells _ (uh HPN).range Tryz.underlying29 rfl packet_size ?_
  simp only[Act.put,List.setIfInBounds_toArray,List.set_cons_zero,List.set_cons_succ]
  go_wp2_with fail
  refine ((uh HFL) _).mono ?_
  rintro e w1 ⟨rfl,hb1⟩
  have HP1:=zh ((uh HPN).below hb1)
  have HB1:Hid (Below w.heap.size w w1):=(uh hbN).trans (hb1.mono (uh hbN).size)
  clear hb1 hbN HPN HFL
  cases mb
  ·go_upto_region 7 with fail
   go_step
   refine wpList_load_mid rfl 29 _ rfl w.heap.size 0 rfl (pk0 3 (btest b 8) (b / 2 % 4) (btest b 1)).cells _ (uh HP1).range Tryz.underlying29 rfl packet_size ?_
   simp only[Act.put,List.setIfInBounds_toArray,List.set_cons_zero,List.set_cons_succ]
   ((iterate 6 go_step);go_skip;(iterate 3 go_step))
   refine wpList_store_mid rfl 29 _ _ rfl w.heap.size 0 (pk0 3 (btest b 8) (b / 2 % 4) (btest b 1)).cells.toArray rfl rfl ((uh HP1).there _) packet_size (Pkv.ones' _) ?_
   simp only[Act.put]
   have HPS:=zh ((uh HP1).stored (pk0 3 (btest b 8) (b / 2 % 4) (btest b 1)))
   have HBS:Hid (Below w.heap.size w (w1.setCells w.heap.size 0 (pk0 3 (btest b 8) (b / 2 % 4) (btest b 1)).cells)):=setCells_below (uh HB1) (Nat.le_refl _)
   generalize w1.setCells w.heap.size 0 (pk0 3 (btest b 8) (b / 2 % 4) (btest b 1)).cells=w2 at HPS HBS |-
   go_wp2
   refine bodyPost_ret (res_pk2 (B:=w.heap.size) (q:=(pk0 3 (btest b 8) (b / 2 % 4) (btest b 1))) rfl rfl (uh HPS)) rfl ?_
   exact⟨by rw[uh HOK,uh HE];rfl,uh HBS⟩
  ·go_upto_region 7 with fail
   go_step
   refine wpList_load_mid rfl 29 _ rfl w.heap.size 0 rfl (pk0 3 (btest b 8) (b / 2 % 4) (btest b 1)).cells _ (uh HP1).range Tryz.underlying29 rfl packet_size ?_
   simp only[Act.put,List.setIfInBounds_toArray,List.set_cons_zero,List.set_cons_succ]
   iterate 15 go_step
   refine wpList_store_mid rfl 29 _ _ rfl w.heap.size 0 (pk0 3 (btest b 8) (b / 2 % 4) (btest b 1)).cells.toArray rfl rfl ((uh HP1).there _) packet_size (Pkv.ones' _) ?_
   simp only[Act.put]
   have HPS:=zh ((uh HP1).stored (pk0 3 (btest b 8) (b / 2 % 4) (btest b 1)))
   have HBS:Hid (Below w.heap.size w (w1.setCells w.heap.size 0 (pk0 3 (btest b 8) (b / 2 % 4) (btest b 1)).cells)):=setCells_below (uh HB1) (Nat.le_refl _)
   generalize w1.setCells w.heap.size 0 (pk0 3 (btest b 8) (b / 2 % 4) (btest b 1)).cells=w2 at HPS HBS |-
   go_wp2
   refine bodyPost_ret (res_pk2 (B:=w.heap.size) (q:=(pk0 3 (btest b 8) (b / 2 % 4) (btest b 1))) rfl rfl (uh HPS)) rfl ?_
   exact⟨by rw[uh HOK,uh HE];rfl,uh HBS⟩
 ·have e1:bpk b=pk0 (b / 16) false 0 false:=if_neg h3
  have HE:=zh e1
  clear e1
  have HPN:=zh (pk_new w (pk0 (b / 16) false 0 false))
  have hbN:Hid (Below w.heap.size w (w.alloc (.cells (pk0 (b / 16) false 0 false).cells.toArray 29))):=bal _ _
  have HFL:Hid (∀ W:World,Calls Tryz.prog 49 #[.agg (pk0 (b / 16) false 0 false).cells.toArray] W fun e w'=>e=.returned (.tuple #[.int .i64 (bfl b),.bool (bmay b)])/\Below W.heap.size W w'):=fun W=>by
   have k:=flagsOf_b b W
   rw[uh HE]at k
   exact k
  have HR:Hid (∀ mb fl,bmay b=mb->bfl b=fl->bok b=(mb && (fl == b % 16))):=fun mb fl e1 e2=>by rw[<- e1,<- e2];rfl
  generalize hfl:bfl b=fl at HFL
  generalize hmb:bmay b=mb at HFL
  have HOK:=zh ((uh HR) mb fl hmb hfl)
  clear hfl hmb HR
  go_enter Tryz.func26,Tryz.ntmps26
  go_upto_region 6 with fail
  go_step
  refine wpList_load_mid rfl 29 _ rfl w.heap.size 0 rfl (pk0 (b / 16) false 0 false).cells _ (uh HPN).range Tryz.underlying29 rfl packet_size ?_
  simp only[Act.put,List.setIfInBounds_toArray,List.set_cons_zero,List.set_cons_succ]
  go_wp2_with fail
  refine ((uh HFL) _).mono ?_
  rintro e w1 ⟨rfl,hb1⟩
  have HP1:=zh ((uh HPN).below hb1)
  have HB1:Hid (Below w.heap.size w w1):=(uh hbN).trans (hb1.mono (uh hbN).size)
  clear hb1 hbN HPN HFL
  cases mb
  ·go_upto_region 7 with fail
   go_step
   refine wpList_load_mid rfl 29 _ rfl w.heap.size 0 rfl (pk0 (b / 16) false 0 false).cells _ (uh HP1).range Tryz.underlying29 rfl packet_size ?_
   simp only[Act.put,List.setIfInBounds_toArray,List.set_cons_zero,List.set_cons_succ]
   ((iterate 6 go_step);go_skip;(iterate 3 go_step))
   refine wpList_store_mid rfl 29 _ _ rfl w.heap.size 0 (pk0 (b / 16) false 0 false).cells.toArray rfl rfl ((uh HP1).there _) packet_size (Pkv.ones' _) ?_
   simp only[Act.put]
   have HPS:=zh ((uh HP1).stored (pk0 (b / 16) false 0 false))
   have HBS:Hid (Below w.heap.size w (w1.setCells w.heap.size 0 (pk0 (b / 16) false 0 false).cells)):=setCells_below (uh HB1) (Nat.le_refl _)
   generalize w1.setCells w.heap.size 0 (pk0 (b / 16) false 0 false).cells=w2 at HPS HBS |-
   go_wp2
   refine bodyPost_ret (res_pk2 (B:=w.heap.size) (q:=(pk0 (b / 16) false 0 false)) rfl rfl (uh HPS)) rfl ?_
   exact⟨by rw[uh HOK,uh HE];rfl,uh HBS⟩
  ·go_upto_region 7 with fail
   go_step
   refine wpList_load_mid rfl 29 _ rfl w.heap.size 0 rfl (pk0 (b / 16) false 0 false).cells _ (uh HP1).range Tryz.underlying29 rfl packet_size ?_
   simp only[Act.put,List.setIfInBounds_toArray,List.set_cons_zero,List.set_cons_succ]
   iterate 15 go_step
   refine wpList_store_mid rfl 29 _ _ rfl w.heap.size 0 (pk0 (b / 16) false 0 false).cells.toArray rfl rfl ((uh HP1).there _) packet_size (Pkv.ones' _) ?_
   simp only[Act.put]
   have HPS:=zh ((uh HP1).stored (pk0 (b / 16) false 0 false))
   have HBS:Hid (Below w.heap.size w (w1.setCells w.heap.size 0 (pk0 (b / 16) false 0 false).cells)):=setCells_below (uh HB1) (Nat.le_refl _)
   generalize w1.setCells w.heap.size 0 (pk0 (b / 16) false 0 false).cells=w2 at HPS HBS |-
   go_wp2
   refine bodyPost_ret (res_pk2 (B:=w.heap.size) (q:=(pk0 (b / 16) false 0 false)) rfl rfl (uh HPS)) rfl ?_
   exact⟨by rw[uh HOK,uh HE];rfl,uh HBS⟩
theorem eqp_any (va vb:Value) (l m:List Pr) (w:World) (ha:Prp w va l) (hb:Prp w vb m) (hmx:l.length<=1000000000) :
  Calls Tryz.prog 33 #[va,vb] w fun e w'=>(∃ b,e=.returned (.bool b)/\(b=true ↔ l=m))/\∃ k,w'=w.drewN k:=by
 obtain⟨ao,ca,rfl,ha⟩:=ha
 obtain⟨bo,cb,rfl,hb⟩:=hb
 by_cases hl:l.length=m.length
 ·rcases ha with rfl | ⟨ba,oa,rfl,hca⟩
  ·obtain rfl:m=[]:=List.length_eq_zero_iff.1 hl.symm
   refine (eqp_nil _ _ _ _ _).mono ?_
   rintro e w' ⟨rfl,rfl⟩
   exact⟨⟨true,rfl,by simp⟩,0,rfl⟩
  ·rcases hb with rfl | ⟨bb,ob,rfl,hcb⟩
   ·obtain rfl:l=[]:=List.length_eq_zero_iff.1 hl
    refine (eqp_nil _ _ _ _ _).mono ?_
    rintro e w' ⟨rfl,rfl⟩
    exact⟨⟨true,rfl,by simp⟩,0,rfl⟩
   ·rw[<- hl]
    refine (eqp_core ba oa bb ob ca cb l m l.length w rfl hl.symm hmx hca hcb).mono ?_
    rintro e w' ⟨⟨b,rfl,hbb⟩,k,rfl⟩
    exact⟨⟨b,rfl,hbb.trans ⟨fun h=>at0_ext hl h,fun h j _=>by rw[h]⟩⟩,k,rfl⟩
 ·refine (eqp_len ao bo l.length m.length ca cb w hl).mono ?_
  rintro e w' ⟨rfl,rfl⟩
  exact⟨⟨false,rfl,by constructor;(intro h;cases h);(intro h;exact absurd (by rw[h]) hl)⟩,0,rfl⟩
theorem eqw_any (t t' p p':ByteArray) (q q':Int) (r r':Bool) (ao ao':Option Addr) (n n' cap cap':Nat) (l l':List Pr) (w:World) (ha:Prp w (.slice ao n cap) l) (hb:Prp w (.slice ao' n' cap') l') (hmx:l.length<=1000000000) :
  Calls Tryz.prog 70 #[.agg #[.string t,.string p,.int .i64 q,.bool r,.slice ao n cap],.agg #[.string t',.string p',.int .i64 q',.bool r',.slice ao' n' cap']] w fun e w'=>(∃ b,e=.returned (.bool b)/\(b=true ↔ (t=t'/\p=p'/\q=q'/\r=r'/\l=l')))/\Below w.heap.size w w':=by
 have HA:=zh ha
 have HB:=zh hb
 clear ha hb
 by_cases h0:t=t'
 ·have k0:(t.toList == t'.toList)=true:=by rw[h0];exact beq_self_eq_true _
  have H0:=zh h0
  clear h0
  by_cases h1:p=p'
  ·have k1:(p.toList == p'.toList)=true:=by rw[h1];exact beq_self_eq_true _
   have H1:=zh h1
   clear h1
   by_cases h2:q=q'
   ·have k2:(q == q')=true:=by rw[h2];exact beq_self_eq_true _
    have H2:=zh h2
    clear h2
    by_cases h3:r=r'
    ·have k3:(r == r')=true:=by rw[h3];exact beq_self_eq_true _
     have H3:=zh h3
     clear h3
     go_enter Tryz.func70,Tryz.ntmps70
     go_wp2_with fail
     refine (eqp_any _ _ l l' _ ((uh HA).below (by go_grown)) ((uh HB).below (by go_grown)) hmx).mono ?_
     rintro e w1 ⟨⟨b,rfl,hbb⟩,k,rfl⟩
     have HBB:=zh hbb
     clear hbb
     cases b
     ·go_wp2
      go_ret
      exact⟨⟨false,rfl,by constructor;(intro h;cases h);(intro h;exact (uh HBB).2 h.2.2.2.2)⟩,below_drewN (by go_grown) k⟩
     ·go_wp2
      go_ret
      exact⟨⟨true,rfl,fun _=>⟨uh H0,uh H1,uh H2,uh H3,(uh HBB).1 trivial⟩,fun _=>rfl⟩,below_drewN (by go_grown) k⟩
    ·have k3:(r == r')=false:=beq_eq_false_iff_ne.2 (h3)
     have H3:=zh h3
     clear h3
     go_enter Tryz.func70,Tryz.ntmps70
     go_wp2
     go_ret
     exact⟨⟨false,rfl,by constructor;(intro h;cases h);(intro h;exact absurd h.2.2.2.1 (uh H3))⟩,by go_grown⟩
   ·have k2:(q == q')=false:=beq_eq_false_iff_ne.2 (h2)
    have H2:=zh h2
    clear h2
    go_enter Tryz.func70,Tryz.ntmps70
    go_wp2
    go_ret
    exact⟨⟨false,rfl,by constructor;(intro h;cases h);(intro h;exact absurd h.2.2.1 (uh H2))⟩,by go_grown⟩
  ·have k1:(p.toList == p'.toList)=false:=beq_eq_false_iff_ne.2 (fun e=>h1 (text_ext e))
   have H1:=zh h1
   clear h1
   go_enter Tryz.func70,Tryz.ntmps70
   go_wp2
   go_ret
   exact⟨⟨false,rfl,by constructor;(intro h;cases h);(intro h;exact absurd h.2.1 (uh H1))⟩,by go_grown⟩
 ·have k0:(t.toList == t'.toList)=false:=beq_eq_false_iff_ne.2 (fun e=>h0 (text_ext e))
  have H0:=zh h0
  clear h0
  go_enter Tryz.func70,Tryz.ntmps70
  go_wp2
  go_ret
  exact⟨⟨false,rfl,by constructor;(intro h;cases h);(intro h;exact absurd h.1 (uh H0))⟩,by go_grown⟩
abbrev wl0:Wl:=⟨⟨#[]⟩,⟨#[]⟩,0,false,[]⟩
def WlIs (w:World) (b off:Nat) (u:Wl):Prop:=∃ ao n cap,(w.cell? ⟨b,off,none⟩=some (.string u.topic)/\w.cell? ⟨b,off+1,none⟩=some (.string u.payload)/\w.cell? ⟨b,off+2,none⟩=some (.int .i64 u.qos)/\w.cell? ⟨b,off+3,none⟩=some (.bool u.retain)/\w.cell? ⟨b,off+4,none⟩=some (.slice ao n cap))/\Prp w (.slice ao n cap) u.props/\u.props.length<=1000000000
def WlAt (w:World) (b off:Nat) (us:List Wl):Prop:=∀ k,k < us.length->WlIs w b (off+k * 5) (us.getD k wl0)
theorem WlIs.below {w w':World} {b off:Nat} {u:Wl} (h:WlIs w b off u) (hb:Below w.heap.size w w'):WlIs w' b off u:=by
 obtain⟨ao,n,cap,⟨h0,h1,h2,h3,h4⟩,h5,h6⟩:=h
 have hl:b < w.heap.size:=cell_lt h0
 exact⟨ao,n,cap,⟨(hb.cell hl).trans h0,(hb.cell hl).trans h1,(hb.cell hl).trans h2,(hb.cell hl).trans h3,(hb.cell hl).trans h4⟩,h5.below hb,h6⟩
theorem wl_eq (u v:Wl):u=v ↔ (u.topic=v.topic/\u.payload=v.payload/\u.qos=v.qos/\u.retain=v.retain/\u.props=v.props):=by
 obtain⟨a,b,c,d,e⟩:=u
 obtain⟨a',b',c',d',e'⟩:=v
 simp
theorem eqws_core (ba oa bb ob ca cb:Nat) (l m:List Wl) (len:Nat) (w:World) (hl:l.length=len) (hm:m.length=len) (hmx:len<=1000000000) (ha:WlAt w ba oa l) (hb:WlAt w bb ob m) :
  Calls Tryz.prog 34 #[.slice (some ⟨ba,oa,none⟩) len ca,.slice (some ⟨bb,ob,none⟩) len cb] w fun e w'=>(∃ b,e=.returned (.bool b)/\(b=true ↔ ∀ j,j < len->l.getD j wl0=m.getD j wl0))/\Below w.heap.size w w':=by
 have HL:=zh hl
 have HM:=zh hm
 have HA:=zh ha
 have HB:=zh hb
 clear hl hm ha hb
 go_enter Tryz.func34,Tryz.ntmps34
 go_wp2
 go_loopw [5] (fun i wr=>∃ k:Nat,k<=len/\i=.int .i64 k/\Hid (∀ j,j < k->l.getD j wl0=m.getD j wl0)/\Hid (Below w.heap.size w wr)) (fun i _=>len - (intOf i).toNat)
 case atStart=>exact⟨0,Nat.zero_le _,rfl,fun j hj=>absurd hj (Nat.not_lt_zero j),Below.refl _ _⟩
 case round =>
  obtain⟨k,hk,rfl,HALL,HBEL⟩:=hrel
  by_cases hlt:k < len
  ·have hx:=((uh HA) k (by rw[uh HL];exact hlt)).below (uh HBEL)
   have hy:=((uh HB) k (by rw[uh HM];exact hlt)).below (uh HBEL)
   have hwl:=wl_eq (l.getD k wl0) (m.getD k wl0)
   generalize hu:l.getD k wl0=u at hx hwl
   generalize hv:m.getD k wl0=v at hy hwl
   have HU:=zh hu
   have HV:=zh hv
   have HWL:=zh hwl
   clear hu hv hwl
   obtain⟨ao,n,cap,hc,hp,hq⟩:=hx
   obtain⟨ao',n',cap',hc',hp',hq'⟩:=hy
   have HP:=zh hp
   have HP':=zh hp'
   have HC:=zh hc
   have HC':=zh hc'
   have hlb:ba < wr.heap.size:=cell_lt hc.1
   have hlb':bb < wr.heap.size:=cell_lt hc'.1
   obtain⟨x1,x2,x3,x4,x5⟩:=hc
   obtain⟨y1,y2,y3,y4,y5⟩:=hc'
   clear hp hp'
   have HK:Hid (∀ W:World,Below wr.heap.size wr W->(fun w'=>(w'.cell? ⟨ba,oa+k * 5,none⟩=some (.string u.topic)/\w'.cell? ⟨ba,oa+k * 5+1,none⟩=some (.string u.payload)/\w'.cell? ⟨ba,oa+k * 5+2,none⟩=some (.int .i64 u.qos)/\w'.cell? ⟨ba,oa+k * 5+3,none⟩=some (.bool u.retain)/\w'.cell? ⟨ba,oa+k * 5+4,none⟩=some (.slice ao n cap))/\(w'.cell? ⟨bb,ob+k * 5,none⟩=some (.string v.topic)/\w'.cell? ⟨bb,ob+k * 5+1,none⟩=some (.string v.payload)/\w'.cell? ⟨bb,ob+k * 5+2,none⟩=some (.int .i64 v.qos)/\w'.cell? ⟨bb,ob+k * 5+3,none⟩=some (.bool v.retain)/\w'.cell? ⟨bb,ob+k * 5+4,none⟩=some (.slice ao' n' cap'))) W):=by
    intro W hW
    obtain⟨x1,x2,x3,x4,x5⟩:=uh HC
    obtain⟨y1,y2,y3,y4,y5⟩:=uh HC'
    exact⟨⟨(hW.cell hlb).trans x1,(hW.cell hlb).trans x2,(hW.cell hlb).trans x3,(hW.cell hlb).trans x4,(hW.cell hlb).trans x5⟩,(hW.cell hlb').trans y1,(hW.cell hlb').trans y2,(hW.cell hlb').trans y3,(hW.cell hlb').trans y4,(hW.cell hlb').trans y5⟩
   go_wp2_with fail
   go_region_held3 (fun w'=>(w'.cell? ⟨ba,oa+k * 5,none⟩=some (.string u.topic)/\w'.cell? ⟨ba,oa+k * 5+1,none⟩=some (.string u.payload)/\w'.cell? ⟨ba,oa+k * 5+2,none⟩=some (.int .i64 u.qos)/\w'.cell? ⟨ba,oa+k * 5+3,none⟩=some (.bool u.retain)/\w'.cell? ⟨ba,oa+k * 5+4,none⟩=some (.slice ao n cap))/\(w'.cell? ⟨bb,ob+k * 5,none⟩=some (.string v.topic)/\w'.cell? ⟨bb,ob+k * 5+1,none⟩=some (.string v.payload)/\w'.cell? ⟨bb,ob+k * 5+2,none⟩=some (.int .i64 v.qos)/\w'.cell? ⟨bb,ob+k * 5+3,none⟩=some (.bool v.retain)/\w'.cell? ⟨bb,ob+k * 5+4,none⟩=some (.slice ao' n' cap')))
    (first | exact (uh HK) _ (below_drewN (Below.refl _ _) 1) | exact (uh HK) _ (uh HB2) | exact (uh HK) _ (Below.refl _ _))
    (first | (go_at_call 70;refine (eqw_any u.topic v.topic u.payload v.payload u.qos v.qos u.retain v.retain ao ao' n n' cap cap' u.props v.props _ ((uh HP).below (below_drewN (Below.refl _ _) 1)) ((uh HP').below (below_drewN (Below.refl _ _) 1)) hq).mono ?_;rintro e w2 ⟨⟨bo,rfl,hbo⟩,hb2⟩;have HBO:=zh hbo;have HB2:Hid (Below wr.heap.size wr w2):=(below_drewN (Below.refl _ _) 1).trans hb2;clear hbo hb2) | fail)
   have HB3:Hid (Below w.heap.size w w2):=(uh HBEL).trans ((uh HB2).mono (uh HBEL).size)
   clear HK HC HC' x1 x2 x3 x4 x5 y1 y2 y3 y4 y5 HB2
   have HUV:Hid ((bo=true) ↔ u=v):=(uh HBO).trans (uh HWL).symm
   clear HBO HWL
   cases bo
   ·have HNE:Hid (l.getD k wl0≠m.getD k wl0):=fun e=>by
     rw[uh HU,uh HV]at e
     have:=(uh HUV).2 e
     cases this
    go_wp2
    go_ret
    refine⟨⟨_,rfl,?_⟩,uh HB3⟩
    constructor
    ·intro h;cases h
    ·intro h;exact absurd (h k hlt) (uh HNE)
   ·have HE:Hid (l.getD k wl0=m.getD k wl0):=by
     show _=_
     rw[uh HU,uh HV]
     exact (uh HUV).1 rfl
    go_wp2
    go_roundw
    case rel=>exact⟨k+1,by omega,by go_num,fun j hj=>by
     rcases Nat.lt_succ_iff_lt_or_eq.1 hj with h | h
     ·exact (uh HALL) j h
     ·rw[h];exact uh HE,HB3⟩
    case measure=>simp[intOf];omega
  ·go_wp2
   go_ret
   exact⟨⟨_,rfl,fun _ j hj=>(uh HALL) j (by omega),fun _=>rfl⟩,uh HBEL⟩
theorem eqws_len (ao bo:Option Addr) (n m ca cb:Nat) (w:World) (h:n≠m) :
  Calls Tryz.prog 34 #[.slice ao n ca,.slice bo m cb] w fun e w'=>e=.returned (.bool false)/\w'=w:=by
 have h1:((n:Int) == (m:Int))=false:=beq_eq_false_iff_ne.2 (by omega)
 go_enter Tryz.func34,Tryz.ntmps34
 go_wp2
 go_ret
 exact⟨rfl,rfl⟩
theorem eqws_nil (ao bo:Option Addr) (ca cb:Nat) (w:World) :
  Calls Tryz.prog 34 #[.slice ao 0 ca,.slice bo 0 cb] w fun e w'=>e=.returned (.bool true)/\w'=w:=by
 go_enter Tryz.func34,Tryz.ntmps34
 go_wp2
 refine wp_loop_rounds 1 ?_
 rw[rounds_succ]
 go_wp2
 go_ret
 exact⟨rfl,rfl⟩
def Wls (w:World) (v:Value) (l:List Wl):Prop:=∃ ao cap,v=.slice ao l.length cap/\(l.length<=cap/\cap<=maxLen)/\(l=[]\/∃ b off,ao=some ⟨b,off,none⟩/\WlAt w b off l)
theorem wl_ext {l m:List Wl} (hl:l.length=m.length) (h:∀ j,j < l.length->l.getD j wl0=m.getD j wl0):l=m:=by
 apply List.ext_getElem hl
 intro i h1 h2
 have:=h i h1
 rw[List.getD_eq_getElem?_getD,List.getD_eq_getElem?_getD,List.getElem?_eq_getElem h1,List.getElem?_eq_getElem h2]at this
 exact this
theorem eqws_any (va vb:Value) (l m:List Wl) (w:World) (ha:Wls w va l) (hb:Wls w vb m) (hmx:l.length<=1000000000) :
  Calls Tryz.prog 34 #[va,vb] w fun e w'=>(∃ b,e=.returned (.bool b)/\(b=true ↔ l=m))/\Below w.heap.size w w':=by
 obtain⟨ao,ca,rfl,_,ha⟩:=ha
 obtain⟨bo,cb,rfl,_,hb⟩:=hb
 by_cases hl:l.length=m.length
 ·rcases ha with rfl | ⟨ba,oa,rfl,hca⟩
  ·obtain rfl:m=[]:=List.length_eq_zero_iff.1 hl.symm
   refine (eqws_nil _ _ _ _ _).mono ?_
   rintro e w' ⟨rfl,rfl⟩
   exact⟨⟨true,rfl,by simp⟩,Below.refl _ _⟩
  ·rcases hb with rfl | ⟨bb,ob,rfl,hcb⟩
   ·obtain rfl:l=[]:=List.length_eq_zero_iff.1 hl
    refine (eqws_nil _ _ _ _ _).mono ?_
    rintro e w' ⟨rfl,rfl⟩
    exact⟨⟨true,rfl,by simp⟩,Below.refl _ _⟩
   ·rw[<- hl]
    refine (eqws_core ba oa bb ob ca cb l m l.length w rfl hl.symm hmx hca hcb).mono ?_
    rintro e w' ⟨⟨b,rfl,hbb⟩,hbel⟩
    exact⟨⟨b,rfl,hbb.trans ⟨fun h=>wl_ext hl h,fun h j _=>by rw[h]⟩⟩,hbel⟩
 ·refine (eqws_len ao bo l.length m.length ca cb w hl).mono ?_
  rintro e w' ⟨rfl,rfl⟩
  exact⟨⟨false,rfl,by constructor;(intro h;cases h);(intro h;exact absurd (by rw[h]) hl)⟩,Below.refl _ _⟩
abbrev sb0:Sb:=⟨⟨#[]⟩,0,false,false,0⟩
def SbAt (w:World) (b off:Nat) (l:List Sb):Prop:=∀ k,k < l.length->w.cell? ⟨b,off+k * 5,none⟩=some (.string (l.getD k sb0).filter)/\w.cell? ⟨b,off+k * 5+1,none⟩=some (.int .i64 (l.getD k sb0).qos)/\w.cell? ⟨b,off+k * 5+2,none⟩=some (.bool (l.getD k sb0).nolocal)/\w.cell? ⟨b,off+k * 5+3,none⟩=some (.bool (l.getD k sb0).aspub)/\w.cell? ⟨b,off+k * 5+4,none⟩=some (.int .i64 (l.getD k sb0).handling)
def Sbs (w:World) (v:Value) (l:List Sb):Prop:=∃ ao cap,v=.slice ao l.length cap/\(l.length<=cap/\cap<=maxLen)/\(l=[]\/∃ b off,ao=some ⟨b,off,none⟩/\SbAt w b off l)
theorem Tryz.eqgB:Tryz.prog.eqGuardType Tryz.prog.depth 114=false:=by kernel_rfl
theorem Tryz.stoodB:Tryz.prog.stoodInHeld 114=false:=by kernel_rfl
theorem Tryz.undB:Tryz.prog.underlying 114=some (.struct (Tryz.prog.fieldsOf 114)):=by kernel_rfl
def sameB (p q:Sb):Bool:=(p.filter.toList == q.filter.toList && p.qos == q.qos && p.nolocal == q.nolocal && p.aspub == q.aspub && p.handling == q.handling)
theorem neqB (f f':ByteArray) (q q' h h':Int) (n n' a a':Bool) (w:World):(binOp .neq 114 (.agg #[.string f,.int .i64 q,.bool n,.bool a,.int .i64 h]) (.agg #[.string f',.int .i64 q',.bool n',.bool a',.int .i64 h'])).run Tryz.prog w=.ok (.bool (!(sameB ⟨f,q,n,a,h⟩ ⟨f',q',n',a',h'⟩))) w:=by
 rw[run_neq_struct,run_equalIn_struct w 9999 114 _ _ Tryz.undB Tryz.stoodB]
 rw[show Tryz.prog.fieldsOf 114=_ from rfl]
 simp[Program.fieldsOf,Tryz.underlying114,Op.eqFields,go_sem]
 unfold sameB
 by_cases h1:f.toList=f'.toList
 ·by_cases h2:q=q'
  ·by_cases h3:n=n'
   ·by_cases h4:a=a'
    ·by_cases h5:h=h'
     ·simp[h1,h2,h3,h4,h5]
     ·simp[h1,h2,h3,h4,h5]
    ·simp[h1,h2,h3,h4]
   ·simp[h1,h2,h3]
  ·simp[h1,h2]
 ·simp[h1]
theorem sameB_iff (p q:Sb):sameB p q=true ↔ p=q:=by
 obtain⟨a,b,c,d,e⟩:=p
 obtain⟨a',b',c',d',e'⟩:=q
 unfold sameB
 constructor
 ·intro h
  simp only[Bool.and_eq_true,beq_iff_eq]at h
  obtain⟨⟨⟨⟨h1,h2⟩,h3⟩,h4⟩,h5⟩:=h
  rw[text_ext h1,h2,h3,h4,h5]
 ·rintro h
  cases h
  simp
theorem eqb_core (ba oa bb ob ca cb:Nat) (l m:List Sb) (len:Nat) (w:World) (hl:l.length=len) (hm:m.length=len) (hmx:len<=1000000000) (ha:SbAt w ba oa l) (hb:SbAt w bb ob m) :
  Calls Tryz.prog 36 #[.slice (some ⟨ba,oa,none⟩) len ca,.slice (some ⟨bb,ob,none⟩) len cb] w fun e w'=>(∃ b,e=.returned (.bool b)/\(b=true ↔ ∀ j,j < len->l.getD j sb0=m.getD j sb0))/\∃ k,w'=w.drewN k:=by
 have HL:=zh hl
 have HM:=zh hm
 have HA:=zh ha
 have HB:=zh hb
 clear hl hm ha hb
 go_enter Tryz.func36,Tryz.ntmps36
 go_wp2
 go_loopw [5] (fun i wr=>∃ k q:Nat,k<=len/\i=.int .i64 k/\wr=w.drewN q/\Hid (∀ j,j < k->l.getD j sb0=m.getD j sb0)) (fun i _=>len - (intOf i).toNat)
 case atStart=>exact⟨0,0,Nat.zero_le _,rfl,rfl,fun j hj=>absurd hj (Nat.not_lt_zero j)⟩
 case round =>
  obtain⟨k,q,hk,rfl,rfl,HALL⟩:=hrel
  by_cases hlt:k < len
  ·obtain⟨h0,h1,h2,h3,h4⟩:=(uh HA) k (by rw[uh HL];exact hlt)
   obtain⟨g0,g1,g2,g3,g4⟩:=(uh HB) k (by rw[uh HM];exact hlt)
   obtain⟨x1,x2,x3,x4,x5,hp⟩:∃ a b c d e,l.getD k sb0=⟨a,b,c,d,e⟩:=⟨_,_,_,_,_,rfl⟩
   obtain⟨y1,y2,y3,y4,y5,hp'⟩:∃ a b c d e,m.getD k sb0=⟨a,b,c,d,e⟩:=⟨_,_,_,_,_,rfl⟩
   rw[hp]at h0 h1 h2 h3 h4
   rw[hp']at g0 g1 g2 g3 g4
   simp only at h0 h1 h2 h3 h4 g0 g1 g2 g3 g4
   have HP:=zh hp
   have HP':=zh hp'
   clear hp hp'
   have qg:=Tryz.eqgB
   have qn:=fun W=>neqB x1 y1 x2 y2 x5 y5 x3 y3 x4 y4 W
   generalize hsb:sameB ⟨x1,x2,x3,x4,x5⟩ ⟨y1,y2,y3,y4,y5⟩=sb at qn
   have HSB:=zh hsb
   clear hsb
   cases sb
   ·have HNE:Hid (l.getD k sb0≠m.getD k sb0):=fun e=>by
     rw[uh HP,uh HP']at e
     have:=(sameB_iff _ _).2 e
     rw[uh HSB]at this
     cases this
    go_wp2
    go_quiet (fail)
    go_wp2
    go_ret
    refine⟨⟨_,rfl,?_⟩,q+nq,drewN_drewN _ _ _⟩
    constructor
    ·intro h;cases h
    ·intro h;exact absurd (h k hlt) (uh HNE)
   ·have HE:Hid (l.getD k sb0=m.getD k sb0):=by
     show _=_
     rw[uh HP,uh HP']
     exact (sameB_iff _ _).1 (uh HSB)
    go_wp2
    go_quiet (fail)
    go_wp2
    go_roundw
    case rel=>exact⟨k+1,_,by omega,by go_num,rfl,fun j hj=>by
     rcases Nat.lt_succ_iff_lt_or_eq.1 hj with h | h
     ·exact (uh HALL) j h
     ·rw[h];exact uh HE⟩
    case measure=>simp[intOf];omega
  ·go_wp2
   go_ret
   exact⟨⟨_,rfl,fun _ j hj=>(uh HALL) j (by omega),fun _=>rfl⟩,_,rfl⟩
theorem eqb_len (ao bo:Option Addr) (n m ca cb:Nat) (w:World) (h:n≠m) :
  Calls Tryz.prog 36 #[.slice ao n ca,.slice bo m cb] w fun e w'=>e=.returned (.bool false)/\w'=w:=by
 have h1:((n:Int) == (m:Int))=false:=beq_eq_false_iff_ne.2 (by omega)
 go_enter Tryz.func36,Tryz.ntmps36
 go_wp2
 go_ret
 exact⟨rfl,rfl⟩
theorem eqb_nil (ao bo:Option Addr) (ca cb:Nat) (w:World) :
  Calls Tryz.prog 36 #[.slice ao 0 ca,.slice bo 0 cb] w fun e w'=>e=.returned (.bool true)/\w'=w:=by
 go_enter Tryz.func36,Tryz.ntmps36
 go_wp2
 refine wp_loop_rounds 1 ?_
 rw[rounds_succ]
 go_wp2
 go_ret
 exact⟨rfl,rfl⟩
theorem sb_ext {l m:List Sb} (hl:l.length=m.length) (h:∀ j,j < l.length->l.getD j sb0=m.getD j sb0):l=m:=by
 apply List.ext_getElem hl
 intro i h1 h2
 have:=h i h1
 rw[List.getD_eq_getElem?_getD,List.getD_eq_getElem?_getD,List.getElem?_eq_getElem h1,List.getElem?_eq_getElem h2]at this
 exact this
theorem eqb_any (va vb:Value) (l m:List Sb) (w:World) (ha:Sbs w va l) (hb:Sbs w vb m) (hmx:l.length<=1000000000) :
  Calls Tryz.prog 36 #[va,vb] w fun e w'=>(∃ b,e=.returned (.bool b)/\(b=true ↔ l=m))/\∃ k,w'=w.drewN k:=by
 obtain⟨ao,ca,rfl,_,ha⟩:=ha
 obtain⟨bo,cb,rfl,_,hb⟩:=hb
 by_cases hl:l.length=m.length
 ·rcases ha with rfl | ⟨ba,oa,rfl,hca⟩
  ·obtain rfl:m=[]:=List.length_eq_zero_iff.1 hl.symm
   refine (eqb_nil _ _ _ _ _).mono ?_
   rintro e w' ⟨rfl,rfl⟩
   exact⟨⟨true,rfl,by simp⟩,0,rfl⟩
  ·rcases hb with rfl | ⟨bb,ob,rfl,hcb⟩
   ·obtain rfl:l=[]:=List.length_eq_zero_iff.1 hl
    refine (eqb_nil _ _ _ _ _).mono ?_
    rintro e w' ⟨rfl,rfl⟩
    exact⟨⟨true,rfl,by simp⟩,0,rfl⟩
   ·rw[<- hl]
    refine (eqb_core ba oa bb ob ca cb l m l.length w rfl hl.symm hmx hca hcb).mono ?_
    rintro e w' ⟨⟨b,rfl,hbb⟩,k,rfl⟩
    exact⟨⟨b,rfl,hbb.trans ⟨fun h=>sb_ext hl h,fun h j _=>by rw[h]⟩⟩,k,rfl⟩
 ·refine (eqb_len ao bo l.length m.length ca cb w hl).mono ?_
  rintro e w' ⟨rfl,rfl⟩
  exact⟨⟨false,rfl,by constructor;(intro h;cases h);(intro h;exact absurd (by rw[h]) hl)⟩,0,rfl⟩
end Go.Proofs.YtpheelbbpiieiaaGreatDoor.K
