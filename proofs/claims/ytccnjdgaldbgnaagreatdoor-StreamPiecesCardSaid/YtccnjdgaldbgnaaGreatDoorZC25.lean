/- Proved here: helpers, one text behind the other. -/
import Derived.Test.YtccnjdgaldbgnaaGreatDoorZC24
import Derived.Test.YtccnjdgaldbgnaaGreatDoorZC22
import Derived.Test.YtccnjdgaldbgnaaGreatDoorZC7
set_option maxHeartbeats 20000000
namespace Go.Proofs.YtccnjdgaldbgnaaGreatDoor.K
open Go.RowKit
structure Wl where
 topic:ByteArray
 payload:ByteArray
 qos:Int
 retain:Bool
 props:List Pr
structure Pa where
 kind:Int
 dup:Bool
 qos:Int
 retain:Bool
 topic:ByteArray
 id:Int
 payload:ByteArray
 props:List Pr
 client:ByteArray
 clean:Bool
 keep:Int
 wills:List Wl
 user:List ByteArray
 pass:List ByteArray
 code:Int
 session:Bool
 subs:List Sb
 filters:List ByteArray
 codes:List Int
def pa0 (kind:Int) (dup:Bool) (qos:Int) (retain:Bool):Pa:=⟨kind,dup,qos,retain,⟨#[]⟩,0,⟨#[]⟩,[],⟨#[]⟩,false,0,[],[],[],0,false,[],[],[]⟩
abbrev sl0:Sl:=⟨none,0,0⟩
def pk0 (kind:Int) (dup:Bool) (qos:Int) (retain:Bool):Pkv:=⟨kind,dup,qos,retain,⟨#[]⟩,0,⟨#[]⟩,sl0,⟨#[]⟩,false,0,sl0,sl0,sl0,0,false,sl0,sl0,sl0⟩
def Ws (w:World) (B:Nat) (ws:List Wv) (us:List Wl):Prop:=ws.length=us.length/\∀ (i:Nat) (a:Wv) (b:Wl),ws[i]?=some a->us[i]?=some b->a.topic=b.topic/\a.payload=b.payload/\a.qos=b.qos/\a.retain=b.retain/\w.ownsRow B 117 4 a.props.val b.props.length (pcs b.props)
structure Mean (w:World) (B:Nat) (p:Pkv) (P:Pa):Prop where
 sc:p.kind=P.kind/\p.dup=P.dup/\p.qos=P.qos/\p.retain=P.retain/\p.topic=P.topic/\p.id=P.id/\p.payload=P.payload/\p.client=P.client/\p.clean=P.clean/\p.keep=P.keep/\p.code=P.code/\p.session=P.session
 props:w.ownsRow B 117 4 p.props.val P.props.length (pcs P.props)
 wills:∃ ws,w.ownsRow B 120 5 p.wills.val P.wills.length (wcs ws)/\Ws w B ws P.wills
 user:w.ownsRow B 9 1 p.user.val P.user.length (P.user.map Value.string)
 pass:w.ownsRow B 9 1 p.pass.val P.pass.length (P.pass.map Value.string)
 subs:w.ownsRow B 122 5 p.subs.val P.subs.length (scs P.subs)
 filters:w.ownsRow B 9 1 p.filters.val P.filters.length (P.filters.map Value.string)
 codes:w.ownsRow B 3 1 p.codes.val P.codes.length (P.codes.map (Value.int .i64))
theorem row0 (w:World) (B:Nat) (e:TypeId) (s:Nat):w.ownsRow B e s sl0.val 0 []:=World.ownsRow_nil _ _ _ _
theorem wills0 (w:World) (B:Nat):∃ ws,w.ownsRow B 120 5 sl0.val 0 (wcs ws)/\Ws w B ws []:=⟨[],World.ownsRow_nil _ _ _ _,rfl,fun i a b h=>by simp at h⟩
theorem row_str {w:World} {B R U:Nat} {b:Bool} {us:Option ByteArray} (h:StrAt B R w b U us):w.ownsRow B 9 1 (isW U b).val us.toList.length (us.toList.map Value.string):=by
 cases b
 ·rw[h.1 rfl]
  exact row0 _ _ _ _
 ·obtain⟨t,rfl,h2,h3,h4,h5⟩:=h.2 rfl
  exact⟨rfl,.inr ⟨U,1,_,rfl,h2,h5,Nat.le_refl _,by unfold maxLen;simp,rfl,rfl⟩⟩
def wlOf (x:Int) (wl:Option (List Pr×ByteArray×ByteArray)):List Wl:=match wl with
 | none=>[]
 | some (q,t,y)=>[⟨t,y,x / 8 % 4,btest x 32,q⟩]
theorem row_will {w:World} {B N R V:Nat} {x:Int} {wl:Option (List Pr×ByteArray×ByteArray)} (h:WillAt B N R w x V wl) (hN:B<=N):∃ ws,w.ownsRow B 120 5 (isW V (btest x 4)).val (wlOf x wl).length (wcs ws)/\Ws w B ws (wlOf x wl):=by
 cases hb:btest x 4
 ·rw[h.1 hb]
  exact wills0 _ _
 ·obtain⟨q,t,y,tq,rfl,h2,h3,h4,h5,h6⟩:=h.2 hb
  refine⟨[⟨t,y,x / 8 % 4,btest x 32,tq⟩],⟨rfl,.inr ⟨V,1,_,rfl,h2,h5,Nat.le_refl _,by unfold maxLen;simp,rfl,rfl⟩⟩,rfl,fun i a b ha hb=>?_⟩
  match i,ha,hb with
  | 0,ha,hb =>
   simp[wlOf]at ha hb
   subst ha hb
   exact⟨rfl,rfl,rfl,rfl,owns_mono h6 hN⟩
  | i+1,ha,_=>simp at ha
def endR (l:List Int):Option (Unit×List Int):=if l.length=0 then some ((),l) else none
def ofCn (P:Pa) (n:Cn):Pa:={ P with clean:=btest n.x 2,keep:=n.keep,props:=n.props,client:=n.client,wills:=wlOf n.x n.will,user:=n.user.toList,pass:=n.pass.toList }
def body? (P:Pa):List Int->Option (Pa×List Int) :=
 if P.kind=1 then bindR connect? fun n=>pureR (ofCn P n)
 else if P.kind=2 then bindR one? fun f=>bindR (mustR (decide (f<=1))) fun _=>bindR one? fun c=>bindR (props? 2) fun x=>pureR { P with session:=f == 1,code:=c,props:=x }
 else if P.kind=3 then bindR (publish? P.qos) fun r=>pureR { P with topic:=r.1,id:=r.2.1,props:=r.2.2.1,payload:=r.2.2.2 }
 else if P.kind=8 then bindR id? fun i=>bindR (props? P.kind) fun x=>bindR (list? sub?) fun d=>pureR { P with id:=i,props:=x,subs:=d }
 else if P.kind=10 then bindR id? fun i=>bindR (props? P.kind) fun x=>bindR (list? text?) fun d=>pureR { P with id:=i,props:=x,filters:=d }
 else if P.kind=9\/P.kind=11 then bindR id? fun i=>bindR (props? P.kind) fun x=>bindR (list? one?) fun d=>pureR { P with id:=i,props:=x,codes:=d }
 else if P.kind=4\/P.kind=5\/P.kind=6\/P.kind=7 then bindR id? fun i=>bindR (reason? P.kind) fun r=>pureR { P with id:=i,code:=r.1,props:=r.2 }
 else if P.kind=14\/P.kind=15 then bindR (reason? P.kind) fun r=>pureR { P with code:=r.1,props:=r.2 }
 else pureR P
def packet? (P:Pa):List Int->Option (Pa×List Int):=bindR (body? P) fun P'=>bindR endR fun _=>pureR P'
theorem stp_end {st:Option (List Int)} {n:Nat} (h:∀ l,st=some l->l.length=n) (b:Bool) (hb:b=decide (n=0)):Stp endR st () (if b then st else none):=by
 cases st with
 | none=>cases b <;> rfl
 | some l =>
  have:=h l rfl
  subst hb
  unfold Stp endR
  by_cases hn:n=0
  ·simp[hn,this]
  ·simp[hn,this]
set_option maxRecDepth 100000
theorem sh16 (x:Int) (h0:0<=x) (h1:x<=255):x >>> 4=x / 16:=byte_cases (P:=fun x=>x >>> 4=x / 16) (by decide +kernel) x h0 h1
theorem and15 (x:Int) (h0:0<=x) (h1:x<=255):bits .and .i64 x 15=x % 16:=byte_cases (P:=fun x=>bits .and .i64 x 15=x % 16) (by decide +kernel) x h0 h1
theorem and8' (x:Int) (h0:0<=x) (h1:x<=255):(bits .and .i64 (x % 16) 8 != 0)=btest x 8:=byte_cases (P:=fun x=>(bits .and .i64 (x % 16) 8 != 0)=btest x 8) (by decide +kernel) x h0 h1
theorem and1' (x:Int) (h0:0<=x) (h1:x<=255):(bits .and .i64 (x % 16) 1 != 0)=btest x 1:=byte_cases (P:=fun x=>(bits .and .i64 (x % 16) 1 != 0)=btest x 1) (by decide +kernel) x h0 h1
theorem shq' (x:Int) (h0:0<=x) (h1:x<=255):bits .and .i64 (x % 16 / 2) 3=x / 2 % 4:=byte_cases (P:=fun x=>bits .and .i64 (x % 16 / 2) 3=x / 2 % 4) (by decide +kernel) x h0 h1
def bpk (b:Int):Pkv:=if b / 16=3 then pk0 3 (btest b 8) (b / 2 % 4) (btest b 1) else pk0 (b / 16) false 0 false
def bpa (b:Int):Pa:=if b / 16=3 then pa0 3 (btest b 8) (b / 2 % 4) (btest b 1) else pa0 (b / 16) false 0 false
def bfl (b:Int):Int:=if b / 16=3 then pfl (btest b 8) (b / 2 % 4) (btest b 1) else if b / 16=6\/b / 16=8\/b / 16=10 then 2 else 0
def bmay (b:Int):Bool:=if b / 16=3 then pok (btest b 8) (b / 2 % 4) else if b / 16=6\/b / 16=8\/b / 16=10 then true else decide (1<=b / 16) && decide (b / 16<=15)
def bok (b:Int):Bool:=bmay b && (bfl b == b % 16)
theorem flagsOf_b (b:Int) (w:World):Calls Tryz.prog 18 #[(bpk b).val] w fun e w'=>e=.returned (.tuple #[.int .i64 (bfl b),.bool (bmay b)])/\Below w.heap.size w w':=by
 unfold bfl bmay bpk
 by_cases h3:b / 16=3
 ·simp only[if_pos h3]
  exact flagsOf_pub _ w rfl
 ·simp only[if_neg h3]
  by_cases h6:b / 16=6\/b / 16=8\/b / 16=10
  ·simp only[if_pos h6]
   exact flagsOf_fixed _ w h6
  ·simp only[if_neg h6]
   exact flagsOf_other _ w h3 (fun e=>h6 (.inl e)) (fun e=>h6 (.inr (.inl e))) (fun e=>h6 (.inr (.inr e)))
theorem begin_any (b:Int) (h0:0<=b) (h1:b<=255) (w:World):Calls Tryz.prog 72 #[.int .i64 b] w fun e w'=>e=.returned (.tuple #[(bpk b).val,.bool (bok b)])/\Below w.heap.size w w':=by
 have k1:=sh16 b h0 h1
 have k2:=and15 b h0 h1
 have k3:=and8' b h0 h1
 have k4:=and1' b h0 h1
 have k5:=shq' b h0 h1
 by_cases h3:b / 16=3
 ·have e1:bpk b=pk0 3 (btest b 8) (b / 2 % 4) (btest b 1):=if_pos h3
  have HE:=zh e1
  clear e1
  have HPN:=zh (pk_new w (pk0 3 (btest b 8) (b / 2 % 4) (btest b 1)))
  have hbN:Hid (Below w.heap.size w (w.alloc (.cells (pk0 3 (btest b 8) (b / 2 % 4) (btest b 1)).cells.toArray 45))):=bal _ _
  have HFL:Hid (∀ W:World,Calls Tryz.prog 18 #[.agg (pk0 3 (btest b 8) (b / 2 % 4) (btest b 1)).cells.toArray] W fun e w'=>e=.returned (.tuple #[.int .i64 (bfl b),.bool (bmay b)])/\Below W.heap.size W w'):=fun W=>by
   have k:=flagsOf_b b W
   rw[uh HE]at k
   exact k
  have HR:Hid (∀ mb fl,bmay b=mb->bfl b=fl->bok b=(mb && (fl == b % 16))):=fun mb fl e1 e2=>by rw[<- e1,<- e2];rfl
  generalize hfl:bfl b=fl at HFL
  generalize hmb:bmay b=mb at HFL
  have HOK:=zh ((uh HR) mb fl hmb hfl)
  clear hfl hmb HR
  go_enter Tryz.func72,Tryz.ntmps72
  go_upto_region 6 with fail
  go_step
  refine wpList_load_mid rfl 45 _ rfl w.heap.size 0 rfl (pk0 3 (btest b 8) (b / 2 % 4) (btest b 1)).cells _ (uh HPN).range Tryz.underlying45 rfl packet_size ?_
  simp only[Act.put,List.setIfInBounds_toArray,List.set_cons_zero,List.set_cons_succ]
  go_wp2_with fail
  refine ((uh HFL) _).mono ?_
  rintro e w1 ⟨rfl,hb1⟩
  have HP1:=zh ((uh HPN).below hb1)
  have HB1:Hid (Below w.heap.size w w1):=(uh hbN).trans (hb1.mono (uh hbN).size)
  clear hb1 hbN HPN HFL
  cases mb
  ·go_upto_region 7 with fail
   go_step
   refine wpList_load_mid rfl 45 _ rfl w.heap.size 0 rfl (pk0 3 (btest b 8) (b / 2 % 4) (btest b 1)).cells _ (uh HP1).range Tryz.underlying45 rfl packet_size ?_
   simp only[Act.put,List.setIfInBounds_toArray,List.set_cons_zero,List.set_cons_succ]
   ((iterate 6 go_step);go_skip;(iterate 3 go_step))
   refine wpList_store_mid rfl 45 _ _ rfl w.heap.size 0 (pk0 3 (btest b 8) (b / 2 % 4) (btest b 1)).cells.toArray rfl rfl ((uh HP1).there _) packet_size (Pkv.ones' _) ?_
   simp only[Act.put]
   have HPS:=zh ((uh HP1).stored (pk0 3 (btest b 8) (b / 2 % 4) (btest b 1)))
   have HBS:Hid (Below w.heap.size w (w1.setCells w.heap.size 0 (pk0 3 (btest b 8) (b / 2 % 4) (btest b 1)).cells)):=setCells_below (uh HB1) (Nat.le_refl _)
   generalize w1.setCells w.heap.size 0 (pk0 3 (btest b 8) (b / 2 % 4) (btest b 1)).cells=w2 at HPS HBS |-
   go_wp2
   refine bodyPost_ret (res_pk2 (B:=w.heap.size) (q:=(pk0 3 (btest b 8) (b / 2 % 4) (btest b 1))) rfl rfl (uh HPS)) rfl ?_
   exact⟨by rw[uh HOK,uh HE];rfl,uh HBS⟩
  ·go_upto_region 7 with fail
   go_step
   refine wpList_load_mid rfl 45 _ rfl w.heap.size 0 rfl (pk0 3 (btest b 8) (b / 2 % 4) (btest b 1)).cells _ (uh HP1).range Tryz.underlying45 rfl packet_size ?_
   simp only[Act.put,List.setIfInBounds_toArray,List.set_cons_zero,List.set_cons_succ]
   iterate 15 go_step
   refine wpList_store_mid rfl 45 _ _ rfl w.heap.size 0 (pk0 3 (btest b 8) (b / 2 % 4) (btest b 1)).cells.toArray rfl rfl ((uh HP1).there _) packet_size (Pkv.ones' _) ?_
   simp only[Act.put]
   have HPS:=zh ((uh HP1).stored (pk0 3 (btest b 8) (b / 2 % 4) (btest b 1)))
   have HBS:Hid (Below w.heap.size w (w1.setCells w.heap.size 0 (pk0 3 (btest b 8) (b / 2 % 4) (btest b 1)).cells)):=setCells_below (uh HB1) (Nat.le_refl _)
   generalize w1.setCells w.heap.size 0 (pk0 3 (btest b 8) (b / 2 % 4) (btest b 1)).cells=w2 at HPS HBS |-
   go_wp2
   refine bodyPost_ret (res_pk2 (B:=w.heap.size) (q:=(pk0 3 (btest b 8) (b / 2 % 4) (btest b 1))) rfl rfl (uh HPS)) rfl ?_
   exact⟨by rw[uh HOK,uh HE];rfl,uh HBS⟩
 ·have e1:bpk b=pk0 (b / 16) false 0 false:=if_neg h3
  have HE:=zh e1
  clear e1
  have HPN:=zh (pk_new w (pk0 (b / 16) false 0 false))
  have hbN:Hid (Below w.heap.size w (w.alloc (.cells (pk0 (b / 16) false 0 false).cells.toArray 45))):=bal _ _
  have HFL:Hid (∀ W:World,Calls Tryz.prog 18 #[.agg (pk0 (b / 16) false 0 false).cells.toArray] W fun e w'=>e=.returned (.tuple #[.int .i64 (bfl b),.bool (bmay b)])/\Below W.heap.size W w'):=fun W=>by
   have k:=flagsOf_b b W
   rw[uh HE]at k
   exact k
  have HR:Hid (∀ mb fl,bmay b=mb->bfl b=fl->bok b=(mb && (fl == b % 16))):=fun mb fl e1 e2=>by rw[<- e1,<- e2];rfl
  generalize hfl:bfl b=fl at HFL
  generalize hmb:bmay b=mb at HFL
  have HOK:=zh ((uh HR) mb fl hmb hfl)
  clear hfl hmb HR
  go_enter Tryz.func72,Tryz.ntmps72
  go_upto_region 6 with fail
  go_step
  refine wpList_load_mid rfl 45 _ rfl w.heap.size 0 rfl (pk0 (b / 16) false 0 false).cells _ (uh HPN).range Tryz.underlying45 rfl packet_size ?_
  simp only[Act.put,List.setIfInBounds_toArray,List.set_cons_zero,List.set_cons_succ]
  go_wp2_with fail
  refine ((uh HFL) _).mono ?_
  rintro e w1 ⟨rfl,hb1⟩
  have HP1:=zh ((uh HPN).below hb1)
  have HB1:Hid (Below w.heap.size w w1):=(uh hbN).trans (hb1.mono (uh hbN).size)
  clear hb1 hbN HPN HFL
  cases mb
  ·go_upto_region 7 with fail
   go_step
   refine wpList_load_mid rfl 45 _ rfl w.heap.size 0 rfl (pk0 (b / 16) false 0 false).cells _ (uh HP1).range Tryz.underlying45 rfl packet_size ?_
   simp only[Act.put,List.setIfInBounds_toArray,List.set_cons_zero,List.set_cons_succ]
   ((iterate 6 go_step);go_skip;(iterate 3 go_step))
   refine wpList_store_mid rfl 45 _ _ rfl w.heap.size 0 (pk0 (b / 16) false 0 false).cells.toArray rfl rfl ((uh HP1).there _) packet_size (Pkv.ones' _) ?_
   simp only[Act.put]
   have HPS:=zh ((uh HP1).stored (pk0 (b / 16) false 0 false))
   have HBS:Hid (Below w.heap.size w (w1.setCells w.heap.size 0 (pk0 (b / 16) false 0 false).cells)):=setCells_below (uh HB1) (Nat.le_refl _)
   generalize w1.setCells w.heap.size 0 (pk0 (b / 16) false 0 false).cells=w2 at HPS HBS |-
   go_wp2
   refine bodyPost_ret (res_pk2 (B:=w.heap.size) (q:=(pk0 (b / 16) false 0 false)) rfl rfl (uh HPS)) rfl ?_
   exact⟨by rw[uh HOK,uh HE];rfl,uh HBS⟩
  ·go_upto_region 7 with fail
   go_step
   refine wpList_load_mid rfl 45 _ rfl w.heap.size 0 rfl (pk0 (b / 16) false 0 false).cells _ (uh HP1).range Tryz.underlying45 rfl packet_size ?_
   simp only[Act.put,List.setIfInBounds_toArray,List.set_cons_zero,List.set_cons_succ]
   iterate 15 go_step
   refine wpList_store_mid rfl 45 _ _ rfl w.heap.size 0 (pk0 (b / 16) false 0 false).cells.toArray rfl rfl ((uh HP1).there _) packet_size (Pkv.ones' _) ?_
   simp only[Act.put]
   have HPS:=zh ((uh HP1).stored (pk0 (b / 16) false 0 false))
   have HBS:Hid (Below w.heap.size w (w1.setCells w.heap.size 0 (pk0 (b / 16) false 0 false).cells)):=setCells_below (uh HB1) (Nat.le_refl _)
   generalize w1.setCells w.heap.size 0 (pk0 (b / 16) false 0 false).cells=w2 at HPS HBS |-
   go_wp2
   refine bodyPost_ret (res_pk2 (B:=w.heap.size) (q:=(pk0 (b / 16) false 0 false)) rfl rfl (uh HPS)) rfl ?_
   exact⟨by rw[uh HOK,uh HE];rfl,uh HBS⟩
end Go.Proofs.YtccnjdgaldbgnaaGreatDoor.K
