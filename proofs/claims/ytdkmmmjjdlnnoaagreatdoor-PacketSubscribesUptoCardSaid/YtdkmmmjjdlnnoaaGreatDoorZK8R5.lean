/- Proved here: helpers, one text behind the other. -/
import Derived.Laws.AppendOwn
import Derived.Deep.CutRange
import Derived.Test.YtdkmmmjjdlnnoaaGreatDoorZC42
import Derived.Test.YtdkmmmjjdlnnoaaGreatDoorZK8R4
import Derived.Test.YtdkmmmjjdlnnoaaGreatDoorZC44
import Derived.Test.YtdkmmmjjdlnnoaaGreatDoorZC27
import Derived.Test.YtdkmmmjjdlnnoaaGreatDoorZK8R2
import Derived.Test.YtdkmmmjjdlnnoaaGreatDoorZK8R3
set_option maxHeartbeats 20000000
namespace Go.Proofs.YtdkmmmjjdlnnoaaGreatDoor.K
open Go.RowKit
set_option maxRecDepth 100000
theorem pglist_eq {α β:Type} (kind:Int) (f:List Int->Option (α×List Int)) (g:Int->List Pr->List α->β) (l:List Int):bindR (pglist? kind f) (fun r=>pureR (g r.1 r.2.1 r.2.2)) l=bindR id? (fun i=>bindR (props? kind) fun x=>bindR (list? f) fun d=>pureR (g i x d)) l:=by
 unfold pglist? list? id?
 simp only[bindR,mustR,pureR]
 cases two? l with
 | none=>rfl
 | some a =>
  simp only[Option.bind_some]
  by_cases hi:a.1=0
  ·simp only[hi,if_true,beq_self_eq_true,Bool.not_true,Bool.false_and,Bool.false_eq_true,if_false,Option.bind_none,bind_none']
  ·have hb:(a.1 == 0)=false:=by simpa using hi
   simp only[hi,if_false,hb,Bool.not_false,Bool.true_and,Option.bind_some]
   cases props? kind a.2 with
   | none=>rfl
   | some b =>
    simp only[Option.bind_some]
    cases manyR f b.2 with
    | none=>rfl
    | some c =>
     simp only[Option.bind_some]
     cases mc c.1.length
     ·rfl
     ·rfl
theorem body_8 (R A:Nat) (d:Bool) (q:Int) (r:Bool) (st:Option (List Int)) (w0:GW) (w:World) (h:RP w0 w R st) (hp:Pk w A (pk0 8 d q r)) (hA:A≠R) (hA0:w0.heap.size<=A) (hl:∀ l,st=some l->l.length<=65536):Calls Tryz.prog 53 #[.pointer (some ⟨R,0,none⟩),.pointer (some ⟨A,0,none⟩)] w (BodyPg w0 R A (pa0 8 d q r) st w):=by
 have hRw:=h.lt
 have hAw:=hp.lt
 have c0:=hp.kind
 simp only[pk0]at c0
 have HP:=zh hp
 have HS:=zh h
 clear hp h
 go_enter Tryz.func53,Tryz.ntmps53
 go_wp2_with fail
 refine (lists_subs R A _ st w0 w (uh HS) (uh HP) hA hA0 rfl hl rfl).mono ?_
 rintro e w1 ⟨rfl,i,s,x,t,dd,st1,hp1,hO1,hO2,hs1,h1,hb1⟩
 have HP1:=zh hp1
 have HS1:=zh h1
 have HST1:=zh hs1
 have HB1:=zh hb1
 clear hp1 h1 hs1 hb1
 go_wp2
 go_end0
 have k1:Stp (body? (pa0 8 d q r)) st { pa0 8 d q r with id:=i,props:=x,subs:=dd } st1:=Stp.congr (pglist_eq 8 sub? fun i x dd=>({ pa0 8 d q r with id:=i,props:=x,subs:=dd }:Pa)) (Stp.bind (g:=fun (r':Int×List Pr×List Sb)=>pureR ({ pa0 8 d q r with id:=r'.1,props:=r'.2.1,subs:=r'.2.2 }:Pa)) (uh HST1) (Stp.pure _ _))
 exact⟨rfl,_,_,st1,uh HP1,k1,uh HS1,uh HB1,.inr ⟨⟨rfl,rfl,rfl,rfl,rfl,rfl,rfl,rfl,rfl,rfl,rfl,rfl⟩,uh hO1,wills0 _ _,row0 _ _ _ _,row0 _ _ _ _,uh hO2,row0 _ _ _ _,row0 _ _ _ _⟩⟩
end Go.Proofs.YtdkmmmjjdlnnoaaGreatDoor.K
namespace Go.Proofs.YtdkmmmjjdlnnoaaGreatDoor.K.B
open Go.RowKit
open Go.Proofs.YtdkmmmjjdlnnoaaGreatDoor.K
set_option maxRecDepth 100000
theorem RT.bind0 {α β:Type} {f:List Int->Option (α×List Int)} {g:α->List Int->Option (β×List Int)} {zs:List Int} {x:α} {y:β} (h:RT f [] x) (k:RT (g x) zs y):RT (bindR f g) zs y:=RT.bind (ys:=[]) h k
theorem RT.ebind {α β:Type} {f:List Int->Option (α×List Int)} {g:α->List Int->Option (β×List Int)} {ys zs:List Int} {x:α} {y:β} (h:RT f ys x) (k:ET (g x) zs y):ET (bindR f g) (ys++zs) y:=by
 unfold ET bindR
 rw[h]
 exact k
theorem rt_must {b:Bool} (hb:b=true):RT (mustR b) [] ():=fun r=>by
 unfold mustR
 rw[if_pos hb]
 rfl
theorem rt_one (n:Int):RT one? [n] n:=fun _=>rfl
theorem rt_two {k:Int} (h:in16 k=true):RT two? (b2 k) k:=fun r=>by
 unfold in16 at h
 simp only[Bool.and_eq_true,decide_eq_true_eq]at h
 show some (k / 256 % 256 * 256+k % 256,r)=some (k,r)
 have:k / 256 % 256 * 256+k % 256=k:=by omega
 rw[this]
theorem rt_id {k:Int} (h:(in16 k && k != 0)=true):RT id? (b2 k) k:=fun r=>by
 rw[Bool.and_eq_true]at h
 have h2:=rt_two h.1 r
 unfold id?
 rw[h2]
 have h0:k≠0:=bne_iff_ne.1 h.2
 show (if k=0 then none else some (k,r))=_
 rw[if_neg h0]
theorem drop_tx (s:ByteArray) (r:List Int):(tx s++r).drop (((2+s.size:Nat):Int).toNat)=r:=by
 have:(((2+s.size:Nat):Int).toNat)=(tx s).length:=by rw[tx_length];rfl
 rw[this,List.drop_left]
theorem rt_text {s:ByteArray} (h:okT s=true):RT text? (tx s) s:=fun r=>by
 have e:=gt_tx s r (of_decide_eq_true h)
 unfold text?
 rw[e]
 show (if (0:Int)=0 then some (s,(tx s++r).drop (((2+s.size:Nat):Int).toNat)) else none)=_
 rw[if_pos rfl,drop_tx]
theorem rng_l {a b:List Int} (h:Rng (a++b)):Rng a:=fun j=>by
 by_cases hj:j < a.length
 ·have:=h j
  rw[List.getD_eq_getElem?_getD,List.getElem?_append_left hj,<- List.getD_eq_getElem?_getD]at this
  exact this
 ·rw[List.getD_eq_getElem?_getD,List.getElem?_eq_none (by omega)];simp
theorem many_back {α:Type} {f:List Int->Option (α×List Int)} {g:α->List Int->Option (List Int)} (hg:∀ a t l,g a t=some l->∃ ys,l=t++ys/\1<=ys.length/\RT f ys a) :
  ∀ (d:List α) (t l:List Int),sEach g d t=some l->∃ zs,l=t++zs/\∀ n,zs.length<=n->many f n zs=some (d,[])
 | [],t,l,h=>by
  cases h
  exact⟨[],by rw[List.append_nil],fun n _=>many_nil f n⟩
 | a :: r,t,l,h=>by
  unfold sEach at h
  cases hq:g a t with
  | none=>rw[hq]at h;cases h
  | some l1 =>
   rw[hq]at h
   obtain⟨ys,rfl,h1,hf⟩:=hg a t l1 hq
   obtain⟨zs,rfl,hz⟩:=many_back hg r (t++ys) l h
   refine⟨ys++zs,by rw[List.append_assoc],fun n hn=>?_⟩
   rw[List.length_append]at hn
   obtain⟨m,rfl⟩:∃ m,n=m+1:=⟨n - 1,by omega⟩
   have hne:ys++zs≠[]:=fun e=>by
    have:=congrArg List.length e
    rw[List.length_append,List.length_nil]at this
    omega
   unfold many
   rw[if_neg hne,hf]
   show (many f m zs).map _=_
   rw[hz m (by omega)]
   rfl
theorem list_back {α:Type} {f:List Int->Option (α×List Int)} {g:α->List Int->Option (List Int)} (hg:∀ a t l,g a t=some l->∃ ys,l=t++ys/\1<=ys.length/\RT f ys a) {d:List α} {t l:List Int} (h:sEach g d t=some l) (hm:mc d.length=true):∃ zs,l=t++zs/\ET (list? f) zs d:=by
 obtain⟨zs,rfl,hz⟩:=many_back hg d t l h
 refine⟨zs,rfl,?_⟩
 unfold ET list? bindR manyR
 rw[hz _ (Nat.le_refl _)]
 show (mustR (mc d.length) []).bind _=_
 unfold mustR
 rw[if_pos hm]
 rfl
theorem opb_back (q h:Int) (n a:Bool) (hk:opk q h=true):0<=opv q n a h/\opv q n a h < 256/\opv q n a h % 4=q/\btest (opv q n a h) 4=n/\btest (opv q n a h) 8=a/\opv q n a h / 16=h:=by
 unfold opk mq at hk
 simp only[Bool.and_eq_true,decide_eq_true_eq]at hk
 have hq:q=0\/q=1\/q=2:=by omega
 have hh:h=0\/h=1\/h=2:=by omega
 rcases hq with rfl | rfl | rfl <;> rcases hh with rfl | rfl | rfl <;> cases n <;> cases a <;> decide +kernel
theorem g_sub (s:Sb) (t l:List Int) (h:sSub s t=some l):∃ ys,l=t++ys/\1<=ys.length/\RT sub? ys s:=by
 unfold sSub at h
 obtain⟨t1,h1,hc,rfl⟩:=add_inv h
 obtain⟨t2,h2,ht,rfl⟩:=add_inv h1
 have hk:opk s.qos s.handling=true/\t2=t:=by
  unfold sMust at h2
  cases hq:opk s.qos s.handling with
  | false=>rw[hq]at h2;cases h2
  | true=>rw[hq]at h2;cases h2;exact⟨rfl,rfl⟩
 obtain⟨hk,rfl⟩:=hk
 obtain⟨b1,b2,b3,b4,b5,b6⟩:=opb_back s.qos s.handling s.nolocal s.aspub hk
 have he:opb s % 256=opb s:=by unfold opb;omega
 refine⟨tx s.filter++[opb s],by rw[he,List.append_assoc],by simp,?_⟩
 refine RT.bind (rt_text ht) (RT.bind (ys:=[opb s]) (zs:=[]) (rt_one (opb s)) (RT.bind0 (rt_must ?_) ?_))
 ·unfold opb
  rw[b3,b6]
  exact hk
 ·intro r
  show some (sbOf s.filter (opb s),r)=some (s,r)
  unfold sbOf opb
  rw[b3,b4,b5,b6]
end Go.Proofs.YtdkmmmjjdlnnoaaGreatDoor.K.B
namespace Go.Proofs.YtdkmmmjjdlnnoaaGreatDoor.K.B
open Go.RowKit
open Go.Proofs.YtdkmmmjjdlnnoaaGreatDoor.K
set_option maxRecDepth 100000
theorem sIdA_inv {P:Pa} {t:List Int} (h:sIdA P=some t):(in16 P.id && P.id != 0)=true/\t=b2 P.id:=by
 obtain⟨t1,e,hc,rfl⟩:=add_inv (st:=some []) h
 cases e
 exact⟨hc,rfl⟩
theorem sIpA_inv {P:Pa} {t:List Int} (h:sIpA P=some t):(in16 P.id && P.id != 0)=true/\okP P.kind P.props=true/\t=b2 P.id++pbs P.props:=by
 obtain⟨t1,h1,hc,rfl⟩:=add_inv h
 obtain⟨h2,rfl⟩:=sIdA_inv h1
 exact⟨h2,hc,rfl⟩
theorem back_8 {P:Pa} {l:List Int} (k:Int) (hkk:k=8) (hk:P.kind=k) (h:eb P=some l) (hr:Rng l):ET (body? (pa0 k false 0 false)) l P:=by
 unfold eb at h
 rw[if_neg (by omega),if_neg (by omega),if_neg (by omega),if_neg (by omega),if_pos (by omega)]at h
 obtain⟨h1,he⟩:=must_inv h
 cases h2:(sIpA P).bind (sMust (mc P.subs.length)) with
 | none=>rw[h2]at h1;cases h1
 | some t =>
  rw[h2]at h1
  obtain⟨h3,hm⟩:=must_inv h2
  obtain⟨hid,hp,rfl⟩:=sIpA_inv h3
  obtain⟨zs,rfl,hz⟩:=list_back g_sub (show sEach sSub P.subs (b2 P.id++pbs P.props)=some l from h1) hm
  have hpr:=rt_props hp (rng_r (rng_l hr))
  rw[hk]at hpr
  have hri:=rt_id hid
  obtain⟨⟨e1,e2,e3,e4⟩,⟨e5,e6,e7,e8⟩,⟨e9,e10,e11⟩,e12,e13,e14,e15,e16,e17,e18⟩:=emp_inv he
  obtain⟨kind,dup,qos,retain,topic,id,payload,props,client,clean,keep,wills,user,pass,code,session,subs,filters,codes⟩:=P
  obtain rfl:dup=false:=e1
  obtain rfl:qos=0:=e5
  obtain rfl:retain=false:=e2
  obtain rfl:topic=⟨#[]⟩:=no_text e9
  obtain rfl:payload=⟨#[]⟩:=no_text e10
  obtain rfl:client=⟨#[]⟩:=no_text e11
  obtain rfl:clean=false:=e3
  obtain rfl:keep=0:=e7
  obtain rfl:wills=[]:=no_list e13
  obtain rfl:user=[]:=no_list e14
  obtain rfl:pass=[]:=no_list e15
  obtain rfl:code=0:=e8
  obtain rfl:session=false:=e4
  obtain rfl:filters=[]:=no_list e17
  obtain rfl:codes=[]:=no_list e18
  obtain rfl:kind=k:=hk
  dsimp only at *
  have e:body? (pa0 kind false 0 false)=bindR id? fun i=>bindR (props? kind) fun x=>bindR (list? sub?) fun d=>pureR { (pa0 kind false 0 false)with id:=i,props:=x,subs:=d }:=by
   unfold body?
   have e0:(pa0 kind false 0 false).kind=kind:=rfl
   rw[e0,if_neg (by omega),if_neg (by omega),if_neg (by omega),if_pos (by omega)]
   all_goals rfl
  rw[e,List.append_assoc]
  exact RT.ebind hri (RT.ebind hpr (hz.last _ rfl))
end Go.Proofs.YtdkmmmjjdlnnoaaGreatDoor.K.B
