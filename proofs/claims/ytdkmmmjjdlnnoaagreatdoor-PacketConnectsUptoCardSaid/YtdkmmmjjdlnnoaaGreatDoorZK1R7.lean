/- Proved here: helpers, one text behind the other. -/
import Derived.Test.YtdkmmmjjdlnnoaaGreatDoorZC41
import Derived.Test.YtdkmmmjjdlnnoaaGreatDoorZK1R6
import Derived.Test.YtdkmmmjjdlnnoaaGreatDoorZC43
import Derived.Test.YtdkmmmjjdlnnoaaGreatDoorZC23
import Derived.Test.YtdkmmmjjdlnnoaaGreatDoorZK1R4
set_option maxHeartbeats 20000000
namespace Go.Proofs.YtdkmmmjjdlnnoaaGreatDoor.K
open Go.RowKit
set_option maxRecDepth 100000
theorem body_1 (R A:Nat) (d:Bool) (q:Int) (r:Bool) (st:Option (List Int)) (w0:GW) (w:World) (h:RP w0 w R st) (hp:Pk w A (pk0 1 d q r)) (hA:A≠R) (hA0:w0.heap.size<=A):Calls Tryz.prog 53 #[.pointer (some ⟨R,0,none⟩),.pointer (some ⟨A,0,none⟩)] w (BodyPg w0 R A (pa0 1 d q r) st w):=by
 have hRw:=h.lt
 have hAw:=hp.lt
 have c0:=hp.kind
 simp only[pk0]at c0
 have HP:=zh hp
 have HS:=zh h
 clear hp h
 go_enter Tryz.func53,Tryz.ntmps53
 go_wp2_with fail
 refine (connect_pg R A d q r st w0 w (uh HS) (uh HP) hA hA0).mono ?_
 rintro e w1 ⟨rfl,p',n,st',h1,h2,h3,h4,h5⟩
 have H1:=zh h1
 have H2:=zh h2
 have H3:=zh h3
 have H4:=zh h4
 have H5:=zh h5
 clear h1 h2 h3 h4 h5
 go_wp2
 go_end0
 have k:Stp (body? (pa0 1 d q r)) st (ofCn (pa0 1 d q r) n) st':=Stp.bind (g:=fun n=>pureR (ofCn (pa0 1 d q r) n)) (Stp.congr connectP_eq (uh H2)) (Stp.pure _ _)
 exact⟨rfl,p',_,st',uh H1,k,uh H3,uh H4,uh H5⟩
end Go.Proofs.YtdkmmmjjdlnnoaaGreatDoor.K
namespace Go.Proofs.YtdkmmmjjdlnnoaaGreatDoor.K.B
open Go.RowKit
open Go.Proofs.YtdkmmmjjdlnnoaaGreatDoor.K
set_option maxRecDepth 100000
theorem RT.bind0 {α β:Type} {f:List Int->Option (α×List Int)} {g:α->List Int->Option (β×List Int)} {zs:List Int} {x:α} {y:β} (h:RT f [] x) (k:RT (g x) zs y):RT (bindR f g) zs y:=RT.bind (ys:=[]) h k
theorem rt_must {b:Bool} (hb:b=true):RT (mustR b) [] ():=fun r=>by
 unfold mustR
 rw[if_pos hb]
 rfl
theorem rt_one (n:Int):RT one? [n] n:=fun _=>rfl
theorem rt_two {k:Int} (h:in16 k=true):RT two? (b2 k) k:=fun r=>by
 unfold in16 at h
 simp only[Bool.and_eq_true,decide_eq_true_eq]at h
 show some (k / 256 % 256 * 256+k % 256,r)=some (k,r)
 have:k / 256 % 256 * 256+k % 256=k:=by omega
 rw[this]
theorem drop_tx (s:ByteArray) (r:List Int):(tx s++r).drop (((2+s.size:Nat):Int).toNat)=r:=by
 have:(((2+s.size:Nat):Int).toNat)=(tx s).length:=by rw[tx_length];rfl
 rw[this,List.drop_left]
theorem rt_text {s:ByteArray} (h:okT s=true):RT text? (tx s) s:=fun r=>by
 have e:=gt_tx s r (of_decide_eq_true h)
 unfold text?
 rw[e]
 show (if (0:Int)=0 then some (s,(tx s++r).drop (((2+s.size:Nat):Int).toNat)) else none)=_
 rw[if_pos rfl,drop_tx]
theorem rt_bin {s:ByteArray} (h:okB s=true):RT bin? (tx s) s:=fun r=>by
 have e:=gbn_tx s r (of_decide_eq_true h)
 unfold bin?
 rw[e]
 show (if (0:Int)=0 then some (s,(tx s++r).drop (((2+s.size:Nat):Int).toNat)) else none)=_
 rw[if_pos rfl,drop_tx]
theorem rng_l {a b:List Int} (h:Rng (a++b)):Rng a:=fun j=>by
 by_cases hj:j < a.length
 ·have:=h j
  rw[List.getD_eq_getElem?_getD,List.getElem?_append_left hj,<- List.getD_eq_getElem?_getD]at this
  exact this
 ·rw[List.getD_eq_getElem?_getD,List.getElem?_eq_none (by omega)];simp
end Go.Proofs.YtdkmmmjjdlnnoaaGreatDoor.K.B
namespace Go.Proofs.YtdkmmmjjdlnnoaaGreatDoor.K.B
open Go.RowKit
open Go.Proofs.YtdkmmmjjdlnnoaaGreatDoor.K
set_option maxRecDepth 100000
theorem cfl0_back (nu np:Nat) (c:Bool) (hu:nu<=1) (hp:np<=1):(0<=cfl0 nu np c/\cfl0 nu np c < 256)/\cfok (cfl0 nu np c)=true/\btest (cfl0 nu np c) 128=decide (0 < nu)/\btest (cfl0 nu np c) 64=decide (0 < np)/\btest (cfl0 nu np c) 2=c/\btest (cfl0 nu np c) 4=false:=by
 have h1:nu=0\/nu=1:=by omega
 have h2:np=0\/np=1:=by omega
 rcases h1 with rfl | rfl <;> rcases h2 with rfl | rfl <;> cases c <;> decide +kernel
theorem cfl1_back (nu np:Nat) (c:Bool) (hu:nu<=1) (hp:np<=1) (u:Wl) (hq:mq u.qos=true):(0<=cstepA (cfl0 nu np c) u/\cstepA (cfl0 nu np c) u < 256)/\cfok (cstepA (cfl0 nu np c) u)=true/\btest (cstepA (cfl0 nu np c) u) 128=decide (0 < nu)/\btest (cstepA (cfl0 nu np c) u) 64=decide (0 < np)/\btest (cstepA (cfl0 nu np c) u) 2=c/\btest (cstepA (cfl0 nu np c) u) 4=true/\cstepA (cfl0 nu np c) u / 8 % 4=u.qos/\btest (cstepA (cfl0 nu np c) u) 32=u.retain:=by
 have h1:nu=0\/nu=1:=by omega
 have h2:np=0\/np=1:=by omega
 obtain⟨t,y,q,r,ps⟩:=u
 unfold mq at hq
 simp only[Bool.and_eq_true,decide_eq_true_eq]at hq
 have h3:q=0\/q=1\/q=2:=by omega
 unfold cstepA
 dsimp only
 rcases h1 with rfl | rfl <;> rcases h2 with rfl | rfl <;> rcases h3 with rfl | rfl | rfl <;> cases c <;> cases r <;> decide +kernel
theorem will_back {x:Int} {u:Wl} {t l:List Int} (hx:btest x 4=true) (h:sEach sWill [u] t=some l) (hr:Rng l):∃ ys,l=t++ys/\RT (will? x) ys (some (u.props,u.topic,u.payload)):=by
 have k:∀ z:Option (List Int),z.bind (sEach sWill [])=z:=fun z=>by cases z <;> rfl
 have h1:sWill u t=some l:=by
  have:=h
  unfold sEach at this
  rw[k]at this
  exact this
 unfold sWill at h1
 obtain⟨t1,h2,hb,rfl⟩:=add_inv h1
 obtain⟨t2,h3,ht,rfl⟩:=add_inv h2
 obtain⟨_,e,hp,rfl⟩:=add_inv (st:=some t) h3
 cases e
 have hpr:=rt_props hp (rng_r (rng_l (rng_l hr)))
 refine⟨pbs u.props++(tx u.topic++tx u.payload),by simp only[List.append_assoc],?_⟩
 unfold will?
 rw[if_pos hx]
 exact RT.bind hpr (RT.bind (rt_text ht) ((rt_bin hb).last _ rfl))
theorem each_one {α:Type} {f:α->List Int->Option (List Int)} {a:α} {t l:List Int} (h:sEach f [a] t=some l):f a t=some l:=by
 have k:∀ z:Option (List Int),z.bind (sEach f [])=z:=fun z=>by cases z <;> rfl
 have:=h
 unfold sEach at this
 rw[k]at this
 exact this
theorem user_back {x:Int} {s:ByteArray} {t l:List Int} (hx:btest x 128=true) (h:sEach sTx [s] t=some l):∃ ys,l=t++ys/\RT (user? x) ys (some s):=by
 obtain⟨_,e,hc,rfl⟩:=add_inv (st:=some t) (each_one h)
 cases e
 refine⟨_,rfl,?_⟩
 unfold user?
 rw[if_pos hx]
 exact (rt_text hc).last _ rfl
theorem pass_back {x:Int} {s:ByteArray} {t l:List Int} (hx:btest x 64=true) (h:sEach sPass [s] t=some l):∃ ys,l=t++ys/\RT (pass? x) ys (some s):=by
 obtain⟨_,e,hc,rfl⟩:=add_inv (st:=some t) (each_one h)
 cases e
 refine⟨_,rfl,?_⟩
 unfold pass?
 rw[if_pos hx]
 exact (rt_bin hc).last _ rfl
theorem short_list {α:Type} {l:List α} (h:l.length<=1):l=[]\/∃ a,l=[a]:=by
 match l,h with
 | [],_=>exact .inl rfl
 | [a],_=>exact .inr ⟨a,rfl⟩
theorem ouser {x:Int} {us:List ByteArray} {t l:List Int} (hl:us.length<=1) (hx:btest x 128=decide (0 < us.length)) (h:sEach sTx us t=some l):∃ ys o,l=t++ys/\RT (user? x) ys o/\o.toList=us:=by
 rcases short_list hl with rfl | ⟨a,rfl⟩
 ·cases h
  refine⟨[],none,by rw[List.append_nil],?_,rfl⟩
  unfold user?
  rw[if_neg (by rw[hx];decide)]
  exact fun r=>rfl
 ·obtain⟨ys,e,k⟩:=user_back (x:=x) (by rw[hx];rfl) h
  exact⟨ys,_,e,k,rfl⟩
theorem opass {x:Int} {us:List ByteArray} {t l:List Int} (hl:us.length<=1) (hx:btest x 64=decide (0 < us.length)) (h:sEach sPass us t=some l):∃ ys o,l=t++ys/\RT (pass? x) ys o/\o.toList=us:=by
 rcases short_list hl with rfl | ⟨a,rfl⟩
 ·cases h
  refine⟨[],none,by rw[List.append_nil],?_,rfl⟩
  unfold pass?
  rw[if_neg (by rw[hx];decide)]
  exact fun r=>rfl
 ·obtain⟨ys,e,k⟩:=pass_back (x:=x) (by rw[hx];rfl) h
  exact⟨ys,_,e,k,rfl⟩
theorem owill {x:Int} {ws:List Wl} {t l:List Int} (hl:ws.length<=1) (hx:btest x 4=decide (0 < ws.length)) (hq:∀ u ∈ ws,x / 8 % 4=u.qos/\btest x 32=u.retain) (h:sEach sWill ws t=some l) (hr:Rng l):∃ ys o,l=t++ys/\RT (will? x) ys o/\wlOf x o=ws:=by
 rcases short_list hl with rfl | ⟨u,rfl⟩
 ·cases h
  refine⟨[],none,by rw[List.append_nil],?_,rfl⟩
  unfold will?
  rw[if_neg (by rw[hx];decide)]
  exact fun r=>rfl
 ·obtain⟨ys,e,k⟩:=will_back (x:=x) (by rw[hx];rfl) h hr
  refine⟨ys,_,e,k,?_⟩
  obtain⟨h1,h2⟩:=hq u (List.mem_singleton.2 rfl)
  unfold wlOf
  dsimp only
  rw[h1,h2]
theorem cfA_back {P:Pa} (h:cokA P=true):P.wills.length<=1/\P.user.length<=1/\P.pass.length<=1/\(0<=cflA P/\cflA P < 256)/\cfok (cflA P)=true/\btest (cflA P) 128=decide (0 < P.user.length)/\btest (cflA P) 64=decide (0 < P.pass.length)/\btest (cflA P) 2=P.clean/\btest (cflA P) 4=decide (0 < P.wills.length)/\∀ u ∈ P.wills,cflA P / 8 % 4=u.qos/\btest (cflA P) 32=u.retain:=by
 unfold cokA cok0 at h
 simp only[Bool.and_eq_true,decide_eq_true_eq]at h
 obtain⟨⟨⟨hw,hu⟩,hp⟩,hq⟩:=h
 refine⟨hw,hu,hp,?_⟩
 unfold cflA
 rcases short_list hw with e | ⟨u,e⟩
 ·rw[e]
  obtain⟨h1,h2,h3,h4,h5,h6⟩:=cfl0_back P.user.length P.pass.length P.clean hu hp
  exact⟨h1,h2,h3,h4,h5,h6,fun u hu=>by cases hu⟩
 ·rw[e]at hq |-
  have hq1:mq u.qos=true:=by simpa using hq
  obtain⟨h1,h2,h3,h4,h5,h6,h7,h8⟩:=cfl1_back P.user.length P.pass.length P.clean hu hp u hq1
  refine⟨h1,h2,h3,h4,h5,h6,fun v hv=>?_⟩
  obtain rfl:=List.mem_singleton.1 hv
  exact⟨h7,h8⟩
theorem is_mqtt:isMQTT mqtt=true:=by decide +kernel
theorem back_1 {P:Pa} {l:List Int} (hk:P.kind=1) (h:eb P=some l) (hr:Rng l):ET (body? (pa0 1 false 0 false)) l P:=by
 unfold eb at h
 rw[if_pos hk]at h
 obtain⟨h1,he⟩:=must_inv h
 unfold sConn at h1
 cases h2:sCon0 P.kind (cflA P) P.keep (cokA P) P.props P.client [] with
 | none=>rw[h2]at h1;cases h1
 | some t0 =>
  rw[h2]at h1
  cases h3:sEach sWill P.wills t0 with
  | none =>
   have:(((some t0).bind (sEach sWill P.wills)).bind (sEach sTx P.user)).bind (sEach sPass P.pass)=none:=by
    show ((sEach sWill P.wills t0).bind (sEach sTx P.user)).bind (sEach sPass P.pass)=none
    rw[h3];rfl
   rw[this]at h1;cases h1
  | some t1 =>
   have h4:((sEach sTx P.user t1)).bind (sEach sPass P.pass)=some l:=by
    have:(((some t0).bind (sEach sWill P.wills)).bind (sEach sTx P.user)).bind (sEach sPass P.pass)=(sEach sTx P.user t1).bind (sEach sPass P.pass):=by
     show ((sEach sWill P.wills t0).bind (sEach sTx P.user)).bind (sEach sPass P.pass)=_
     rw[h3];rfl
    rw[this]at h1;exact h1
   cases h5:sEach sTx P.user t1 with
   | none=>rw[h5]at h4;cases h4
   | some t2 =>
    rw[h5]at h4
    have h6:sEach sPass P.pass t2=some l:=h4
    unfold sCon0 at h2
    obtain⟨u1,g1,hct,rfl⟩:=add_inv h2
    obtain⟨u2,g2,hp,rfl⟩:=add_inv g1
    obtain⟨u3,g3,hkp,rfl⟩:=add_inv g2
    obtain⟨u4,g4,hfl,rfl⟩:=add_inv g3
    obtain⟨u5,g5,-,rfl⟩:=add_inv g4
    obtain⟨u6,g6,hmq,rfl⟩:=add_inv g5
    have hok:cokA P=true/\u6=[]:=by
     unfold sMust at g6
     cases hq:cokA P with
     | false=>rw[hq]at g6;cases g6
     | true=>rw[hq]at g6;cases g6;exact⟨rfl,rfl⟩
    obtain⟨hok,rfl⟩:=hok
    obtain⟨hw1,hu1,hp1,hx,hcf,b128,b64,b2',b4,hwq⟩:=cfA_back hok
    have hfl1:cflA P % 256=cflA P:=by omega
    rw[hk]at hp
    obtain⟨yp,op,rfl,rp,ep⟩:=opass (x:=cflA P) hp1 b64 h6
    obtain⟨yu,ou,rfl,ru,eu⟩:=ouser (x:=cflA P) hu1 b128 h5
    obtain⟨yw,ow,rfl,rw',ew⟩:=owill (x:=cflA P) hw1 b4 hwq h3 (rng_l (rng_l hr))
    have hrb:=rng_l (rng_l (rng_l hr))
    have hpr:=rt_props hp (rng_r (rng_l hrb))
    have hcon:RT connect? ((((([]++tx mqtt++[5 % 256]++[cflA P % 256]++b2 P.keep++pbs P.props++tx P.client)++yw)++yu)++yp)) ⟨cflA P,P.keep,P.props,P.client,ow,ou,op⟩:=by
     rw[hfl1]
     have e0:(([]++tx mqtt++[5 % 256]++[cflA P]++b2 P.keep++pbs P.props++tx P.client)++yw)++yu++yp=tx mqtt++([5]++([cflA P]++(b2 P.keep++(pbs P.props++(tx P.client++(yw++(yu++yp))))))):=by
      simp only[List.append_assoc,List.nil_append]
      rfl
     rw[e0]
     unfold connect?
     refine RT.bind (rt_text hmq) (RT.bind0 (rt_must is_mqtt) (RT.bind (rt_one 5) (RT.bind0 (rt_must rfl) (RT.bind (ys:=[cflA P]) ?_ (RT.bind (rt_two hkp) (RT.bind hpr (RT.bind (rt_text hct) (RT.bind rw' (RT.bind ru (rp.last _ rfl))))))))))
     unfold flags?
     exact RT.bind (ys:=[cflA P]) (zs:=[]) (rt_one _) (RT.bind0 (rt_must hcf) (fun r=>rfl))
    have e:body? (pa0 1 false 0 false)=bindR connect? fun n=>pureR (ofCn (pa0 1 false 0 false) n):=rfl
    rw[e]
    refine hcon.et.last _ ?_
    unfold ofCn
    dsimp only
    rw[b2',ew,eu,ep]
    obtain⟨⟨e1,e2,e3,e4⟩,⟨e5,e6,e7,e8⟩,⟨e9,e10,e11⟩,e12,e13,e14,e15,e16,e17,e18⟩:=emp_inv he
    obtain⟨kind,dup,qos,retain,topic,id,payload,props,client,clean,keep,wills,user,pass,code,session,subs,filters,codes⟩:=P
    obtain rfl:dup=false:=e1
    obtain rfl:qos=0:=e5
    obtain rfl:retain=false:=e2
    obtain rfl:topic=⟨#[]⟩:=no_text e9
    obtain rfl:id=0:=e6
    obtain rfl:payload=⟨#[]⟩:=no_text e10
    obtain rfl:code=0:=e8
    obtain rfl:session=false:=e4
    obtain rfl:subs=[]:=no_list e16
    obtain rfl:filters=[]:=no_list e17
    obtain rfl:codes=[]:=no_list e18
    obtain rfl:kind=1:=hk
    rfl
end Go.Proofs.YtdkmmmjjdlnnoaaGreatDoor.K.B
