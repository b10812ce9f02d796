/- Proved here: helpers, one text behind the other. -/
import Derived.Test.YtccnjdgaldbgnaaGreatDoorZC39
import Derived.Test.YtccnjdgaldbgnaaGreatDoorZC31
namespace Go.Proofs.YtccnjdgaldbgnaaGreatDoor.K.B
open Go.RowKit
open Go.Proofs.YtccnjdgaldbgnaaGreatDoor.K
set_option maxRecDepth 100000
structure Md (P:Pa):Prop where
 qos:0<=P.qos/\P.qos<=3
 id:0<=P.id/\P.id<=65535
 keep:0<=P.keep/\P.keep<=65535
 code:0<=P.code/\P.code<=255
 topic:P.topic.size<=65535
 payload:P.payload.size<=65536
 client:P.client.size<=65535
 props:PrOk P.props
 wills:P.wills.length<=1
 wills2:∀ u ∈ P.wills,u.topic.size<=65535/\PrOk u.props
 user:P.user.length<=1
 user2:∀ s ∈ P.user,s.size<=65535
 pass:P.pass.length<=1
 subs:P.subs.length<=16
 subs2:∀ s ∈ P.subs,s.filter.size<=65535
 filters:P.filters.length<=16
 filters2:∀ s ∈ P.filters,s.size<=65535
 codes:P.codes.length<=16
 codes2:∀ n ∈ P.codes,0<=n/\n<=255
theorem prok_nil:PrOk []:=⟨by simp,fun k hk=>absurd hk (by simp)⟩
theorem mem_at {α:Type} {l:List α} {k:Nat} {d:α} (hk:k < l.length):l.getD k d ∈ l:=by
 rw[List.getD_eq_getElem?_getD,List.getElem?_eq_getElem hk]
 exact List.getElem_mem hk
theorem PrOk.small {l:List Pr} (h:PrOk l):Go.Proofs.YtccnjdgaldbgnaaGreatDoor.Small l:=fun k hk=>by have:=h.2 k hk;omega
theorem Md.big {P:Pa} (h:Md P):Big P:=by
 have h1:=h.qos
 have h2:=h.id
 have h3:=h.keep
 have h4:=h.code
 have t1:=h.topic
 have t2:=h.payload
 have t3:=h.client
 have l1:=h.props.1
 have l2:=h.wills
 have l3:=h.user
 have l4:=h.pass
 have l5:=h.subs
 have l6:=h.filters
 have l7:=h.codes
 refine⟨⟨by omega,by omega,by omega,by omega⟩,⟨by omega,by omega,by omega⟩,⟨by omega,by omega,by omega,by omega,by omega,by omega,by omega⟩,h.props.small,fun k hk=>?_,fun k hk=>?_,fun k hk=>?_,fun k hk=>?_,fun k hk=>?_⟩
 ·obtain⟨a,b⟩:=h.wills2 _ (mem_at (d:=wl0) hk)
  have:=b.1
  exact⟨by omega,by omega,b.small⟩
 ·have:=h.user2 _ (mem_at (d:=⟨#[]⟩) hk);omega
 ·have:=h.subs2 _ (mem_at (d:=sb0) hk);omega
 ·have:=h.filters2 _ (mem_at (d:=⟨#[]⟩) hk);omega
 ·have:=h.codes2 _ (mem_at (d:=0) hk);omega
def Again (P:Pa) (k:Int) (d:Bool) (q:Int) (l r:List Int):Prop:=(P.kind=k/\P.dup=d/\P.qos=q)/\Md P/\∃ ys,eb P=some ys/\ys.length+r.length<=l.length
theorem b_add {st:Option (List Int)} {c:Bool} {ys t:List Int} (h:st=some t) (hc:c=true):st.bind (sAdd c ys)=some (t++ys):=by rw[h];exact add_yes hc
theorem b_must {st:Option (List Int)} {c:Bool} {t:List Int} (h:st=some t) (hc:c=true):st.bind (sMust c)=some t:=by rw[h];exact must_yes hc
theorem b_step {st:Option (List Int)} {f:List Int->Option (List Int)} {ys t:List Int} (h:st=some t) (hc:f t=some (t++ys)):st.bind f=some (t++ys):=by rw[h];exact hc
theorem in8_of {x:Int} (h:0<=x/\x<=255):in8 x=true:=by unfold in8;simp only[Bool.and_eq_true,decide_eq_true_eq];omega
theorem in16_of {x:Int} (h:in16 x=true):0<=x/\x<=65535:=by unfold in16 at h;simp only[Bool.and_eq_true,decide_eq_true_eq]at h;omega
theorem id_of {x:Int} (h:(in16 x && x != 0)=true):0<=x/\x<=65535:=by rw[Bool.and_eq_true]at h;exact in16_of h.1
theorem mc_of {n:Nat} (h:mc n=true):n<=16:=by unfold mc at h;simp only[Bool.and_eq_true,decide_eq_true_eq]at h;omega
theorem b2_len (k:Int):(b2 k).length=2:=rfl
theorem eb_4 {P:Pa} (hk:P.kind=4\/P.kind=5\/P.kind=6\/P.kind=7):eb P=((sIdA P).bind (sReason P.code P.kind P.props)).bind (sMust (empA P.no_id.no_code.no_props)):=by
 unfold eb
 rw[if_neg (by omega),if_neg (by omega),if_neg (by omega),if_pos hk]
theorem eb_8 {P:Pa} (hk:P.kind=8):eb P=(((sIpA P).bind (sMust (mc P.subs.length))).bind (sEach sSub P.subs)).bind (sMust (empA P.no_id.no_props.no_subs)):=by
 unfold eb
 rw[if_neg (by omega),if_neg (by omega),if_neg (by omega),if_neg (by omega),if_pos hk]
theorem eb_10 {P:Pa} (hk:P.kind=10):eb P=(((sIpA P).bind (sMust (mc P.filters.length))).bind (sEach sTx P.filters)).bind (sMust (empA P.no_id.no_props.no_filters)):=by
 unfold eb
 rw[if_neg (by omega),if_neg (by omega),if_neg (by omega),if_neg (by omega),if_neg (by omega),if_pos hk]
theorem eb_9 {P:Pa} (hk:P.kind=9\/P.kind=11):eb P=(((sIpA P).bind (sMust (mc P.codes.length))).bind (sEach sCode P.codes)).bind (sMust (empA P.no_id.no_props.no_codes)):=by
 unfold eb
 rw[if_neg (by omega),if_neg (by omega),if_neg (by omega),if_neg (by omega),if_neg (by omega),if_neg (by omega),if_pos hk]
theorem eb_14 {P:Pa} (hk:P.kind=14\/P.kind=15):eb P=((some []).bind (sReason P.code P.kind P.props)).bind (sMust (empA P.no_code.no_props)):=by
 unfold eb
 rw[if_neg (by omega),if_neg (by omega),if_neg (by omega),if_neg (by omega),if_neg (by omega),if_neg (by omega),if_neg (by omega),if_pos hk]
theorem eb_12 {P:Pa} (hk:P.kind=12\/P.kind=13):eb P=(some []).bind (sMust (empA P)):=by
 unfold eb
 rw[if_neg (by omega),if_neg (by omega),if_neg (by omega),if_neg (by omega),if_neg (by omega),if_neg (by omega),if_neg (by omega),if_neg (by omega)]
theorem eb_1 {P:Pa} (hk:P.kind=1):eb P=(sConn P.kind (cflA P) P.keep (cokA P) P.props P.client P.wills P.user P.pass []).bind (sMust (empA P.no_clean.no_keep.no_props.no_client.no_wills.no_user.no_pass)):=by
 unfold eb
 rw[if_pos hk]
theorem eb_3 {P:Pa} (hk:P.kind=3):eb P=(sPub P.topic P.qos P.id P.kind P.props P.payload []).bind (sMust (if 0 < P.qos then empA P.no_dup.no_retain.no_topic.no_qos.no_id.no_props.no_payload else empA P.no_dup.no_retain.no_topic.no_qos.no_props.no_payload)):=by
 unfold eb
 rw[if_neg (by omega),if_neg (by omega),if_pos hk]
theorem bd_8 {P:Pa} (hk:P.kind=8):body? P=bindR id? fun i=>bindR (props? P.kind) fun x=>bindR (list? sub?) fun d=>pureR { P with id:=i,props:=x,subs:=d }:=by
 unfold body?
 rw[if_neg (by omega),if_neg (by omega),if_neg (by omega),if_pos hk]
theorem bd_10 {P:Pa} (hk:P.kind=10):body? P=bindR id? fun i=>bindR (props? P.kind) fun x=>bindR (list? text?) fun d=>pureR { P with id:=i,props:=x,filters:=d }:=by
 unfold body?
 rw[if_neg (by omega),if_neg (by omega),if_neg (by omega),if_neg (by omega),if_pos hk]
theorem bd_9 {P:Pa} (hk:P.kind=9\/P.kind=11):body? P=bindR id? fun i=>bindR (props? P.kind) fun x=>bindR (list? one?) fun d=>pureR { P with id:=i,props:=x,codes:=d }:=by
 unfold body?
 rw[if_neg (by omega),if_neg (by omega),if_neg (by omega),if_neg (by omega),if_neg (by omega),if_pos hk]
theorem bd_4 {P:Pa} (hk:P.kind=4\/P.kind=5\/P.kind=6\/P.kind=7):body? P=bindR id? fun i=>bindR (reason? P.kind) fun r=>pureR { P with id:=i,code:=r.1,props:=r.2 }:=by
 unfold body?
 rw[if_neg (by omega),if_neg (by omega),if_neg (by omega),if_neg (by omega),if_neg (by omega),if_neg (by omega),if_pos hk]
theorem bd_14 {P:Pa} (hk:P.kind=14\/P.kind=15):body? P=bindR (reason? P.kind) fun r=>pureR { P with code:=r.1,props:=r.2 }:=by
 unfold body?
 rw[if_neg (by omega),if_neg (by omega),if_neg (by omega),if_neg (by omega),if_neg (by omega),if_neg (by omega),if_neg (by omega),if_pos hk]
theorem bd_12 {P:Pa} (hk:P.kind=12\/P.kind=13):body? P=pureR P:=by
 unfold body?
 rw[if_neg (by omega),if_neg (by omega),if_neg (by omega),if_neg (by omega),if_neg (by omega),if_neg (by omega),if_neg (by omega),if_neg (by omega)]
theorem in_2 {l r:List Int} {P:Pa} (hr:Rng l) (h:body? (pa0 2 false 0 false) l=some (P,r)):Again P 2 false 0 l r:=by
 have h':(bindR one? fun f=>bindR (mustR (decide (f<=1))) fun _=>bindR one? fun c=>bindR (props? 2) fun x=>pureR { pa0 2 false 0 false with session:=f == 1,code:=c,props:=x }) l=some (P,r):=h
 obtain⟨f,l1,h1,hA⟩:=bi_inv h'
 obtain⟨_,l2,h2,hB⟩:=bi_inv hA
 obtain⟨_,e2⟩:=mu_inv h2
 obtain⟨c,l3,h3,hC⟩:=bi_inv hB
 obtain⟨x,l4,h4,hD⟩:=bi_inv hC
 obtain⟨e5,e6⟩:=pu_inv hD
 subst e5 e6 e2
 obtain⟨_,a1,a2⟩:=one_in hr h1
 obtain⟨b0,b1,b2'⟩:=one_in a2 h3
 obtain⟨c0,c1,c2,c3⟩:=props_in b2' h4
 refine⟨⟨rfl,rfl,rfl⟩,⟨(by simp[pa0]),(by simp[pa0]),(by simp[pa0]),b0,(show (0:Nat)<=65535 from by omega),(show (0:Nat)<=65536 from by omega),(show (0:Nat)<=65535 from by omega),c1,(by simp[pa0]),(by simp[pa0]),(by simp[pa0]),(by simp[pa0]),(by simp[pa0]),(by simp[pa0]),(by simp[pa0]),(by simp[pa0]),(by simp[pa0]),(by simp[pa0]),(by simp[pa0])⟩,?_⟩
 refine⟨_,b_must (b_add (b_add (b_add (t:=[]) rfl ?_) (in8_of b0)) c0) (decide_eq_true ⟨⟨rfl,rfl,rfl,rfl⟩,⟨rfl,rfl,rfl,rfl⟩,⟨rfl,rfl,rfl⟩,rfl,rfl,rfl,rfl,rfl,rfl,rfl⟩),?_⟩
 ·show in8 (fv (f == 1) 1)=true
  cases (f == 1) <;> decide +kernel
 ·show (([]++[_])++[_]++pbs x).length+_<=_
  rw[List.length_append,List.length_append,List.length_append,List.length_cons,List.length_cons,List.length_nil]
  omega
theorem in_4 (k:Int) (hk:k=4\/k=5\/k=6\/k=7) {l r:List Int} {P:Pa} (hr:Rng l) (h:body? (pa0 k false 0 false) l=some (P,r)):Again P k false 0 l r:=by
 have h':(bindR id? fun i=>bindR (reason? k) fun r=>pureR { pa0 k false 0 false with id:=i,code:=r.1,props:=r.2 }) l=some (P,r):=by
  have:=h
  rw[bd_4 (P:=pa0 k false 0 false) hk]at this
  exact this
 obtain⟨i,l1,h1,hA⟩:=bi_inv h'
 obtain⟨⟨c,x⟩,l2,h2,hB⟩:=bi_inv hA
 obtain⟨e5,e6⟩:=pu_inv hB
 subst e5 e6
 obtain⟨a0,a1,a2⟩:=id_in hr h1
 obtain⟨b0,b1,b3⟩:=reason_in a2 h2
 obtain⟨ys,c1,c2,c3⟩:=b3 (b2 i)
 refine⟨⟨rfl,rfl,rfl⟩,⟨(by simp[pa0]),(id_of a0),(by simp[pa0]),b0,(show (0:Nat)<=65535 from by omega),(show (0:Nat)<=65536 from by omega),(show (0:Nat)<=65535 from by omega),b1,(by simp[pa0]),(by simp[pa0]),(by simp[pa0]),(by simp[pa0]),(by simp[pa0]),(by simp[pa0]),(by simp[pa0]),(by simp[pa0]),(by simp[pa0]),(by simp[pa0]),(by simp[pa0])⟩,b2 i++ys,?_,?_⟩
 ·exact (eb_4 hk).trans (b_must (b_step (b_add (t:=[]) rfl a0) c1) (decide_eq_true ⟨⟨rfl,rfl,rfl,rfl⟩,⟨rfl,rfl,rfl,rfl⟩,⟨rfl,rfl,rfl⟩,rfl,rfl,rfl,rfl,rfl,rfl,rfl⟩))
 ·rw[List.length_append,b2_len]
  omega
theorem in_14 (k:Int) (hk:k=14\/k=15) {l r:List Int} {P:Pa} (hr:Rng l) (h:body? (pa0 k false 0 false) l=some (P,r)):Again P k false 0 l r:=by
 have h':(bindR (reason? k) fun r=>pureR { pa0 k false 0 false with code:=r.1,props:=r.2 }) l=some (P,r):=by
  have:=h
  rw[bd_14 (P:=pa0 k false 0 false) hk]at this
  exact this
 obtain⟨⟨c,x⟩,l2,h2,hB⟩:=bi_inv h'
 obtain⟨e5,e6⟩:=pu_inv hB
 subst e5 e6
 obtain⟨b0,b1,b3⟩:=reason_in hr h2
 obtain⟨ys,c1,c2,c3⟩:=b3 []
 refine⟨⟨rfl,rfl,rfl⟩,⟨(by simp[pa0]),(by simp[pa0]),(by simp[pa0]),b0,(show (0:Nat)<=65535 from by omega),(show (0:Nat)<=65536 from by omega),(show (0:Nat)<=65535 from by omega),b1,(by simp[pa0]),(by simp[pa0]),(by simp[pa0]),(by simp[pa0]),(by simp[pa0]),(by simp[pa0]),(by simp[pa0]),(by simp[pa0]),(by simp[pa0]),(by simp[pa0]),(by simp[pa0])⟩,[]++ys,?_,?_⟩
 ·exact (eb_14 hk).trans (b_must (b_step (t:=[]) rfl c1) (decide_eq_true ⟨⟨rfl,rfl,rfl,rfl⟩,⟨rfl,rfl,rfl,rfl⟩,⟨rfl,rfl,rfl⟩,rfl,rfl,rfl,rfl,rfl,rfl,rfl⟩))
 ·rw[List.nil_append]
  exact c2
theorem in_12 (k:Int) (hk:k=12\/k=13) {l r:List Int} {P:Pa} (h:body? (pa0 k false 0 false) l=some (P,r)):Again P k false 0 l r:=by
 have h':pureR (pa0 k false 0 false) l=some (P,r):=by
  have:=h
  rw[bd_12 (P:=pa0 k false 0 false) hk]at this
  exact this
 obtain⟨e5,e6⟩:=pu_inv h'
 subst e5 e6
 refine⟨⟨rfl,rfl,rfl⟩,⟨(by simp[pa0]),(by simp[pa0]),(by simp[pa0]),(by simp[pa0]),(show (0:Nat)<=65535 from by omega),(show (0:Nat)<=65536 from by omega),(show (0:Nat)<=65535 from by omega),prok_nil,(by simp[pa0]),(by simp[pa0]),(by simp[pa0]),(by simp[pa0]),(by simp[pa0]),(by simp[pa0]),(by simp[pa0]),(by simp[pa0]),(by simp[pa0]),(by simp[pa0]),(by simp[pa0])⟩,[],?_,by simp⟩
 exact (eb_12 hk).trans (b_must rfl (decide_eq_true ⟨⟨rfl,rfl,rfl,rfl⟩,⟨rfl,rfl,rfl,rfl⟩,⟨rfl,rfl,rfl⟩,rfl,rfl,rfl,rfl,rfl,rfl,rfl⟩))
theorem in_8 (k:Int) (hk:k=8) {l r:List Int} {P:Pa} (hr:Rng l) (h:body? (pa0 k false 0 false) l=some (P,r)):Again P k false 0 l r:=by
 have h':(bindR id? fun i=>bindR (props? k) fun x=>bindR (list? sub?) fun d=>pureR { pa0 k false 0 false with id:=i,props:=x,subs:=d }) l=some (P,r):=by
  have:=h
  rw[bd_8 (P:=pa0 k false 0 false) hk]at this
  exact this
 obtain⟨i,l1,h1,hA⟩:=bi_inv h'
 obtain⟨x,l2,h2,hB⟩:=bi_inv hA
 obtain⟨d,l3,h3,hC⟩:=bi_inv hB
 obtain⟨e5,e6⟩:=pu_inv hC
 subst e5 e6
 obtain⟨a0,a1,a2⟩:=id_in hr h1
 obtain⟨b0,b1,b3,b4⟩:=props_in a2 h2
 obtain⟨c0,c1,c2⟩:=list_in sub_in b4 h3
 obtain⟨ys,d1,d2,d3⟩:=c2 (b2 i++pbs x)
 refine⟨⟨rfl,rfl,rfl⟩,⟨(by simp[pa0]),(id_of a0),(by simp[pa0]),(by simp[pa0]),(show (0:Nat)<=65535 from by omega),(show (0:Nat)<=65536 from by omega),(show (0:Nat)<=65535 from by omega),b1,(by simp[pa0]),(by simp[pa0]),(by simp[pa0]),(by simp[pa0]),(by simp[pa0]),(mc_of c0),c1,(by simp[pa0]),(by simp[pa0]),(by simp[pa0]),(by simp[pa0])⟩,b2 i++pbs x++ys,?_,?_⟩
 ·exact (eb_8 hk).trans (b_must (b_step (b_must (b_add (b_add (t:=[]) rfl a0) b0) c0) d1) (decide_eq_true ⟨⟨rfl,rfl,rfl,rfl⟩,⟨rfl,rfl,rfl,rfl⟩,⟨rfl,rfl,rfl⟩,rfl,rfl,rfl,rfl,rfl,rfl,rfl⟩))
 ·rw[List.length_append,List.length_append,b2_len]
  omega
theorem in_10 (k:Int) (hk:k=10) {l r:List Int} {P:Pa} (hr:Rng l) (h:body? (pa0 k false 0 false) l=some (P,r)):Again P k false 0 l r:=by
 have h':(bindR id? fun i=>bindR (props? k) fun x=>bindR (list? text?) fun d=>pureR { pa0 k false 0 false with id:=i,props:=x,filters:=d }) l=some (P,r):=by
  have:=h
  rw[bd_10 (P:=pa0 k false 0 false) hk]at this
  exact this
 obtain⟨i,l1,h1,hA⟩:=bi_inv h'
 obtain⟨x,l2,h2,hB⟩:=bi_inv hA
 obtain⟨d,l3,h3,hC⟩:=bi_inv hB
 obtain⟨e5,e6⟩:=pu_inv hC
 subst e5 e6
 obtain⟨a0,a1,a2⟩:=id_in hr h1
 obtain⟨b0,b1,b3,b4⟩:=props_in a2 h2
 obtain⟨c0,c1,c2⟩:=list_in tx_in b4 h3
 obtain⟨ys,d1,d2,d3⟩:=c2 (b2 i++pbs x)
 refine⟨⟨rfl,rfl,rfl⟩,⟨(by simp[pa0]),(id_of a0),(by simp[pa0]),(by simp[pa0]),(show (0:Nat)<=65535 from by omega),(show (0:Nat)<=65536 from by omega),(show (0:Nat)<=65535 from by omega),b1,(by simp[pa0]),(by simp[pa0]),(by simp[pa0]),(by simp[pa0]),(by simp[pa0]),(by simp[pa0]),(by simp[pa0]),(mc_of c0),c1,(by simp[pa0]),(by simp[pa0])⟩,b2 i++pbs x++ys,?_,?_⟩
 ·exact (eb_10 hk).trans (b_must (b_step (b_must (b_add (b_add (t:=[]) rfl a0) b0) c0) d1) (decide_eq_true ⟨⟨rfl,rfl,rfl,rfl⟩,⟨rfl,rfl,rfl,rfl⟩,⟨rfl,rfl,rfl⟩,rfl,rfl,rfl,rfl,rfl,rfl,rfl⟩))
 ·rw[List.length_append,List.length_append,b2_len]
  omega
theorem in_9 (k:Int) (hk:k=9\/k=11) {l r:List Int} {P:Pa} (hr:Rng l) (h:body? (pa0 k false 0 false) l=some (P,r)):Again P k false 0 l r:=by
 have h':(bindR id? fun i=>bindR (props? k) fun x=>bindR (list? one?) fun d=>pureR { pa0 k false 0 false with id:=i,props:=x,codes:=d }) l=some (P,r):=by
  have:=h
  rw[bd_9 (P:=pa0 k false 0 false) hk]at this
  exact this
 obtain⟨i,l1,h1,hA⟩:=bi_inv h'
 obtain⟨x,l2,h2,hB⟩:=bi_inv hA
 obtain⟨d,l3,h3,hC⟩:=bi_inv hB
 obtain⟨e5,e6⟩:=pu_inv hC
 subst e5 e6
 obtain⟨a0,a1,a2⟩:=id_in hr h1
 obtain⟨b0,b1,b3,b4⟩:=props_in a2 h2
 obtain⟨c0,c1,c2⟩:=list_in code_in b4 h3
 obtain⟨ys,d1,d2,d3⟩:=c2 (b2 i++pbs x)
 refine⟨⟨rfl,rfl,rfl⟩,⟨(by simp[pa0]),(id_of a0),(by simp[pa0]),(by simp[pa0]),(show (0:Nat)<=65535 from by omega),(show (0:Nat)<=65536 from by omega),(show (0:Nat)<=65535 from by omega),b1,(by simp[pa0]),(by simp[pa0]),(by simp[pa0]),(by simp[pa0]),(by simp[pa0]),(by simp[pa0]),(by simp[pa0]),(by simp[pa0]),(by simp[pa0]),(mc_of c0),c1⟩,b2 i++pbs x++ys,?_,?_⟩
 ·exact (eb_9 hk).trans (b_must (b_step (b_must (b_add (b_add (t:=[]) rfl a0) b0) c0) d1) (decide_eq_true ⟨⟨rfl,rfl,rfl,rfl⟩,⟨rfl,rfl,rfl,rfl⟩,⟨rfl,rfl,rfl⟩,rfl,rfl,rfl,rfl,rfl,rfl,rfl⟩))
 ·rw[List.length_append,List.length_append,b2_len]
  omega
theorem in_3 (d:Bool) (q:Int) (rt:Bool) (hq:0<=q/\q<=3) {l r:List Int} {P:Pa} (hr:Rng l) (hl:l.length<=65536) (h:body? (pa0 3 d q rt) l=some (P,r)):Again P 3 d q l r:=by
 have h':(bindR (bindR text? fun t=>bindR (if 0 < q then id? else pureR 0) fun i=>bindR (props? 3) fun x=>bindR allR fun y=>pureR (t,i,x,y)) fun r=>pureR { pa0 3 d q rt with topic:=r.1,id:=r.2.1,props:=r.2.2.1,payload:=r.2.2.2 }) l=some (P,r):=h
 obtain⟨_,l0,h0,hA⟩:=bi_inv h'
 obtain⟨t,l1,h1,hB⟩:=bi_inv h0
 obtain⟨i,l2,h2,hC⟩:=bi_inv hB
 obtain⟨x,l3,h3,hD⟩:=bi_inv hC
 obtain⟨y,l4,h4,hE⟩:=bi_inv hD
 obtain⟨e1,e2⟩:=pu_inv hE
 obtain⟨e3,e4⟩:=pu_inv hA
 subst e1 e3 e2 e4
 unfold allR at h4
 cases h4
 obtain⟨a0,a1,a2,a3⟩:=text_in hr h1
 have key:∃ n,n<=2/\Lk l1 l2 n/\(0<=i/\i<=65535)/\(0 < q->(in16 i && i != 0)=true/\n=2)/\(¬ 0 < q->i=0/\n=0):=by
  by_cases h0q:0 < q
  ·rw[if_pos h0q]at h2
   obtain⟨b0,b1⟩:=id_in a3 h2
   exact⟨2,Nat.le_refl _,b1,id_of b0,fun _=>⟨b0,rfl⟩,fun hn=>absurd h0q hn⟩
  ·rw[if_neg h0q]at h2
   obtain⟨e,e'⟩:=pu_inv h2
   subst e e'
   exact⟨0,by omega,⟨by omega,a3⟩,by omega,fun hn=>absurd hn h0q,fun _=>⟨rfl,rfl⟩⟩
 obtain⟨n,hn2,⟨b1,b2'⟩,hi,k1,k2⟩:=key
 obtain⟨c0,c1,c2,c3⟩:=props_in b2' h3
 have hz:(bs l3).size=l3.length:=bs_size l3
 refine⟨⟨rfl,rfl,rfl⟩,⟨hq,hi,(by simp[pa0]),(by simp[pa0]),a1,(show (bs l3).size<=65536 from by rw[hz];omega),(show (0:Nat)<=65535 from by omega),c1,(by simp[pa0]),(by simp[pa0]),(by simp[pa0]),(by simp[pa0]),(by simp[pa0]),(by simp[pa0]),(by simp[pa0]),(by simp[pa0]),(by simp[pa0]),(by simp[pa0]),(by simp[pa0])⟩,?_⟩
 have fin:∀ (zs:List Int),zs.length=n->((([]++tx t)++zs)++pbs x++sb (bs l3)).length+([]:List Int).length<=l.length:=fun zs hzs=>by
  rw[List.length_append,List.length_append,List.length_append,List.length_append,sb_length,hz,hzs,List.length_nil]
  omega
 by_cases h0q:0 < q
 ·obtain⟨k3,k4⟩:=k1 h0q
  refine⟨(([]++tx t)++b2 i)++pbs x++sb (bs l3),?_,fin _ (by rw[b2_len,k4])⟩
  refine (eb_3 rfl).trans ?_
  refine b_must (st:=sPub t q i 3 x (bs l3) []) ?_ ?_
  ·unfold sPub
   rw[if_pos h0q]
   exact b_add (b_add (b_add (st:=sAdd (okT t) (tx t) []) (add_yes a0) k3) c0) rfl
  ·exact (if_pos h0q).trans (decide_eq_true ⟨⟨rfl,rfl,rfl,rfl⟩,⟨rfl,rfl,rfl,rfl⟩,⟨rfl,rfl,rfl⟩,rfl,rfl,rfl,rfl,rfl,rfl,rfl⟩)
 ·obtain⟨rfl,k4⟩:=k2 h0q
  refine⟨(([]++tx t)++[])++pbs x++sb (bs l3),?_,fin [] (by rw[k4];rfl)⟩
  refine (eb_3 rfl).trans ?_
  refine b_must (st:=sPub t q 0 3 x (bs l3) []) ?_ ?_
  ·unfold sPub
   rw[if_neg h0q,bind_some',List.append_nil]
   exact b_add (b_add (add_yes a0) c0) rfl
  ·exact (if_neg h0q).trans (decide_eq_true ⟨⟨rfl,rfl,rfl,rfl⟩,⟨rfl,rfl,rfl,rfl⟩,⟨rfl,rfl,rfl⟩,rfl,rfl,rfl,rfl,rfl,rfl,rfl⟩)
theorem will_in {x:Int} {l r:List Int} {o:Option (List Pr×ByteArray×ByteArray)} (hr:Rng l) (h:will? x l=some (o,r)):(wlOf x o).length<=1/\(∀ u ∈ wlOf x o,(u.topic.size<=65535/\PrOk u.props)/\btest x 4=true/\u.qos=x / 8 % 4)/\Rng r/\∀ t,∃ ys,sEach sWill (wlOf x o) t=some (t++ys)/\Lk l r ys.length:=by
 unfold will? at h
 by_cases h0:btest x 4=true
 ·rw[if_pos h0]at h
  obtain⟨q,l1,h1,hA⟩:=bi_inv h
  obtain⟨s,l2,h2,hB⟩:=bi_inv hA
  obtain⟨y,l3,h3,hC⟩:=bi_inv hB
  obtain⟨e5,e6⟩:=pu_inv hC
  subst e5 e6
  obtain⟨a0,a1,a2,a3⟩:=props_in hr h1
  obtain⟨b0,b1,b2',b3⟩:=text_in a3 h2
  obtain⟨c0,c1,c2,c3⟩:=bin_in b3 h3
  refine⟨Nat.le_refl _,fun u hu=>?_,c3,fun t=>⟨pbs q++tx s++tx y,?_,?_,c3⟩⟩
  ·obtain rfl:=List.mem_singleton.1 hu
   exact⟨⟨b1,a1⟩,h0,rfl⟩
  ·have e:sWill ⟨s,y,x / 8 % 4,btest x 32,q⟩ t=some (t++pbs q++tx s++tx y):=b_add (b_add (add_yes a0) b0) c0
   show (sWill ⟨s,y,x / 8 % 4,btest x 32,q⟩ t).bind (sEach sWill [])=_
   rw[e]
   show some _=some _
   simp only[List.append_assoc]
  ·rw[List.length_append,List.length_append]
   omega
 ·rw[if_neg h0]at h
  obtain⟨e5,e6⟩:=pu_inv h
  subst e5 e6
  exact⟨Nat.zero_le _,fun u hu=>(by cases hu),hr,fun t=>⟨[],by rw[List.append_nil];rfl,by simp,hr⟩⟩
theorem user_in {x:Int} {l r:List Int} {o:Option ByteArray} (hr:Rng l) (h:user? x l=some (o,r)):o.toList.length<=1/\(∀ u ∈ o.toList,u.size<=65535)/\Rng r/\∀ t,∃ ys,sEach sTx o.toList t=some (t++ys)/\Lk l r ys.length:=by
 unfold user? at h
 by_cases h0:btest x 128=true
 ·rw[if_pos h0]at h
  obtain⟨s,l1,h1,hA⟩:=bi_inv h
  obtain⟨e5,e6⟩:=pu_inv hA
  subst e5 e6
  obtain⟨b0,b1,b2',b3⟩:=text_in hr h1
  refine⟨Nat.le_refl _,fun u hu=>?_,b3,fun t=>⟨tx s,?_,b2',b3⟩⟩
  ·obtain rfl:=List.mem_singleton.1 hu
   exact b1
  ·have e:sTx s t=some (t++tx s):=add_yes b0
   show (sTx s t).bind (sEach sTx [])=_
   rw[e]
   rfl
 ·rw[if_neg h0]at h
  obtain⟨e5,e6⟩:=pu_inv h
  subst e5 e6
  exact⟨Nat.zero_le _,fun u hu=>(by cases hu),hr,fun t=>⟨[],by rw[List.append_nil];rfl,by simp,hr⟩⟩
theorem pass_in {x:Int} {l r:List Int} {o:Option ByteArray} (hr:Rng l) (h:pass? x l=some (o,r)):o.toList.length<=1/\(∀ u ∈ o.toList,u.size<=65535)/\Rng r/\∀ t,∃ ys,sEach sPass o.toList t=some (t++ys)/\Lk l r ys.length:=by
 unfold pass? at h
 by_cases h0:btest x 64=true
 ·rw[if_pos h0]at h
  obtain⟨s,l1,h1,hA⟩:=bi_inv h
  obtain⟨e5,e6⟩:=pu_inv hA
  subst e5 e6
  obtain⟨b0,b1,b2',b3⟩:=bin_in hr h1
  refine⟨Nat.le_refl _,fun u hu=>?_,b3,fun t=>⟨tx s,?_,b2',b3⟩⟩
  ·obtain rfl:=List.mem_singleton.1 hu
   exact b1
  ·have e:sPass s t=some (t++tx s):=add_yes b0
   show (sPass s t).bind (sEach sPass [])=_
   rw[e]
   rfl
 ·rw[if_neg h0]at h
  obtain⟨e5,e6⟩:=pu_inv h
  subst e5 e6
  exact⟨Nat.zero_le _,fun u hu=>(by cases hu),hr,fun t=>⟨[],by rw[List.append_nil];rfl,by simp,hr⟩⟩
theorem cf_qos (x:Int) (h0:0<=x/\x<=255):(cfok x=true->btest x 4=true->mq (x / 8 % 4)=true):=byte_cases (P:=fun x=>cfok x=true->btest x 4=true->mq (x / 8 % 4)=true) (by decide +kernel) x h0.1 h0.2
theorem mqtt_is {m:ByteArray} (h:isMQTT m=true):m=mqtt:=toList_inj ((eq_of_beq h).trans (by decide +kernel))
theorem in_1 {l r:List Int} {P:Pa} (hr:Rng l) (h:body? (pa0 1 false 0 false) l=some (P,r)):Again P 1 false 0 l r:=by
 have h':(bindR connect? fun n=>pureR (ofCn (pa0 1 false 0 false) n)) l=some (P,r):=h
 obtain⟨n,l0,h0,hZ⟩:=bi_inv h'
 obtain⟨e1,e2⟩:=pu_inv hZ
 subst e1 e2
 unfold connect? at h0
 obtain⟨m,l1,h1,hA⟩:=bi_inv h0
 obtain⟨_,l2,h2,hB⟩:=bi_inv hA
 obtain⟨hm,e2⟩:=mu_inv h2
 obtain⟨v,l3,h3,hC⟩:=bi_inv hB
 obtain⟨_,l4,h4,hD⟩:=bi_inv hC
 obtain⟨_,e4⟩:=mu_inv h4
 obtain⟨x,l5,h5,hE⟩:=bi_inv hD
 obtain⟨k,l6,h6,hF⟩:=bi_inv hE
 obtain⟨pr,l7,h7,hG⟩:=bi_inv hF
 obtain⟨c,l8,h8,hH⟩:=bi_inv hG
 obtain⟨wl,l9,h9,hI⟩:=bi_inv hH
 obtain⟨us,l10,h10,hJ⟩:=bi_inv hI
 obtain⟨pa,l11,h11,hK⟩:=bi_inv hJ
 obtain⟨e5,e6⟩:=pu_inv hK
 subst e5 e6 e4 e2
 obtain rfl:=mqtt_is hm
 unfold flags? at h5
 obtain⟨x',l5',h5a,h5b⟩:=bi_inv h5
 obtain⟨_,l5'',h5c,h5d⟩:=bi_inv h5b
 obtain⟨hcf,e7⟩:=mu_inv h5c
 obtain⟨e8,e9⟩:=pu_inv h5d
 subst e8 e9 e7
 obtain⟨a0,_,a1,a2⟩:=text_in hr h1
 obtain⟨_,b1,b2'⟩:=one_in a2 h3
 obtain⟨hx,c1,c2⟩:=one_in b2' h5a
 obtain⟨d0,d1,d2⟩:=two_in c2 h6
 obtain⟨f0,f1,f2,f3⟩:=props_in d2 h7
 obtain⟨g0,g1,g2,g3⟩:=text_in f3 h8
 obtain⟨w0,w1,wr,w3⟩:=will_in g3 h9
 obtain⟨u0,u1,ur,u3⟩:=user_in wr h10
 obtain⟨p0,p1,_,p3⟩:=pass_in ur h11
 have hok:cokA (ofCn (pa0 1 false 0 false) ⟨x,k,pr,c,wl,us,pa⟩)=true:=by
  unfold cokA cok0
  simp only[Bool.and_eq_true,decide_eq_true_eq,List.all_eq_true]
  exact⟨⟨⟨w0,u0⟩,p0⟩,fun u hu=>by
   obtain⟨_,k1,k2⟩:=w1 u hu
   rw[k2]
   exact cf_qos x hx hcf k1⟩
 obtain⟨_,_,_,hfl,_⟩:=cfA_back hok
 refine⟨⟨rfl,rfl,rfl⟩,⟨(by simp[ofCn,pa0]),(by simp[ofCn,pa0]),(in16_of d0),(by simp[ofCn,pa0]),(show (0:Nat)<=65535 from by omega),(show (0:Nat)<=65536 from by omega),g1,f1,w0,(fun u hu=>(w1 u hu).1),u0,u1,p0,(by simp[ofCn,pa0]),(by simp[ofCn,pa0]),(by simp[ofCn,pa0]),(by simp[ofCn,pa0]),(by simp[ofCn,pa0]),(by simp[ofCn,pa0])⟩,?_⟩
 obtain⟨zw,z1,z2,_⟩:=w3 ([]++tx mqtt++[5 % 256]++[cflA (ofCn (pa0 1 false 0 false) ⟨x,k,pr,c,wl,us,pa⟩) % 256]++b2 k++pbs pr++tx c)
 obtain⟨zu,z3,z4,_⟩:=u3 ([]++tx mqtt++[5 % 256]++[cflA (ofCn (pa0 1 false 0 false) ⟨x,k,pr,c,wl,us,pa⟩) % 256]++b2 k++pbs pr++tx c++zw)
 obtain⟨zp,z5,z6,_⟩:=p3 ([]++tx mqtt++[5 % 256]++[cflA (ofCn (pa0 1 false 0 false) ⟨x,k,pr,c,wl,us,pa⟩) % 256]++b2 k++pbs pr++tx c++zw++zu)
 refine⟨[]++tx mqtt++[5 % 256]++[cflA (ofCn (pa0 1 false 0 false) ⟨x,k,pr,c,wl,us,pa⟩) % 256]++b2 k++pbs pr++tx c++zw++zu++zp,?_,?_⟩
 ·refine (eb_1 rfl).trans ?_
  refine b_must (t:=[]++tx mqtt++[5 % 256]++[cflA (ofCn (pa0 1 false 0 false) ⟨x,k,pr,c,wl,us,pa⟩) % 256]++b2 k++pbs pr++tx c++zw++zu++zp) ?_ (decide_eq_true ⟨⟨rfl,rfl,rfl,rfl⟩,⟨rfl,rfl,rfl,rfl⟩,⟨rfl,rfl,rfl⟩,rfl,rfl,rfl,rfl,rfl,rfl,rfl⟩)
  refine b_step (b_step (b_step ?_ z1) z3) z5
  exact b_add (b_add (b_add (b_add (b_add (b_add (st:=sMust _ []) (must_yes hok) (by decide +kernel)) (by decide +kernel)) (in8_of (by omega))) d0) f0) g0
 ·rw[List.length_append,List.length_append,List.length_append,List.length_append,List.length_append,List.length_append,List.length_append,List.length_append,List.length_append,b2_len,List.length_cons,List.length_cons,List.length_nil]
  omega
theorem in_any {b:Int} (hb:0<=b/\b<=255) (hk:bok b=true) {l r:List Int} {P:Pa} (hr:Rng l) (hl:l.length<=65536) (h:packet? (bpa b) l=some (P,r)):(fkA P).2=true/\Md P/\∃ ys,eb P=some ys/\ys.length<=l.length:=by
 unfold packet? at h
 obtain⟨P',l1,h1,hA⟩:=bi_inv h
 obtain⟨_,l2,h2,hB⟩:=bi_inv hA
 obtain⟨e1,e2⟩:=pu_inv hB
 subst e1
 have hkr:=bok_kind b hb.1 hb.2 hk
 have fin:∀ (k:Int) (d:Bool) (q:Int),Again P k d q l l1->(k=3->pok d q=true)->(1<=k/\k<=15)->(fkA P).2=true/\Md P/\∃ ys,eb P=some ys/\ys.length<=l.length:=by
  rintro k d q ⟨⟨h1,h2,h3⟩,h4,ys,h5,h6⟩ hp hk15
  refine⟨?_,h4,ys,h5,by omega⟩
  unfold fkA
  rw[h1,h2,h3]
  by_cases k3:k=3
  ·rw[if_pos k3];exact hp k3
  ·rw[if_neg k3]
   by_cases k6:k=6\/k=8\/k=10
   ·rw[if_pos k6]
   ·rw[if_neg k6]
    simp only[Bool.and_eq_true,decide_eq_true_eq]
    exact hk15
 unfold bpa at h1
 by_cases k3:b / 16=3
 ·rw[if_pos k3]at h1
  have hp:pok (btest b 8) (b / 2 % 4)=true:=by
   unfold bok bmay at hk
   rw[if_pos k3,Bool.and_eq_true]at hk
   exact hk.1
  exact fin 3 _ _ (in_3 _ _ _ (by omega) hr hl h1) (fun _=>hp) (by omega)
 rw[if_neg k3]at h1
 generalize b / 16=k at h1 k3 hkr
 by_cases k1:k=1
 ·subst k1;exact fin _ _ _ (in_1 hr h1) (fun e=>absurd e (by decide)) hkr
 by_cases k2:k=2
 ·subst k2;exact fin _ _ _ (in_2 hr h1) (fun e=>absurd e (by decide)) hkr
 by_cases k4:k=4\/k=5\/k=6\/k=7
 ·exact fin _ _ _ (in_4 k k4 hr h1) (fun e=>absurd e k3) hkr
 by_cases k8:k=8
 ·exact fin _ _ _ (in_8 k k8 hr h1) (fun e=>absurd e k3) hkr
 by_cases k10:k=10
 ·exact fin _ _ _ (in_10 k k10 hr h1) (fun e=>absurd e k3) hkr
 by_cases k9:k=9\/k=11
 ·exact fin _ _ _ (in_9 k k9 hr h1) (fun e=>absurd e k3) hkr
 by_cases k14:k=14\/k=15
 ·exact fin _ _ _ (in_14 k k14 hr h1) (fun e=>absurd e k3) hkr
 ·exact fin _ _ _ (in_12 k (by omega) h1) (fun e=>absurd e k3) hkr
theorem dec_in {l r:List Int} {P:Pa} (hr:Rng l) (h0:dnum l=0) (hd:dbody l=some (P,r)):(fkA P).2=true/\Md P/\∃ ys,eb P=some ys/\(ebytes P.kind (fkA P).1 ys).length<=(meas l).2.1/\(meas l).2.1<=65536:=by
 unfold dnum at h0
 by_cases hl:l=[]
 ·rw[if_pos hl]at h0;exact absurd h0 (by decide)
 rw[if_neg hl]at h0
 cases hb:bok (l.getD 0 0) with
 | false=>rw[if_pos hb]at h0;exact absurd h0 (by decide)
 | true =>
  rw[if_neg (by rw[hb];decide)]at h0
  by_cases hm:(meas l).2.2=0
  ·have hr1:Rng (l.drop 1):=hr.drop 1
   have key:(V.vget (l.drop 1)).2.2=0/\1+ghd (l.drop 1)+(gid (l.drop 1)).toNat<=65536/\1+ghd (l.drop 1)+(gid (l.drop 1)).toNat<=l.length/\meas l=(1+ghd (l.drop 1),1+ghd (l.drop 1)+(gid (l.drop 1)).toNat,0):=by
    unfold meas at hm |-
    by_cases m1:(V.vget (l.drop 1)).2.2≠0
    ·rw[if_pos m1]at hm;exact absurd hm m1
    rw[if_neg m1]at hm |-
    by_cases m2:65536 < 1+ghd (l.drop 1)+(gid (l.drop 1)).toNat
    ·rw[if_pos m2]at hm;exact absurd hm (by decide)
    rw[if_neg m2]at hm |-
    by_cases m3:l.length < 1+ghd (l.drop 1)+(gid (l.drop 1)).toNat
    ·rw[if_pos m3]at hm;exact absurd hm (by decide)
    rw[if_neg m3]
    exact⟨by simpa using m1,by omega,by omega,rfl⟩
   obtain⟨hv,hle,hll,hme⟩:=key
   unfold dbody at hd
   rw[hme]at hd |-
   dsimp only at hd |-
   obtain⟨_,_,_,g0,g1,_⟩:=vget_is _ hr1 hv
   have hbl:((l.drop (1+ghd (l.drop 1))).take (1+ghd (l.drop 1)+(gid (l.drop 1)).toNat - (1+ghd (l.drop 1)))).length=(gid (l.drop 1)).toNat:=by
    rw[List.length_take,List.length_drop]
    omega
   obtain⟨h1,h2,ys,h3,h4⟩:=in_any (hr 0) hb (rng_take (hr.drop _) _) (by omega) hd
   refine⟨h1,h2,ys,h3,?_,hle⟩
   rw[hbl]at h4
   rw[ebytes_len]
   have e1:=put_len_of hr1 hv
   have e2:=V.put_length (gid (l.drop 1))
   have e3:=V.put_length (ys.length:Int)
   have e4:=V.sz_mono (ys.length:Int) (gid (l.drop 1)) (by omega)
   omega
  ·rw[if_pos hm]at h0;exact absurd h0 hm
end Go.Proofs.YtccnjdgaldbgnaaGreatDoor.K.B
namespace Go.Proofs.YtccnjdgaldbgnaaGreatDoor.K
open Go.RowKit
set_option maxRecDepth 100000
theorem vget_app (t B:List Int) (h:(V.vget t).2.2≠3):V.vget (t++B)=V.vget t:=by
 rcases t with _ | ⟨x0,_ | ⟨x1,_ | ⟨x2,_ | ⟨x3,t⟩⟩⟩⟩
 ·exact absurd rfl h
 ·by_cases k0:x0 < 128
  ·simp[V.vget,V.vgetf,k0]
  ·exact absurd (by simp[V.vget,V.vgetf,k0]) h
 ·by_cases k0:x0 < 128
  ·simp[V.vget,V.vgetf,k0]
  ·by_cases k1:x1=0
   ·simp[V.vget,V.vgetf,k0,k1]
   ·by_cases k2:x1 < 128
    ·simp[V.vget,V.vgetf,k0,k1,k2]
    ·exact absurd (by simp[V.vget,V.vgetf,k0,k1,k2]) h
 ·by_cases k0:x0 < 128
  ·simp[V.vget,V.vgetf,k0]
  ·by_cases k1:x1=0
   ·simp[V.vget,V.vgetf,k0,k1]
   ·by_cases k2:x1 < 128
    ·simp[V.vget,V.vgetf,k0,k1,k2]
    ·by_cases k3:x2=0
     ·simp[V.vget,V.vgetf,k0,k1,k2,k3]
     ·by_cases k4:x2 < 128
      ·simp[V.vget,V.vgetf,k0,k1,k2,k3,k4]
      ·exact absurd (by simp[V.vget,V.vgetf,k0,k1,k2,k3,k4]) h
 ·simp[V.vget,V.vgetf]
theorem pn_cons (lim:Int) (a:Int) (t:List Int):pq lim (a :: t)=if bok a=false then 1 else if (V.vget t).2.2≠0 then (V.vget t).2.2 else if lim < ((1+ghd t+(gid t).toNat:Nat):Int) then 2 else if (a :: t).length < 1+ghd t+(gid t).toNat then 3 else if (dbody (a :: t)).isSome then 0 else 1:=rfl
theorem pn_app (lim:Int) (l B:List Int) (hL:lim<=65536) (h3:pq lim l≠3):pq lim (l++B)=pq lim l/\(pq lim l=0->(meas (l++B)).2.1=(meas l).2.1/\dbody (l++B)=dbody l):=by
 rcases l with _ | ⟨a,t⟩
 ·exact absurd rfl h3
 ·show pq lim (a :: (t++B))=_/\(_->(meas (a :: (t++B))).2.1=_/\dbody (a :: (t++B))=_)
  rw[pn_cons]at h3 |-
  rw[pn_cons]
  by_cases k1:bok a=false
  ·rw[if_pos k1,if_pos k1]
   exact⟨rfl,fun e=>by cases e⟩
  rw[if_neg k1]at h3 |-
  rw[if_neg k1]
  by_cases k2:(V.vget t).2.2≠0
  ·rw[if_pos k2]at h3 |-
   rw[vget_app t B h3,if_pos k2]
   exact⟨rfl,fun e=>absurd e k2⟩
  have hv:V.vget (t++B)=V.vget t:=vget_app t B (fun e=>k2 (by rw[e];decide))
  have hg:ghd (t++B)=ghd t:=by unfold ghd;rw[hv]
  have hi:gid (t++B)=gid t:=by unfold gid;rw[hv]
  rw[if_neg k2]at h3 |-
  rw[hv,hg,hi,if_neg k2]
  by_cases k3:lim < ((1+ghd t+(gid t).toNat:Nat):Int)
  ·rw[if_pos k3,if_pos k3]
   exact⟨rfl,fun e=>by cases e⟩
  rw[if_neg k3]at h3 |-
  rw[if_neg k3]
  by_cases k4:(a :: t).length < 1+ghd t+(gid t).toNat
  ·rw[if_pos k4]at h3
   exact absurd rfl h3
  have hm1:meas (a :: t)=(1+ghd t,1+ghd t+(gid t).toNat,0):=by
   rw[meas_cons,if_neg k2,if_neg (by omega),if_neg k4]
  have hm2:meas (a :: (t++B))=(1+ghd t,1+ghd t+(gid t).toNat,0):=by
   rw[meas_cons,hv,hg,hi,if_neg k2,if_neg (by omega),if_neg (by
    simp only[List.length_cons,List.length_append]at k4 |-
    omega)]
  have hd:dbody (a :: (t++B))=dbody (a :: t):=by
   unfold dbody
   rw[hm1,hm2]
   have e:((a :: (t++B)).drop (1+ghd t)).take (1+ghd t+(gid t).toNat - (1+ghd t))=((a :: t).drop (1+ghd t)).take (1+ghd t+(gid t).toNat - (1+ghd t)):=by
    rw[show a :: (t++B)=(a :: t)++B from rfl,List.drop_append_of_le_length (by omega),List.take_append_of_le_length (by rw[List.length_drop];omega)]
   dsimp only
   rw[e]
   rfl
  rw[if_neg k4,if_neg (by simp only[List.length_cons,List.length_append]at k4 |-;omega),hd]
  exact⟨rfl,fun _=>⟨by rw[hm1,hm2],rfl⟩⟩
theorem rng_app {A B:List Int} (hA:Rng A) (hB:Rng B):Rng (A++B):=fun j=>by
 rw[List.getD_eq_getElem?_getD]
 by_cases h:j < A.length
 ·rw[List.getElem?_append_left h,<- List.getD_eq_getElem?_getD]
  exact hA j
 ·rw[List.getElem?_append_right (by omega),<- List.getD_eq_getElem?_getD]
  exact hB _
theorem rng_drop {A:List Int} (hA:Rng A) (n:Nat):Rng (A.drop n):=fun j=>by
 rw[List.getD_eq_getElem?_getD,List.getElem?_drop,<- List.getD_eq_getElem?_getD]
 exact hA _
theorem sn_app {lim:Int} {l B:List Int} (h2:2<=lim) (hL:lim<=65536) (hl:Rng l) (hB:Rng B) (h3:snum lim l≠3):snum lim (l++B)=snum lim l/\(snum lim l=0->(meas (l++B)).2.1=(meas l).2.1/\dbody (l++B)=dbody l):=by
 rw[<- pq_snum lim l hl h2 hL]at h3 |-
 rw[<- pq_snum lim (l++B) (rng_app hl hB) h2 hL]
 exact pn_app lim l B hL h3
theorem SRun.app3 {lim:Int} {A:List Int} {Ps:List Pa} {n:Nat} {e:Int} (h:SRun lim A Ps n e) (h2:2<=lim) (hL:lim<=65536):e=3->Rng A->∀ (B:List Int) (Qs:List Pa) (k:Nat) (m:Int),Rng B->SRun lim (A.drop n++B) Qs k m->SRun lim (A++B) (Ps++Qs) (n+k) m:=by
 induction h with
 | stop l hl =>
  intro _ _ B Qs k m _ hr
  rw[Nat.zero_add]
  exact hr
 | step l P r Ps n e h0 hd hrec ih =>
  intro he hA B Qs k m hB hr
  obtain⟨k1,k2⟩:=sn_app (B:=B) h2 hL hA hB (by rw[h0];decide)
  obtain⟨k3,k4⟩:=k2 h0
  have hc:=(snum_meas h0).2
  have e1:(l++B).drop (meas (l++B)).2.1=l.drop (meas l).2.1++B:=by rw[k3,List.drop_append_of_le_length hc]
  have hr':SRun lim ((l.drop (meas l).2.1).drop n++B) Qs k m:=by
   rw[List.drop_drop]
   exact hr
  have key:=ih he (rng_drop hA _) B Qs k m hB hr'
  rw[<- e1]at key
  have s:=SRun.step (l++B) P r (Ps++Qs) (n+k) m (k1.trans h0) (k4.trans hd) key
  rw[k3]at s
  rw[Nat.add_assoc]
  exact s
theorem SRun.appE {lim:Int} {A:List Int} {Ps:List Pa} {n:Nat} {e:Int} (h:SRun lim A Ps n e) (h2:2<=lim) (hL:lim<=65536):e≠3->Rng A->∀ (B:List Int),Rng B->SRun lim (A++B) Ps n e:=by
 induction h with
 | stop l hl =>
  intro h3 hA B hB
  obtain⟨k1,-⟩:=sn_app (B:=B) h2 hL hA hB h3
  have s:=SRun.stop (lim:=lim) (l++B) (by rw[k1];exact hl)
  rw[k1]at s
  exact s
 | step l P r Ps n e h0 hd hrec ih =>
  intro h3 hA B hB
  obtain⟨k1,k2⟩:=sn_app (B:=B) h2 hL hA hB (by rw[h0];decide)
  obtain⟨k3,k4⟩:=k2 h0
  have hc:=(snum_meas h0).2
  have e1:(l++B).drop (meas (l++B)).2.1=l.drop (meas l).2.1++B:=by rw[k3,List.drop_append_of_le_length hc]
  have key:=ih h3 (rng_drop hA _) B hB
  rw[<- e1]at key
  have s:=SRun.step (l++B) P r Ps n e (k1.trans h0) (k4.trans hd) key
  rw[k3]at s
  exact s
theorem SRun.le {lim:Int} {A:List Int} {Ps:List Pa} {n:Nat} {e:Int} (h:SRun lim A Ps n e):n<=A.length:=by
 induction h with
 | stop l hl=>exact Nat.zero_le _
 | step l P r Ps n e h0 hd hrec ih =>
  have hc:=(snum_meas h0).2
  rw[List.length_drop]at ih
  omega
theorem SRun.len {lim:Int} {A:List Int} {Ps:List Pa} {n:Nat} {e:Int} (h:SRun lim A Ps n e):Ps.length<=n:=by
 induction h with
 | stop l hl=>simp
 | step l P r Ps n e h0 hd hrec ih =>
  have:=(snum_meas h0).1
  simp only[List.length_cons]
  omega
def Told (P:Pa) (N:Nat):Prop:=(fkA P).2=true/\B.Md P/\N<=65536/\∃ ys,eb P=some ys/\(ebytes P.kind (fkA P).1 ys).length<=N
theorem SRun.told {lim:Int} {A:List Int} {Ps:List Pa} {n:Nat} {e:Int} (h:SRun lim A Ps n e):Rng A->∃ Ns:List Nat,Ns.length=Ps.length/\(∀ (i:Nat) (P:Pa) (N:Nat),Ps[i]?=some P->Ns[i]?=some N->Told P N)/\Ns.sum<=n:=by
 induction h with
 | stop l hl=>exact fun _=>⟨[],rfl,fun i P N h=>by simp at h,Nat.le_refl _⟩
 | step l P r Ps n e h0 hd hrec ih =>
  intro hA
  obtain⟨Ns,g1,g2,g3⟩:=ih (rng_drop hA _)
  obtain⟨d1,d2,ys,d3,d4,d5⟩:=B.dec_in hA (snum_zero h0) hd
  refine⟨(meas l).2.1 :: Ns,by simp[g1],fun i Q N hQ hN=>?_,by simp only[List.sum_cons];omega⟩
  cases i with
  | zero =>
   simp only[List.getElem?_cons_zero,Option.some.injEq]at hQ hN
   subst hQ
   subst hN
   exact⟨d1,d2,d5,ys,d3,d4⟩
  | succ i =>
   simp only[List.getElem?_cons_succ]at hQ hN
   exact g2 i Q N hQ hN
end Go.Proofs.YtccnjdgaldbgnaaGreatDoor.K
