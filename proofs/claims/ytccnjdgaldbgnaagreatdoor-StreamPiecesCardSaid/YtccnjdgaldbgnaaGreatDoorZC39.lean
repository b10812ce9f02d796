/- Proved here: helpers, one text behind the other. -/
import Derived.Test.YtccnjdgaldbgnaaGreatDoorZC38
import Derived.Test.YtccnjdgaldbgnaaGreatDoorZC20
import Derived.Test.YtccnjdgaldbgnaaGreatDoorZC9
import Derived.Test.YtccnjdgaldbgnaaGreatDoorZC30
namespace Go.Proofs.YtccnjdgaldbgnaaGreatDoor.K
open Go.RowKit
set_option maxRecDepth 100000
theorem wills_rw {w:World} {t:Sl} {us:List Wl} (h:Wls w t.val us):∃ vs:List Wv,Rw w t 5 (wcs vs)/\vs.length=us.length/\∀ k,k < us.length->∃ s,vs[k]?=some ⟨(us.getD k wl0).topic,(us.getD k wl0).payload,(us.getD k wl0).qos,(us.getD k wl0).retain,s⟩:=by
 obtain⟨ao,cap,hv,hc,hcase⟩:=h
 obtain⟨ta,tn,tc⟩:=t
 simp only[Sl.val,Value.slice.injEq]at hv
 obtain⟨rfl,rfl,rfl⟩:=hv
 rcases hcase with rfl | ⟨b,off,rfl,hat⟩
 ·exact⟨[],⟨rfl,hc,.inl rfl⟩,rfl,fun k hk=>by simp at hk⟩
 have hs:∀ k,∃ s:Sl,k < us.length->w.cell? ⟨b,off+k * 5+4,none⟩=some s.val:=fun k=>by
  by_cases hk:k < us.length
  ·obtain⟨a,n,c,⟨_,_,_,_,h4⟩,_⟩:=hat k hk
   exact⟨⟨a,n,c⟩,fun _=>h4⟩
  ·exact⟨⟨none,0,0⟩,fun h=>absurd h hk⟩
 obtain⟨f,hf⟩:=Classical.skolem.1 hs
 refine⟨(List.range us.length).map fun k=>⟨(us.getD k wl0).topic,(us.getD k wl0).payload,(us.getD k wl0).qos,(us.getD k wl0).retain,f k⟩,⟨?_,hc,?_⟩,by simp,fun k hk=>⟨f k,by rw[List.getElem?_map,List.getElem?_range hk];rfl⟩⟩
 ·rw[wcs_length]
  simp
 ·refine .inr ⟨b,off,rfl,fun j hj=>?_⟩
  rw[wcs_length,List.length_map,List.length_range]at hj
  have hi:j / 5 < us.length:=by omega
  have e:=wcs_get ((List.range us.length).map fun k=>(⟨(us.getD k wl0).topic,(us.getD k wl0).payload,(us.getD k wl0).qos,(us.getD k wl0).retain,f k⟩:Wv)) (j / 5) ⟨(us.getD (j / 5) wl0).topic,(us.getD (j / 5) wl0).payload,(us.getD (j / 5) wl0).qos,(us.getD (j / 5) wl0).retain,f (j / 5)⟩ (by rw[List.getElem?_map,List.getElem?_range hi];rfl) (j % 5) (Nat.mod_lt _ (by decide))
  rw[show j / 5 * 5+j % 5=j from by omega]at e
  rw[e]
  obtain⟨a,n,c,⟨h0,h1,h2,h3,_⟩,_⟩:=hat (j / 5) hi
  have h4:=hf (j / 5) hi
  have hm:j % 5=0\/j % 5=1\/j % 5=2\/j % 5=3\/j % 5=4:=by omega
  rcases hm with m | m | m | m | m
  ·rw[show off+j=off+j / 5 * 5 from by omega,h0,m];rfl
  ·rw[show off+j=off+j / 5 * 5+1 from by omega,h1,m];rfl
  ·rw[show off+j=off+j / 5 * 5+2 from by omega,h2,m];rfl
  ·rw[show off+j=off+j / 5 * 5+3 from by omega,h3,m];rfl
  ·rw[show off+j=off+j / 5 * 5+4 from by omega,h4,m];rfl
theorem vs_map {vs:List Wv} {us:List Wl} (hl:vs.length=us.length) (h:∀ k,k < us.length->∃ s,vs[k]?=some ⟨(us.getD k wl0).topic,(us.getD k wl0).payload,(us.getD k wl0).qos,(us.getD k wl0).retain,s⟩):vs.map (fun u=>(u.qos,u.retain))=us.map (fun u=>(u.qos,u.retain)):=by
 apply List.ext_getElem (by simp[hl])
 intro i h1 h2
 rw[List.length_map]at h1 h2
 obtain⟨s,hs⟩:=h i h2
 rw[List.getElem?_eq_getElem h1]at hs
 have hs:=Option.some.inj hs
 rw[List.getElem_map,List.getElem_map,hs,List.getD_eq_getElem?_getD,List.getElem?_eq_getElem h2]
 rfl
theorem cfl_eq {vs:List Wv} {us:List Wl} (h:vs.map (fun u=>(u.qos,u.retain))=us.map (fun u=>(u.qos,u.retain))) (f:Int):vs.foldl cstep f=us.foldl cstepA f:=by
 have e1:vs.foldl cstep f=(vs.map (fun u=>(u.qos,u.retain))).foldl (fun f x=>bits .or .i64 f (bits .or .i64 (bits .or .i64 4 (fv x.2 32)) (IntKind.i64.wrap (x.1 * 8)))) f:=by rw[List.foldl_map];rfl
 have e2:us.foldl cstepA f=(us.map (fun u=>(u.qos,u.retain))).foldl (fun f x=>bits .or .i64 f (bits .or .i64 (bits .or .i64 4 (fv x.2 32)) (IntKind.i64.wrap (x.1 * 8)))) f:=by rw[List.foldl_map];rfl
 rw[e1,e2,h]
theorem call_eq {vs:List Wv} {us:List Wl} (h:vs.map (fun u=>(u.qos,u.retain))=us.map (fun u=>(u.qos,u.retain))):(vs.all fun u=>mq u.qos)=us.all fun u=>mq u.qos:=by
 have e1:(vs.all fun u=>mq u.qos)=(vs.map (fun u=>(u.qos,u.retain))).all fun x=>mq x.1:=by rw[List.all_map];rfl
 have e2:(us.all fun u=>mq u.qos)=(us.map (fun u=>(u.qos,u.retain))).all fun x=>mq x.1:=by rw[List.all_map];rfl
 rw[e1,e2,h]
theorem foldl_range (us:List Wl) (f:Int) (hf:-9223372036854775808<=f/\f<=9223372036854775807):-9223372036854775808<=us.foldl cstepA f/\us.foldl cstepA f<=9223372036854775807:=by
 induction us generalizing f with
 | nil=>exact hf
 | cons u r ih=>exact ih _ (or_range _ _)
theorem enc_none {w:World} {q:Pkv} {P:Pa} (hR:RPk w q P) (hB:Big P) (hk:P.kind≠1/\P.kind≠2/\P.kind≠3/\P.kind≠4/\P.kind≠5/\P.kind≠6/\P.kind≠7/\P.kind≠8/\P.kind≠9/\P.kind≠10/\P.kind≠11/\P.kind≠14/\P.kind≠15):Calls Tryz.prog 10 #[q.val] w (EncQ (fkA P).1 (fkA P).2 q.kind (eb P) w):=by
 have hc:=hR.cnt
 have hf:=hB.fit hc
 obtain⟨h0,h1,h2,h3,h4,h5,h6,h7,h8,h9,h10,h11⟩:=hc.sc
 have hL:=hB.lists
 have k:=hk
 rw[<- h0]at k
 refine enc_core q (q) _ _ _ (0) w (by omega) (fun W=>fk_any q P hc W) (fun w0 w1 W hb hQ=>?_)
 have e:=(hc).emp
 unfold eb
 rw[if_neg (by omega),if_neg (by omega),if_neg (by omega),if_neg (by omega),if_neg (by omega),if_neg (by omega),if_neg (by omega),if_neg (by omega),<- e]
 exact pk_none hQ hf k
theorem enc_reason {w:World} {q:Pkv} {P:Pa} (hR:RPk w q P) (hB:Big P) (hk:P.kind=14\/P.kind=15):Calls Tryz.prog 10 #[q.val] w (EncQ (fkA P).1 (fkA P).2 q.kind (eb P) w):=by
 have hc:=hR.cnt
 have hf:=hB.fit hc
 obtain⟨h0,h1,h2,h3,h4,h5,h6,h7,h8,h9,h10,h11⟩:=hc.sc
 have hL:=hB.lists
 have k:=hk
 rw[<- h0]at k
 refine enc_core q (q.no_code.no_props) _ _ _ (0+5000001) w (by omega) (fun W=>fk_any q P hc W) (fun w0 w1 W hb hQ=>?_)
 have e:=(hc.no_code.no_props).emp
 unfold eb
 rw[if_neg (by omega),if_neg (by omega),if_neg (by omega),if_neg (by omega),if_neg (by omega),if_neg (by omega),if_neg (by omega),if_pos (by omega),<- e,<- h0,<- h10]
 exact pk_reason hQ hf P.props (hR.props.below hb) hB.lists.1 hB.props k
theorem enc_ack {w:World} {q:Pkv} {P:Pa} (hR:RPk w q P) (hB:Big P) (hk:P.kind=4\/P.kind=5\/P.kind=6\/P.kind=7):Calls Tryz.prog 10 #[q.val] w (EncQ (fkA P).1 (fkA P).2 q.kind (eb P) w):=by
 have hc:=hR.cnt
 have hf:=hB.fit hc
 obtain⟨h0,h1,h2,h3,h4,h5,h6,h7,h8,h9,h10,h11⟩:=hc.sc
 have hL:=hB.lists
 have k:=hk
 rw[<- h0]at k
 refine enc_core q (q.no_id.no_code.no_props) _ _ _ (0+2+5000001) w (by omega) (fun W=>fk_any q P hc W) (fun w0 w1 W hb hQ=>?_)
 have e:=(hc.no_id.no_code.no_props).emp
 unfold eb
 rw[if_neg (by omega),if_neg (by omega),if_neg (by omega),if_pos (by omega),sIdA,<- e,<- h0,<- h10,<- h5]
 exact pk_ack hQ hf P.props (hR.props.below hb) hB.lists.1 hB.props k
theorem enc_connack {w:World} {q:Pkv} {P:Pa} (hR:RPk w q P) (hB:Big P) (hk:P.kind=2):Calls Tryz.prog 10 #[q.val] w (EncQ (fkA P).1 (fkA P).2 q.kind (eb P) w):=by
 have hc:=hR.cnt
 have hf:=hB.fit hc
 obtain⟨h0,h1,h2,h3,h4,h5,h6,h7,h8,h9,h10,h11⟩:=hc.sc
 have hL:=hB.lists
 have k:=hk
 rw[<- h0]at k
 refine enc_core q (q.no_session.no_code.no_props) _ _ _ (0+1+1+5000000) w (by omega) (fun W=>fk_any q P hc W) (fun w0 w1 W hb hQ=>?_)
 have e:=(hc.no_session.no_code.no_props).emp
 unfold eb
 rw[if_neg (by omega),if_pos (by omega),<- e,<- h0,<- h10,<- h11]
 exact pk_connack hQ hf P.props (hR.props.below hb) hB.lists.1 hB.props k
theorem enc_subs {w:World} {q:Pkv} {P:Pa} (hR:RPk w q P) (hB:Big P) (hk:P.kind=8):Calls Tryz.prog 10 #[q.val] w (EncQ (fkA P).1 (fkA P).2 q.kind (eb P) w):=by
 have hc:=hR.cnt
 have hf:=hB.fit hc
 obtain⟨h0,h1,h2,h3,h4,h5,h6,h7,h8,h9,h10,h11⟩:=hc.sc
 have hL:=hB.lists
 have k:=hk
 rw[<- h0]at k
 refine enc_core q (q.no_id.no_props.no_subs) _ _ _ (5000002+P.subs.length * 70001) w (by omega) (fun W=>fk_any q P hc W) (fun w0 w1 W hb hQ=>?_)
 have e:=(hc.no_id.no_props.no_subs).emp
 unfold eb
 rw[if_neg (by omega),if_neg (by omega),if_neg (by omega),if_neg (by omega),if_pos (by omega),sIpA,sIdA,<- e,<- h0,<- h5]
 exact pk_subs hQ hf P.props (hR.props.below hb) hB.lists.1 hB.props P.subs (hR.subs.below hb) hB.subs 70001 (Nat.le_refl _) (by omega) k
theorem enc_filters {w:World} {q:Pkv} {P:Pa} (hR:RPk w q P) (hB:Big P) (hk:P.kind=10):Calls Tryz.prog 10 #[q.val] w (EncQ (fkA P).1 (fkA P).2 q.kind (eb P) w):=by
 have hc:=hR.cnt
 have hf:=hB.fit hc
 obtain⟨h0,h1,h2,h3,h4,h5,h6,h7,h8,h9,h10,h11⟩:=hc.sc
 have hL:=hB.lists
 have k:=hk
 rw[<- h0]at k
 refine enc_core q (q.no_id.no_props.no_filters) _ _ _ (5000002+P.filters.length * 70001) w (by omega) (fun W=>fk_any q P hc W) (fun w0 w1 W hb hQ=>?_)
 have e:=(hc.no_id.no_props.no_filters).emp
 unfold eb
 rw[if_neg (by omega),if_neg (by omega),if_neg (by omega),if_neg (by omega),if_neg (by omega),if_pos (by omega),sIpA,sIdA,<- e,<- h0,<- h5]
 exact pk_filters hQ hf P.props (hR.props.below hb) hB.lists.1 hB.props P.filters (hR.filters.below hb) hB.filters 70001 (Nat.le_refl _) (by omega) k
theorem enc_codes {w:World} {q:Pkv} {P:Pa} (hR:RPk w q P) (hB:Big P) (hk:P.kind=9\/P.kind=11):Calls Tryz.prog 10 #[q.val] w (EncQ (fkA P).1 (fkA P).2 q.kind (eb P) w):=by
 have hc:=hR.cnt
 have hf:=hB.fit hc
 obtain⟨h0,h1,h2,h3,h4,h5,h6,h7,h8,h9,h10,h11⟩:=hc.sc
 have hL:=hB.lists
 have k:=hk
 rw[<- h0]at k
 refine enc_core q (q.no_id.no_props.no_codes) _ _ _ (5000002+P.codes.length * 70001) w (by omega) (fun W=>fk_any q P hc W) (fun w0 w1 W hb hQ=>?_)
 have e:=(hc.no_id.no_props.no_codes).emp
 unfold eb
 rw[if_neg (by omega),if_neg (by omega),if_neg (by omega),if_neg (by omega),if_neg (by omega),if_neg (by omega),if_pos (by omega),sIpA,sIdA,<- e,<- h0,<- h5]
 exact pk_codes hQ hf P.props (hR.props.below hb) hB.lists.1 hB.props P.codes (hR.codes.below hb) hB.codes 70001 (Nat.le_refl _) (by omega) k
theorem enc_pub_pos {w:World} {q:Pkv} {P:Pa} (hR:RPk w q P) (hB:Big P) (hk:P.kind=3) (hq:0 < P.qos):Calls Tryz.prog 10 #[q.val] w (EncQ (fkA P).1 (fkA P).2 q.kind (eb P) w):=by
 have hc:=hR.cnt
 have hf:=hB.fit hc
 obtain⟨h0,h1,h2,h3,h4,h5,h6,h7,h8,h9,h10,h11⟩:=hc.sc
 have hL:=hB.lists
 have k:=hk
 rw[<- h0]at k
 refine enc_core q (q.no_dup.no_retain.no_topic.no_qos.no_id.no_props.no_payload) _ _ _ (2000000000) w (by omega) (fun W=>fk_any q P hc W) (fun w0 w1 W hb hQ=>?_)
 have e:=(hc.no_dup.no_retain.no_topic.no_qos.no_id.no_props.no_payload).emp
 unfold eb
 rw[if_neg (by omega),if_neg (by omega),if_pos (by omega),if_pos hq,<- e,<- h0,<- h2,<- h4,<- h5,<- h6]
 exact pk_pub_pos hQ hf P.props (hR.props.below hb) hB.lists.1 hB.props (by rw[h4];have:=hB.texts;omega) (by rw[h6];have:=hB.texts;omega) (by rw[h2];exact hq) k
theorem enc_pub_zero {w:World} {q:Pkv} {P:Pa} (hR:RPk w q P) (hB:Big P) (hk:P.kind=3) (hq:¬ 0 < P.qos):Calls Tryz.prog 10 #[q.val] w (EncQ (fkA P).1 (fkA P).2 q.kind (eb P) w):=by
 have hc:=hR.cnt
 have hf:=hB.fit hc
 obtain⟨h0,h1,h2,h3,h4,h5,h6,h7,h8,h9,h10,h11⟩:=hc.sc
 have hL:=hB.lists
 have k:=hk
 rw[<- h0]at k
 refine enc_core q (q.no_dup.no_retain.no_topic.no_qos.no_props.no_payload) _ _ _ (2000000000) w (by omega) (fun W=>fk_any q P hc W) (fun w0 w1 W hb hQ=>?_)
 have e:=(hc.no_dup.no_retain.no_topic.no_qos.no_props.no_payload).emp
 unfold eb
 rw[if_neg (by omega),if_neg (by omega),if_pos (by omega),if_neg hq,<- e,<- h0,<- h2,<- h4,<- h5,<- h6]
 exact pk_pub_zero hQ hf P.props (hR.props.below hb) hB.lists.1 hB.props (by rw[h4];have:=hB.texts;omega) (by rw[h6];have:=hB.texts;omega) (by rw[h2];exact hq) k
theorem enc_conn {w:World} {q:Pkv} {P:Pa} (hR:RPk w q P) (hB:Big P) (hk:P.kind=1):Calls Tryz.prog 10 #[q.val] w (EncQ (fkA P).1 (fkA P).2 q.kind (eb P) w):=by
 have hc:=hR.cnt
 have hf:=hB.fit hc
 obtain⟨h0,h1,h2,h3,h4,h5,h6,h7,h8,h9,h10,h11⟩:=hc.sc
 obtain⟨n0,n1,n2,n3,n4,n5,n6⟩:=hc.ns
 have hL:=hB.lists
 have k:=hk
 rw[<- h0]at k
 obtain⟨vs,hrw,hvl,hvs⟩:=wills_rw hR.wills
 have hm:=vs_map hvl hvs
 have ef:cfl q.user.n q.pass.n q.clean vs=cflA P:=by
  unfold cfl cflA
  rw[cfl_eq hm,n2,n3,h8]
 have eo:cok q.user.n q.pass.n vs=cokA P:=by
  unfold cok cokA
  rw[call_eq hm,hvl,n2,n3]
 refine enc_core q q.no_clean.no_keep.no_props.no_client.no_wills.no_user.no_pass _ _ _ (6000000+P.wills.length * 6000000+P.user.length * 6000000+P.pass.length * 6000000) w (by omega) (fun W=>fk_any q P hc W) (fun w0 w1 W hb hQ=>?_)
 have e:=(hc.no_clean.no_keep.no_props.no_client.no_wills.no_user.no_pass).emp
 obtain⟨wo,wc,hwv,_,hWS⟩:=hR.wills.below hb
 obtain⟨uo,uc,huv,_,hUS⟩:=hR.user.below hb
 obtain⟨po,pc,hpv,_,hPS⟩:=hR.pass.below hb
 unfold eb
 rw[if_pos hk,<- e,<- ef,<- eo,<- h0,<- h9,<- h7]
 exact pk_conn hQ hf vs (hrw.below hb) P.props (hR.props.below hb) hB.lists.1 hB.props (by rw[h7];have:=hB.texts;omega) (by rw[h9];exact hB.nums.2.2.1) (by rw[n2];unfold maxLen;omega) (by rw[n3];unfold maxLen;omega)
  (by rw[ef];unfold cflA;exact foldl_range _ _ (or_range _ _)) P.wills _ rfl wo wc hwv hWS hB.wills P.user _ rfl uo uc huv hUS hB.user P.pass _ rfl po pc hpv hPS 6000000 (Nat.le_refl _) (by omega) k
theorem enc_any {w:World} {q:Pkv} {P:Pa} (hR:RPk w q P) (hB:Big P):Calls Tryz.prog 10 #[q.val] w (EncQ (fkA P).1 (fkA P).2 P.kind (eb P) w):=by
 rw[<- hR.sc.1]
 by_cases k1:P.kind=1
 ·exact enc_conn hR hB k1
 by_cases k2:P.kind=2
 ·exact enc_connack hR hB k2
 by_cases k3:P.kind=3
 ·by_cases hq:0 < P.qos
  ·exact enc_pub_pos hR hB k3 hq
  ·exact enc_pub_zero hR hB k3 hq
 by_cases k4:P.kind=4\/P.kind=5\/P.kind=6\/P.kind=7
 ·exact enc_ack hR hB k4
 by_cases k8:P.kind=8
 ·exact enc_subs hR hB k8
 by_cases k10:P.kind=10
 ·exact enc_filters hR hB k10
 by_cases k9:P.kind=9\/P.kind=11
 ·exact enc_codes hR hB k9
 by_cases k14:P.kind=14\/P.kind=15
 ·exact enc_reason hR hB k14
 ·exact enc_none hR hB ⟨k1,k2,k3,by omega,by omega,by omega,by omega,k8,by omega,k10,by omega,by omega,by omega⟩
end Go.Proofs.YtccnjdgaldbgnaaGreatDoor.K
namespace Go.Proofs.YtccnjdgaldbgnaaGreatDoor
open Go.RowKit
set_option maxRecDepth 100000
theorem emp_eq {s:ByteArray} (h:emp s=true):s=es:=by
 have h1:s.toList=[]:=List.isEmpty_iff.1 h
 exact toList_inj (h1.trans (by decide +kernel))
theorem rng_app {a b:List Int} (ha:Rng a) (hb:Rng b):Rng (a++b):=range_app ha hb
end Go.Proofs.YtccnjdgaldbgnaaGreatDoor
namespace Go.Proofs.YtccnjdgaldbgnaaGreatDoor.K.B
open Go.RowKit
open Go.Proofs.YtccnjdgaldbgnaaGreatDoor.K
set_option maxRecDepth 100000
def RT {α:Type} (f:List Int->Option (α×List Int)) (ys:List Int) (x:α):Prop:=∀ r,f (ys++r)=some (x,r)
def ET {α:Type} (f:List Int->Option (α×List Int)) (ys:List Int) (x:α):Prop:=f ys=some (x,[])
theorem RT.bind {α β:Type} {f:List Int->Option (α×List Int)} {g:α->List Int->Option (β×List Int)} {ys zs:List Int} {x:α} {y:β} (h:RT f ys x) (k:RT (g x) zs y):RT (bindR f g) (ys++zs) y:=fun r=>by
 unfold bindR
 rw[List.append_assoc,h]
 exact k r
theorem RT.et {α:Type} {f:List Int->Option (α×List Int)} {ys:List Int} {x:α} (h:RT f ys x):ET f ys x:=by
 have:=h []
 rw[List.append_nil]at this
 exact this
theorem okP_inv {place:Int} {l:List Pr} (h:okP place l=true):okTo place l l.length/\l.length<=32:=by
 have h0:=of_decide_eq_true h
 unfold chkP at h0
 by_cases h1:∀ i,i < l.length->okAt place l i=true
 ·rw[if_pos h1]at h0
  by_cases h2:l.length<=32
  ·exact⟨h1,h2⟩
  ·rw[if_neg h2]at h0;cases h0
 ·rw[if_neg h1]at h0;cases h0
theorem rng_l {a b:List Int} (h:Rng (a++b)):Rng a:=fun j=>by
 by_cases hj:j < a.length
 ·have:=h j
  rw[List.getD_eq_getElem?_getD,List.getElem?_append_left hj,<- List.getD_eq_getElem?_getD]at this
  exact this
 ·rw[List.getD_eq_getElem?_getD,List.getElem?_eq_none (by omega)];simp
end Go.Proofs.YtccnjdgaldbgnaaGreatDoor.K.B
namespace Go.Proofs.YtccnjdgaldbgnaaGreatDoor.K.B
open Go.RowKit
open Go.Proofs.YtccnjdgaldbgnaaGreatDoor.K
set_option maxRecDepth 100000
theorem cfl0_back (nu np:Nat) (c:Bool) (hu:nu<=1) (hp:np<=1):(0<=cfl0 nu np c/\cfl0 nu np c < 256)/\cfok (cfl0 nu np c)=true/\btest (cfl0 nu np c) 128=decide (0 < nu)/\btest (cfl0 nu np c) 64=decide (0 < np)/\btest (cfl0 nu np c) 2=c/\btest (cfl0 nu np c) 4=false:=by
 have h1:nu=0\/nu=1:=by omega
 have h2:np=0\/np=1:=by omega
 rcases h1 with rfl | rfl <;> rcases h2 with rfl | rfl <;> cases c <;> decide +kernel
theorem cfl1_back (nu np:Nat) (c:Bool) (hu:nu<=1) (hp:np<=1) (u:Wl) (hq:mq u.qos=true):(0<=cstepA (cfl0 nu np c) u/\cstepA (cfl0 nu np c) u < 256)/\cfok (cstepA (cfl0 nu np c) u)=true/\btest (cstepA (cfl0 nu np c) u) 128=decide (0 < nu)/\btest (cstepA (cfl0 nu np c) u) 64=decide (0 < np)/\btest (cstepA (cfl0 nu np c) u) 2=c/\btest (cstepA (cfl0 nu np c) u) 4=true/\cstepA (cfl0 nu np c) u / 8 % 4=u.qos/\btest (cstepA (cfl0 nu np c) u) 32=u.retain:=by
 have h1:nu=0\/nu=1:=by omega
 have h2:np=0\/np=1:=by omega
 obtain⟨t,y,q,r,ps⟩:=u
 unfold mq at hq
 simp only[Bool.and_eq_true,decide_eq_true_eq]at hq
 have h3:q=0\/q=1\/q=2:=by omega
 unfold cstepA
 dsimp only
 rcases h1 with rfl | rfl <;> rcases h2 with rfl | rfl <;> rcases h3 with rfl | rfl | rfl <;> cases c <;> cases r <;> decide +kernel
theorem short_list {α:Type} {l:List α} (h:l.length<=1):l=[]\/∃ a,l=[a]:=by
 match l,h with
 | [],_=>exact .inl rfl
 | [a],_=>exact .inr ⟨a,rfl⟩
theorem cfA_back {P:Pa} (h:cokA P=true):P.wills.length<=1/\P.user.length<=1/\P.pass.length<=1/\(0<=cflA P/\cflA P < 256)/\cfok (cflA P)=true/\btest (cflA P) 128=decide (0 < P.user.length)/\btest (cflA P) 64=decide (0 < P.pass.length)/\btest (cflA P) 2=P.clean/\btest (cflA P) 4=decide (0 < P.wills.length)/\∀ u ∈ P.wills,cflA P / 8 % 4=u.qos/\btest (cflA P) 32=u.retain:=by
 unfold cokA cok0 at h
 simp only[Bool.and_eq_true,decide_eq_true_eq]at h
 obtain⟨⟨⟨hw,hu⟩,hp⟩,hq⟩:=h
 refine⟨hw,hu,hp,?_⟩
 unfold cflA
 rcases short_list hw with e | ⟨u,e⟩
 ·rw[e]
  obtain⟨h1,h2,h3,h4,h5,h6⟩:=cfl0_back P.user.length P.pass.length P.clean hu hp
  exact⟨h1,h2,h3,h4,h5,h6,fun u hu=>by cases hu⟩
 ·rw[e]at hq |-
  have hq1:mq u.qos=true:=by simpa using hq
  obtain⟨h1,h2,h3,h4,h5,h6,h7,h8⟩:=cfl1_back P.user.length P.pass.length P.clean hu hp u hq1
  refine⟨h1,h2,h3,h4,h5,h6,fun v hv=>?_⟩
  obtain rfl:=List.mem_singleton.1 hv
  exact⟨h7,h8⟩
theorem meas_cons (b:Int) (t:List Int):meas (b :: t)=if (V.vget t).2.2≠0 then (0,0,(V.vget t).2.2) else if 65536 < 1+ghd t+(gid t).toNat then (0,0,2) else if (b :: t).length < 1+ghd t+(gid t).toNat then (0,0,3) else (1+ghd t,1+ghd t+(gid t).toNat,0):=rfl
end Go.Proofs.YtccnjdgaldbgnaaGreatDoor.K.B
namespace Go.Proofs.YtccnjdgaldbgnaaGreatDoor.K.B
open Go.RowKit
open Go.Proofs.YtccnjdgaldbgnaaGreatDoor.K
set_option maxRecDepth 100000
theorem bi_inv {α β:Type} {f:List Int->Option (α×List Int)} {g:α->List Int->Option (β×List Int)} {l l':List Int} {y:β} (h:bindR f g l=some (y,l')):∃ x l1,f l=some (x,l1)/\g x l1=some (y,l'):=by
 unfold bindR at h
 cases hf:f l with
 | none=>rw[hf]at h;cases h
 | some r=>rw[hf]at h;exact⟨r.1,r.2,rfl,h⟩
theorem pu_inv {α:Type} {x y:α} {l l':List Int} (h:pureR x l=some (y,l')):y=x/\l'=l:=by
 unfold pureR at h
 cases h
 exact⟨rfl,rfl⟩
theorem mu_inv {b:Bool} {l l':List Int} {u:Unit} (h:mustR b l=some (u,l')):b=true/\l'=l:=by
 unfold mustR at h
 cases b
 ·cases h
 ·cases h;exact⟨rfl,rfl⟩
def Lk (l r:List Int) (n:Nat):Prop:=n+r.length<=l.length/\Rng r
theorem gt_full {l:List Int} (h:(gt l).2.2=0):full l=true/\utf (sb (gbs l))=true/\gt l=(gbs l,((2+nb l:Nat):Int),0):=by
 unfold gt at h |-
 by_cases hf:full l=true
 ·rw[if_pos hf]at h |-
  by_cases hu:utf (sb (gbs l))=true
  ·rw[if_pos hu];exact⟨hf,hu,rfl⟩
  ·rw[if_neg hu]at h;exact absurd h (by simp)
 ·rw[if_neg hf]at h;exact absurd h (by simp)
theorem gbn_full {l:List Int} (h:(gbn l).2.2=0):full l=true/\gbn l=(gbs l,((2+nb l:Nat):Int),0):=by
 unfold gbn at h |-
 by_cases hf:full l=true
 ·rw[if_pos hf];exact⟨hf,rfl⟩
 ·rw[if_neg hf]at h;exact absurd h (by simp)
theorem full_le {l:List Int} (hf:full l=true):2+nb l<=l.length:=by
 unfold full at hf
 rw[Bool.and_eq_true,decide_eq_true_eq,decide_eq_true_eq]at hf
 exact hf.2
theorem gbs_tl {l:List Int} (hf:full l=true):(tx (gbs l)).length=2+nb l:=by
 have h:=full_le hf
 rw[tx_length]
 unfold gbs
 rw[bs_size,List.length_take,List.length_drop]
 omega
theorem nb_tn (n:Nat):((2+n:Nat):Int).toNat=2+n:=rfl
theorem okT_of {s:ByteArray} (hu:utf (sb s)=true) (hz:s.size<=65535):okT s=true:=by
 unfold okT chk
 rw[if_pos hu,if_pos (by rw[sb_length];exact hz)]
 rfl
theorem text_in {l r:List Int} {s:ByteArray} (hr:Rng l) (h:text? l=some (s,r)):okT s=true/\s.size<=65535/\Lk l r (tx s).length:=by
 unfold text? at h
 by_cases h0:(gt l).2.2=0
 ·rw[if_pos h0]at h
  obtain⟨hf,hu,hg⟩:=gt_full h0
  rw[hg]at h
  dsimp only at h
  rw[nb_tn]at h
  cases h
  have hl:=full_le hf
  have hz:=gbs_size l hr
  refine⟨okT_of hu hz,hz,?_,hr.drop _⟩
  rw[gbs_tl hf,List.length_drop]
  omega
 ·rw[if_neg h0]at h;cases h
theorem bin_in {l r:List Int} {s:ByteArray} (hr:Rng l) (h:bin? l=some (s,r)):okB s=true/\s.size<=65535/\Lk l r (tx s).length:=by
 unfold bin? at h
 by_cases h0:(gbn l).2.2=0
 ·rw[if_pos h0]at h
  obtain⟨hf,hg⟩:=gbn_full h0
  rw[hg]at h
  dsimp only at h
  rw[nb_tn]at h
  cases h
  have hl:=full_le hf
  have hz:=gbs_size l hr
  refine⟨decide_eq_true hz,hz,?_,hr.drop _⟩
  rw[gbs_tl hf,List.length_drop]
  omega
 ·rw[if_neg h0]at h;cases h
theorem one_in {l r:List Int} {x:Int} (hr:Rng l) (h:one? l=some (x,r)):(0<=x/\x<=255)/\Lk l r 1:=by
 cases l with
 | nil=>cases h
 | cons a t =>
  cases h
  have h0:=hr 0
  exact⟨h0,by rw[List.length_cons];omega,hr.drop 1⟩
theorem two_in {l r:List Int} {x:Int} (hr:Rng l) (h:two? l=some (x,r)):in16 x=true/\Lk l r 2:=by
 match l,h with
 | [],h=>cases h
 | [a],h=>cases h
 | a :: b :: t,h =>
  cases h
  have h0:0<=a/\a<=255:=hr 0
  have h1:0<=b/\b<=255:=hr 1
  refine⟨?_,by rw[List.length_cons,List.length_cons];omega,hr.drop 2⟩
  unfold in16
  simp only[Bool.and_eq_true,decide_eq_true_eq]
  omega
theorem id_in {l r:List Int} {x:Int} (hr:Rng l) (h:id? l=some (x,r)):(in16 x && x != 0)=true/\Lk l r 2:=by
 unfold id? at h
 cases h2:two? l with
 | none=>rw[h2]at h;cases h
 | some q =>
  obtain⟨y,t⟩:=q
  rw[h2]at h
  dsimp only at h
  by_cases h0:y=0
  ·rw[if_pos h0]at h;cases h
  ·rw[if_neg h0]at h
   cases h
   obtain⟨h3,h4⟩:=two_in hr h2
   exact⟨by rw[h3];simpa using h0,h4⟩
theorem pvb_gval (id:Int) (m:List Int) (hr:Rng m) (h:(gval (kd id) m).1=true):(pvb (id,(gval (kd id) m).2.1,(gval (kd id) m).2.2.1,(gval (kd id) m).2.2.2.1)).length=(gval (kd id) m).2.2.2.2:=by
 unfold pvb
 dsimp only
 generalize kd id=k at h |-
 unfold gval at h |-
 by_cases k1:k=1\/k=2\/k=4
 ·rw[if_pos k1]
  rcases k1 with rfl | rfl | rfl <;> rfl
 rw[if_neg k1]at h |-
 rw[if_neg (show ¬ k=1 from by omega),if_neg (show ¬ k=2 from by omega),if_neg (show ¬ k=4 from by omega)]
 by_cases k5:k=5
 ·rw[if_pos k5]at h |-
  rw[if_pos k5]
  simp only[decide_eq_true_eq]at h |-
  obtain⟨_,_,h2,_,_,h3⟩:=vget_is m hr h
  have:=congrArg List.length h3
  rw[List.length_take,Nat.min_eq_left h2]at this
  exact this
 rw[if_neg k5]at h |-
 rw[if_neg k5]
 by_cases k6:k=6
 ·rw[if_pos k6]at h |-
  rw[if_neg (show ¬ k=8 from by omega)]
  simp only[decide_eq_true_eq]at h |-
  obtain⟨hf,_,hg⟩:=gt_full h
  rw[hg]
  exact gbs_tl hf
 rw[if_neg k6]at h |-
 by_cases k7:k=7
 ·rw[if_pos k7]at h |-
  rw[if_neg (show ¬ k=8 from by omega)]
  simp only[decide_eq_true_eq]at h |-
  obtain⟨hf,hg⟩:=gbn_full h
  rw[hg]
  exact gbs_tl hf
 rw[if_neg k7]at h |-
 by_cases k8:k=8
 ·rw[if_pos k8]at h |-
  rw[if_pos k8]
  simp only[Bool.and_eq_true,decide_eq_true_eq]at h |-
  obtain⟨hf,_,hg⟩:=gt_full h.1
  obtain⟨hf2,_,hg2⟩:=gt_full h.2
  have e1:=gbs_tl hf
  have e2:=gbs_tl hf2
  rw[hg2,List.length_append]
  show _+(tx (gbs _)).length=_+(2+_)
  rw[e2,hg]
  show (tx (gbs m)).length+_=2+nb m+_
  rw[e1]
 rw[if_neg k8]at h
 exact absurd h (by simp)
theorem put_len_of {l:List Int} (hr:Rng l) (h:(V.vget l).2.2=0):(V.put (gid l)).length=ghd l:=by
 obtain⟨_,_,h2,_,_,h3⟩:=vget_is l hr h
 have:=congrArg List.length h3
 rw[List.length_take,Nat.min_eq_left h2]at this
 exact this
theorem pb_gpr {l:List Int} (hr:Rng l) (h:gok l=true):(pb (gpr l)).length=gsz l:=by
 unfold gok at h
 rw[Bool.and_eq_true,decide_eq_true_eq]at h
 have e:=pvb_gval (gid l) (l.drop (ghd l)) (hr.drop _) h.2
 unfold pb gpr gsz grs
 rw[List.length_append,e]
 show (V.put (gid l)).length+_=_
 rw[put_len_of hr h.1]
theorem parse_len:∀ (n:Nat) (l:List Int) (q:List Pr),l.length<=n->Rng l->parse l=some q->(body q).length=l.length:=by
 intro n
 induction n with
 | zero =>
  intro l q hl hr h
  obtain rfl:=List.length_eq_zero_iff.1 (Nat.le_zero.1 hl)
  rw[parse_nil]at h
  cases h
  rfl
 | succ n ih =>
  intro l q hl hr h
  by_cases h0:l=[]
  ·subst h0
   rw[parse_nil]at h
   cases h
   rfl
  ·cases hg:gok l with
   | false=>rw[parse_no l h0 hg]at h;cases h
   | true =>
    rw[parse_yes l h0 hr hg]at h
    obtain⟨g1,g2,_⟩:=gok_le l hr hg
    cases hp:parse (l.drop (gsz l)) with
    | none=>rw[hp]at h;cases h
    | some q' =>
     rw[hp]at h
     cases h
     have:=ih (l.drop (gsz l)) q' (by rw[List.length_drop];omega) (hr.drop _) hp
     rw[List.length_drop]at this
     show (List.flatMap pb (gpr l :: q')).length=_
     rw[List.flatMap_cons,List.length_append,pb_gpr hr hg]
     unfold body at this
     omega
theorem rng_take {l:List Int} (h:Rng l) (n:Nat):Rng (l.take n):=by
 have:l=l.take n++l.drop n:=(List.take_append_drop n l).symm
 rw[this]at h
 exact rng_l h
theorem may_small {p:Pr} (h:may p=true):p.2.2.1.size<=65535/\p.2.2.2.size<=65535:=by
 unfold may at h
 rw[Bool.and_eq_true]at h
 obtain⟨hf,ht⟩:=h
 unfold fit at hf
 rw[Bool.and_eq_true]at hf
 have hf:=hf.2
 unfold txo at ht
 have em:∀ s:ByteArray,Go.Proofs.YtccnjdgaldbgnaaGreatDoor.emp s=true->s.size<=65535:=fun s h=>by rw[emp_eq h];decide
 have ck:∀ s:ByteArray,chk (sb s)=0->s.size<=65535:=fun s h=>by have:=chk_0 h;rw[sb_length]at this;exact this
 by_cases k8:kd p.1=8
 ·rw[if_neg (by omega),if_neg (by omega),if_pos k8,Bool.and_eq_true,decide_eq_true_eq,decide_eq_true_eq]at ht
  exact⟨ck _ ht.1,ck _ ht.2⟩
 rw[if_neg k8]at hf
 by_cases k6:kd p.1=6
 ·rw[if_pos k6,decide_eq_true_eq]at ht
  rw[if_pos (.inl k6)]at hf
  exact⟨ck _ ht,em _ hf⟩
 rw[if_neg k6]at ht
 by_cases k7:kd p.1=7
 ·rw[if_pos k7,decide_eq_true_eq]at ht
  rw[if_pos (.inr k7)]at hf
  exact⟨ht,em _ hf⟩
 rw[if_neg (by omega),Bool.and_eq_true]at hf
 exact⟨em _ hf.1,em _ hf.2⟩
def PrOk (x:List Pr):Prop:=x.length<=32/\∀ k,k < x.length->(at0 x k).2.2.1.size<=65535/\(at0 x k).2.2.2.size<=65535
theorem prok_of {place:Int} {x:List Pr} (h:okP place x=true):PrOk x:=by
 obtain⟨h1,h2⟩:=okP_inv h
 exact⟨h2,fun k hk=>may_small (okAt_may (h1 k hk)).1⟩
theorem props_in {place:Int} {l r:List Int} {x:List Pr} (hr:Rng l) (h:props? place l=some (x,r)):okP place x=true/\PrOk x/\Lk l r (pbs x).length:=by
 unfold props? at h
 by_cases h0:pgt place l=0
 ·rw[if_pos h0]at h
  unfold plist psz at h
  rw[if_pos h0,if_pos h0]at h
  unfold pgt at h0
  by_cases hv:(V.vget l).2.2=0
  ·rw[if_neg (by simpa using hv)]at h0
   by_cases hl:l.length < ghd l+(gid l).toNat
   ·rw[if_pos hl]at h0;exact absurd h0 (by decide)
   ·rw[if_neg hl]at h0
    obtain⟨_,_,_,g0,g1,_⟩:=vget_is l hr hv
    cases hp:parse (pbd l) with
    | none=>rw[rdn_none place _ hp]at h0;exact absurd h0 (by decide)
    | some q =>
     rw[rdn_some place _ q hp]at h0
     rw[hp]at h
     cases h
     have e:=parse_len _ (pbd l) q (Nat.le_refl _) (rng_take (hr.drop _) _) hp
     have e1:(pbd l).length=(gid l).toNat:=by
      unfold pbd
      rw[List.length_take,List.length_drop]
      omega
     have hk:okP place q=true:=decide_eq_true h0
     refine⟨hk,prok_of hk,?_,hr.drop _⟩
     show (pbs q).length+_<=_
     unfold pbs
     rw[List.length_append,e,e1,show (((gid l).toNat:Nat):Int)=gid l from by omega,put_len_of hr hv,List.length_drop]
     omega
  ·rw[if_pos hv]at h0;exact absurd h0 hv
 ·rw[if_neg h0]at h;cases h
theorem add_yes {c:Bool} {ys t:List Int} (h:c=true):sAdd c ys t=some (t++ys):=by unfold sAdd;rw[if_pos h]
theorem must_yes {c:Bool} {t:List Int} (h:c=true):sMust c t=some t:=by unfold sMust;rw[if_pos h]
theorem reason_in {kind:Int} {l r:List Int} {c:Int} {x:List Pr} (hr:Rng l) (h:reason? kind l=some ((c,x),r)):(0<=c/\c<=255)/\PrOk x/\(∀ t,∃ ys,sReason c kind x t=some (t++ys)/\Lk l r ys.length):=by
 cases l with
 | nil =>
  cases h
  refine⟨by omega,⟨by simp,fun k hk=>absurd hk (by simp)⟩,fun t=>⟨[],?_,by simp,hr⟩⟩
  rw[List.append_nil]
  rfl
 | cons a t =>
  have ha:0<=a/\a<=255:=hr 0
  have h8:in8 a=true:=by unfold in8;simp only[Bool.and_eq_true,decide_eq_true_eq];omega
  have hrt:Rng t:=hr.drop 1
  unfold reason? at h
  dsimp only at h
  by_cases h0:t=[]
  ·rw[if_pos h0]at h
   cases h
   refine⟨ha,⟨by simp,fun k hk=>absurd hk (by simp)⟩,fun u=>?_⟩
   unfold sReason
   rw[if_pos (show ([]:List Pr).length=0 from rfl)]
   by_cases hc:c=0
   ·rw[if_pos hc]
    exact⟨[],by rw[List.append_nil],by simp,fun j=>by simp⟩
   ·rw[if_neg hc,add_yes h8]
    exact⟨_,rfl,by simp,fun j=>by simp⟩
  ·rw[if_neg h0]at h
   cases hp:props? kind t with
   | none=>rw[hp]at h;cases h
   | some q =>
    obtain⟨q1,q2⟩:=q
    rw[hp]at h
    simp only[Option.map_some,Option.some.injEq,Prod.mk.injEq]at h
    obtain⟨⟨rfl,rfl⟩,rfl⟩:=h
    obtain⟨h1,h2,h3,h4⟩:=props_in hrt hp
    refine⟨ha,h2,fun u=>?_⟩
    unfold sReason
    by_cases hx:q1.length=0
    ·rw[if_pos hx]
     by_cases hc:a=0
     ·rw[if_pos hc]
      exact⟨[],by rw[List.append_nil],by rw[List.length_cons,List.length_nil];omega,h4⟩
     ·rw[if_neg hc,add_yes h8]
      exact⟨_,rfl,by rw[List.length_cons,List.length_cons,List.length_nil];omega,h4⟩
    ·rw[if_neg hx,add_yes h8]
     show ∃ ys,sAdd (okP kind q1) (pbs q1) _=_/\_
     rw[add_yes h1]
     exact⟨[a % 256]++pbs q1,by rw[List.append_assoc],by rw[List.length_append,List.length_cons,List.length_cons,List.length_nil];omega,h4⟩
theorem many_in {α:Type} {f:List Int->Option (α×List Int)} {g:α->List Int->Option (List Int)} {T:α->Prop} (hg:∀ l x r,Rng l->f l=some (x,r)->T x/\∀ t,∃ ys,g x t=some (t++ys)/\Lk l r ys.length) :
  ∀ (n:Nat) (l:List Int) (d:List α) (r:List Int),Rng l->many f n l=some (d,r)->(∀ x ∈ d,T x)/\∀ t,∃ ys,sEach g d t=some (t++ys)/\Lk l r ys.length:=by
 intro n
 induction n with
 | zero =>
  intro l d r hr h
  unfold many at h
  by_cases h0:l=[]
  ·rw[if_pos h0]at h
   cases h
   subst h0
   exact⟨fun x hx=>(by cases hx),fun t=>⟨[],by rw[List.append_nil];rfl,by simp,hr⟩⟩
  ·rw[if_neg h0]at h;cases h
 | succ n ih =>
  intro l d r hr h
  unfold many at h
  by_cases h0:l=[]
  ·rw[if_pos h0]at h
   cases h
   subst h0
   exact⟨fun x hx=>(by cases hx),fun t=>⟨[],by rw[List.append_nil];rfl,by simp,hr⟩⟩
  ·rw[if_neg h0]at h
   cases hf:f l with
   | none=>rw[hf]at h;cases h
   | some q =>
    obtain⟨x,l1⟩:=q
    rw[hf]at h
    simp only[Option.bind_some]at h
    cases hm:many f n l1 with
    | none=>rw[hm]at h;cases h
    | some s =>
     obtain⟨d1,r1⟩:=s
     rw[hm]at h
     simp only[Option.map_some,Option.some.injEq,Prod.mk.injEq]at h
     obtain⟨rfl,rfl⟩:=h
     obtain⟨hT,hx⟩:=hg l x l1 hr hf
     obtain⟨_,_,⟨_,hl0⟩⟩:=hx []
     obtain⟨hT2,hx2⟩:=ih l1 d1 r1 hl0 hm
     refine⟨fun y hy=>?_,fun t=>?_⟩
     ·rcases List.mem_cons.1 hy with rfl | hy
      ·exact hT
      ·exact hT2 y hy
     ·obtain⟨ys,e1,k1,k2⟩:=hx t
      obtain⟨zs,e2,k3,k4⟩:=hx2 (t++ys)
      refine⟨ys++zs,?_,by rw[List.length_append];omega,k4⟩
      unfold sEach
      rw[e1,<- List.append_assoc]
      exact e2
theorem list_in {α:Type} {f:List Int->Option (α×List Int)} {g:α->List Int->Option (List Int)} {T:α->Prop} (hg:∀ l x r,Rng l->f l=some (x,r)->T x/\∀ t,∃ ys,g x t=some (t++ys)/\Lk l r ys.length) {l r:List Int} {d:List α} (hr:Rng l) (h:list? f l=some (d,r)) :
  mc d.length=true/\(∀ x ∈ d,T x)/\∀ t,∃ ys,sEach g d t=some (t++ys)/\Lk l r ys.length:=by
 unfold list? at h
 obtain⟨x,l1,h1,hA⟩:=bi_inv h
 obtain⟨_,l2,h2,hB⟩:=bi_inv hA
 obtain⟨h3,e3⟩:=mu_inv h2
 obtain⟨e4,e5⟩:=pu_inv hB
 subst e4 e5 e3
 exact⟨h3,many_in hg _ l _ _ hr h1⟩
theorem tx_in (l:List Int) (x:ByteArray) (r:List Int) (hr:Rng l) (h:text? l=some (x,r)):x.size<=65535/\∀ t,∃ ys,sTx x t=some (t++ys)/\Lk l r ys.length:=by
 obtain⟨h1,h2,h3⟩:=text_in hr h
 exact⟨h2,fun t=>⟨_,add_yes h1,h3⟩⟩
theorem code_in (l:List Int) (x:Int) (r:List Int) (hr:Rng l) (h:one? l=some (x,r)):(0<=x/\x<=255)/\∀ t,∃ ys,sCode x t=some (t++ys)/\Lk l r ys.length:=by
 obtain⟨h1,h2⟩:=one_in hr h
 have h8:in8 x=true:=by unfold in8;simp only[Bool.and_eq_true,decide_eq_true_eq];omega
 exact⟨h1,fun t=>⟨_,add_yes h8,h2⟩⟩
theorem opb_in (o:Int) (h0:0<=o/\o<=255):in8 (opv (o % 4) (btest o 4) (btest o 8) (o / 16))=true:=byte_cases (P:=fun o=>in8 (opv (o % 4) (btest o 4) (btest o 8) (o / 16))=true) (by decide +kernel) o h0.1 h0.2
theorem sub_in (l:List Int) (x:Sb) (r:List Int) (hr:Rng l) (h:sub? l=some (x,r)):x.filter.size<=65535/\∀ t,∃ ys,sSub x t=some (t++ys)/\Lk l r ys.length:=by
 unfold sub? at h
 obtain⟨f,l1,h1,hA⟩:=bi_inv h
 obtain⟨o,l2,h2,hB⟩:=bi_inv hA
 obtain⟨_,l3,h3',hC⟩:=bi_inv hB
 obtain⟨h3,e3⟩:=mu_inv h3'
 obtain⟨e4,e5⟩:=pu_inv hC
 subst e4 e5 e3
 obtain⟨a1,a2,a3,a4⟩:=text_in hr h1
 obtain⟨b1,b2,b3⟩:=one_in a4 h2
 refine⟨a2,fun t=>?_⟩
 have h8:in8 (opb (sbOf f o))=true:=opb_in o b1
 refine⟨tx f++[opb (sbOf f o) % 256],?_,by rw[List.length_append,List.length_cons,List.length_nil];omega,b3⟩
 unfold sSub
 rw[must_yes (show opk (sbOf f o).qos (sbOf f o).handling=true from h3)]
 show ((sAdd (okT f) (tx f) t).bind _)=_
 rw[add_yes a1]
 show sAdd _ _ _=_
 rw[add_yes h8,List.append_assoc]
end Go.Proofs.YtccnjdgaldbgnaaGreatDoor.K.B
