/- Proved here: packet's Encode at any packet that a machine holds (enc_any). Helper contract. -/
import Derived.Test.YtemedclhglkfjaaGreatDoorM45
namespace Go.Proofs.YtemedclhglkfjaaGreatDoor.K
open Go.RowKit
set_option maxRecDepth 100000
theorem wills_rw {w : World} {t : Sl} {us : List Wl} (h : Wls w t.val us) : ∃ vs : List Wv,Rw w t 5 (wcs vs) /\ vs.length = us.length /\ ∀ k,k < us.length -> ∃ s,vs[k]? = some ⟨(us.getD k wl0).topic,(us.getD k wl0).payload,(us.getD k wl0).qos,(us.getD k wl0).retain,s⟩ := by
 obtain ⟨ao,cap,hv,hc,hcase⟩ := h
 obtain ⟨ta,tn,tc⟩ := t
 simp only [Sl.val,Value.slice.injEq] at hv
 obtain ⟨rfl,rfl,rfl⟩ := hv
 rcases hcase with rfl | ⟨b,off,rfl,hat⟩
 ·exact ⟨[],⟨rfl,hc,.inl rfl⟩,rfl,fun k hk => by simp at hk⟩
 have hs : ∀ k,∃ s : Sl,k < us.length -> w.cell? ⟨b,off + k * 5 + 4,none⟩ = some s.val := fun k => by
  by_cases hk : k < us.length
  ·obtain ⟨a,n,c,⟨_,_,_,_,h4⟩,_⟩ := hat k hk
   exact ⟨⟨a,n,c⟩,fun _ => h4⟩
  ·exact ⟨⟨none,0,0⟩,fun h => absurd h hk⟩
 obtain ⟨f,hf⟩ := Classical.skolem.1 hs
 refine ⟨(List.range us.length).map fun k => ⟨(us.getD k wl0).topic,(us.getD k wl0).payload,(us.getD k wl0).qos,(us.getD k wl0).retain,f k⟩,⟨?_,hc,?_⟩,by simp,fun k hk => ⟨f k,by rw [List.getElem?_map,List.getElem?_range hk]; rfl⟩⟩
 ·rw [wcs_length]
  simp
 ·refine .inr ⟨b,off,rfl,fun j hj => ?_⟩
  rw [wcs_length,List.length_map,List.length_range] at hj
  have hi : j / 5 < us.length := by omega
  have e := wcs_get ((List.range us.length).map fun k => (⟨(us.getD k wl0).topic,(us.getD k wl0).payload,(us.getD k wl0).qos,(us.getD k wl0).retain,f k⟩ : Wv)) (j / 5) ⟨(us.getD (j / 5) wl0).topic,(us.getD (j / 5) wl0).payload,(us.getD (j / 5) wl0).qos,(us.getD (j / 5) wl0).retain,f (j / 5)⟩ (by rw [List.getElem?_map,List.getElem?_range hi]; rfl) (j % 5) (Nat.mod_lt _ (by decide))
  rw [show j / 5 * 5 + j % 5 = j from by omega] at e
  rw [e]
  obtain ⟨a,n,c,⟨h0,h1,h2,h3,_⟩,_⟩ := hat (j / 5) hi
  have h4 := hf (j / 5) hi
  have hm : j % 5 = 0 \/ j % 5 = 1 \/ j % 5 = 2 \/ j % 5 = 3 \/ j % 5 = 4 := by omega
  rcases hm with m | m | m | m | m
  ·rw [show off + j = off + j / 5 * 5 from by omega,h0,m]; rfl
  ·rw [show off + j = off + j / 5 * 5 + 1 from by omega,h1,m]; rfl
  ·rw [show off + j = off + j / 5 * 5 + 2 from by omega,h2,m]; rfl
  ·rw [show off + j = off + j / 5 * 5 + 3 from by omega,h3,m]; rfl
  ·rw [show off + j = off + j / 5 * 5 + 4 from by omega,h4,m]; rfl
theorem vs_map {vs : List Wv} {us : List Wl} (hl : vs.length = us.length) (h : ∀ k,k < us.length -> ∃ s,vs[k]? = some ⟨(us.getD k wl0).topic,(us.getD k wl0).payload,(us.getD k wl0).qos,(us.getD k wl0).retain,s⟩) : vs.map (fun u => (u.qos,u.retain)) = us.map (fun u => (u.qos,u.retain)) := by
 apply List.ext_getElem (by simp [hl])
 intro i h1 h2
 rw [List.length_map] at h1 h2
 obtain ⟨s,hs⟩ := h i h2
 rw [List.getElem?_eq_getElem h1] at hs
 have hs := Option.some.inj hs
 rw [List.getElem_map,List.getElem_map,hs,List.getD_eq_getElem?_getD,List.getElem?_eq_getElem h2]
 rfl
theorem cfl_eq {vs : List Wv} {us : List Wl} (h : vs.map (fun u => (u.qos,u.retain)) = us.map (fun u => (u.qos,u.retain))) (f : Int) : vs.foldl cstep f = us.foldl cstepA f := by
 have e1 : vs.foldl cstep f = (vs.map (fun u => (u.qos,u.retain))).foldl (fun f x => bits .or .i64 f (bits .or .i64 (bits .or .i64 4 (fv x.2 32)) (IntKind.i64.wrap (x.1 * 8)))) f := by rw [List.foldl_map]; rfl
 have e2 : us.foldl cstepA f = (us.map (fun u => (u.qos,u.retain))).foldl (fun f x => bits .or .i64 f (bits .or .i64 (bits .or .i64 4 (fv x.2 32)) (IntKind.i64.wrap (x.1 * 8)))) f := by rw [List.foldl_map]; rfl
 rw [e1,e2,h]
theorem call_eq {vs : List Wv} {us : List Wl} (h : vs.map (fun u => (u.qos,u.retain)) = us.map (fun u => (u.qos,u.retain))) : (vs.all fun u => mq u.qos) = us.all fun u => mq u.qos := by
 have e1 : (vs.all fun u => mq u.qos) = (vs.map (fun u => (u.qos,u.retain))).all fun x => mq x.1 := by rw [List.all_map]; rfl
 have e2 : (us.all fun u => mq u.qos) = (us.map (fun u => (u.qos,u.retain))).all fun x => mq x.1 := by rw [List.all_map]; rfl
 rw [e1,e2,h]
theorem foldl_range (us : List Wl) (f : Int) (hf : -9223372036854775808 <= f /\ f <= 9223372036854775807) : -9223372036854775808 <= us.foldl cstepA f /\ us.foldl cstepA f <= 9223372036854775807 := by
 induction us generalizing f with
 | nil => exact hf
 | cons u r ih => exact ih _ (or_range _ _)
theorem enc_none {w : World} {q : Pkv} {P : Pa} (hR : RPk w q P) (hB : Big P) (hk : P.kind ≠ 1 /\ P.kind ≠ 2 /\ P.kind ≠ 3 /\ P.kind ≠ 4 /\ P.kind ≠ 5 /\ P.kind ≠ 6 /\ P.kind ≠ 7 /\ P.kind ≠ 8 /\ P.kind ≠ 9 /\ P.kind ≠ 10 /\ P.kind ≠ 11 /\ P.kind ≠ 14 /\ P.kind ≠ 15) : Calls Tryz.prog 8 #[q.val] w (EncQ (fkA P).1 (fkA P).2 q.kind (eb P) w) := by
 have hc := hR.cnt
 have hf := hB.fit hc
 obtain ⟨h0,h1,h2,h3,h4,h5,h6,h7,h8,h9,h10,h11⟩ := hc.sc
 have hL := hB.lists
 have k := hk
 rw [<- h0] at k
 refine enc_core q (q) _ _ _ (0) w (by omega) (fun W => fk_any q P hc W) (fun w0 w1 W hb hQ => ?_)
 have e := (hc).emp
 unfold eb
 rw [if_neg (by omega),if_neg (by omega),if_neg (by omega),if_neg (by omega),if_neg (by omega),if_neg (by omega),if_neg (by omega),if_neg (by omega),<- e]
 exact pk_none hQ hf k
theorem enc_reason {w : World} {q : Pkv} {P : Pa} (hR : RPk w q P) (hB : Big P) (hk : P.kind = 14 \/ P.kind = 15) : Calls Tryz.prog 8 #[q.val] w (EncQ (fkA P).1 (fkA P).2 q.kind (eb P) w) := by
 have hc := hR.cnt
 have hf := hB.fit hc
 obtain ⟨h0,h1,h2,h3,h4,h5,h6,h7,h8,h9,h10,h11⟩ := hc.sc
 have hL := hB.lists
 have k := hk
 rw [<- h0] at k
 refine enc_core q (q.no_code.no_props) _ _ _ (0 + 5000001) w (by omega) (fun W => fk_any q P hc W) (fun w0 w1 W hb hQ => ?_)
 have e := (hc.no_code.no_props).emp
 unfold eb
 rw [if_neg (by omega),if_neg (by omega),if_neg (by omega),if_neg (by omega),if_neg (by omega),if_neg (by omega),if_neg (by omega),if_pos (by omega),<- e,<- h0,<- h10]
 exact pk_reason hQ hf P.props (hR.props.below hb) hB.lists.1 hB.props k
theorem enc_ack {w : World} {q : Pkv} {P : Pa} (hR : RPk w q P) (hB : Big P) (hk : P.kind = 4 \/ P.kind = 5 \/ P.kind = 6 \/ P.kind = 7) : Calls Tryz.prog 8 #[q.val] w (EncQ (fkA P).1 (fkA P).2 q.kind (eb P) w) := by
 have hc := hR.cnt
 have hf := hB.fit hc
 obtain ⟨h0,h1,h2,h3,h4,h5,h6,h7,h8,h9,h10,h11⟩ := hc.sc
 have hL := hB.lists
 have k := hk
 rw [<- h0] at k
 refine enc_core q (q.no_id.no_code.no_props) _ _ _ (0 + 2 + 5000001) w (by omega) (fun W => fk_any q P hc W) (fun w0 w1 W hb hQ => ?_)
 have e := (hc.no_id.no_code.no_props).emp
 unfold eb
 rw [if_neg (by omega),if_neg (by omega),if_neg (by omega),if_pos (by omega),sIdA,<- e,<- h0,<- h10,<- h5]
 exact pk_ack hQ hf P.props (hR.props.below hb) hB.lists.1 hB.props k
theorem enc_connack {w : World} {q : Pkv} {P : Pa} (hR : RPk w q P) (hB : Big P) (hk : P.kind = 2) : Calls Tryz.prog 8 #[q.val] w (EncQ (fkA P).1 (fkA P).2 q.kind (eb P) w) := by
 have hc := hR.cnt
 have hf := hB.fit hc
 obtain ⟨h0,h1,h2,h3,h4,h5,h6,h7,h8,h9,h10,h11⟩ := hc.sc
 have hL := hB.lists
 have k := hk
 rw [<- h0] at k
 refine enc_core q (q.no_session.no_code.no_props) _ _ _ (0 + 1 + 1 + 5000000) w (by omega) (fun W => fk_any q P hc W) (fun w0 w1 W hb hQ => ?_)
 have e := (hc.no_session.no_code.no_props).emp
 unfold eb
 rw [if_neg (by omega),if_pos (by omega),<- e,<- h0,<- h10,<- h11]
 exact pk_connack hQ hf P.props (hR.props.below hb) hB.lists.1 hB.props k
theorem enc_subs {w : World} {q : Pkv} {P : Pa} (hR : RPk w q P) (hB : Big P) (hk : P.kind = 8) : Calls Tryz.prog 8 #[q.val] w (EncQ (fkA P).1 (fkA P).2 q.kind (eb P) w) := by
 have hc := hR.cnt
 have hf := hB.fit hc
 obtain ⟨h0,h1,h2,h3,h4,h5,h6,h7,h8,h9,h10,h11⟩ := hc.sc
 have hL := hB.lists
 have k := hk
 rw [<- h0] at k
 refine enc_core q (q.no_id.no_props.no_subs) _ _ _ (5000002 + P.subs.length * 70001) w (by omega) (fun W => fk_any q P hc W) (fun w0 w1 W hb hQ => ?_)
 have e := (hc.no_id.no_props.no_subs).emp
 unfold eb
 rw [if_neg (by omega),if_neg (by omega),if_neg (by omega),if_neg (by omega),if_pos (by omega),sIpA,sIdA,<- e,<- h0,<- h5]
 exact pk_subs hQ hf P.props (hR.props.below hb) hB.lists.1 hB.props P.subs (hR.subs.below hb) hB.subs 70001 (Nat.le_refl _) (by omega) k
theorem enc_filters {w : World} {q : Pkv} {P : Pa} (hR : RPk w q P) (hB : Big P) (hk : P.kind = 10) : Calls Tryz.prog 8 #[q.val] w (EncQ (fkA P).1 (fkA P).2 q.kind (eb P) w) := by
 have hc := hR.cnt
 have hf := hB.fit hc
 obtain ⟨h0,h1,h2,h3,h4,h5,h6,h7,h8,h9,h10,h11⟩ := hc.sc
 have hL := hB.lists
 have k := hk
 rw [<- h0] at k
 refine enc_core q (q.no_id.no_props.no_filters) _ _ _ (5000002 + P.filters.length * 70001) w (by omega) (fun W => fk_any q P hc W) (fun w0 w1 W hb hQ => ?_)
 have e := (hc.no_id.no_props.no_filters).emp
 unfold eb
 rw [if_neg (by omega),if_neg (by omega),if_neg (by omega),if_neg (by omega),if_neg (by omega),if_pos (by omega),sIpA,sIdA,<- e,<- h0,<- h5]
 exact pk_filters hQ hf P.props (hR.props.below hb) hB.lists.1 hB.props P.filters (hR.filters.below hb) hB.filters 70001 (Nat.le_refl _) (by omega) k
theorem enc_codes {w : World} {q : Pkv} {P : Pa} (hR : RPk w q P) (hB : Big P) (hk : P.kind = 9 \/ P.kind = 11) : Calls Tryz.prog 8 #[q.val] w (EncQ (fkA P).1 (fkA P).2 q.kind (eb P) w) := by
 have hc := hR.cnt
 have hf := hB.fit hc
 obtain ⟨h0,h1,h2,h3,h4,h5,h6,h7,h8,h9,h10,h11⟩ := hc.sc
 have hL := hB.lists
 have k := hk
 rw [<- h0] at k
 refine enc_core q (q.no_id.no_props.no_codes) _ _ _ (5000002 + P.codes.length * 70001) w (by omega) (fun W => fk_any q P hc W) (fun w0 w1 W hb hQ => ?_)
 have e := (hc.no_id.no_props.no_codes).emp
 unfold eb
 rw [if_neg (by omega),if_neg (by omega),if_neg (by omega),if_neg (by omega),if_neg (by omega),if_neg (by omega),if_pos (by omega),sIpA,sIdA,<- e,<- h0,<- h5]
 exact pk_codes hQ hf P.props (hR.props.below hb) hB.lists.1 hB.props P.codes (hR.codes.below hb) hB.codes 70001 (Nat.le_refl _) (by omega) k
theorem enc_pub_pos {w : World} {q : Pkv} {P : Pa} (hR : RPk w q P) (hB : Big P) (hk : P.kind = 3) (hq : 0 < P.qos) : Calls Tryz.prog 8 #[q.val] w (EncQ (fkA P).1 (fkA P).2 q.kind (eb P) w) := by
 have hc := hR.cnt
 have hf := hB.fit hc
 obtain ⟨h0,h1,h2,h3,h4,h5,h6,h7,h8,h9,h10,h11⟩ := hc.sc
 have hL := hB.lists
 have k := hk
 rw [<- h0] at k
 refine enc_core q (q.no_dup.no_retain.no_topic.no_qos.no_id.no_props.no_payload) _ _ _ (2000000000) w (by omega) (fun W => fk_any q P hc W) (fun w0 w1 W hb hQ => ?_)
 have e := (hc.no_dup.no_retain.no_topic.no_qos.no_id.no_props.no_payload).emp
 unfold eb
 rw [if_neg (by omega),if_neg (by omega),if_pos (by omega),if_pos hq,<- e,<- h0,<- h2,<- h4,<- h5,<- h6]
 exact pk_pub_pos hQ hf P.props (hR.props.below hb) hB.lists.1 hB.props (by rw [h4]; have := hB.texts; omega) (by rw [h6]; have := hB.texts; omega) (by rw [h2]; exact hq) k
theorem enc_pub_zero {w : World} {q : Pkv} {P : Pa} (hR : RPk w q P) (hB : Big P) (hk : P.kind = 3) (hq : ¬ 0 < P.qos) : Calls Tryz.prog 8 #[q.val] w (EncQ (fkA P).1 (fkA P).2 q.kind (eb P) w) := by
 have hc := hR.cnt
 have hf := hB.fit hc
 obtain ⟨h0,h1,h2,h3,h4,h5,h6,h7,h8,h9,h10,h11⟩ := hc.sc
 have hL := hB.lists
 have k := hk
 rw [<- h0] at k
 refine enc_core q (q.no_dup.no_retain.no_topic.no_qos.no_props.no_payload) _ _ _ (2000000000) w (by omega) (fun W => fk_any q P hc W) (fun w0 w1 W hb hQ => ?_)
 have e := (hc.no_dup.no_retain.no_topic.no_qos.no_props.no_payload).emp
 unfold eb
 rw [if_neg (by omega),if_neg (by omega),if_pos (by omega),if_neg hq,<- e,<- h0,<- h2,<- h4,<- h5,<- h6]
 exact pk_pub_zero hQ hf P.props (hR.props.below hb) hB.lists.1 hB.props (by rw [h4]; have := hB.texts; omega) (by rw [h6]; have := hB.texts; omega) (by rw [h2]; exact hq) k
theorem enc_conn {w : World} {q : Pkv} {P : Pa} (hR : RPk w q P) (hB : Big P) (hk : P.kind = 1) : Calls Tryz.prog 8 #[q.val] w (EncQ (fkA P).1 (fkA P).2 q.kind (eb P) w) := by
 have hc := hR.cnt
 have hf := hB.fit hc
 obtain ⟨h0,h1,h2,h3,h4,h5,h6,h7,h8,h9,h10,h11⟩ := hc.sc
 obtain ⟨n0,n1,n2,n3,n4,n5,n6⟩ := hc.ns
 have hL := hB.lists
 have k := hk
 rw [<- h0] at k
 obtain ⟨vs,hrw,hvl,hvs⟩ := wills_rw hR.wills
 have hm := vs_map hvl hvs
 have ef : cfl q.user.n q.pass.n q.clean vs = cflA P := by
  unfold cfl cflA
  rw [cfl_eq hm,n2,n3,h8]
 have eo : cok q.user.n q.pass.n vs = cokA P := by
  unfold cok cokA
  rw [call_eq hm,hvl,n2,n3]
 refine enc_core q q.no_clean.no_keep.no_props.no_client.no_wills.no_user.no_pass _ _ _ (6000000 + P.wills.length * 6000000 + P.user.length * 6000000 + P.pass.length * 6000000) w (by omega) (fun W => fk_any q P hc W) (fun w0 w1 W hb hQ => ?_)
 have e := (hc.no_clean.no_keep.no_props.no_client.no_wills.no_user.no_pass).emp
 obtain ⟨wo,wc,hwv,_,hWS⟩ := hR.wills.below hb
 obtain ⟨uo,uc,huv,_,hUS⟩ := hR.user.below hb
 obtain ⟨po,pc,hpv,_,hPS⟩ := hR.pass.below hb
 unfold eb
 rw [if_pos hk,<- e,<- ef,<- eo,<- h0,<- h9,<- h7]
 exact pk_conn hQ hf vs (hrw.below hb) P.props (hR.props.below hb) hB.lists.1 hB.props (by rw [h7]; have := hB.texts; omega) (by rw [h9]; exact hB.nums.2.2.1) (by rw [n2]; unfold maxLen; omega) (by rw [n3]; unfold maxLen; omega)
  (by rw [ef]; unfold cflA; exact foldl_range _ _ (or_range _ _)) P.wills _ rfl wo wc hwv hWS hB.wills P.user _ rfl uo uc huv hUS hB.user P.pass _ rfl po pc hpv hPS 6000000 (Nat.le_refl _) (by omega) k
theorem enc_any {w : World} {q : Pkv} {P : Pa} (hR : RPk w q P) (hB : Big P) : Calls Tryz.prog 8 #[q.val] w (EncQ (fkA P).1 (fkA P).2 P.kind (eb P) w) := by
 rw [<- hR.sc.1]
 by_cases k1 : P.kind = 1
 ·exact enc_conn hR hB k1
 by_cases k2 : P.kind = 2
 ·exact enc_connack hR hB k2
 by_cases k3 : P.kind = 3
 ·by_cases hq : 0 < P.qos
  ·exact enc_pub_pos hR hB k3 hq
  ·exact enc_pub_zero hR hB k3 hq
 by_cases k4 : P.kind = 4 \/ P.kind = 5 \/ P.kind = 6 \/ P.kind = 7
 ·exact enc_ack hR hB k4
 by_cases k8 : P.kind = 8
 ·exact enc_subs hR hB k8
 by_cases k10 : P.kind = 10
 ·exact enc_filters hR hB k10
 by_cases k9 : P.kind = 9 \/ P.kind = 11
 ·exact enc_codes hR hB k9
 by_cases k14 : P.kind = 14 \/ P.kind = 15
 ·exact enc_reason hR hB k14
 ·exact enc_none hR hB ⟨k1,k2,k3,by omega,by omega,by omega,by omega,k8,by omega,k10,by omega,by omega,by omega⟩
end Go.Proofs.YtemedclhglkfjaaGreatDoor.K
