/- Proved here: helpers, one text behind the other. -/
import Derived.Test.YtemedclhglkfjaaGreatDoorM51
import Derived.Test.YtemedclhglkfjaaGreatDoorM51b
import Derived.Test.YtemedclhglkfjaaGreatDoorM52
import Derived.Test.YtemedclhglkfjaaGreatDoorM52b
import Derived.Test.YtemedclhglkfjaaGreatDoorM48b
import Derived.Deep.Cut
import Derived.Test.YtemedclhglkfjaaGreatDoorM45
set_option maxHeartbeats 20000000
namespace Go.Proofs.YtemedclhglkfjaaGreatDoor.K
open Go.RowKit
set_option maxRecDepth 100000
theorem heq_of {x q : Pkv} {XP P : Pa} {E : Bool} {w : World} (hx : RPk w x XP) (hq : RPk w q P) (hs : Small XP) (hE : E = true ↔ XP = P) : ∀ W,Below w.heap.size w W -> Calls Tryz.prog 12 #[.agg x.cells.toArray,.agg q.cells.toArray] W fun e w' => e = .returned (.bool E) /\ Below W.heap.size W w' := fun W hW => by
 refine (eqpk_any x q XP P W (hx.below hW) (hq.below hW) hs).mono ?_
 rintro e w' ⟨⟨b,rfl,hb⟩,hbel⟩
 obtain rfl : b = E := Bool.eq_iff_iff.2 (hb.trans hE.symm)
 exact ⟨rfl,hbel⟩
theorem may_conn (q : Pkv) (P : Pa) (w : World) (hR : RPk w q P) (hmx : P.props.length <= 1000000000) (hsm : Go.Proofs.YtemedclhglkfjaaGreatDoor.Small P.props) (E : Bool) (hEQ : ∀ W,Below w.heap.size w W -> Calls Tryz.prog 12 #[.agg (((((((xk q).wi_client q.client).wi_clean q.clean).wi_keep q.keep).wi_wills q.wills).wi_user q.user).wi_pass q.pass).cells.toArray,.agg q.cells.toArray] W fun e w' => e = .returned (.bool E) /\ Below W.heap.size W w') (hcl : q.client.size <= 4611686018427387904) (hWO : ∀ k,k < P.wills.length -> (P.wills.getD k wl0).topic.size <= 4611686018427387904 /\ (P.wills.getD k wl0).props.length <= 1000000000 /\ Go.Proofs.YtemedclhglkfjaaGreatDoor.Small (P.wills.getD k wl0).props /\ (P.wills.getD k wl0).payload.size <= 4611686018427387904) (hUO : ∀ k,k < P.user.length -> (P.user.getD k ⟨#[]⟩).size <= 4611686018427387904) (hPOK : ∀ k,k < P.pass.length -> (P.pass.getD k ⟨#[]⟩).size <= 4611686018427387904) (hk : P.kind = 1) :
  Calls Tryz.prog 27 #[q.val] w fun e w' => e = .returned (.bool (tlB P (conO q.client q.keep P.wills P.user P.pass) E)) /\ Below w.heap.size w w' := by
 cases h0 : con0 q.client q.keep P.wills.length P.user.length P.pass.length
 ·exact may_connA q P w hR hmx hsm E hEQ hcl hWO hUO hPOK h0 hk
 cases h1 : con1 P.wills
 ·exact may_connB q P w hR hmx hsm E hEQ hcl hWO hUO hPOK h0 h1 hk
 cases h2 : con2 P.user
 ·exact may_connC q P w hR hmx hsm E hEQ hcl hWO hUO hPOK h0 h1 h2 hk
 by_cases hu : P.user.length = 1
 ·by_cases hl : P.pass.length = 1
  ·exact may_connD1 q P w hR hmx hsm E hEQ hcl hWO hUO hPOK h0 h1 h2 hu hl hk
  ·exact may_connE1 q P w hR hmx hsm E hEQ hcl hWO hUO hPOK h0 h1 h2 hu hl hk
 ·by_cases hl : P.pass.length = 1
  ·exact may_connD2 q P w hR hmx hsm E hEQ hcl hWO hUO hPOK h0 h1 h2 hu hl hk
  ·exact may_connE2 q P w hR hmx hsm E hEQ hcl hWO hUO hPOK h0 h1 h2 hu hl hk
def mayA (P : Pa) : Bool :=
 if P.kind = 1 then tlB P (conO P.client P.keep P.wills P.user P.pass) (empA P.no_clean.no_keep.no_props.no_client.no_wills.no_user.no_pass)
 else if P.kind = 2 then tlB P (codeO P.code) (empA P.no_session.no_code.no_props)
 else if P.kind = 3 then tlB P (pubO P.topic P.qos P.id P.dup) (empA P.no_dup.no_retain.no_topic.no_qos.no_id.no_props.no_payload)
 else if P.kind = 4 \/ P.kind = 5 \/ P.kind = 6 \/ P.kind = 7 then tlB P (idO P.id && codeO P.code) (empA P.no_id.no_code.no_props)
 else if P.kind = 8 then tlB P ((idO P.id && mc P.subs.length) && P.subs.all msB) (empA P.no_id.no_props.no_subs)
 else if P.kind = 10 then tlB P ((idO P.id && mc P.filters.length) && P.filters.all okT) (empA P.no_id.no_props.no_filters)
 else if P.kind = 9 \/ P.kind = 11 then tlB P ((idO P.id && mc P.codes.length) && P.codes.all codeO) (empA P.no_id.no_props.no_codes)
 else if P.kind = 12 \/ P.kind = 13 then tlB P (true) (empA P)
 else if P.kind = 14 \/ P.kind = 15 then tlB P (codeO P.code) (empA P.no_code.no_props)
 else false
structure Mid (P : Pa) : Prop where
 big : Big P
 props : P.props.length <= 1000000000
 wprops : ∀ k,k < P.wills.length -> (P.wills.getD k wl0).props.length <= 1000000000 /\ (P.wills.getD k wl0).payload.size <= 4611686018427387904
 pass : ∀ k,k < P.pass.length -> (P.pass.getD k ⟨#[]⟩).size <= 4611686018427387904
theorem mayA_conn {w : World} {q : Pkv} {P : Pa} (hR : RPk w q P) (hM : Mid P) (hk : P.kind = 1) : Calls Tryz.prog 27 #[q.val] w fun e w' => e = .returned (.bool (tlB P (conO P.client P.keep P.wills P.user P.pass) (empA P.no_clean.no_keep.no_props.no_client.no_wills.no_user.no_pass))) /\ Below w.heap.size w w' := by
 have hB := hM.big
 obtain ⟨h0,h1,h2,h3,h4,h5,h6,h7,h8,h9,h10,h11⟩ := hR.sc
 have hx : RPk w (((((((xk q).wi_client q.client).wi_clean q.clean).wi_keep q.keep).wi_wills q.wills).wi_user q.user).wi_pass q.pass) (⟨P.kind,false,0,false,⟨#[]⟩,0,⟨#[]⟩,P.props,P.client,P.clean,P.keep,P.wills,P.user,P.pass,0,false,[],[],[]⟩ : Pa) := ⟨⟨h0,rfl,rfl,rfl,rfl,rfl,rfl,h7,h8,h9,rfl,rfl⟩,hR.props,hR.wills,hR.user,hR.pass,⟨none,0,rfl,⟨Nat.le_refl _,Nat.zero_le _⟩,.inl rfl⟩,⟨none,0,rfl,⟨Nat.le_refl _,Nat.zero_le _⟩,.inl rfl⟩,⟨none,0,rfl,⟨Nat.le_refl _,Nat.zero_le _⟩,.inl rfl⟩⟩
 have hs : Small (⟨P.kind,false,0,false,⟨#[]⟩,0,⟨#[]⟩,P.props,P.client,P.clean,P.keep,P.wills,P.user,P.pass,0,false,[],[],[]⟩ : Pa) := ⟨by have := hB.lists; have := hM.props; simp; try omega,by have := hB.lists; simp; try omega,by have := hB.lists; simp; try omega⟩
 have k := may_conn q P w hR hM.props hB.props (empA P.no_clean.no_keep.no_props.no_client.no_wills.no_user.no_pass) (heq_of hx hR hs (only_conn P)) (by rw [h7]; have := hB.texts; omega) (fun k hk => ⟨(hB.wills k hk).1,(hM.wprops k hk).1,(hB.wills k hk).2.2,(hM.wprops k hk).2⟩) hB.user hM.pass hk
 rw [h7,h9] at k
 exact k
theorem mayA_connack {w : World} {q : Pkv} {P : Pa} (hR : RPk w q P) (hM : Mid P) (hk : P.kind = 2) : Calls Tryz.prog 27 #[q.val] w fun e w' => e = .returned (.bool (tlB P (codeO P.code) (empA P.no_session.no_code.no_props))) /\ Below w.heap.size w w' := by
 have hB := hM.big
 obtain ⟨h0,h1,h2,h3,h4,h5,h6,h7,h8,h9,h10,h11⟩ := hR.sc
 have hx : RPk w (((xk q).wi_session q.session).wi_code q.code) (⟨P.kind,false,0,false,⟨#[]⟩,0,⟨#[]⟩,P.props,⟨#[]⟩,false,0,[],[],[],P.code,P.session,[],[],[]⟩ : Pa) := ⟨⟨h0,rfl,rfl,rfl,rfl,rfl,rfl,rfl,rfl,rfl,h10,h11⟩,hR.props,⟨none,0,rfl,⟨Nat.le_refl _,Nat.zero_le _⟩,.inl rfl⟩,⟨none,0,rfl,⟨Nat.le_refl _,Nat.zero_le _⟩,.inl rfl⟩,⟨none,0,rfl,⟨Nat.le_refl _,Nat.zero_le _⟩,.inl rfl⟩,⟨none,0,rfl,⟨Nat.le_refl _,Nat.zero_le _⟩,.inl rfl⟩,⟨none,0,rfl,⟨Nat.le_refl _,Nat.zero_le _⟩,.inl rfl⟩,⟨none,0,rfl,⟨Nat.le_refl _,Nat.zero_le _⟩,.inl rfl⟩⟩
 have hs : Small (⟨P.kind,false,0,false,⟨#[]⟩,0,⟨#[]⟩,P.props,⟨#[]⟩,false,0,[],[],[],P.code,P.session,[],[],[]⟩ : Pa) := ⟨by have := hB.lists; have := hM.props; simp; try omega,by have := hB.lists; simp; try omega,by have := hB.lists; simp; try omega⟩
 have k := may_connack q P w hR hM.props hB.props (empA P.no_session.no_code.no_props) (heq_of hx hR hs (only_connack P)) hk
 rw [h10] at k
 exact k
theorem mayA_pub {w : World} {q : Pkv} {P : Pa} (hR : RPk w q P) (hM : Mid P) (hk : P.kind = 3) : Calls Tryz.prog 27 #[q.val] w fun e w' => e = .returned (.bool (tlB P (pubO P.topic P.qos P.id P.dup) (empA P.no_dup.no_retain.no_topic.no_qos.no_id.no_props.no_payload))) /\ Below w.heap.size w w' := by
 have hB := hM.big
 obtain ⟨h0,h1,h2,h3,h4,h5,h6,h7,h8,h9,h10,h11⟩ := hR.sc
 have hx : RPk w (((((((xk q).wi_dup q.dup).wi_qos q.qos).wi_retain q.retain).wi_topic q.topic).wi_id q.id).wi_payload q.payload) (⟨P.kind,P.dup,P.qos,P.retain,P.topic,P.id,P.payload,P.props,⟨#[]⟩,false,0,[],[],[],0,false,[],[],[]⟩ : Pa) := ⟨⟨h0,h1,h2,h3,h4,h5,h6,rfl,rfl,rfl,rfl,rfl⟩,hR.props,⟨none,0,rfl,⟨Nat.le_refl _,Nat.zero_le _⟩,.inl rfl⟩,⟨none,0,rfl,⟨Nat.le_refl _,Nat.zero_le _⟩,.inl rfl⟩,⟨none,0,rfl,⟨Nat.le_refl _,Nat.zero_le _⟩,.inl rfl⟩,⟨none,0,rfl,⟨Nat.le_refl _,Nat.zero_le _⟩,.inl rfl⟩,⟨none,0,rfl,⟨Nat.le_refl _,Nat.zero_le _⟩,.inl rfl⟩,⟨none,0,rfl,⟨Nat.le_refl _,Nat.zero_le _⟩,.inl rfl⟩⟩
 have hs : Small (⟨P.kind,P.dup,P.qos,P.retain,P.topic,P.id,P.payload,P.props,⟨#[]⟩,false,0,[],[],[],0,false,[],[],[]⟩ : Pa) := ⟨by have := hB.lists; have := hM.props; simp; try omega,by have := hB.lists; simp; try omega,by have := hB.lists; simp; try omega⟩
 have k := may_pub q P w hR hM.props hB.props (empA P.no_dup.no_retain.no_topic.no_qos.no_id.no_props.no_payload) (heq_of hx hR hs (only_pub P)) (by rw [h4]; have := hB.texts; omega) hk
 rw [h4,h2,h5,h1] at k
 exact k
theorem mayA_ack {w : World} {q : Pkv} {P : Pa} (hR : RPk w q P) (hM : Mid P) (hk : P.kind = 4 \/ P.kind = 5 \/ P.kind = 6 \/ P.kind = 7) : Calls Tryz.prog 27 #[q.val] w fun e w' => e = .returned (.bool (tlB P (idO P.id && codeO P.code) (empA P.no_id.no_code.no_props))) /\ Below w.heap.size w w' := by
 have hB := hM.big
 obtain ⟨h0,h1,h2,h3,h4,h5,h6,h7,h8,h9,h10,h11⟩ := hR.sc
 have hx : RPk w (((xk q).wi_id q.id).wi_code q.code) (⟨P.kind,false,0,false,⟨#[]⟩,P.id,⟨#[]⟩,P.props,⟨#[]⟩,false,0,[],[],[],P.code,false,[],[],[]⟩ : Pa) := ⟨⟨h0,rfl,rfl,rfl,rfl,h5,rfl,rfl,rfl,rfl,h10,rfl⟩,hR.props,⟨none,0,rfl,⟨Nat.le_refl _,Nat.zero_le _⟩,.inl rfl⟩,⟨none,0,rfl,⟨Nat.le_refl _,Nat.zero_le _⟩,.inl rfl⟩,⟨none,0,rfl,⟨Nat.le_refl _,Nat.zero_le _⟩,.inl rfl⟩,⟨none,0,rfl,⟨Nat.le_refl _,Nat.zero_le _⟩,.inl rfl⟩,⟨none,0,rfl,⟨Nat.le_refl _,Nat.zero_le _⟩,.inl rfl⟩,⟨none,0,rfl,⟨Nat.le_refl _,Nat.zero_le _⟩,.inl rfl⟩⟩
 have hs : Small (⟨P.kind,false,0,false,⟨#[]⟩,P.id,⟨#[]⟩,P.props,⟨#[]⟩,false,0,[],[],[],P.code,false,[],[],[]⟩ : Pa) := ⟨by have := hB.lists; have := hM.props; simp; try omega,by have := hB.lists; simp; try omega,by have := hB.lists; simp; try omega⟩
 have k := may_ack q P w hR hM.props hB.props (empA P.no_id.no_code.no_props) (heq_of hx hR hs (only_ack P)) hk
 rw [h5,h10] at k
 exact k
theorem mayA_subs {w : World} {q : Pkv} {P : Pa} (hR : RPk w q P) (hM : Mid P) (hk : P.kind = 8) : Calls Tryz.prog 27 #[q.val] w fun e w' => e = .returned (.bool (tlB P ((idO P.id && mc P.subs.length) && P.subs.all msB) (empA P.no_id.no_props.no_subs))) /\ Below w.heap.size w w' := by
 have hB := hM.big
 obtain ⟨h0,h1,h2,h3,h4,h5,h6,h7,h8,h9,h10,h11⟩ := hR.sc
 have hx : RPk w (((xk q).wi_id q.id).wi_subs q.subs) (⟨P.kind,false,0,false,⟨#[]⟩,P.id,⟨#[]⟩,P.props,⟨#[]⟩,false,0,[],[],[],0,false,P.subs,[],[]⟩ : Pa) := ⟨⟨h0,rfl,rfl,rfl,rfl,h5,rfl,rfl,rfl,rfl,rfl,rfl⟩,hR.props,⟨none,0,rfl,⟨Nat.le_refl _,Nat.zero_le _⟩,.inl rfl⟩,⟨none,0,rfl,⟨Nat.le_refl _,Nat.zero_le _⟩,.inl rfl⟩,⟨none,0,rfl,⟨Nat.le_refl _,Nat.zero_le _⟩,.inl rfl⟩,hR.subs,⟨none,0,rfl,⟨Nat.le_refl _,Nat.zero_le _⟩,.inl rfl⟩,⟨none,0,rfl,⟨Nat.le_refl _,Nat.zero_le _⟩,.inl rfl⟩⟩
 have hs : Small (⟨P.kind,false,0,false,⟨#[]⟩,P.id,⟨#[]⟩,P.props,⟨#[]⟩,false,0,[],[],[],0,false,P.subs,[],[]⟩ : Pa) := ⟨by have := hB.lists; have := hM.props; simp; try omega,by have := hB.lists; simp; try omega,by have := hB.lists; simp; try omega⟩
 have k := may_subs q P w hR hM.props hB.props (empA P.no_id.no_props.no_subs) (heq_of hx hR hs (only_subs P)) hB.subs _ rfl (by have := hB.lists; omega) hk
 rw [h5] at k
 exact k
theorem mayA_filters {w : World} {q : Pkv} {P : Pa} (hR : RPk w q P) (hM : Mid P) (hk : P.kind = 10) : Calls Tryz.prog 27 #[q.val] w fun e w' => e = .returned (.bool (tlB P ((idO P.id && mc P.filters.length) && P.filters.all okT) (empA P.no_id.no_props.no_filters))) /\ Below w.heap.size w w' := by
 have hB := hM.big
 obtain ⟨h0,h1,h2,h3,h4,h5,h6,h7,h8,h9,h10,h11⟩ := hR.sc
 have hx : RPk w (((xk q).wi_id q.id).wi_filters q.filters) (⟨P.kind,false,0,false,⟨#[]⟩,P.id,⟨#[]⟩,P.props,⟨#[]⟩,false,0,[],[],[],0,false,[],P.filters,[]⟩ : Pa) := ⟨⟨h0,rfl,rfl,rfl,rfl,h5,rfl,rfl,rfl,rfl,rfl,rfl⟩,hR.props,⟨none,0,rfl,⟨Nat.le_refl _,Nat.zero_le _⟩,.inl rfl⟩,⟨none,0,rfl,⟨Nat.le_refl _,Nat.zero_le _⟩,.inl rfl⟩,⟨none,0,rfl,⟨Nat.le_refl _,Nat.zero_le _⟩,.inl rfl⟩,⟨none,0,rfl,⟨Nat.le_refl _,Nat.zero_le _⟩,.inl rfl⟩,hR.filters,⟨none,0,rfl,⟨Nat.le_refl _,Nat.zero_le _⟩,.inl rfl⟩⟩
 have hs : Small (⟨P.kind,false,0,false,⟨#[]⟩,P.id,⟨#[]⟩,P.props,⟨#[]⟩,false,0,[],[],[],0,false,[],P.filters,[]⟩ : Pa) := ⟨by have := hB.lists; have := hM.props; simp; try omega,by have := hB.lists; simp; try omega,by have := hB.lists; simp; try omega⟩
 have k := may_filters q P w hR hM.props hB.props (empA P.no_id.no_props.no_filters) (heq_of hx hR hs (only_filters P)) hB.filters _ rfl (by have := hB.lists; omega) hk
 rw [h5] at k
 exact k
theorem mayA_codes {w : World} {q : Pkv} {P : Pa} (hR : RPk w q P) (hM : Mid P) (hk : P.kind = 9 \/ P.kind = 11) : Calls Tryz.prog 27 #[q.val] w fun e w' => e = .returned (.bool (tlB P ((idO P.id && mc P.codes.length) && P.codes.all codeO) (empA P.no_id.no_props.no_codes))) /\ Below w.heap.size w w' := by
 have hB := hM.big
 obtain ⟨h0,h1,h2,h3,h4,h5,h6,h7,h8,h9,h10,h11⟩ := hR.sc
 have hx : RPk w (((xk q).wi_id q.id).wi_codes q.codes) (⟨P.kind,false,0,false,⟨#[]⟩,P.id,⟨#[]⟩,P.props,⟨#[]⟩,false,0,[],[],[],0,false,[],[],P.codes⟩ : Pa) := ⟨⟨h0,rfl,rfl,rfl,rfl,h5,rfl,rfl,rfl,rfl,rfl,rfl⟩,hR.props,⟨none,0,rfl,⟨Nat.le_refl _,Nat.zero_le _⟩,.inl rfl⟩,⟨none,0,rfl,⟨Nat.le_refl _,Nat.zero_le _⟩,.inl rfl⟩,⟨none,0,rfl,⟨Nat.le_refl _,Nat.zero_le _⟩,.inl rfl⟩,⟨none,0,rfl,⟨Nat.le_refl _,Nat.zero_le _⟩,.inl rfl⟩,⟨none,0,rfl,⟨Nat.le_refl _,Nat.zero_le _⟩,.inl rfl⟩,hR.codes⟩
 have hs : Small (⟨P.kind,false,0,false,⟨#[]⟩,P.id,⟨#[]⟩,P.props,⟨#[]⟩,false,0,[],[],[],0,false,[],[],P.codes⟩ : Pa) := ⟨by have := hB.lists; have := hM.props; simp; try omega,by have := hB.lists; simp; try omega,by have := hB.lists; simp; try omega⟩
 have k := may_codes q P w hR hM.props hB.props (empA P.no_id.no_props.no_codes) (heq_of hx hR hs (only_codes P)) hB.codes _ rfl (by have := hB.lists; omega) hk
 rw [h5] at k
 exact k
theorem mayA_ping {w : World} {q : Pkv} {P : Pa} (hR : RPk w q P) (hM : Mid P) (hk : P.kind = 12 \/ P.kind = 13) : Calls Tryz.prog 27 #[q.val] w fun e w' => e = .returned (.bool (tlB P (true) (empA P))) /\ Below w.heap.size w w' := by
 have hB := hM.big
 obtain ⟨h0,h1,h2,h3,h4,h5,h6,h7,h8,h9,h10,h11⟩ := hR.sc
 have hx : RPk w ((xk q).wi_props sl0) (⟨P.kind,false,0,false,⟨#[]⟩,0,⟨#[]⟩,[],⟨#[]⟩,false,0,[],[],[],0,false,[],[],[]⟩ : Pa) := ⟨⟨h0,rfl,rfl,rfl,rfl,rfl,rfl,rfl,rfl,rfl,rfl,rfl⟩,⟨none,0,rfl,.inl rfl⟩,⟨none,0,rfl,⟨Nat.le_refl _,Nat.zero_le _⟩,.inl rfl⟩,⟨none,0,rfl,⟨Nat.le_refl _,Nat.zero_le _⟩,.inl rfl⟩,⟨none,0,rfl,⟨Nat.le_refl _,Nat.zero_le _⟩,.inl rfl⟩,⟨none,0,rfl,⟨Nat.le_refl _,Nat.zero_le _⟩,.inl rfl⟩,⟨none,0,rfl,⟨Nat.le_refl _,Nat.zero_le _⟩,.inl rfl⟩,⟨none,0,rfl,⟨Nat.le_refl _,Nat.zero_le _⟩,.inl rfl⟩⟩
 have hs : Small (⟨P.kind,false,0,false,⟨#[]⟩,0,⟨#[]⟩,[],⟨#[]⟩,false,0,[],[],[],0,false,[],[],[]⟩ : Pa) := ⟨by have := hB.lists; have := hM.props; simp; try omega,by have := hB.lists; simp; try omega,by have := hB.lists; simp; try omega⟩
 have k := may_ping q P w hR hM.props hB.props (empA P) (heq_of hx hR hs (only_ping P)) hk
 exact k
theorem mayA_reason {w : World} {q : Pkv} {P : Pa} (hR : RPk w q P) (hM : Mid P) (hk : P.kind = 14 \/ P.kind = 15) : Calls Tryz.prog 27 #[q.val] w fun e w' => e = .returned (.bool (tlB P (codeO P.code) (empA P.no_code.no_props))) /\ Below w.heap.size w w' := by
 have hB := hM.big
 obtain ⟨h0,h1,h2,h3,h4,h5,h6,h7,h8,h9,h10,h11⟩ := hR.sc
 have hx : RPk w ((xk q).wi_code q.code) (⟨P.kind,false,0,false,⟨#[]⟩,0,⟨#[]⟩,P.props,⟨#[]⟩,false,0,[],[],[],P.code,false,[],[],[]⟩ : Pa) := ⟨⟨h0,rfl,rfl,rfl,rfl,rfl,rfl,rfl,rfl,rfl,h10,rfl⟩,hR.props,⟨none,0,rfl,⟨Nat.le_refl _,Nat.zero_le _⟩,.inl rfl⟩,⟨none,0,rfl,⟨Nat.le_refl _,Nat.zero_le _⟩,.inl rfl⟩,⟨none,0,rfl,⟨Nat.le_refl _,Nat.zero_le _⟩,.inl rfl⟩,⟨none,0,rfl,⟨Nat.le_refl _,Nat.zero_le _⟩,.inl rfl⟩,⟨none,0,rfl,⟨Nat.le_refl _,Nat.zero_le _⟩,.inl rfl⟩,⟨none,0,rfl,⟨Nat.le_refl _,Nat.zero_le _⟩,.inl rfl⟩⟩
 have hs : Small (⟨P.kind,false,0,false,⟨#[]⟩,0,⟨#[]⟩,P.props,⟨#[]⟩,false,0,[],[],[],P.code,false,[],[],[]⟩ : Pa) := ⟨by have := hB.lists; have := hM.props; simp; try omega,by have := hB.lists; simp; try omega,by have := hB.lists; simp; try omega⟩
 have k := may_reason q P w hR hM.props hB.props (empA P.no_code.no_props) (heq_of hx hR hs (only_reason P)) hk
 rw [h10] at k
 exact k
theorem may_any' {w : World} {q : Pkv} {P : Pa} (hR : RPk w q P) (hM : Mid P) : Calls Tryz.prog 27 #[q.val] w fun e w' => e = .returned (.bool (mayA P)) /\ Below w.heap.size w w' := by
 unfold mayA
 by_cases k0 : P.kind = 1
 ·rw [if_pos k0]
  exact mayA_conn hR hM k0
 rw [if_neg k0]
 by_cases k1 : P.kind = 2
 ·rw [if_pos k1]
  exact mayA_connack hR hM k1
 rw [if_neg k1]
 by_cases k2 : P.kind = 3
 ·rw [if_pos k2]
  exact mayA_pub hR hM k2
 rw [if_neg k2]
 by_cases k3 : P.kind = 4 \/ P.kind = 5 \/ P.kind = 6 \/ P.kind = 7
 ·rw [if_pos k3]
  exact mayA_ack hR hM k3
 rw [if_neg k3]
 by_cases k4 : P.kind = 8
 ·rw [if_pos k4]
  exact mayA_subs hR hM k4
 rw [if_neg k4]
 by_cases k5 : P.kind = 10
 ·rw [if_pos k5]
  exact mayA_filters hR hM k5
 rw [if_neg k5]
 by_cases k6 : P.kind = 9 \/ P.kind = 11
 ·rw [if_pos k6]
  exact mayA_codes hR hM k6
 rw [if_neg k6]
 by_cases k7 : P.kind = 12 \/ P.kind = 13
 ·rw [if_pos k7]
  exact mayA_ping hR hM k7
 rw [if_neg k7]
 by_cases k8 : P.kind = 14 \/ P.kind = 15
 ·rw [if_pos k8]
  exact mayA_reason hR hM k8
 rw [if_neg k8]
 exact may_none q P w hR ⟨by omega,by omega,by omega,by omega,by omega,by omega,by omega,by omega,by omega,by omega,by omega,by omega,by omega,by omega,by omega⟩
theorem gb_conn (q : Pkv) (l : List Pr) (w : World) (hP : Prp w q.props.val l) (hok : okP q.kind l = true) (L : List Int) (hC : ∀ W : World,Below w.heap.size w W -> Calls Tryz.prog 66 #[.agg q.cells.toArray] W (GPut L W)) (hk : q.kind = 1) : Calls Tryz.prog 28 #[q.val] w (GPut L w) := by
 have HCN := zh hC
 clear hC
 obtain ⟨hok1,h32⟩ := chkP0 (of_decide_eq_true hok)
 have hple := pbs_le (of_decide_eq_true hok)
 have HPN := zh (pk_new w q)
 have HB0 : Hid (Below w.heap.size w (w.alloc (.cells q.cells.toArray 30))) := bal _ _
 have HBY : Hid (∀ W,Below w.heap.size w W -> Calls Tryz.prog 68 #[.slice q.props.ao l.length q.props.cap] W (PutP (pbs l) W)) := fun W hW => by
  have k := rbytes_any q.props.val l q.kind W (hP.below hW) (by omega) hok1
  rw [show q.props.val = .slice q.props.ao q.props.n q.props.cap from rfl,prp_n hP] at k
  exact k
 have HTL : Hid (∀ W,Below w.heap.size w W -> Calls Tryz.prog 71 #[.agg q.cells.toArray] W (GPut (gtl q.code l) W)) := fun W hW => gtail_any q l q.kind W (hP.below hW) hok
 have HQN := zh (prp_n hP)
 have HKK := zh hk
 clear hP hok hok1 hk
 go_enter Tryz.func28,Tryz.ntmps28
 go_upto_region 1 with fail
 change Code.wp _ _ _ _ (w.alloc (.cells q.cells.toArray 30))
 have hsz : (w.alloc (.cells q.cells.toArray 30)).heap.size = w.heap.size + 1 := by simp
 generalize w.alloc (.cells q.cells.toArray 30) = wa at HPN HB0 hsz |-
 have b0 := (uh HPN).kind
 rw [uh HKK] at b0
 go_upto_region 4 with fail
 go_step
 refine wpList_load_mid rfl 30 _ rfl w.heap.size 0 rfl q.cells _ (uh HPN).range Tryz.underlying30 rfl packet_size ?_
 simp only [Act.put,List.setIfInBounds_toArray,List.set_cons_zero,List.set_cons_succ]
 go_wp2_with fail
 refine ((uh HCN) _ (uh HB0)).mono ?_
 rintro e w1 ⟨v,rfl,hr,hb⟩
 have HR := zh ((uh hr).mono (uh HB0).size)
 have HB := zh (bnx2 (uh HB0) hb)
 obtain ⟨va,vn,vc,rfl⟩ := (uh hr).form
 clear hr hb
 go_wp2
 go_ret
 exact ⟨_,rfl,HR,uh HB⟩
def gbd (P : Pa) : List Int :=
 if P.kind = 1 then ((((((((tx gmq ++ [5]) ++ [(gcf P.user.length P.pass.length P.clean + gwf P.wills) % 256]) ++ b2 P.keep) ++ pbs P.props) ++ tx P.client) ++ P.wills.flatMap gwl) ++ P.user.flatMap tx) ++ P.pass.flatMap tx)
 else if P.kind = 2 then [fv P.session 1 % 256,P.code % 256] ++ pbs P.props
 else if P.kind = 3 then (if 0 < P.qos then ((tx P.topic ++ b2 P.id) ++ pbs P.props) ++ sb P.payload else (tx P.topic ++ pbs P.props) ++ sb P.payload)
 else if P.kind = 4 \/ P.kind = 5 \/ P.kind = 6 \/ P.kind = 7 then b2 P.id ++ gtl P.code P.props
 else if P.kind = 12 \/ P.kind = 13 then []
 else if P.kind = 14 \/ P.kind = 15 then gtl P.code P.props
 else (((b2 P.id ++ pbs P.props) ++ P.subs.flatMap gsub) ++ P.filters.flatMap tx) ++ P.codes.flatMap gcod
theorem okP_nil (k : Int) {l : List Pr} (h : l.length = 0) : okP k l = true := by
 rw [List.length_eq_zero_iff.1 h]
 unfold okP chkP
 simp
theorem tlB_ok {P : Pa} {c E : Bool} (h : tlB P c E = true) : c = true /\ E = true /\ okP P.kind P.props = true := by
 unfold tlB at h
 rw [Bool.and_eq_true,Bool.and_eq_true,Bool.or_eq_true] at h
 refine ⟨h.1,h.2.1,?_⟩
 rcases h.2.2 with k | k
 ·exact okP_nil _ (of_decide_eq_true k)
 ·exact k
theorem okT_le {s : ByteArray} (h : okT s = true) : s.size <= 65535 := by
 have := chk_0 (of_decide_eq_true h)
 rw [sb_length] at this
 exact this
theorem all_at {α : Type} {f : α -> Bool} {l : List α} (d : α) (h : l.all f = true) (k : Nat) (hk : k < l.length) : f (l.getD k d) = true := by
 rw [List.getD_eq_getElem?_getD,List.getElem?_eq_getElem hk]
 exact List.all_eq_true.1 h _ (List.getElem_mem hk)
theorem conO_ok {P : Pa} (h : conO P.client P.keep P.wills P.user P.pass = true) : P.client.size <= 65535 /\ (P.wills.length <= 1 /\ P.user.length <= 1 /\ P.pass.length <= 1) /\ (∀ k,k < P.wills.length -> (P.wills.getD k wl0).topic.size <= 65535 /\ (P.wills.getD k wl0).payload.size <= 65535 /\ 0 <= (P.wills.getD k wl0).qos /\ (P.wills.getD k wl0).qos <= 2 /\ okP 16 (P.wills.getD k wl0).props = true) /\ (∀ k,k < P.user.length -> (P.user.getD k ⟨#[]⟩).size <= 65535) /\ (∀ k,k < P.pass.length -> (P.pass.getD k ⟨#[]⟩).size <= 65535) := by
 unfold conO con0 con1 con2 con3 at h
 simp only [Bool.and_eq_true,decide_eq_true_eq] at h
 obtain ⟨⟨h1,h2,h3,h4,h5,h6⟩,h7,h8,h9⟩ := h
 refine ⟨okT_le h1,⟨h4,h5,h6⟩,fun k hk => ?_,fun k hk => ?_,fun k hk => ?_⟩
 ·obtain rfl : k = 0 := by omega
  rw [if_pos (by omega)] at h7
  unfold mwB at h7
  simp only [Bool.and_eq_true,decide_eq_true_eq] at h7
  exact ⟨okT_le h7.1,of_decide_eq_true h7.2.1,h7.2.2.1,h7.2.2.2.1,h7.2.2.2.2⟩
 ·obtain rfl : k = 0 := by omega
  rw [if_pos (by omega)] at h8
  exact okT_le h8
 ·obtain rfl : k = 0 := by omega
  rw [if_pos (by omega)] at h9
  exact of_decide_eq_true h9
theorem emp_lists {P : Pa} (h : empA P = true) : P.subs.length = 0 /\ P.filters.length = 0 /\ P.codes.length = 0 := by
 have := of_decide_eq_true h
 exact this.2.2.2.2.2.2.2
structure LsOk (P : Pa) : Prop where
 okp : okP P.kind P.props = true
 ns : P.subs.length <= 16
 nf : P.filters.length <= 16
 nc : P.codes.length <= 16
 zs : ∀ k,k < P.subs.length -> (P.subs.getD k sb0).filter.size <= 65535 /\ 0 <= (P.subs.getD k sb0).qos /\ (P.subs.getD k sb0).qos <= 3 /\ 0 <= (P.subs.getD k sb0).handling /\ (P.subs.getD k sb0).handling <= 3
 zf : ∀ k,k < P.filters.length -> (P.filters.getD k ⟨#[]⟩).size <= 65535
theorem mc_le {n : Nat} (h : mc (n : Int) = true) : n <= 16 := by
 unfold mc at h
 simp only [Bool.and_eq_true,decide_eq_true_eq] at h
 omega
theorem ls_8 {P : Pa} (h : tlB P ((idO P.id && mc P.subs.length) && P.subs.all msB) (empA P.no_id.no_props.no_subs) = true) : LsOk P := by
 obtain ⟨h1,h2,h3⟩ := tlB_ok h
 simp only [Bool.and_eq_true] at h1
 obtain ⟨-,e2,e3⟩ := emp_lists h2
 have e2 : P.filters.length = 0 := e2
 have e3 : P.codes.length = 0 := e3
 refine ⟨h3,mc_le h1.1.2,by omega,by omega,fun k hk => ?_,fun k hk => by omega⟩
 have := all_at sb0 h1.2 k hk
 unfold msB at this
 simp only [Bool.and_eq_true,decide_eq_true_eq] at this
 exact ⟨okT_le this.1,this.2.1,by omega,this.2.2.2.1,by omega⟩
theorem ls_10 {P : Pa} (h : tlB P ((idO P.id && mc P.filters.length) && P.filters.all okT) (empA P.no_id.no_props.no_filters) = true) : LsOk P := by
 obtain ⟨h1,h2,h3⟩ := tlB_ok h
 simp only [Bool.and_eq_true] at h1
 obtain ⟨e1,-,e3⟩ := emp_lists h2
 have e1 : P.subs.length = 0 := e1
 have e3 : P.codes.length = 0 := e3
 exact ⟨h3,by omega,mc_le h1.1.2,by omega,fun k hk => by omega,fun k hk => okT_le (all_at ⟨#[]⟩ h1.2 k hk)⟩
theorem ls_9 {P : Pa} (h : tlB P ((idO P.id && mc P.codes.length) && P.codes.all codeO) (empA P.no_id.no_props.no_codes) = true) : LsOk P := by
 obtain ⟨h1,h2,h3⟩ := tlB_ok h
 simp only [Bool.and_eq_true] at h1
 obtain ⟨e1,e2,-⟩ := emp_lists h2
 have e1 : P.subs.length = 0 := e1
 have e2 : P.filters.length = 0 := e2
 exact ⟨h3,by omega,by omega,mc_le h1.1.2,fun k hk => by omega,fun k hk => by omega⟩
theorem gtl_len {code : Int} {l : List Pr} (h : (pbs l).length <= 5000000) : (gtl code l).length <= 5000001 := by
 unfold gtl
 split
 ·simp; omega
 ·split <;> simp
theorem flat_len {α : Type} (f : α -> List Int) (d : α) (c : Nat) (l : List α) (h : ∀ k,k < l.length -> (f (l.getD k d)).length <= c) : (l.flatMap f).length <= l.length * c := by
 induction l with
 | nil => simp
 | cons a t ih =>
  rw [List.flatMap_cons,List.length_append,List.length_cons,Nat.succ_mul]
  have h0 := h 0 (by simp)
  have := ih fun k hk => h (k + 1) (by rw [List.length_cons]; omega)
  have h0 : (f a).length <= c := h0
  omega
theorem lsok {w : World} {q : Pkv} {P : Pa} (hR : RPk w q P) (h : LsOk P) (hk : P.kind = 8 \/ P.kind = 9 \/ P.kind = 10 \/ P.kind = 11) : Calls Tryz.prog 28 #[q.val] w (GPut ((((b2 P.id ++ pbs P.props) ++ P.subs.flatMap gsub) ++ P.filters.flatMap tx) ++ P.codes.flatMap gcod) w) := by
 obtain ⟨h0,h1,h2,h3,h4,h5,h6,h7,h8,h9,h10,h11⟩ := hR.sc
 have k := gb_lists q P.props w hR.props (by rw [h0]; exact h.okp) P.subs P.filters P.codes hR.subs hR.filters hR.codes h.ns h.nf h.nc h.zs h.zf (by rw [h0]; exact hk)
 rw [h5] at k
 exact k
theorem gb_any {w : World} {q : Pkv} {P : Pa} (hR : RPk w q P) (hM : mayA P = true) (hpy : P.payload.size <= 1073741824) : Calls Tryz.prog 28 #[q.val] w (GPut (gbd P) w) := by
 obtain ⟨h0,h1,h2,h3,h4,h5,h6,h7,h8,h9,h10,h11⟩ := hR.sc
 unfold mayA at hM
 unfold gbd
 by_cases k1 : P.kind = 1
 ·rw [if_pos k1] at hM |-
  obtain ⟨hc,-,hok⟩ := tlB_ok hM
  rw [<- h0] at hok k1
  obtain ⟨c1,⟨c2,c3,c4⟩,c5,c6,c7⟩ := conO_ok hc
  rw [<- h7] at c1
  refine gb_conn q P.props w hR.props hok _ (fun W hW => ?_) k1
  have hR2 := hR.below hW
  have k := gconn_any q P.props W hR2.props hok P.wills P.user P.pass hR2.wills hR2.user hR2.pass c2 c3 c4 c1 c5 c6 c7
  unfold gcon at k
  rw [h7,h8,h9] at k
  exact k
 rw [if_neg k1] at hM |-
 by_cases k2 : P.kind = 2
 ·rw [if_pos k2] at hM |-
  obtain ⟨-,-,hok⟩ := tlB_ok hM
  rw [<- h0] at hok k2
  rw [<- h10,<- h11]
  exact gb_connack q P.props w hR.props hok k2
 rw [if_neg k2] at hM |-
 by_cases k3 : P.kind = 3
 ·rw [if_pos k3] at hM |-
  obtain ⟨hc,-,hok⟩ := tlB_ok hM
  unfold pubO at hc
  simp only [Bool.and_eq_true] at hc
  rw [<- h0] at hok k3
  rw [<- h2,<- h4,<- h5,<- h6]
  by_cases hq : 0 < q.qos
  ·rw [if_pos hq]
   exact gb_pub_pos q P.props w hR.props hok (by rw [h4]; exact hc.1) (by rw [h6]; exact hpy) hq k3
  ·rw [if_neg hq]
   exact gb_pub_zero q P.props w hR.props hok (by rw [h4]; exact hc.1) (by rw [h6]; exact hpy) hq k3
 rw [if_neg k3] at hM |-
 by_cases k4 : P.kind = 4 \/ P.kind = 5 \/ P.kind = 6 \/ P.kind = 7
 ·rw [if_pos k4] at hM |-
  obtain ⟨-,-,hok⟩ := tlB_ok hM
  rw [<- h0] at hok k4
  rw [<- h5,<- h10]
  exact gb_ack q P.props w hR.props hok k4
 rw [if_neg k4] at hM |-
 by_cases k8 : P.kind = 8
 ·rw [if_pos k8] at hM
  rw [if_neg (by omega),if_neg (by omega)]
  exact lsok hR (ls_8 hM) (.inl k8)
 rw [if_neg k8] at hM
 by_cases k10 : P.kind = 10
 ·rw [if_pos k10] at hM
  rw [if_neg (by omega),if_neg (by omega)]
  exact lsok hR (ls_10 hM) (.inr (.inr (.inl k10)))
 rw [if_neg k10] at hM
 by_cases k9 : P.kind = 9 \/ P.kind = 11
 ·rw [if_pos k9] at hM
  rw [if_neg (by omega),if_neg (by omega)]
  exact lsok hR (ls_9 hM) (by omega)
 rw [if_neg k9] at hM
 by_cases k12 : P.kind = 12 \/ P.kind = 13
 ·rw [if_pos k12] at hM |-
  obtain ⟨-,-,hok⟩ := tlB_ok hM
  rw [<- h0] at hok k12
  exact gb_ping q P.props w hR.props hok k12
 rw [if_neg k12] at hM |-
 by_cases k14 : P.kind = 14 \/ P.kind = 15
 ·rw [if_pos k14] at hM |-
  obtain ⟨-,-,hok⟩ := tlB_ok hM
  rw [<- h0] at hok k14
  rw [<- h10]
  exact gb_reason q P.props w hR.props hok k14
 rw [if_neg k14] at hM
 cases hM
theorem gbd_len {P : Pa} (hM : mayA P = true) (hpy : P.payload.size <= 1073741824) : (gbd P).length <= 1200000000 := by
 have hls : LsOk P -> ((((b2 P.id ++ pbs P.props) ++ P.subs.flatMap gsub) ++ P.filters.flatMap tx) ++ P.codes.flatMap gcod).length <= 1200000000 := fun h => by
  have h1 := pbs_le (of_decide_eq_true h.okp)
  have h2 := flat_len gsub sb0 65538 P.subs fun k hk => by
   have := (h.zs k hk).1
   unfold gsub
   rw [List.length_append,tx_length,List.length_singleton]
   omega
  have h3 := flat_len tx ⟨#[]⟩ 65537 P.filters fun k hk => by
   have := h.zf k hk
   rw [tx_length]
   omega
  have h4 := flat_len gcod 0 1 P.codes fun k hk => by simp [gcod]
  have h5 := h.ns
  have h6 := h.nf
  have h7 := h.nc
  rw [List.length_append,List.length_append,List.length_append,List.length_append]
  have h8 : (b2 P.id).length = 2 := by simp
  omega
 unfold mayA at hM
 unfold gbd
 by_cases k1 : P.kind = 1
 ·rw [if_pos k1] at hM |-
  obtain ⟨hc,-,hok⟩ := tlB_ok hM
  obtain ⟨c1,⟨c2,c3,c4⟩,c5,c6,c7⟩ := conO_ok hc
  have h1 := pbs_le (of_decide_eq_true hok)
  have h2 := flat_len gwl wl0 5131074 P.wills fun k hk => by
   obtain ⟨d1,d2,-,-,d3⟩ := c5 k hk
   have d4 := pbs_le (of_decide_eq_true d3)
   unfold gwl
   rw [List.length_append,List.length_append,tx_length,tx_length]
   omega
  have h3 := flat_len tx ⟨#[]⟩ 65537 P.user fun k hk => by
   have := c6 k hk
   rw [tx_length]
   omega
  have h4 := flat_len tx ⟨#[]⟩ 65537 P.pass fun k hk => by
   have := c7 k hk
   rw [tx_length]
   omega
  have h5 : (b2 P.keep).length = 2 := by simp
  have h6 : gmq.size = 4 := by rfl
  simp only [List.length_append,tx_length,List.length_cons,List.length_nil]
  omega
 rw [if_neg k1] at hM |-
 by_cases k2 : P.kind = 2
 ·rw [if_pos k2] at hM |-
  have h1 := pbs_le (of_decide_eq_true (tlB_ok hM).2.2)
  simp only [List.length_append,List.length_cons,List.length_nil]
  omega
 rw [if_neg k2] at hM |-
 by_cases k3 : P.kind = 3
 ·rw [if_pos k3] at hM |-
  have h1 := pbs_le (of_decide_eq_true (tlB_ok hM).2.2)
  have hc := (tlB_ok hM).1
  unfold pubO at hc
  simp only [Bool.and_eq_true] at hc
  have h2 := okT_le hc.1
  have h5 : (b2 P.id).length = 2 := by simp
  split
  ·simp only [List.length_append,tx_length,sb_length]
   omega
  ·simp only [List.length_append,tx_length,sb_length]
   omega
 rw [if_neg k3] at hM |-
 by_cases k4 : P.kind = 4 \/ P.kind = 5 \/ P.kind = 6 \/ P.kind = 7
 ·rw [if_pos k4] at hM |-
  have h1 := gtl_len (code := P.code) (pbs_le (of_decide_eq_true (tlB_ok hM).2.2))
  have h5 : (b2 P.id).length = 2 := by simp
  rw [List.length_append]
  omega
 rw [if_neg k4] at hM |-
 by_cases k12 : P.kind = 12 \/ P.kind = 13
 ·rw [if_pos k12]
  simp
 by_cases k14 : P.kind = 14 \/ P.kind = 15
 ·rw [if_neg k12,if_pos k14]
  rw [if_neg (by omega),if_neg (by omega),if_neg (by omega),if_neg k12,if_pos k14] at hM
  have h1 := gtl_len (code := P.code) (pbs_le (of_decide_eq_true (tlB_ok hM).2.2))
  omega
 rw [if_neg k12,if_neg k14]
 refine hls ?_
 by_cases k8 : P.kind = 8
 ·rw [if_pos k8] at hM
  exact ls_8 hM
 rw [if_neg k8] at hM
 by_cases k10 : P.kind = 10
 ·rw [if_pos k10] at hM
  exact ls_10 hM
 rw [if_neg k10] at hM
 by_cases k9 : P.kind = 9 \/ P.kind = 11
 ·rw [if_pos k9] at hM
  exact ls_9 hM
 rw [if_neg k9,if_neg k12,if_neg k14] at hM
 cases hM
theorem mayA_kind {P : Pa} (hM : mayA P = true) : 1 <= P.kind /\ P.kind <= 15 /\ (0 <= P.qos /\ P.qos <= 2 \/ P.kind ≠ 3) := by
 by_cases k3 : P.kind = 3
 ·unfold mayA at hM
  rw [if_neg (by omega),if_neg (by omega),if_pos k3] at hM
  have hc := (tlB_ok hM).1
  unfold pubO at hc
  simp only [Bool.and_eq_true,decide_eq_true_eq] at hc
  exact ⟨by omega,by omega,.inl ⟨hc.2.1,hc.2.2.1⟩⟩
 ·refine ⟨?_,?_,.inr k3⟩ <;>
  ·refine Classical.byContradiction fun hn => ?_
   unfold mayA at hM
   rw [if_neg (by omega),if_neg (by omega),if_neg (by omega),if_neg (by omega),if_neg (by omega),if_neg (by omega),if_neg (by omega),if_neg (by omega),if_neg (by omega)] at hM
   cases hM
theorem genc_any {w : World} {q : Pkv} {P : Pa} (hR : RPk w q P) (hM : Mid P) (hpy : P.payload.size <= 1073741824) : Calls Tryz.prog 9 #[q.val] w (GEnc P.kind (gfl P.kind P.dup P.qos P.retain) (mayA P) (gbd P) w) := by
 obtain ⟨h0,h1,h2,h3,-⟩ := hR.sc
 by_cases hm : mayA P = true
 ·rw [hm]
  have k := genc_core q true (gbd P) w (gbd_len hm hpy) (fun W hW => by have := may_any' (hR.below hW) hM; rw [hm] at this; exact this) (fun _ => by rw [h0,h2]; exact mayA_kind hm) (fun _ W hW => gb_any (hR.below hW) hm hpy)
  rw [h0,h1,h2,h3] at k
  exact k
 ·have hm : mayA P = false := Bool.not_eq_true _ ▸ hm
  rw [hm]
  have k := genc_core q false [] w (by simp) (fun W hW => by have := may_any' (hR.below hW) hM; rw [hm] at this; exact this) (fun e => by cases e) (fun e => by cases e)
  refine k.mono fun e w' h => ⟨h.1,.inl ?_⟩
  rcases h.2 with h | ⟨h,-⟩ | ⟨h,-⟩
  ·exact h
  ·cases h
  ·cases h
theorem wills_rw {w : World} {t : Sl} {us : List Wl} (h : Wls w t.val us) : ∃ vs : List Wv,Rw w t 5 (wcs vs) /\ vs.length = us.length /\ ∀ k,k < us.length -> ∃ s,vs[k]? = some ⟨(us.getD k wl0).topic,(us.getD k wl0).payload,(us.getD k wl0).qos,(us.getD k wl0).retain,s⟩ := by
 obtain ⟨ao,cap,hv,hc,hcase⟩ := h
 obtain ⟨ta,tn,tc⟩ := t
 simp only [Sl.val,Value.slice.injEq] at hv
 obtain ⟨rfl,rfl,rfl⟩ := hv
 rcases hcase with rfl | ⟨b,off,rfl,hat⟩
 ·exact ⟨[],⟨rfl,hc,.inl rfl⟩,rfl,fun k hk => by simp at hk⟩
 have hs : ∀ k,∃ s : Sl,k < us.length -> w.cell? ⟨b,off + k * 5 + 4,none⟩ = some s.val := fun k => by
  by_cases hk : k < us.length
  ·obtain ⟨a,n,c,⟨_,_,_,_,h4⟩,_⟩ := hat k hk
   exact ⟨⟨a,n,c⟩,fun _ => h4⟩
  ·exact ⟨⟨none,0,0⟩,fun h => absurd h hk⟩
 obtain ⟨f,hf⟩ := Classical.skolem.1 hs
 refine ⟨(List.range us.length).map fun k => ⟨(us.getD k wl0).topic,(us.getD k wl0).payload,(us.getD k wl0).qos,(us.getD k wl0).retain,f k⟩,⟨?_,hc,?_⟩,by simp,fun k hk => ⟨f k,by rw [List.getElem?_map,List.getElem?_range hk]; rfl⟩⟩
 ·rw [wcs_length]
  simp
 ·refine .inr ⟨b,off,rfl,fun j hj => ?_⟩
  rw [wcs_length,List.length_map,List.length_range] at hj
  have hi : j / 5 < us.length := by omega
  have e := wcs_get ((List.range us.length).map fun k => (⟨(us.getD k wl0).topic,(us.getD k wl0).payload,(us.getD k wl0).qos,(us.getD k wl0).retain,f k⟩ : Wv)) (j / 5) ⟨(us.getD (j / 5) wl0).topic,(us.getD (j / 5) wl0).payload,(us.getD (j / 5) wl0).qos,(us.getD (j / 5) wl0).retain,f (j / 5)⟩ (by rw [List.getElem?_map,List.getElem?_range hi]; rfl) (j % 5) (Nat.mod_lt _ (by decide))
  rw [show j / 5 * 5 + j % 5 = j from by omega] at e
  rw [e]
  obtain ⟨a,n,c,⟨h0,h1,h2,h3,_⟩,_⟩ := hat (j / 5) hi
  have h4 := hf (j / 5) hi
  have hm : j % 5 = 0 \/ j % 5 = 1 \/ j % 5 = 2 \/ j % 5 = 3 \/ j % 5 = 4 := by omega
  rcases hm with m | m | m | m | m
  ·rw [show off + j = off + j / 5 * 5 from by omega,h0,m]; rfl
  ·rw [show off + j = off + j / 5 * 5 + 1 from by omega,h1,m]; rfl
  ·rw [show off + j = off + j / 5 * 5 + 2 from by omega,h2,m]; rfl
  ·rw [show off + j = off + j / 5 * 5 + 3 from by omega,h3,m]; rfl
  ·rw [show off + j = off + j / 5 * 5 + 4 from by omega,h4,m]; rfl
theorem vs_map {vs : List Wv} {us : List Wl} (hl : vs.length = us.length) (h : ∀ k,k < us.length -> ∃ s,vs[k]? = some ⟨(us.getD k wl0).topic,(us.getD k wl0).payload,(us.getD k wl0).qos,(us.getD k wl0).retain,s⟩) : vs.map (fun u => (u.qos,u.retain)) = us.map (fun u => (u.qos,u.retain)) := by
 apply List.ext_getElem (by simp [hl])
 intro i h1 h2
 rw [List.length_map] at h1 h2
 obtain ⟨s,hs⟩ := h i h2
 rw [List.getElem?_eq_getElem h1] at hs
 have hs := Option.some.inj hs
 rw [List.getElem_map,List.getElem_map,hs,List.getD_eq_getElem?_getD,List.getElem?_eq_getElem h2]
 rfl
theorem cfl_eq {vs : List Wv} {us : List Wl} (h : vs.map (fun u => (u.qos,u.retain)) = us.map (fun u => (u.qos,u.retain))) (f : Int) : vs.foldl cstep f = us.foldl cstepA f := by
 have e1 : vs.foldl cstep f = (vs.map (fun u => (u.qos,u.retain))).foldl (fun f x => bits .or .i64 f (bits .or .i64 (bits .or .i64 4 (fv x.2 32)) (IntKind.i64.wrap (x.1 * 8)))) f := by rw [List.foldl_map]; rfl
 have e2 : us.foldl cstepA f = (us.map (fun u => (u.qos,u.retain))).foldl (fun f x => bits .or .i64 f (bits .or .i64 (bits .or .i64 4 (fv x.2 32)) (IntKind.i64.wrap (x.1 * 8)))) f := by rw [List.foldl_map]; rfl
 rw [e1,e2,h]
theorem call_eq {vs : List Wv} {us : List Wl} (h : vs.map (fun u => (u.qos,u.retain)) = us.map (fun u => (u.qos,u.retain))) : (vs.all fun u => mq u.qos) = us.all fun u => mq u.qos := by
 have e1 : (vs.all fun u => mq u.qos) = (vs.map (fun u => (u.qos,u.retain))).all fun x => mq x.1 := by rw [List.all_map]; rfl
 have e2 : (us.all fun u => mq u.qos) = (us.map (fun u => (u.qos,u.retain))).all fun x => mq x.1 := by rw [List.all_map]; rfl
 rw [e1,e2,h]
theorem foldl_range (us : List Wl) (f : Int) (hf : -9223372036854775808 <= f /\ f <= 9223372036854775807) : -9223372036854775808 <= us.foldl cstepA f /\ us.foldl cstepA f <= 9223372036854775807 := by
 induction us generalizing f with
 | nil => exact hf
 | cons u r ih => exact ih _ (or_range _ _)
theorem enc_none {w : World} {q : Pkv} {P : Pa} (hR : RPk w q P) (hB : Big P) (hk : P.kind ≠ 1 /\ P.kind ≠ 2 /\ P.kind ≠ 3 /\ P.kind ≠ 4 /\ P.kind ≠ 5 /\ P.kind ≠ 6 /\ P.kind ≠ 7 /\ P.kind ≠ 8 /\ P.kind ≠ 9 /\ P.kind ≠ 10 /\ P.kind ≠ 11 /\ P.kind ≠ 14 /\ P.kind ≠ 15) : Calls Tryz.prog 8 #[q.val] w (EncQ (fkA P).1 (fkA P).2 q.kind (eb P) w) := by
 have hc := hR.cnt
 have hf := hB.fit hc
 obtain ⟨h0,h1,h2,h3,h4,h5,h6,h7,h8,h9,h10,h11⟩ := hc.sc
 have hL := hB.lists
 have k := hk
 rw [<- h0] at k
 refine enc_core q (q) _ _ _ (0) w (by omega) (fun W => fk_any q P hc W) (fun w0 w1 W hb hQ => ?_)
 have e := (hc).emp
 unfold eb
 rw [if_neg (by omega),if_neg (by omega),if_neg (by omega),if_neg (by omega),if_neg (by omega),if_neg (by omega),if_neg (by omega),if_neg (by omega),<- e]
 exact pk_none hQ hf k
theorem enc_reason {w : World} {q : Pkv} {P : Pa} (hR : RPk w q P) (hB : Big P) (hk : P.kind = 14 \/ P.kind = 15) : Calls Tryz.prog 8 #[q.val] w (EncQ (fkA P).1 (fkA P).2 q.kind (eb P) w) := by
 have hc := hR.cnt
 have hf := hB.fit hc
 obtain ⟨h0,h1,h2,h3,h4,h5,h6,h7,h8,h9,h10,h11⟩ := hc.sc
 have hL := hB.lists
 have k := hk
 rw [<- h0] at k
 refine enc_core q (q.no_code.no_props) _ _ _ (0 + 5000001) w (by omega) (fun W => fk_any q P hc W) (fun w0 w1 W hb hQ => ?_)
 have e := (hc.no_code.no_props).emp
 unfold eb
 rw [if_neg (by omega),if_neg (by omega),if_neg (by omega),if_neg (by omega),if_neg (by omega),if_neg (by omega),if_neg (by omega),if_pos (by omega),<- e,<- h0,<- h10]
 exact pk_reason hQ hf P.props (hR.props.below hb) hB.lists.1 hB.props k
theorem enc_ack {w : World} {q : Pkv} {P : Pa} (hR : RPk w q P) (hB : Big P) (hk : P.kind = 4 \/ P.kind = 5 \/ P.kind = 6 \/ P.kind = 7) : Calls Tryz.prog 8 #[q.val] w (EncQ (fkA P).1 (fkA P).2 q.kind (eb P) w) := by
 have hc := hR.cnt
 have hf := hB.fit hc
 obtain ⟨h0,h1,h2,h3,h4,h5,h6,h7,h8,h9,h10,h11⟩ := hc.sc
 have hL := hB.lists
 have k := hk
 rw [<- h0] at k
 refine enc_core q (q.no_id.no_code.no_props) _ _ _ (0 + 2 + 5000001) w (by omega) (fun W => fk_any q P hc W) (fun w0 w1 W hb hQ => ?_)
 have e := (hc.no_id.no_code.no_props).emp
 unfold eb
 rw [if_neg (by omega),if_neg (by omega),if_neg (by omega),if_pos (by omega),sIdA,<- e,<- h0,<- h10,<- h5]
 exact pk_ack hQ hf P.props (hR.props.below hb) hB.lists.1 hB.props k
theorem enc_connack {w : World} {q : Pkv} {P : Pa} (hR : RPk w q P) (hB : Big P) (hk : P.kind = 2) : Calls Tryz.prog 8 #[q.val] w (EncQ (fkA P).1 (fkA P).2 q.kind (eb P) w) := by
 have hc := hR.cnt
 have hf := hB.fit hc
 obtain ⟨h0,h1,h2,h3,h4,h5,h6,h7,h8,h9,h10,h11⟩ := hc.sc
 have hL := hB.lists
 have k := hk
 rw [<- h0] at k
 refine enc_core q (q.no_session.no_code.no_props) _ _ _ (0 + 1 + 1 + 5000000) w (by omega) (fun W => fk_any q P hc W) (fun w0 w1 W hb hQ => ?_)
 have e := (hc.no_session.no_code.no_props).emp
 unfold eb
 rw [if_neg (by omega),if_pos (by omega),<- e,<- h0,<- h10,<- h11]
 exact pk_connack hQ hf P.props (hR.props.below hb) hB.lists.1 hB.props k
theorem enc_subs {w : World} {q : Pkv} {P : Pa} (hR : RPk w q P) (hB : Big P) (hk : P.kind = 8) : Calls Tryz.prog 8 #[q.val] w (EncQ (fkA P).1 (fkA P).2 q.kind (eb P) w) := by
 have hc := hR.cnt
 have hf := hB.fit hc
 obtain ⟨h0,h1,h2,h3,h4,h5,h6,h7,h8,h9,h10,h11⟩ := hc.sc
 have hL := hB.lists
 have k := hk
 rw [<- h0] at k
 refine enc_core q (q.no_id.no_props.no_subs) _ _ _ (5000002 + P.subs.length * 70001) w (by omega) (fun W => fk_any q P hc W) (fun w0 w1 W hb hQ => ?_)
 have e := (hc.no_id.no_props.no_subs).emp
 unfold eb
 rw [if_neg (by omega),if_neg (by omega),if_neg (by omega),if_neg (by omega),if_pos (by omega),sIpA,sIdA,<- e,<- h0,<- h5]
 exact pk_subs hQ hf P.props (hR.props.below hb) hB.lists.1 hB.props P.subs (hR.subs.below hb) hB.subs 70001 (Nat.le_refl _) (by omega) k
theorem enc_filters {w : World} {q : Pkv} {P : Pa} (hR : RPk w q P) (hB : Big P) (hk : P.kind = 10) : Calls Tryz.prog 8 #[q.val] w (EncQ (fkA P).1 (fkA P).2 q.kind (eb P) w) := by
 have hc := hR.cnt
 have hf := hB.fit hc
 obtain ⟨h0,h1,h2,h3,h4,h5,h6,h7,h8,h9,h10,h11⟩ := hc.sc
 have hL := hB.lists
 have k := hk
 rw [<- h0] at k
 refine enc_core q (q.no_id.no_props.no_filters) _ _ _ (5000002 + P.filters.length * 70001) w (by omega) (fun W => fk_any q P hc W) (fun w0 w1 W hb hQ => ?_)
 have e := (hc.no_id.no_props.no_filters).emp
 unfold eb
 rw [if_neg (by omega),if_neg (by omega),if_neg (by omega),if_neg (by omega),if_neg (by omega),if_pos (by omega),sIpA,sIdA,<- e,<- h0,<- h5]
 exact pk_filters hQ hf P.props (hR.props.below hb) hB.lists.1 hB.props P.filters (hR.filters.below hb) hB.filters 70001 (Nat.le_refl _) (by omega) k
theorem enc_codes {w : World} {q : Pkv} {P : Pa} (hR : RPk w q P) (hB : Big P) (hk : P.kind = 9 \/ P.kind = 11) : Calls Tryz.prog 8 #[q.val] w (EncQ (fkA P).1 (fkA P).2 q.kind (eb P) w) := by
 have hc := hR.cnt
 have hf := hB.fit hc
 obtain ⟨h0,h1,h2,h3,h4,h5,h6,h7,h8,h9,h10,h11⟩ := hc.sc
 have hL := hB.lists
 have k := hk
 rw [<- h0] at k
 refine enc_core q (q.no_id.no_props.no_codes) _ _ _ (5000002 + P.codes.length * 70001) w (by omega) (fun W => fk_any q P hc W) (fun w0 w1 W hb hQ => ?_)
 have e := (hc.no_id.no_props.no_codes).emp
 unfold eb
 rw [if_neg (by omega),if_neg (by omega),if_neg (by omega),if_neg (by omega),if_neg (by omega),if_neg (by omega),if_pos (by omega),sIpA,sIdA,<- e,<- h0,<- h5]
 exact pk_codes hQ hf P.props (hR.props.below hb) hB.lists.1 hB.props P.codes (hR.codes.below hb) hB.codes 70001 (Nat.le_refl _) (by omega) k
theorem enc_pub_pos {w : World} {q : Pkv} {P : Pa} (hR : RPk w q P) (hB : Big P) (hk : P.kind = 3) (hq : 0 < P.qos) : Calls Tryz.prog 8 #[q.val] w (EncQ (fkA P).1 (fkA P).2 q.kind (eb P) w) := by
 have hc := hR.cnt
 have hf := hB.fit hc
 obtain ⟨h0,h1,h2,h3,h4,h5,h6,h7,h8,h9,h10,h11⟩ := hc.sc
 have hL := hB.lists
 have k := hk
 rw [<- h0] at k
 refine enc_core q (q.no_dup.no_retain.no_topic.no_qos.no_id.no_props.no_payload) _ _ _ (2000000000) w (by omega) (fun W => fk_any q P hc W) (fun w0 w1 W hb hQ => ?_)
 have e := (hc.no_dup.no_retain.no_topic.no_qos.no_id.no_props.no_payload).emp
 unfold eb
 rw [if_neg (by omega),if_neg (by omega),if_pos (by omega),if_pos hq,<- e,<- h0,<- h2,<- h4,<- h5,<- h6]
 exact pk_pub_pos hQ hf P.props (hR.props.below hb) hB.lists.1 hB.props (by rw [h4]; have := hB.texts; omega) (by rw [h6]; have := hB.texts; omega) (by rw [h2]; exact hq) k
theorem enc_pub_zero {w : World} {q : Pkv} {P : Pa} (hR : RPk w q P) (hB : Big P) (hk : P.kind = 3) (hq : ¬ 0 < P.qos) : Calls Tryz.prog 8 #[q.val] w (EncQ (fkA P).1 (fkA P).2 q.kind (eb P) w) := by
 have hc := hR.cnt
 have hf := hB.fit hc
 obtain ⟨h0,h1,h2,h3,h4,h5,h6,h7,h8,h9,h10,h11⟩ := hc.sc
 have hL := hB.lists
 have k := hk
 rw [<- h0] at k
 refine enc_core q (q.no_dup.no_retain.no_topic.no_qos.no_props.no_payload) _ _ _ (2000000000) w (by omega) (fun W => fk_any q P hc W) (fun w0 w1 W hb hQ => ?_)
 have e := (hc.no_dup.no_retain.no_topic.no_qos.no_props.no_payload).emp
 unfold eb
 rw [if_neg (by omega),if_neg (by omega),if_pos (by omega),if_neg hq,<- e,<- h0,<- h2,<- h4,<- h5,<- h6]
 exact pk_pub_zero hQ hf P.props (hR.props.below hb) hB.lists.1 hB.props (by rw [h4]; have := hB.texts; omega) (by rw [h6]; have := hB.texts; omega) (by rw [h2]; exact hq) k
theorem enc_conn {w : World} {q : Pkv} {P : Pa} (hR : RPk w q P) (hB : Big P) (hk : P.kind = 1) : Calls Tryz.prog 8 #[q.val] w (EncQ (fkA P).1 (fkA P).2 q.kind (eb P) w) := by
 have hc := hR.cnt
 have hf := hB.fit hc
 obtain ⟨h0,h1,h2,h3,h4,h5,h6,h7,h8,h9,h10,h11⟩ := hc.sc
 obtain ⟨n0,n1,n2,n3,n4,n5,n6⟩ := hc.ns
 have hL := hB.lists
 have k := hk
 rw [<- h0] at k
 obtain ⟨vs,hrw,hvl,hvs⟩ := wills_rw hR.wills
 have hm := vs_map hvl hvs
 have ef : cfl q.user.n q.pass.n q.clean vs = cflA P := by
  unfold cfl cflA
  rw [cfl_eq hm,n2,n3,h8]
 have eo : cok q.user.n q.pass.n vs = cokA P := by
  unfold cok cokA
  rw [call_eq hm,hvl,n2,n3]
 refine enc_core q q.no_clean.no_keep.no_props.no_client.no_wills.no_user.no_pass _ _ _ (6000000 + P.wills.length * 6000000 + P.user.length * 6000000 + P.pass.length * 6000000) w (by omega) (fun W => fk_any q P hc W) (fun w0 w1 W hb hQ => ?_)
 have e := (hc.no_clean.no_keep.no_props.no_client.no_wills.no_user.no_pass).emp
 obtain ⟨wo,wc,hwv,_,hWS⟩ := hR.wills.below hb
 obtain ⟨uo,uc,huv,_,hUS⟩ := hR.user.below hb
 obtain ⟨po,pc,hpv,_,hPS⟩ := hR.pass.below hb
 unfold eb
 rw [if_pos hk,<- e,<- ef,<- eo,<- h0,<- h9,<- h7]
 exact pk_conn hQ hf vs (hrw.below hb) P.props (hR.props.below hb) hB.lists.1 hB.props (by rw [h7]; have := hB.texts; omega) (by rw [h9]; exact hB.nums.2.2.1) (by rw [n2]; unfold maxLen; omega) (by rw [n3]; unfold maxLen; omega)
  (by rw [ef]; unfold cflA; exact foldl_range _ _ (or_range _ _)) P.wills _ rfl wo wc hwv hWS hB.wills P.user _ rfl uo uc huv hUS hB.user P.pass _ rfl po pc hpv hPS 6000000 (Nat.le_refl _) (by omega) k
theorem enc_any {w : World} {q : Pkv} {P : Pa} (hR : RPk w q P) (hB : Big P) : Calls Tryz.prog 8 #[q.val] w (EncQ (fkA P).1 (fkA P).2 P.kind (eb P) w) := by
 rw [<- hR.sc.1]
 by_cases k1 : P.kind = 1
 ·exact enc_conn hR hB k1
 by_cases k2 : P.kind = 2
 ·exact enc_connack hR hB k2
 by_cases k3 : P.kind = 3
 ·by_cases hq : 0 < P.qos
  ·exact enc_pub_pos hR hB k3 hq
  ·exact enc_pub_zero hR hB k3 hq
 by_cases k4 : P.kind = 4 \/ P.kind = 5 \/ P.kind = 6 \/ P.kind = 7
 ·exact enc_ack hR hB k4
 by_cases k8 : P.kind = 8
 ·exact enc_subs hR hB k8
 by_cases k10 : P.kind = 10
 ·exact enc_filters hR hB k10
 by_cases k9 : P.kind = 9 \/ P.kind = 11
 ·exact enc_codes hR hB k9
 by_cases k14 : P.kind = 14 \/ P.kind = 15
 ·exact enc_reason hR hB k14
 ·exact enc_none hR hB ⟨k1,k2,k3,by omega,by omega,by omega,by omega,k8,by omega,k10,by omega,by omega,by omega⟩
theorem br_eb_1 {P : Pa} (h : P.kind = 1) (X : Option (List Int)) (hX : (sConn P.kind (cflA P) P.keep (cokA P) P.props P.client P.wills P.user P.pass []).bind (sMust (empA P.no_clean.no_keep.no_props.no_client.no_wills.no_user.no_pass)) = X) : eb P = X := by
 unfold eb
 rw [if_pos h]
 exact hX
theorem br_may_1 {P : Pa} (h : P.kind = 1) (X : Bool) (hX : tlB P (conO P.client P.keep P.wills P.user P.pass) (empA P.no_clean.no_keep.no_props.no_client.no_wills.no_user.no_pass) = X) : mayA P = X := by
 unfold mayA
 rw [if_pos h]
 exact hX
theorem br_gb_1 {P : Pa} (h : P.kind = 1) (X : List Int) (hX : ((((((((tx gmq ++ [5]) ++ [(gcf P.user.length P.pass.length P.clean + gwf P.wills) % 256]) ++ b2 P.keep) ++ pbs P.props) ++ tx P.client) ++ P.wills.flatMap gwl) ++ P.user.flatMap tx) ++ P.pass.flatMap tx) = X) : gbd P = X := by
 unfold gbd
 rw [if_pos h]
 exact hX
theorem br_eb_2 {P : Pa} (h : P.kind = 2) (X : Option (List Int)) (hX : ((((some []).bind (sAdd (in8 (fv P.session 1)) [fv P.session 1 % 256])).bind (sAdd (in8 P.code) [P.code % 256])).bind (sAdd (okP P.kind P.props) (pbs P.props))).bind (sMust (empA P.no_session.no_code.no_props)) = X) : eb P = X := by
 unfold eb
 rw [if_neg (by omega),if_pos h]
 exact hX
theorem br_may_2 {P : Pa} (h : P.kind = 2) (X : Bool) (hX : tlB P (codeO P.code) (empA P.no_session.no_code.no_props) = X) : mayA P = X := by
 unfold mayA
 rw [if_neg (by omega),if_pos h]
 exact hX
theorem br_gb_2 {P : Pa} (h : P.kind = 2) (X : List Int) (hX : [fv P.session 1 % 256,P.code % 256] ++ pbs P.props = X) : gbd P = X := by
 unfold gbd
 rw [if_neg (by omega),if_pos h]
 exact hX
theorem br_eb_3 {P : Pa} (h : P.kind = 3) (X : Option (List Int)) (hX : (sPub P.topic P.qos P.id P.kind P.props P.payload []).bind (sMust (if 0 < P.qos then empA P.no_dup.no_retain.no_topic.no_qos.no_id.no_props.no_payload else empA P.no_dup.no_retain.no_topic.no_qos.no_props.no_payload)) = X) : eb P = X := by
 unfold eb
 rw [if_neg (by omega),if_neg (by omega),if_pos h]
 exact hX
theorem br_may_3 {P : Pa} (h : P.kind = 3) (X : Bool) (hX : tlB P (pubO P.topic P.qos P.id P.dup) (empA P.no_dup.no_retain.no_topic.no_qos.no_id.no_props.no_payload) = X) : mayA P = X := by
 unfold mayA
 rw [if_neg (by omega),if_neg (by omega),if_pos h]
 exact hX
theorem br_gb_3 {P : Pa} (h : P.kind = 3) (X : List Int) (hX : (if 0 < P.qos then ((tx P.topic ++ b2 P.id) ++ pbs P.props) ++ sb P.payload else (tx P.topic ++ pbs P.props) ++ sb P.payload) = X) : gbd P = X := by
 unfold gbd
 rw [if_neg (by omega),if_neg (by omega),if_pos h]
 exact hX
theorem br_eb_4 {P : Pa} (h : P.kind = 4 \/ P.kind = 5 \/ P.kind = 6 \/ P.kind = 7) (X : Option (List Int)) (hX : ((sIdA P).bind (sReason P.code P.kind P.props)).bind (sMust (empA P.no_id.no_code.no_props)) = X) : eb P = X := by
 unfold eb
 rw [if_neg (by omega),if_neg (by omega),if_neg (by omega),if_pos h]
 exact hX
theorem br_may_4 {P : Pa} (h : P.kind = 4 \/ P.kind = 5 \/ P.kind = 6 \/ P.kind = 7) (X : Bool) (hX : tlB P (idO P.id && codeO P.code) (empA P.no_id.no_code.no_props) = X) : mayA P = X := by
 unfold mayA
 rw [if_neg (by omega),if_neg (by omega),if_neg (by omega),if_pos h]
 exact hX
theorem br_gb_4 {P : Pa} (h : P.kind = 4 \/ P.kind = 5 \/ P.kind = 6 \/ P.kind = 7) (X : List Int) (hX : b2 P.id ++ gtl P.code P.props = X) : gbd P = X := by
 unfold gbd
 rw [if_neg (by omega),if_neg (by omega),if_neg (by omega),if_pos h]
 exact hX
theorem br_eb_8 {P : Pa} (h : P.kind = 8) (X : Option (List Int)) (hX : (((sIpA P).bind (sMust (mc P.subs.length))).bind (sEach sSub P.subs)).bind (sMust (empA P.no_id.no_props.no_subs)) = X) : eb P = X := by
 unfold eb
 rw [if_neg (by omega),if_neg (by omega),if_neg (by omega),if_neg (by omega),if_pos h]
 exact hX
theorem br_may_8 {P : Pa} (h : P.kind = 8) (X : Bool) (hX : tlB P ((idO P.id && mc P.subs.length) && P.subs.all msB) (empA P.no_id.no_props.no_subs) = X) : mayA P = X := by
 unfold mayA
 rw [if_neg (by omega),if_neg (by omega),if_neg (by omega),if_neg (by omega),if_pos h]
 exact hX
theorem br_gb_8 {P : Pa} (h : P.kind = 8) (X : List Int) (hX : (((b2 P.id ++ pbs P.props) ++ P.subs.flatMap gsub) ++ P.filters.flatMap tx) ++ P.codes.flatMap gcod = X) : gbd P = X := by
 unfold gbd
 rw [if_neg (by omega),if_neg (by omega),if_neg (by omega),if_neg (by omega),if_neg (by omega),if_neg (by omega)]
 exact hX
theorem br_eb_10 {P : Pa} (h : P.kind = 10) (X : Option (List Int)) (hX : (((sIpA P).bind (sMust (mc P.filters.length))).bind (sEach sTx P.filters)).bind (sMust (empA P.no_id.no_props.no_filters)) = X) : eb P = X := by
 unfold eb
 rw [if_neg (by omega),if_neg (by omega),if_neg (by omega),if_neg (by omega),if_neg (by omega),if_pos h]
 exact hX
theorem br_may_10 {P : Pa} (h : P.kind = 10) (X : Bool) (hX : tlB P ((idO P.id && mc P.filters.length) && P.filters.all okT) (empA P.no_id.no_props.no_filters) = X) : mayA P = X := by
 unfold mayA
 rw [if_neg (by omega),if_neg (by omega),if_neg (by omega),if_neg (by omega),if_neg (by omega),if_pos h]
 exact hX
theorem br_gb_10 {P : Pa} (h : P.kind = 10) (X : List Int) (hX : (((b2 P.id ++ pbs P.props) ++ P.subs.flatMap gsub) ++ P.filters.flatMap tx) ++ P.codes.flatMap gcod = X) : gbd P = X := by
 unfold gbd
 rw [if_neg (by omega),if_neg (by omega),if_neg (by omega),if_neg (by omega),if_neg (by omega),if_neg (by omega)]
 exact hX
theorem br_eb_9 {P : Pa} (h : P.kind = 9 \/ P.kind = 11) (X : Option (List Int)) (hX : (((sIpA P).bind (sMust (mc P.codes.length))).bind (sEach sCode P.codes)).bind (sMust (empA P.no_id.no_props.no_codes)) = X) : eb P = X := by
 unfold eb
 rw [if_neg (by omega),if_neg (by omega),if_neg (by omega),if_neg (by omega),if_neg (by omega),if_neg (by omega),if_pos h]
 exact hX
theorem br_may_9 {P : Pa} (h : P.kind = 9 \/ P.kind = 11) (X : Bool) (hX : tlB P ((idO P.id && mc P.codes.length) && P.codes.all codeO) (empA P.no_id.no_props.no_codes) = X) : mayA P = X := by
 unfold mayA
 rw [if_neg (by omega),if_neg (by omega),if_neg (by omega),if_neg (by omega),if_neg (by omega),if_neg (by omega),if_pos h]
 exact hX
theorem br_gb_9 {P : Pa} (h : P.kind = 9 \/ P.kind = 11) (X : List Int) (hX : (((b2 P.id ++ pbs P.props) ++ P.subs.flatMap gsub) ++ P.filters.flatMap tx) ++ P.codes.flatMap gcod = X) : gbd P = X := by
 unfold gbd
 rw [if_neg (by omega),if_neg (by omega),if_neg (by omega),if_neg (by omega),if_neg (by omega),if_neg (by omega)]
 exact hX
theorem br_eb_12 {P : Pa} (h : P.kind = 12 \/ P.kind = 13) (X : Option (List Int)) (hX : (some []).bind (sMust (empA P)) = X) : eb P = X := by
 unfold eb
 rw [if_neg (by omega),if_neg (by omega),if_neg (by omega),if_neg (by omega),if_neg (by omega),if_neg (by omega),if_neg (by omega),if_neg (by omega)]
 exact hX
theorem br_may_12 {P : Pa} (h : P.kind = 12 \/ P.kind = 13) (X : Bool) (hX : tlB P (true) (empA P) = X) : mayA P = X := by
 unfold mayA
 rw [if_neg (by omega),if_neg (by omega),if_neg (by omega),if_neg (by omega),if_neg (by omega),if_neg (by omega),if_neg (by omega),if_pos h]
 exact hX
theorem br_gb_12 {P : Pa} (h : P.kind = 12 \/ P.kind = 13) (X : List Int) (hX : [] = X) : gbd P = X := by
 unfold gbd
 rw [if_neg (by omega),if_neg (by omega),if_neg (by omega),if_neg (by omega),if_pos h]
 exact hX
theorem br_eb_14 {P : Pa} (h : P.kind = 14 \/ P.kind = 15) (X : Option (List Int)) (hX : ((some []).bind (sReason P.code P.kind P.props)).bind (sMust (empA P.no_code.no_props)) = X) : eb P = X := by
 unfold eb
 rw [if_neg (by omega),if_neg (by omega),if_neg (by omega),if_neg (by omega),if_neg (by omega),if_neg (by omega),if_neg (by omega),if_pos h]
 exact hX
theorem br_may_14 {P : Pa} (h : P.kind = 14 \/ P.kind = 15) (X : Bool) (hX : tlB P (codeO P.code) (empA P.no_code.no_props) = X) : mayA P = X := by
 unfold mayA
 rw [if_neg (by omega),if_neg (by omega),if_neg (by omega),if_neg (by omega),if_neg (by omega),if_neg (by omega),if_neg (by omega),if_neg (by omega),if_pos h]
 exact hX
theorem br_gb_14 {P : Pa} (h : P.kind = 14 \/ P.kind = 15) (X : List Int) (hX : gtl P.code P.props = X) : gbd P = X := by
 unfold gbd
 rw [if_neg (by omega),if_neg (by omega),if_neg (by omega),if_neg (by omega),if_neg (by omega),if_pos h]
 exact hX
theorem tlB_eq (P : Pa) (c E : Bool) : tlB P c E = (c && (E && okP P.kind P.props)) := by
 unfold tlB
 by_cases h : P.props.length = 0
 ·rw [decide_eq_true h,okP_nil _ h]; rfl
 ·rw [decide_eq_false h]; rfl
theorem in8_code (n : Int) : in8 n = codeO n := by
 unfold in8 codeO
 rw [show decide (n < 256) = decide (n <= 255) from decide_eq_decide.2 (by omega)]
theorem in16_id (n : Int) : (in16 n && n != 0) = idO n := by
 rw [Bool.eq_iff_iff]
 simp [in16,idO]
 omega
theorem in8_fv (b : Bool) : in8 (fv b 1) = true := by cases b <;> rfl
theorem each_eq {α : Type} (f : α -> List Int -> Option (List Int)) (g : α -> Bool) (h : α -> List Int) (hf : ∀ a t,f a t = if g a then some (t ++ h a) else none) : ∀ (l : List α) (t : List Int),sEach f l t = if l.all g then some (t ++ l.flatMap h) else none
 | [],t => by simp [sEach]
 | a :: r,t => by
  unfold sEach
  rw [hf,List.all_cons,List.flatMap_cons]
  cases g a
  ·rfl
  ·rw [if_pos rfl]
   show sEach f r (t ++ h a) = _
   rw [each_eq f g h hf r (t ++ h a),List.append_assoc]
   rfl
theorem opv_eq (q : Int) (nl ap : Bool) (h : Int) (h0 : 0 <= q) (h1 : q <= 2) (h2 : 0 <= h) (h3 : h <= 2) : opv q nl ap h = q + fv nl 4 + fv ap 8 + 16 * h := by
 obtain rfl | rfl | rfl : q = 0 \/ q = 1 \/ q = 2 := by omega
 all_goals obtain rfl | rfl | rfl : h = 0 \/ h = 1 \/ h = 2 := by omega
 all_goals cases nl <;> cases ap <;> decide
theorem sub_eq (s : Sb) (t : List Int) : sSub s t = if msB s then some (t ++ gsub s) else none := by
 unfold sSub msB sMust sAdd
 by_cases h : 0 <= s.qos /\ s.qos <= 2 /\ 0 <= s.handling /\ s.handling <= 2
 ·obtain ⟨h0,h1,h2,h3⟩ := h
  have e : opb s = gopt s := opv_eq _ _ _ _ h0 h1 h2 h3
  have r1 := fv_range s.nolocal 4 (by omega)
  have r2 := fv_range s.aspub 8 (by omega)
  have e2 : in8 (gopt s) = true := by
   unfold gopt in8
   rw [decide_eq_true (by omega),decide_eq_true (by omega)]
   rfl
  rw [e,e2]
  unfold opk mq gsub
  rw [decide_eq_true h0,decide_eq_true h1,decide_eq_true h2,decide_eq_true h3]
  cases okT s.filter <;> simp
 ·have e1 : opk s.qos s.handling = false := by
   unfold opk mq
   rw [Bool.eq_false_iff]
   intro k
   simp only [Bool.and_eq_true,decide_eq_true_eq] at k
   exact h ⟨k.1.1.1,k.1.1.2,k.1.2,k.2⟩
  have e2 : (decide (0 <= s.qos) && (decide (s.qos <= 2) && (decide (0 <= s.handling) && decide (s.handling <= 2)))) = false := by
   rw [Bool.eq_false_iff]
   intro k
   simp only [Bool.and_eq_true,decide_eq_true_eq] at k
   exact h k
  rw [e1,e2]
  cases okT s.filter <;> rfl
theorem tx_eq (s : ByteArray) (t : List Int) : sTx s t = if okT s then some (t ++ tx s) else none := rfl
theorem code_eq (n : Int) (t : List Int) : sCode n t = if codeO n then some (t ++ gcod n) else none := by
 unfold sCode sAdd
 rw [in8_code]
 rfl
theorem reason_eq (code kind : Int) (l : List Pr) (t : List Int) : sReason code kind l t = if codeO code && okP kind l then some (t ++ gtl code l) else none := by
 unfold sReason sAdd
 rw [in8_code]
 by_cases h : l.length = 0
 ·have e : gtl code l = if code = 0 then [] else [code % 256] := by unfold gtl; rw [if_neg (by omega)]
  rw [e,okP_nil _ h,Bool.and_true,if_pos h]
  by_cases hc : code = 0
  ·rw [hc]
   simp [codeO]
  ·rw [if_neg hc,if_neg hc]
 ·have e : gtl code l = [code % 256] ++ pbs l := by unfold gtl; rw [if_pos (by omega)]
  rw [e,if_neg h]
  cases codeO code <;> cases okP kind l <;> simp
theorem eb_2 {P : Pa} (h : P.kind = 2) : eb P = if mayA P then some (gbd P) else none := by
 rw [br_eb_2 h _ rfl,br_may_2 h _ rfl,br_gb_2 h _ rfl,tlB_eq,in8_fv,in8_code]
 cases codeO P.code <;> cases okP P.kind P.props <;> cases empA P.no_session.no_code.no_props <;> simp [sAdd,sMust]
theorem eb_4 {P : Pa} (h : P.kind = 4 \/ P.kind = 5 \/ P.kind = 6 \/ P.kind = 7) : eb P = if mayA P then some (gbd P) else none := by
 rw [br_eb_4 h _ rfl,br_may_4 h _ rfl,br_gb_4 h _ rfl,tlB_eq]
 unfold sIdA
 rw [in16_id]
 cases hi : idO P.id
 ·simp [sAdd]
 ·simp only [sAdd,if_pos,Option.bind_some,reason_eq]
  cases codeO P.code <;> cases okP P.kind P.props <;> cases empA P.no_id.no_code.no_props <;> simp [sMust]
theorem eb_14 {P : Pa} (h : P.kind = 14 \/ P.kind = 15) : eb P = if mayA P then some (gbd P) else none := by
 rw [br_eb_14 h _ rfl,br_may_14 h _ rfl,br_gb_14 h _ rfl,tlB_eq]
 simp only [Option.bind_some,reason_eq]
 cases codeO P.code <;> cases okP P.kind P.props <;> cases empA P.no_code.no_props <;> simp [sMust]
theorem eb_12 {P : Pa} (h : P.kind = 12 \/ P.kind = 13) : eb P = if mayA P then some (gbd P) else none := by
 rw [br_eb_12 h _ rfl,br_may_12 h _ rfl,br_gb_12 h _ rfl,tlB_eq]
 cases he : empA P
 ·simp [sMust]
 ·have : P.props.length = 0 := (of_decide_eq_true he).2.2.2.1
  rw [okP_nil _ this]
  simp [sMust]
theorem ip_eq (P : Pa) : sIpA P = if idO P.id && okP P.kind P.props then some (b2 P.id ++ pbs P.props) else none := by
 unfold sIpA sIdA
 rw [in16_id]
 cases idO P.id <;> cases okP P.kind P.props <;> simp [sAdd]
theorem eb_8 {P : Pa} (h : P.kind = 8) : eb P = if mayA P then some (gbd P) else none := by
 rw [br_eb_8 h _ rfl,br_may_8 h _ rfl,br_gb_8 h _ rfl,tlB_eq,ip_eq]
 cases he : empA P.no_id.no_props.no_subs
 ·cases idO P.id <;> cases okP P.kind P.props <;> cases mc P.subs.length <;> simp [sMust]
 ·obtain ⟨-,e2,e3⟩ := emp_lists he
  have e2 : P.filters = [] := List.length_eq_zero_iff.1 e2
  have e3 : P.codes = [] := List.length_eq_zero_iff.1 e3
  rw [e2,e3]
  cases idO P.id <;> cases okP P.kind P.props <;> cases mc P.subs.length <;> simp only [sMust,each_eq sSub msB gsub sub_eq,Bool.and_true,Bool.and_false,Bool.true_and,Bool.false_and,if_true,if_false,Option.bind_some,Option.bind_none,List.flatMap_nil,List.append_nil,Bool.false_eq_true]
  cases P.subs.all msB <;> simp [sMust]
theorem eb_10 {P : Pa} (h : P.kind = 10) : eb P = if mayA P then some (gbd P) else none := by
 rw [br_eb_10 h _ rfl,br_may_10 h _ rfl,br_gb_10 h _ rfl,tlB_eq,ip_eq]
 cases he : empA P.no_id.no_props.no_filters
 ·cases idO P.id <;> cases okP P.kind P.props <;> cases mc P.filters.length <;> simp [sMust]
 ·obtain ⟨e1,-,e3⟩ := emp_lists he
  have e1 : P.subs = [] := List.length_eq_zero_iff.1 e1
  have e3 : P.codes = [] := List.length_eq_zero_iff.1 e3
  rw [e1,e3]
  cases idO P.id <;> cases okP P.kind P.props <;> cases mc P.filters.length <;> simp only [sMust,each_eq sTx okT tx tx_eq,Bool.and_true,Bool.and_false,Bool.true_and,Bool.false_and,if_true,if_false,Option.bind_some,Option.bind_none,List.flatMap_nil,List.append_nil,Bool.false_eq_true]
  cases P.filters.all okT <;> simp [sMust]
theorem eb_9 {P : Pa} (h : P.kind = 9 \/ P.kind = 11) : eb P = if mayA P then some (gbd P) else none := by
 rw [br_eb_9 h _ rfl,br_may_9 h _ rfl,br_gb_9 h _ rfl,tlB_eq,ip_eq]
 cases he : empA P.no_id.no_props.no_codes
 ·cases idO P.id <;> cases okP P.kind P.props <;> cases mc P.codes.length <;> simp [sMust]
 ·obtain ⟨e1,e2,-⟩ := emp_lists he
  have e1 : P.subs = [] := List.length_eq_zero_iff.1 e1
  have e2 : P.filters = [] := List.length_eq_zero_iff.1 e2
  rw [e1,e2]
  cases idO P.id <;> cases okP P.kind P.props <;> cases mc P.codes.length <;> simp only [sMust,each_eq sCode codeO gcod code_eq,Bool.and_true,Bool.and_false,Bool.true_and,Bool.false_and,if_true,if_false,Option.bind_some,Option.bind_none,List.flatMap_nil,List.append_nil,Bool.false_eq_true]
  cases P.codes.all codeO <;> simp [sMust]
theorem emp_id (P : Pa) : empA P = (decide (P.id = 0) && empA P.no_id) := by
 rw [Bool.eq_iff_iff,Bool.and_eq_true,decide_eq_true_eq]
 unfold empA
 rw [decide_eq_true_eq,decide_eq_true_eq]
 unfold EmpA Pa.no_id
 dsimp only
 constructor
 ·rintro ⟨a,⟨b1,b2,b3,b4⟩,c⟩
  exact ⟨b2,a,⟨b1,rfl,b3,b4⟩,c⟩
 ·rintro ⟨b2,a,⟨b1,-,b3,b4⟩,c⟩
  exact ⟨a,⟨b1,b2,b3,b4⟩,c⟩
theorem pok_of {P : Pa} (h : P.kind = 3) (hM : mayA P = true) : pok P.dup P.qos = true := by
 rw [br_may_3 h _ rfl] at hM
 have hc := (tlB_ok hM).1
 unfold pubO at hc
 simp only [Bool.and_eq_true,decide_eq_true_eq] at hc
 obtain ⟨-,h0,h2,h3⟩ := hc
 unfold pok mq
 by_cases hq : P.qos = 0
 ·rw [if_pos hq] at h3
  simp only [Bool.and_eq_true] at h3
  simp [hq]
  simpa using h3.2
 ·simp [h0,h2]
  exact .inl (by omega)
theorem eb_3 {P : Pa} (h : P.kind = 3) (hp : pok P.dup P.qos = true) : eb P = if mayA P then some (gbd P) else none := by
 unfold pok mq at hp
 simp only [Bool.and_eq_true,Bool.or_eq_true,decide_eq_true_eq] at hp
 obtain ⟨⟨h0,h2⟩,hd⟩ := hp
 rw [br_eb_3 h _ rfl,br_may_3 h _ rfl,br_gb_3 h _ rfl,tlB_eq]
 unfold pubO sPub
 rw [decide_eq_true h0,decide_eq_true h2,in16_id]
 by_cases hq : P.qos = 0
 ·have hn : ¬ 0 < P.qos := by omega
  have hdu : (!P.dup) = true := by rcases hd with hd | hd; (· omega); (· exact hd)
  rw [if_neg hn,if_neg hn,if_neg hn,if_pos hq,hdu,emp_id P.no_dup.no_retain.no_topic.no_qos.no_props.no_payload]
  have e : (P.no_dup.no_retain.no_topic.no_qos.no_props.no_payload.no_id) = P.no_dup.no_retain.no_topic.no_qos.no_id.no_props.no_payload := rfl
  rw [e,show P.no_dup.no_retain.no_topic.no_qos.no_props.no_payload.id = P.id from rfl]
  cases okT P.topic <;> cases decide (P.id = 0) <;> cases okP P.kind P.props <;> cases empA P.no_dup.no_retain.no_topic.no_qos.no_id.no_props.no_payload <;> simp [sAdd,sMust]
 ·have hn : 0 < P.qos := by omega
  rw [if_pos hn,if_pos hn,if_pos hn,if_neg hq]
  cases okT P.topic <;> cases idO P.id <;> cases okP P.kind P.props <;> cases empA P.no_dup.no_retain.no_topic.no_qos.no_id.no_props.no_payload <;> simp [sAdd,sMust]
def wOk (u : Wl) : Bool := okP 16 u.props && (okT u.topic && okB u.payload)
theorem will_eq (u : Wl) (t : List Int) : sWill u t = if wOk u then some (t ++ gwl u) else none := by
 unfold sWill wOk gwl sAdd
 cases okP 16 u.props <;> cases okT u.topic <;> cases okB u.payload <;> simp
theorem pass_eq (s : ByteArray) (t : List Int) : sPass s t = if okB s then some (t ++ tx s) else none := rfl
theorem con1_eq {ws : List Wl} (h : ws.length <= 1) : con1 ws = ((ws.all fun u => mq u.qos) && ws.all wOk) := by
 match ws,h with
 | [],_ => rfl
 | [u],_ =>
  show mwB u = _
  rw [List.all_cons,List.all_cons,List.all_nil,List.all_nil,Bool.and_true,Bool.and_true]
  unfold mwB wOk mq
  cases okT u.topic <;> cases okB u.payload <;> cases okP 16 u.props <;> simp
theorem con2_eq {us : List ByteArray} (h : us.length <= 1) : con2 us = us.all okT := by
 match us,h with
 | [],_ => rfl
 | [u],_ => simp [con2]
theorem con3_eq {us : List ByteArray} (h : us.length <= 1) : con3 us = us.all okB := by
 match us,h with
 | [],_ => rfl
 | [u],_ => simp [con3]
theorem cfl0_eq {nu np : Nat} (c : Bool) (h1 : nu <= 1) (h2 : np <= 1) : cfl0 nu np c = gcf nu np c := by
 obtain rfl | rfl : nu = 0 \/ nu = 1 := by omega
 all_goals obtain rfl | rfl : np = 0 \/ np = 1 := by omega
 all_goals cases c <;> decide
theorem cfl1_eq {nu np : Nat} (c : Bool) (h1 : nu <= 1) (h2 : np <= 1) (u : Wl) (h : mq u.qos = true) : cstepA (cfl0 nu np c) u = gcf nu np c + (fv u.retain 32 + 8 * u.qos + 4) := by
 unfold mq at h
 simp only [Bool.and_eq_true,decide_eq_true_eq] at h
 unfold cstepA
 generalize u.retain = r
 generalize u.qos = q at h |-
 obtain ⟨h3,h4⟩ := h
 obtain rfl | rfl | rfl : q = 0 \/ q = 1 \/ q = 2 := by omega
 all_goals obtain rfl | rfl : nu = 0 \/ nu = 1 := by omega
 all_goals obtain rfl | rfl : np = 0 \/ np = 1 := by omega
 all_goals cases c <;> cases r <;> decide
theorem cflA_eq {P : Pa} (h0 : P.wills.length <= 1) (h1 : P.user.length <= 1) (h2 : P.pass.length <= 1) (h : (P.wills.all fun u => mq u.qos) = true) : cflA P = gcf P.user.length P.pass.length P.clean + gwf P.wills /\ in8 (gcf P.user.length P.pass.length P.clean + gwf P.wills) = true := by
 unfold cflA
 have hr := gcf_range P.user.length P.pass.length P.clean
 generalize P.wills = ws at h0 h
 match ws,h0,h with
 | [],_,_ =>
  refine ⟨by rw [gwf,Int.add_zero]; exact cfl0_eq _ h1 h2,?_⟩
  rw [gwf,Int.add_zero]
  unfold in8
  rw [decide_eq_true (by omega),decide_eq_true (by omega)]
  rfl
 | [u],_,h =>
  have hq : mq u.qos = true := by simpa using h
  refine ⟨cfl1_eq _ h1 h2 u hq,?_⟩
  have r := fv_range u.retain 32 (by omega)
  unfold mq at hq
  simp only [Bool.and_eq_true,decide_eq_true_eq] at hq
  unfold gwf in8
  dsimp only
  rw [decide_eq_true (by omega),decide_eq_true (by omega)]
  rfl
theorem in16_keep (n : Int) : in16 n = (decide (0 <= n) && decide (n <= 65535)) := by
 unfold in16
 rw [show decide (n < 65536) = decide (n <= 65535) from decide_eq_decide.2 (by omega)]
theorem eb_1 {P : Pa} (h : P.kind = 1) : eb P = if mayA P then some (gbd P) else none := by
 rw [br_eb_1 h _ rfl,br_may_1 h _ rfl,br_gb_1 h _ rfl,tlB_eq]
 generalize empA P.no_clean.no_keep.no_props.no_client.no_wills.no_user.no_pass = E
 unfold conO con0 cokA cok0 sConn sCon0
 by_cases hn : P.wills.length <= 1 /\ P.user.length <= 1 /\ P.pass.length <= 1
 ·obtain ⟨n1,n2,n3⟩ := hn
  rw [con1_eq n1,con2_eq n2,con3_eq n3,decide_eq_true n1,decide_eq_true n2,decide_eq_true n3,in16_keep,show okT mqtt = true from by decide,show in8 5 = true from rfl]
  cases hq : P.wills.all fun u => mq u.qos
  ·simp [sMust]
  ·obtain ⟨f1,f2⟩ := cflA_eq n1 n2 n3 hq
   rw [f1,f2]
   generalize gcf P.user.length P.pass.length P.clean + gwf P.wills = F
   simp only [sMust,sAdd,Bool.and_true,Bool.true_and,if_true,Option.bind_some]
   cases h1 : decide (0 <= P.keep) && decide (P.keep <= 65535)
   ·simp
   ·cases okP P.kind P.props
    ·simp [sAdd]
    cases okT P.client
    ·simp [sAdd]
    simp only [sAdd,Bool.and_true,Bool.true_and,if_true,Option.bind_some,each_eq sWill wOk gwl will_eq]
    cases P.wills.all wOk
    ·simp
    simp only [Bool.true_and,if_true,Option.bind_some,each_eq sTx okT tx tx_eq]
    cases P.user.all okT
    ·simp
    simp only [Bool.true_and,if_true,Option.bind_some,each_eq sPass okB tx pass_eq]
    cases P.pass.all okB
    ·simp
    cases E
    ·simp [sMust]
    simp [sMust]
    rfl
 ·have e1 : (decide (P.wills.length <= 1) && decide (P.user.length <= 1) && decide (P.pass.length <= 1)) = false := by
   rw [Bool.eq_false_iff]
   intro k
   simp only [Bool.and_eq_true,decide_eq_true_eq] at k
   exact hn ⟨k.1.1,k.1.2,k.2⟩
  have e2 : (decide (P.wills.length <= 1) && (decide (P.user.length <= 1) && decide (P.pass.length <= 1))) = false := by rw [<- Bool.and_assoc]; exact e1
  rw [e1,e2]
  simp [sMust]
theorem fk_of {P : Pa} (hM : mayA P = true) : (fkA P).2 = true := by
 unfold fkA
 by_cases h : P.kind = 3
 ·rw [if_pos h]
  exact pok_of h hM
 ·rw [if_neg h]
  obtain ⟨h1,h2,-⟩ := mayA_kind hM
  by_cases h6 : P.kind = 6 \/ P.kind = 8 \/ P.kind = 10
  ·rw [if_pos h6]
  ·rw [if_neg h6]
   show (decide _ && decide _) = true
   rw [decide_eq_true h1,decide_eq_true h2]
   rfl
theorem eb_any {P : Pa} (hk : (fkA P).2 = true) : eb P = if mayA P then some (gbd P) else none := by
 unfold fkA at hk
 by_cases h : P.kind = 3
 ·rw [if_pos h] at hk
  exact eb_3 h hk
 rw [if_neg h] at hk
 have hr : 1 <= P.kind /\ P.kind <= 15 := by
  by_cases h6 : P.kind = 6 \/ P.kind = 8 \/ P.kind = 10
  ·omega
  ·rw [if_neg h6] at hk
   have hk : (decide (1 <= P.kind) && decide (P.kind <= 15)) = true := hk
   simpa using hk
 have : P.kind = 1 \/ P.kind = 2 \/ (P.kind = 4 \/ P.kind = 5 \/ P.kind = 6 \/ P.kind = 7) \/ P.kind = 8 \/ (P.kind = 9 \/ P.kind = 11) \/ P.kind = 10 \/ (P.kind = 12 \/ P.kind = 13) \/ P.kind = 14 \/ P.kind = 15 := by omega
 rcases this with h | h | h | h | h | h | h | h
 ·exact eb_1 h
 ·exact eb_2 h
 ·exact eb_4 h
 ·exact eb_8 h
 ·exact eb_9 h
 ·exact eb_10 h
 ·exact eb_12 h
 ·exact eb_14 h
theorem fb_eq {P : Pa} (hM : mayA P = true) : fb P.kind (fkA P).1 = 16 * P.kind + gfl P.kind P.dup P.qos P.retain := by
 obtain ⟨h1,h2,h3⟩ := mayA_kind hM
 unfold fkA gfl
 generalize P.dup = d
 generalize P.retain = r
 generalize P.qos = q at h3
 generalize P.kind = k at h1 h2 h3
 by_cases hk : k = 3
 ·subst hk
  have h3 : 0 <= q /\ q <= 2 := by rcases h3 with h | h; (· exact h); (· exact absurd rfl h)
  obtain ⟨h4,h5⟩ := h3
  obtain rfl | rfl | rfl : q = 0 \/ q = 1 \/ q = 2 := by omega
  all_goals cases d <;> cases r <;> decide +kernel
 ·rw [if_neg hk]
  by_cases h6 : k = 6 \/ k = 8 \/ k = 10
  ·rw [if_pos h6,if_pos h6]
   rcases h6 with rfl | rfl | rfl <;> decide +kernel
  ·rw [if_neg h6,if_neg h6,if_neg hk]
   clear h3 hM
   obtain rfl | rfl | rfl | rfl | rfl | rfl | rfl | rfl | rfl | rfl | rfl : k = 1 \/ k = 2 \/ k = 4 \/ k = 5 \/ k = 7 \/ k = 9 \/ k = 11 \/ k = 12 \/ k = 13 \/ k = 14 \/ k = 15 := by omega
   all_goals decide +kernel
theorem ebytes_eq {P : Pa} (hM : mayA P = true) : ebytes P.kind (fkA P).1 (gbd P) = gbytes P.kind (gfl P.kind P.dup P.qos P.retain) (gbd P) := by
 unfold ebytes gbytes
 rw [fb_eq hM]
def pby (P : Pa) : List Int := gbytes P.kind (gfl P.kind P.dup P.qos P.retain) (gbd P)
def EncR (P : Pa) (w : World) (e : Ending) (w' : World) : Prop := Below w.heap.size w w' /\
 ((mayA P = false /\ ∃ x,e = .returned (.tuple #[.slice none 0 0,.iface 112 x]) /\ Hid (ErP w' (.iface 112 x) 1)) \/
  (mayA P = true /\ 65536 < (pby P).length /\ ∃ x,e = .returned (.tuple #[.slice none 0 0,.iface 112 x]) /\ Hid (ErP w' (.iface 112 x) 2)) \/
  (mayA P = true /\ (pby P).length <= 65536 /\ ∃ v,e = .returned (.tuple #[v,.nilIface]) /\ Hid (Rwb w' w.heap.size v (pby P))))
theorem enc_page {w : World} {q : Pkv} {P : Pa} (hR : RPk w q P) (hB : Big P) : Calls Tryz.prog 8 #[q.val] w (EncR P w) := by
 refine (enc_any hR hB).mono fun e w' h => ⟨h.1,?_⟩
 by_cases hm : mayA P = true
 ·have hk := fk_of hm
  have he : eb P = some (gbd P) := by rw [eb_any hk,if_pos hm]
  have hb : ebytes P.kind (fkA P).1 (gbd P) = pby P := ebytes_eq hm
  rcases h.2 with ⟨h1 | h1,-⟩ | ⟨-,l,h1,h2,h3⟩ | ⟨-,l,h1,h2,v,h3,h4,h5⟩
  ·rw [hk] at h1; cases h1
  ·rw [he] at h1; cases h1
  ·rw [he] at h1
   cases h1
   rw [hb] at h2
   exact .inr (.inl ⟨hm,h2,h3⟩)
  ·rw [he] at h1
   cases h1
   rw [hb] at h2 h4 h5
   exact .inr (.inr ⟨hm,h2,v,h3,⟨uh h4,uh h5⟩⟩)
 ·have hm : mayA P = false := Bool.not_eq_true _ ▸ hm
  rcases h.2 with ⟨-,h1⟩ | ⟨hk,l,h1,-⟩ | ⟨hk,l,h1,-⟩
  ·exact .inl ⟨hm,h1⟩
  ·rw [eb_any hk,hm] at h1; cases h1
  ·rw [eb_any hk,hm] at h1; cases h1
end Go.Proofs.YtemedclhglkfjaaGreatDoor.K
