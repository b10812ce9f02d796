/- Proved here: helpers, one text behind the other. -/
import Derived.Test.YtemedclhglkfjaaGreatDoorE1
import Derived.Test.YtemedclhglkfjaaGreatDoorM37
import Derived.Test.YtemedclhglkfjaaGreatDoorM22
import Derived.Test.YtemedclhglkfjaaGreatDoorM36
namespace Go.Proofs.YtemedclhglkfjaaGreatDoor.K
open Go.RowKit
set_option maxRecDepth 100000
theorem Nms.below {w w' : World} {v : Value} {l : List Int} (h : Nms w v l) (hb : Below w.heap.size w w') : Nms w' v l := by
 obtain ⟨ao,cap,h1,h2,h3⟩ := h
 refine ⟨ao,cap,h1,h2,?_⟩
 rcases h3 with h3 | ⟨b,off,e,hc⟩
 ·exact .inl h3
 ·exact .inr ⟨b,off,e,fun j hj => (hb.cell (p := ⟨b,off + j,none⟩) (cell_lt (hc j hj))).trans (hc j hj)⟩
theorem Txs.below {w w' : World} {v : Value} {l : List ByteArray} (h : Txs w v l) (hb : Below w.heap.size w w') : Txs w' v l := by
 obtain ⟨ao,cap,h1,h2,h3⟩ := h
 refine ⟨ao,cap,h1,h2,?_⟩
 rcases h3 with h3 | ⟨b,off,e,hc⟩
 ·exact .inl h3
 ·exact .inr ⟨b,off,e,fun j hj => (hb.cell (p := ⟨b,off + j,none⟩) (cell_lt (hc j hj))).trans (hc j hj)⟩
theorem Sbs.below {w w' : World} {v : Value} {l : List Sb} (h : Sbs w v l) (hb : Below w.heap.size w w') : Sbs w' v l := by
 obtain ⟨ao,cap,h1,h2,h3⟩ := h
 refine ⟨ao,cap,h1,h2,?_⟩
 rcases h3 with h3 | ⟨b,off,e,hc⟩
 ·exact .inl h3
 ·refine .inr ⟨b,off,e,fun j hj => ?_⟩
  obtain ⟨x1,x2,x3,x4,x5⟩ := hc j hj
  have hl : b < w.heap.size := cell_lt x1
  exact ⟨(hb.cell hl).trans x1,(hb.cell hl).trans x2,(hb.cell hl).trans x3,(hb.cell hl).trans x4,(hb.cell hl).trans x5⟩
theorem Wls.below {w w' : World} {v : Value} {l : List Wl} (h : Wls w v l) (hb : Below w.heap.size w w') : Wls w' v l := by
 obtain ⟨ao,cap,h1,h2,h3⟩ := h
 refine ⟨ao,cap,h1,h2,?_⟩
 rcases h3 with h3 | ⟨b,off,e,hc⟩
 ·exact .inl h3
 ·exact .inr ⟨b,off,e,fun j hj => (hc j hj).below hb⟩
theorem tells_props {w : World} {va vb : Value} {l m : List Pr} (ha : Prp w va l) (hb : Prp w vb m) (hmx : l.length <= 1000000000) (c : Bool) (hc : c = true ↔ l = m) : Tells w 32 va vb c := fun W hW => by
 refine (eqp_any va vb l m W (ha.below hW) (hb.below hW) hmx).mono ?_
 rintro e w' ⟨⟨b,rfl,hbb⟩,k,rfl⟩
 obtain rfl : b = c := Bool.eq_iff_iff.2 (hbb.trans hc.symm)
 exact ⟨rfl,below_drewN (Below.refl _ _) k⟩
theorem tells_subs {w : World} {va vb : Value} {l m : List Sb} (ha : Sbs w va l) (hb : Sbs w vb m) (hmx : l.length <= 1000000000) (c : Bool) (hc : c = true ↔ l = m) : Tells w 35 va vb c := fun W hW => by
 refine (eqb_any va vb l m W (ha.below hW) (hb.below hW) hmx).mono ?_
 rintro e w' ⟨⟨b,rfl,hbb⟩,k,rfl⟩
 obtain rfl : b = c := Bool.eq_iff_iff.2 (hbb.trans hc.symm)
 exact ⟨rfl,below_drewN (Below.refl _ _) k⟩
theorem tells_wills {w : World} {va vb : Value} {l m : List Wl} (ha : Wls w va l) (hb : Wls w vb m) (hmx : l.length <= 1000000000) (c : Bool) (hc : c = true ↔ l = m) : Tells w 33 va vb c := fun W hW => by
 refine (eqws_any va vb l m W (ha.below hW) (hb.below hW) hmx).mono ?_
 rintro e w' ⟨⟨b,rfl,hbb⟩,hb'⟩
 obtain rfl : b = c := Bool.eq_iff_iff.2 (hbb.trans hc.symm)
 exact ⟨rfl,hb'⟩
theorem tells_strs {w : World} {va vb : Value} {l m : List ByteArray} (ha : Txs w va l) (hb : Txs w vb m) (c : Bool) (hc : c = true ↔ l = m) : Tells w 34 va vb c := fun W hW => by
 refine (eqs_any va vb l m W (ha.below hW) (hb.below hW)).mono ?_
 rintro e w' ⟨rfl,k,rfl⟩
 exact ⟨by rw [show c = decide (l = m) from Bool.eq_iff_iff.2 (hc.trans (decide_eq_true_iff).symm)],below_drewN (Below.refl _ _) k⟩
theorem tells_nums {w : World} {va vb : Value} {l m : List Int} (ha : Nms w va l) (hb : Nms w vb m) (c : Bool) (hc : c = true ↔ l = m) : Tells w 36 va vb c := fun W hW => by
 refine (eqn_any va vb l m W (ha.below hW) (hb.below hW)).mono ?_
 rintro e w' ⟨rfl,k,rfl⟩
 exact ⟨by rw [show c = decide (l = m) from Bool.eq_iff_iff.2 (hc.trans (decide_eq_true_iff).symm)],below_drewN (Below.refl _ _) k⟩
structure RPk (w : World) (p : Pkv) (P : Pa) : Prop where
 sc : p.kind = P.kind /\ p.dup = P.dup /\ p.qos = P.qos /\ p.retain = P.retain /\ p.topic = P.topic /\ p.id = P.id /\ p.payload = P.payload /\ p.client = P.client /\ p.clean = P.clean /\ p.keep = P.keep /\ p.code = P.code /\ p.session = P.session
 props : Prp w p.props.val P.props
 wills : Wls w p.wills.val P.wills
 user : Txs w p.user.val P.user
 pass : Txs w p.pass.val P.pass
 subs : Sbs w p.subs.val P.subs
 filters : Txs w p.filters.val P.filters
 codes : Nms w p.codes.val P.codes
theorem RPk.below {w w' : World} {p : Pkv} {P : Pa} (h : RPk w p P) (hb : Below w.heap.size w w') : RPk w' p P :=
 ⟨h.sc,h.props.below hb,h.wills.below hb,h.user.below hb,h.pass.below hb,h.subs.below hb,h.filters.below hb,h.codes.below hb⟩
structure Small (P : Pa) : Prop where
 props : P.props.length <= 1000000000
 wills : P.wills.length <= 1000000000
 subs : P.subs.length <= 1000000000
theorem eqpk_same (p q : Pkv) (P : Pa) (w : World) (hp : RPk w p P) (hq : RPk w q P) (hs : Small P) :
  Calls Tryz.prog 12 #[p.val,q.val] w fun e w' => e = .returned (.bool true) /\ Below w.heap.size w w' := by
 obtain ⟨x0,x1,x2,x3,x4,x5,x6,x7,x8,x9,x10,x11⟩ := hp.sc
 obtain ⟨y0,y1,y2,y3,y4,y5,y6,y7,y8,y9,y10,y11⟩ := hq.sc
 exact eqpk_yes _ _ _ _ _ _ _ _ _ _ _ _ _ _ _ _ _ _ _ _ _ _ _ _ _ _ _ _ _ _ _ _ _ _ _ _ _ _ w
  (by rw [x0,y0]; simp) (by rw [x1,y1]; simp) (by rw [x2,y2]; simp) (by rw [x3,y3]; simp) (by rw [x4,y4]; simp) (by rw [x5,y5]; simp) (by rw [x6,y6]; simp)
  (tells_props hp.props hq.props hs.props true (by simp)) (by rw [x7,y7]; simp) (by rw [x8,y8]; simp) (by rw [x9,y9]; simp) (tells_wills hp.wills hq.wills hs.wills true (by simp))
  (tells_strs hp.user hq.user true (by simp)) (tells_strs hp.pass hq.pass true (by simp)) (by rw [x10,y10]; simp) (by rw [x11,y11]; simp) (tells_subs hp.subs hq.subs hs.subs true (by simp)) (tells_strs hp.filters hq.filters true (by simp)) (tells_nums hp.codes hq.codes true (by simp))
end Go.Proofs.YtemedclhglkfjaaGreatDoor.K
