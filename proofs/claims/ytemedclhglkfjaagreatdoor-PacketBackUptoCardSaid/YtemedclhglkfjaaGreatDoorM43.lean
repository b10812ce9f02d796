/- Proved here: helpers, one text behind the other. -/
import Derived.Test.YtemedclhglkfjaaGreatDoorM42
import Derived.Test.YtemedclhglkfjaaGreatDoorM26
import Derived.Test.YtemedclhglkfjaaGreatDoorM38
import Derived.Test.YtemedclhglkfjaaGreatDoorZKTk
import Derived.Test.YtemedclhglkfjaaGreatDoorZKLoad
set_option maxHeartbeats 20000000
namespace Go.Proofs.YtemedclhglkfjaaGreatDoor.K
open Go.RowKit
set_option maxRecDepth 100000
theorem bind_bind (st : Option (List Int)) (f g : List Int -> Option (List Int)) : (st.bind f).bind g = st.bind fun t => (f t).bind g := by cases st <;> rfl
theorem or_range (a b : Int) : -9223372036854775808 <= bits .or .i64 a b /\ bits .or .i64 a b <= 9223372036854775807 := by
 unfold bits
 constructor <;> simp [IntKind.wrap,IntKind.bits,IntKind.signed] <;> omega
def opb (s : Sb) : Int := opv s.qos s.nolocal s.aspub s.handling
def sSub (s : Sb) (t : List Int) : Option (List Int) := ((sMust (opk s.qos s.handling) t).bind (sAdd (okT s.filter) (tx s.filter))).bind (sAdd (in8 (opb s)) [opb s % 256])
def Ge2 (st : Option (List Int)) : Prop := ∀ l,st = some l -> 2 <= l.length
theorem Ge2.one {st : Option (List Int)} (h : Ge2 st) : ∀ l,st = some l -> l.length ≠ 1 := fun l e => by have := h l e; omega
theorem Ge2.add {st : Option (List Int)} (h : Ge2 st) (c : Bool) (ys : List Int) : Ge2 (st.bind (sAdd c ys)) := fun l e => by
 cases st with
 | none => cases e
 | some t =>
  have := h t rfl
  cases c
  ·cases e
  ·cases e
   rw [List.length_append]
   omega
theorem Ge2.must {st : Option (List Int)} (h : Ge2 st) (c : Bool) : Ge2 (st.bind (sMust c)) := fun l e => by
 cases st with
 | none => cases e
 | some t =>
  cases c
  ·cases e
  ·cases e
   exact h _ rfl
theorem Ge2.sub {st : Option (List Int)} (h : Ge2 st) (s : Sb) : Ge2 (st.bind (sSub s)) := fun l e =>
 (((h.must (opk s.qos s.handling)).add (okT s.filter) (tx s.filter)).add (in8 (opb s)) [opb s % 256]) l (by rw [<- e]; cases st <;> rfl)
theorem sub_q {w0 w : World} {W : Nat} {p : Pkv} {st : Option (List Int)} {m : Nat} (h : WQ w0 w W p st m) (s : Sb) (hs : s.filter.size <= 4611686018427387904) (hg : Ge2 st) (hm : m <= 4611686018427300000) :
  Calls Tryz.prog 95 #[.pointer (some ⟨W,0,none⟩),s.val] w (QPost w0 W p (st.bind (sSub s)) (m + 70001) w) := by
 have HQ := zh (h.below ((Below.refl _ _).alloc (Nat.le_refl _) (.cells #[.string s.filter,.int .i64 s.qos,.bool s.nolocal,.bool s.aspub,.int .i64 s.handling] 54)))
 have HG := zh hg
 have hW := h.lt
 clear h hg
 have HE : Hid (st.bind (sSub s) = ((st.bind (sMust (opk s.qos s.handling))).bind (sAdd (okT s.filter) (tx s.filter))).bind (sAdd (in8 (opb s)) [opb s % 256])) := by show _ = _; cases st <;> rfl
 go_enter Tryz.func95,Tryz.ntmps95
 go_wp2_with fail
 refine (optionsOf_any s.filter s.qos s.nolocal s.aspub s.handling _).mono ?_
 rintro e w1 ⟨rfl,hb1⟩
 have HQ1 := zh ((uh HQ).below hb1)
 have HN1 : Hid (w1.heap[w.heap.size]? = some (.cells #[.string s.filter,.int .i64 s.qos,.bool s.nolocal,.bool s.aspub,.int .i64 s.handling] 54)) := (hb1.block _ (by simp)).trans (heap_alloc_new _ _)
 have HF1 : Hid (FT W w w1) := (FT.of_below (bal _ _)).trans (FT.of_below hb1)
 clear hb1 HQ
 go_wp2_with fail
 refine (must_q (uh HQ1) (opk s.qos s.handling)).mono ?_
 rintro e w2 ⟨rfl,hq2,hf2⟩
 have HQ2 := zh hq2
 have HN2 := zh (hf2.cell (uh HN1) (by omega) (by decide))
 have HF2 := zh ((uh HF1).trans hf2)
 have c2 : w2.cell? ⟨w.heap.size,0,none⟩ = some (.string s.filter) := by unfold World.cell?; dsimp only; rw [uh HN2]; rfl
 clear hq2 hf2 HQ1 HN1 HF1
 go_wp2_with fail
 refine (text_q (uh HQ2) s.filter hs ((uh HG).must _).one (by omega)).mono ?_
 rintro e w3 ⟨rfl,hq3,hf3⟩
 have HQ3 := zh hq3
 have HF3 := zh ((uh HF2).trans hf3)
 clear hq3 hf3 HQ2 HN2 HF2 c2
 go_wp2_with fail
 refine (one_q (uh HQ3) (opb s) (or_range _ _) (by omega)).mono ?_
 rintro e w4 ⟨rfl,hq4,hf4⟩
 have HF4 := zh ((uh HF3).trans hf4)
 have HQ4 := zh (hq4.mono (show _ <= m + 70001 from by omega))
 clear hq4 hf4 HQ3 HF3
 go_wp2
 go_end0
 exact ⟨rfl,by rw [uh HE]; exact uh HQ4,uh HF4⟩
def sEach {α : Type} (f : α -> List Int -> Option (List Int)) : List α -> List Int -> Option (List Int)
 | [],t => some t
 | a :: r,t => (f a t).bind (sEach f r)
theorem each_app {α : Type} (f : α -> List Int -> Option (List Int)) (b : α) : ∀ (l : List α) (t : List Int),sEach f (l ++ [b]) t = (sEach f l t).bind (f b)
 | [],t => by
  have k : ∀ x : Option (List Int),x.bind (sEach f []) = x := fun x => by cases x <;> rfl
  exact k _
 | a :: r,t => by
  show (f a t).bind (sEach f (r ++ [b])) = ((f a t).bind (sEach f r)).bind (f b)
  cases f a t with
  | none => rfl
  | some u => exact each_app f b r u
theorem each_snoc {α : Type} (f : α -> List Int -> Option (List Int)) (d : α) (st : Option (List Int)) (l : List α) (k : Nat) (hk : k < l.length) : st.bind (sEach f (l.take (k + 1))) = (st.bind (sEach f (l.take k))).bind (f (l.getD k d)) := by
 rw [List.take_add_one,List.getElem?_eq_getElem hk,bind_bind,List.getD_eq_getElem?_getD,List.getElem?_eq_getElem hk]
 cases st with
 | none => rfl
 | some t => exact each_app f _ _ t
theorem each_nil {α : Type} (f : α -> List Int -> Option (List Int)) (st : Option (List Int)) (l : List α) : st.bind (sEach f (l.take 0)) = st := by cases st <;> rfl
def sReason (code kind : Int) (l : List Pr) (t : List Int) : Option (List Int) :=
 if l.length = 0 then (if code = 0 then some t else sAdd (in8 code) [code % 256] t) else (sAdd (in8 code) [code % 256] t).bind (sAdd (okP kind l) (pbs l))
def GPost (w0 : World) (W : Nat) (p : Pkv) (st : Option (List Int)) (m : Nat) (e : Ending) (w' : World) : Prop := e = .returned (.tuple #[]) /\ WF w0 w' W p st m
theorem prp_n {w : World} {s : Sl} {l : List Pr} (h : Prp w s.val l) : s.n = l.length := by
 obtain ⟨ao,cap,h1,_⟩ := h
 simp only [Sl.val,Value.slice.injEq] at h1
 exact h1.2.1
theorem reason_f {w0 w : World} {W : Nat} {p : Pkv} {st : Option (List Int)} {m : Nat} (h : WQ w0 w W p st m) (l : List Pr) (hP : Prp w0 p.props.val l) (hmx : l.length <= 4398046511104) (hsm : Go.Proofs.YtemedclhglkfjaaGreatDoor.Small l) (cd : Int) (hcd : p.code = cd) (hc : -9223372036854775808 <= cd /\ cd <= 9223372036854775807) (hm : m <= 4611686018427380000) :
  Calls Tryz.prog 53 #[.pointer (some ⟨W,0,none⟩)] w (GPost w0 W p.no_code.no_props (st.bind (sReason cd p.kind l)) (m + 5000001)) := by
 have hn := prp_n hP
 have HN := zh hn
 have HQ := zh h
 have HP := zh hP
 have HCD := zh hcd
 have hsz := h.lt
 clear h hP hcd
 go_enter Tryz.func53,Tryz.ntmps53
 go_wp2_with fail
 refine wp_region_noPanic ?_
 refine wp_region_held_drew (S := fun _ => True) (by kernel_rfl) trivial (fun hHeld => ?_)
 refine rtk 0 (h := ?_)
 refine rtk 1 (h := ?_)
 refine rtk 2 (h := ?_)
 refine rtk 3 (h := ?_)
 refine rtk 5 (h := ?_)
 refine rtk 6 (h := ?_)
 refine rtk 7 (h := ?_)
 refine rtk 8 (h := ?_)
 refine rcl 4 (h := fun K hK => ?_)
 go_simp
 refine (take_code_q ((uh HQ).below (below_drewN (Below.refl _ _) 1)) cd (uh HCD)).mono ?_
 rintro e w1 ⟨rfl,hq1⟩
 have HQ1 := zh hq1
 clear hq1 HQ
 refine hK.out _ _ trivial (fun hHeld => ?_)
 clear hK K
 refine rcl 9 (h := fun K hK => ?_)
 go_simp
 refine (take_props_q (uh HQ1) p.props rfl).mono ?_
 rintro e w2 ⟨rfl,hq2⟩
 have HQ2 := zh hq2
 clear hq2 HQ1
 refine hK.out _ _ trivial (fun hHeld => ?_)
 clear hK K
 refine rtk 10 (h := ?_)
 refine rtk 11 (h := ?_)
 refine wpAnyH_done (by kernel_rfl) ?_ _
 refine NoPanic.normal ?_
 rw [show p.props.val = .slice p.props.ao p.props.n p.props.cap from rfl,hn]
 by_cases hl0 : l.length = 0
 ·have HE : Hid (∀ t,sReason cd p.kind l t = if cd = 0 then some t else sAdd (in8 cd) [cd % 256] t) := fun t => by unfold sReason; rw [if_pos hl0]
  rw [hl0]
  by_cases hc0 : cd = 0
  ·have HF : Hid (GPost w0 W p.no_code.no_props (st.bind (sReason cd p.kind l)) (m + 5000001) (.returned (.tuple #[])) w2) := by
    rw [show sReason cd p.kind l = some from funext fun t => by rw [uh HE t,if_pos hc0]]
    refine ⟨rfl,?_⟩
    have k := (uh HQ2).wf.mono (show m <= m + 5000001 from by omega)
    cases st <;> exact k
   clear HE
   subst hc0
   go_wp2
   go_end0
   exact uh HF
  ·have hcb : (cd != 0) = true := by simpa using hc0
   go_wp2_with fail
   refine (one_q (uh HQ2) cd hc (by omega)).mono ?_
   rintro e w3 ⟨rfl,hq3,-⟩
   have HF : Hid (GPost w0 W p.no_code.no_props (st.bind (sReason cd p.kind l)) (m + 5000001) (.returned (.tuple #[])) w3) := by
    rw [show sReason cd p.kind l = sAdd (in8 cd) [cd % 256] from funext fun t => by rw [uh HE t,if_neg hc0]]
    exact ⟨rfl,hq3.wf.mono (by omega)⟩
   clear hq3
   go_wp2
   go_end0
   exact uh HF
 ·have HE : Hid (∀ t,sReason cd p.kind l t = (sAdd (in8 cd) [cd % 256] t).bind (sAdd (okP p.kind l) (pbs l))) := fun t => by unfold sReason; rw [if_neg hl0]
  have hlp : 0 < l.length := by omega
  have HS := zh hsm
  clear hsm
  by_cases hc0 : cd = 0
  ·subst hc0
   go_wp2_with fail
   refine (one_q (uh HQ2) (0) hc (by omega)).mono ?_
   rintro e w3 ⟨rfl,hq3,-⟩
   have HQ3 := zh hq3
   have hk : w3.cell? ⟨W,0,none⟩ = some (.int .i64 p.kind) := hq3.pk.kind
   clear hq3 HQ2
   go_wp2_with fail
   refine (props_f (uh HQ3) _ l p.kind (by rw [<- uh HN]; exact (uh HP).below (uh HQ3).bel) hmx (uh HS) (by omega)).mono ?_
   rintro e w4 ⟨rfl,hq4,-⟩
   have HF : Hid (GPost w0 W p.no_code.no_props (st.bind (sReason (0) p.kind l)) (m + 5000001) (.returned (.tuple #[])) w4) := by
    rw [show sReason (0) p.kind l = fun t => (sAdd (in8 (0)) [(0) % 256] t).bind (sAdd (okP p.kind l) (pbs l)) from funext (uh HE),<- bind_bind]
    exact ⟨rfl,hq4.mono (by omega)⟩
   clear hq4
   go_wp2
   go_end0
   exact uh HF
  ·have hcb : (cd != 0) = true := by simpa using hc0
   go_wp2_with fail
   refine (one_q (uh HQ2) (cd) hc (by omega)).mono ?_
   rintro e w3 ⟨rfl,hq3,-⟩
   have HQ3 := zh hq3
   have hk : w3.cell? ⟨W,0,none⟩ = some (.int .i64 p.kind) := hq3.pk.kind
   clear hq3 HQ2
   go_wp2_with fail
   refine (props_f (uh HQ3) _ l p.kind (by rw [<- uh HN]; exact (uh HP).below (uh HQ3).bel) hmx (uh HS) (by omega)).mono ?_
   rintro e w4 ⟨rfl,hq4,-⟩
   have HF : Hid (GPost w0 W p.no_code.no_props (st.bind (sReason (cd) p.kind l)) (m + 5000001) (.returned (.tuple #[])) w4) := by
    rw [show sReason (cd) p.kind l = fun t => (sAdd (in8 (cd)) [(cd) % 256] t).bind (sAdd (okP p.kind l) (pbs l)) from funext (uh HE),<- bind_bind]
    exact ⟨rfl,hq4.mono (by omega)⟩
   clear hq4
   go_wp2
   go_end0
   exact uh HF
def Emp (q : Pkv) : Prop := (q.dup = false /\ q.retain = false /\ q.clean = false /\ q.session = false) /\ (q.qos = 0 /\ q.id = 0 /\ q.keep = 0 /\ q.code = 0) /\ (q.topic.size = 0 /\ q.payload.size = 0 /\ q.client.size = 0) /\ (q.props.n = 0 /\ q.wills.n = 0 /\ q.user.n = 0 /\ q.pass.n = 0 /\ q.subs.n = 0 /\ q.filters.n = 0 /\ q.codes.n = 0)
instance (q : Pkv) : Decidable (Emp q) := by unfold Emp; exact inferInstance
def emp (q : Pkv) : Bool := decide (Emp q)
structure Fit (q : Pkv) : Prop where
 nums : (-9223372036854775808 <= q.qos /\ q.qos <= 9223372036854775807) /\ (-9223372036854775808 <= q.id /\ q.id <= 9223372036854775807) /\ (-9223372036854775808 <= q.keep /\ q.keep <= 9223372036854775807) /\ (-9223372036854775808 <= q.code /\ q.code <= 9223372036854775807)
 texts : q.topic.size <= 1000000000000000000 /\ q.payload.size <= 1000000000000000000 /\ q.client.size <= 1000000000000000000
 lists : q.props.n <= 1000000000000000000 /\ q.wills.n <= 1000000000000000000 /\ q.user.n <= 1000000000000000000 /\ q.pass.n <= 1000000000000000000 /\ q.subs.n <= 1000000000000000000 /\ q.filters.n <= 1000000000000000000 /\ q.codes.n <= 1000000000000000000
theorem or_zero (a b : Int) (ha : -9223372036854775808 <= a /\ a <= 9223372036854775807) (hb : -9223372036854775808 <= b /\ b <= 9223372036854775807) : bits .or .i64 a b = 0 ↔ a = 0 /\ b = 0 := by
 constructor
 ·intro h
  have h' : IntKind.i64.wrap ((BitVec.ofInt 64 a ||| BitVec.ofInt 64 b).toNat : Int) = 0 := h
  rw [IntKind.wrap_i64] at h'
  have hlt := (BitVec.ofInt 64 a ||| BitVec.ofInt 64 b).isLt
  have h0 : (BitVec.ofInt 64 a ||| BitVec.ofInt 64 b).toNat = 0 := by omega
  rw [BitVec.toNat_or] at h0
  obtain ⟨ha0,hb0⟩ := Nat.or_eq_zero_iff.1 h0
  rw [BitVec.toNat_ofInt] at ha0 hb0
  omega
 ·rintro ⟨rfl,rfl⟩
  rfl
theorem empty_any (q : Pkv) (hf : Fit q) (w : World) : Calls Tryz.prog 55 #[q.val] w fun e w' => e = .returned (.bool (emp q)) /\ Below w.heap.size w w' := by
 obtain ⟨⟨f1,f2,f3,f4⟩,⟨t1,t2,t3⟩,l1,l2,l3,l4,l5,l6,l7⟩ := hf
 have HB : Hid (Below w.heap.size w (w.alloc (.cells q.cells.toArray 30))) := bal _ _
 have HPN := zh (pk_new w q)
 have o1 := or_zero q.qos q.id f1 f2
 have r1 := or_range q.qos q.id
 have o2 := or_zero (bits .or .i64 q.qos q.id) q.keep r1 f3
 have r2 := or_range (bits .or .i64 q.qos q.id) q.keep
 have o3 := or_zero (bits .or .i64 (bits .or .i64 q.qos q.id) q.keep) q.code r2 f4
 have HE : Hid (emp q = (!(q.dup || q.retain || q.clean || q.session) && decide (bits .or .i64 (bits .or .i64 (bits .or .i64 q.qos q.id) q.keep) q.code = 0) && decide (q.topic.size + q.payload.size + q.client.size = 0) && decide (q.props.n + q.wills.n + q.user.n + q.pass.n + q.subs.n + q.filters.n + q.codes.n = 0))) := by
  show _ = _
  unfold emp
  rw [Bool.eq_iff_iff,decide_eq_true_iff]
  unfold Emp
  simp only [decide_eq_true_iff,Bool.and_eq_true,Bool.not_eq_true',Bool.or_eq_false_iff]
  rw [o3,o2,o1]
  constructor
  ·rintro ⟨⟨a1,a2,a3,a4⟩,⟨b1,b2,b3,b4⟩,⟨c1,c2,c3⟩,d1,d2,d3,d4,d5,d6,d7⟩
   exact ⟨⟨⟨⟨⟨⟨a1,a2⟩,a3⟩,a4⟩,⟨⟨b1,b2⟩,b3⟩,b4⟩,by omega⟩,by omega⟩
  ·rintro ⟨⟨⟨⟨⟨⟨a1,a2⟩,a3⟩,a4⟩,⟨⟨b1,b2⟩,b3⟩,b4⟩,c⟩,d⟩
   exact ⟨⟨a1,a2,a3,a4⟩,⟨b1,b2,b3,b4⟩,⟨by omega,by omega,by omega⟩,by omega,by omega,by omega,by omega,by omega,by omega,by omega⟩
 clear o1 o2 o3 r1 r2 f1 f2 f3 f4
 obtain ⟨k0,k1,k2,k3,k4,k5,k6,k7,k8,k9,k10,k11,k12,k13,k14,k15,k16,k17,k18⟩ := (⟨(uh HPN).kind,(uh HPN).dup,(uh HPN).qos,(uh HPN).retain,(uh HPN).topic,(uh HPN).id,(uh HPN).payload,(uh HPN).props,(uh HPN).client,(uh HPN).clean,(uh HPN).keep,(uh HPN).wills,(uh HPN).user,(uh HPN).pass,(uh HPN).code,(uh HPN).session,(uh HPN).subs,(uh HPN).filters,(uh HPN).codes⟩ : _ /\ _ /\ _ /\ _ /\ _ /\ _ /\ _ /\ _ /\ _ /\ _ /\ _ /\ _ /\ _ /\ _ /\ _ /\ _ /\ _ /\ _ /\ _)
 clear HPN k0
 go_enter Tryz.func55,Tryz.ntmps55
 go_upto_region 1 with fail
 change Code.wp _ _ _ _ (w.alloc (.cells q.cells.toArray 30))
 generalize w.alloc (.cells q.cells.toArray 30) = w1 at *
 generalize hN : bits .or .i64 (bits .or .i64 (bits .or .i64 q.qos q.id) q.keep) q.code = N at HE
 generalize q.dup = b1 at k1 HE
 generalize q.retain = b2 at k3 HE
 generalize q.clean = b3 at k9 HE
 generalize q.session = b4 at k15 HE
 cases b1
 ·cases b2
  ·cases b3
   ·cases b4
    ·by_cases hn : N = 0
     ·subst hn
      by_cases ht : q.topic.size + q.payload.size + q.client.size = 0
      ·have ht' : ((q.topic.size : Int) + (q.payload.size : Int) + (q.client.size : Int) == 0) = true := by simp; omega
       by_cases hl : q.props.n + q.wills.n + q.user.n + q.pass.n + q.subs.n + q.filters.n + q.codes.n = 0
       ·have hl' : ((q.props.n : Int) + (q.wills.n : Int) + (q.user.n : Int) + (q.pass.n : Int) + (q.subs.n : Int) + (q.filters.n : Int) + (q.codes.n : Int) == 0) = true := by simp; omega
        have HR : Hid (emp q = true) := by show _ = _; rw [uh HE,ht,hl]; rfl
        clear HE ht hl
        go_wp2
        go_ret
        exact ⟨by rw [uh HR]; rfl,uh HB⟩
       ·have hl' : ((q.props.n : Int) + (q.wills.n : Int) + (q.user.n : Int) + (q.pass.n : Int) + (q.subs.n : Int) + (q.filters.n : Int) + (q.codes.n : Int) == 0) = false := by simp; omega
        have HR : Hid (emp q = false) := by show _ = _; rw [uh HE,ht,decide_eq_false hl]; rfl
        clear HE ht hl
        go_wp2
        go_ret
        exact ⟨by rw [uh HR]; rfl,uh HB⟩
      ·have ht' : ((q.topic.size : Int) + (q.payload.size : Int) + (q.client.size : Int) == 0) = false := by simp; omega
       have HR : Hid (emp q = false) := by show _ = _; rw [uh HE,decide_eq_false ht]; rfl
       clear HE ht
       go_wp2
       go_ret
       exact ⟨by rw [uh HR]; rfl,uh HB⟩
     ·have hn' : (N == 0) = false := beq_false_of_ne hn
      have HR : Hid (emp q = false) := by show _ = _; rw [uh HE,decide_eq_false hn]; rfl
      clear HE hn
      go_wp2
      go_ret
      exact ⟨by rw [uh HR]; rfl,uh HB⟩
    ·have HR : Hid (emp q = false) := by show _ = _; rw [uh HE]; rfl
     clear HE
     go_wp2
     go_ret
     exact ⟨by rw [uh HR]; rfl,uh HB⟩
   ·have HR : Hid (emp q = false) := by show _ = _; rw [uh HE]; rfl
    clear HE
    go_wp2
    go_ret
    exact ⟨by rw [uh HR]; rfl,uh HB⟩
  ·have HR : Hid (emp q = false) := by show _ = _; rw [uh HE]; rfl
   clear HE
   go_wp2
   go_ret
   exact ⟨by rw [uh HR]; rfl,uh HB⟩
 ·have HR : Hid (emp q = false) := by show _ = _; rw [uh HE]; rfl
  clear HE
  go_wp2
  go_ret
  exact ⟨by rw [uh HR]; rfl,uh HB⟩
theorem Fit.no_qos {q : Pkv} (h : Fit q) : Fit q.no_qos := by
 obtain ⟨⟨a1,a2,a3,a4⟩,⟨b1,b2,b3⟩,c1,c2,c3,c4,c5,c6,c7⟩ := h
 refine ⟨⟨?_,?_,?_,?_⟩,⟨?_,?_,?_⟩,?_,?_,?_,?_,?_,?_,?_⟩ <;> first | assumption | exact Nat.zero_le _ | exact (show (-9223372036854775808 : Int) <= 0 /\ (0 : Int) <= 9223372036854775807 from ⟨by decide,by decide⟩)
theorem Fit.no_topic {q : Pkv} (h : Fit q) : Fit q.no_topic := by
 obtain ⟨⟨a1,a2,a3,a4⟩,⟨b1,b2,b3⟩,c1,c2,c3,c4,c5,c6,c7⟩ := h
 refine ⟨⟨?_,?_,?_,?_⟩,⟨?_,?_,?_⟩,?_,?_,?_,?_,?_,?_,?_⟩ <;> first | assumption | exact Nat.zero_le _ | exact (show (-9223372036854775808 : Int) <= 0 /\ (0 : Int) <= 9223372036854775807 from ⟨by decide,by decide⟩)
theorem Fit.no_id {q : Pkv} (h : Fit q) : Fit q.no_id := by
 obtain ⟨⟨a1,a2,a3,a4⟩,⟨b1,b2,b3⟩,c1,c2,c3,c4,c5,c6,c7⟩ := h
 refine ⟨⟨?_,?_,?_,?_⟩,⟨?_,?_,?_⟩,?_,?_,?_,?_,?_,?_,?_⟩ <;> first | assumption | exact Nat.zero_le _ | exact (show (-9223372036854775808 : Int) <= 0 /\ (0 : Int) <= 9223372036854775807 from ⟨by decide,by decide⟩)
theorem Fit.no_payload {q : Pkv} (h : Fit q) : Fit q.no_payload := by
 obtain ⟨⟨a1,a2,a3,a4⟩,⟨b1,b2,b3⟩,c1,c2,c3,c4,c5,c6,c7⟩ := h
 refine ⟨⟨?_,?_,?_,?_⟩,⟨?_,?_,?_⟩,?_,?_,?_,?_,?_,?_,?_⟩ <;> first | assumption | exact Nat.zero_le _ | exact (show (-9223372036854775808 : Int) <= 0 /\ (0 : Int) <= 9223372036854775807 from ⟨by decide,by decide⟩)
theorem Fit.no_props {q : Pkv} (h : Fit q) : Fit q.no_props := by
 obtain ⟨⟨a1,a2,a3,a4⟩,⟨b1,b2,b3⟩,c1,c2,c3,c4,c5,c6,c7⟩ := h
 refine ⟨⟨?_,?_,?_,?_⟩,⟨?_,?_,?_⟩,?_,?_,?_,?_,?_,?_,?_⟩ <;> first | assumption | exact Nat.zero_le _ | exact (show (-9223372036854775808 : Int) <= 0 /\ (0 : Int) <= 9223372036854775807 from ⟨by decide,by decide⟩)
theorem Fit.no_client {q : Pkv} (h : Fit q) : Fit q.no_client := by
 obtain ⟨⟨a1,a2,a3,a4⟩,⟨b1,b2,b3⟩,c1,c2,c3,c4,c5,c6,c7⟩ := h
 refine ⟨⟨?_,?_,?_,?_⟩,⟨?_,?_,?_⟩,?_,?_,?_,?_,?_,?_,?_⟩ <;> first | assumption | exact Nat.zero_le _ | exact (show (-9223372036854775808 : Int) <= 0 /\ (0 : Int) <= 9223372036854775807 from ⟨by decide,by decide⟩)
theorem Fit.no_keep {q : Pkv} (h : Fit q) : Fit q.no_keep := by
 obtain ⟨⟨a1,a2,a3,a4⟩,⟨b1,b2,b3⟩,c1,c2,c3,c4,c5,c6,c7⟩ := h
 refine ⟨⟨?_,?_,?_,?_⟩,⟨?_,?_,?_⟩,?_,?_,?_,?_,?_,?_,?_⟩ <;> first | assumption | exact Nat.zero_le _ | exact (show (-9223372036854775808 : Int) <= 0 /\ (0 : Int) <= 9223372036854775807 from ⟨by decide,by decide⟩)
theorem Fit.no_wills {q : Pkv} (h : Fit q) : Fit q.no_wills := by
 obtain ⟨⟨a1,a2,a3,a4⟩,⟨b1,b2,b3⟩,c1,c2,c3,c4,c5,c6,c7⟩ := h
 refine ⟨⟨?_,?_,?_,?_⟩,⟨?_,?_,?_⟩,?_,?_,?_,?_,?_,?_,?_⟩ <;> first | assumption | exact Nat.zero_le _ | exact (show (-9223372036854775808 : Int) <= 0 /\ (0 : Int) <= 9223372036854775807 from ⟨by decide,by decide⟩)
theorem Fit.no_user {q : Pkv} (h : Fit q) : Fit q.no_user := by
 obtain ⟨⟨a1,a2,a3,a4⟩,⟨b1,b2,b3⟩,c1,c2,c3,c4,c5,c6,c7⟩ := h
 refine ⟨⟨?_,?_,?_,?_⟩,⟨?_,?_,?_⟩,?_,?_,?_,?_,?_,?_,?_⟩ <;> first | assumption | exact Nat.zero_le _ | exact (show (-9223372036854775808 : Int) <= 0 /\ (0 : Int) <= 9223372036854775807 from ⟨by decide,by decide⟩)
theorem Fit.no_pass {q : Pkv} (h : Fit q) : Fit q.no_pass := by
 obtain ⟨⟨a1,a2,a3,a4⟩,⟨b1,b2,b3⟩,c1,c2,c3,c4,c5,c6,c7⟩ := h
 refine ⟨⟨?_,?_,?_,?_⟩,⟨?_,?_,?_⟩,?_,?_,?_,?_,?_,?_,?_⟩ <;> first | assumption | exact Nat.zero_le _ | exact (show (-9223372036854775808 : Int) <= 0 /\ (0 : Int) <= 9223372036854775807 from ⟨by decide,by decide⟩)
theorem Fit.no_code {q : Pkv} (h : Fit q) : Fit q.no_code := by
 obtain ⟨⟨a1,a2,a3,a4⟩,⟨b1,b2,b3⟩,c1,c2,c3,c4,c5,c6,c7⟩ := h
 refine ⟨⟨?_,?_,?_,?_⟩,⟨?_,?_,?_⟩,?_,?_,?_,?_,?_,?_,?_⟩ <;> first | assumption | exact Nat.zero_le _ | exact (show (-9223372036854775808 : Int) <= 0 /\ (0 : Int) <= 9223372036854775807 from ⟨by decide,by decide⟩)
theorem Fit.no_session {q : Pkv} (h : Fit q) : Fit q.no_session := by
 obtain ⟨⟨a1,a2,a3,a4⟩,⟨b1,b2,b3⟩,c1,c2,c3,c4,c5,c6,c7⟩ := h
 refine ⟨⟨?_,?_,?_,?_⟩,⟨?_,?_,?_⟩,?_,?_,?_,?_,?_,?_,?_⟩ <;> first | assumption | exact Nat.zero_le _ | exact (show (-9223372036854775808 : Int) <= 0 /\ (0 : Int) <= 9223372036854775807 from ⟨by decide,by decide⟩)
theorem Fit.no_subs {q : Pkv} (h : Fit q) : Fit q.no_subs := by
 obtain ⟨⟨a1,a2,a3,a4⟩,⟨b1,b2,b3⟩,c1,c2,c3,c4,c5,c6,c7⟩ := h
 refine ⟨⟨?_,?_,?_,?_⟩,⟨?_,?_,?_⟩,?_,?_,?_,?_,?_,?_,?_⟩ <;> first | assumption | exact Nat.zero_le _ | exact (show (-9223372036854775808 : Int) <= 0 /\ (0 : Int) <= 9223372036854775807 from ⟨by decide,by decide⟩)
theorem Fit.no_filters {q : Pkv} (h : Fit q) : Fit q.no_filters := by
 obtain ⟨⟨a1,a2,a3,a4⟩,⟨b1,b2,b3⟩,c1,c2,c3,c4,c5,c6,c7⟩ := h
 refine ⟨⟨?_,?_,?_,?_⟩,⟨?_,?_,?_⟩,?_,?_,?_,?_,?_,?_,?_⟩ <;> first | assumption | exact Nat.zero_le _ | exact (show (-9223372036854775808 : Int) <= 0 /\ (0 : Int) <= 9223372036854775807 from ⟨by decide,by decide⟩)
theorem Fit.no_codes {q : Pkv} (h : Fit q) : Fit q.no_codes := by
 obtain ⟨⟨a1,a2,a3,a4⟩,⟨b1,b2,b3⟩,c1,c2,c3,c4,c5,c6,c7⟩ := h
 refine ⟨⟨?_,?_,?_,?_⟩,⟨?_,?_,?_⟩,?_,?_,?_,?_,?_,?_,?_⟩ <;> first | assumption | exact Nat.zero_le _ | exact (show (-9223372036854775808 : Int) <= 0 /\ (0 : Int) <= 9223372036854775807 from ⟨by decide,by decide⟩)
theorem Fit.no_dup {q : Pkv} (h : Fit q) : Fit q.no_dup := by
 obtain ⟨⟨a1,a2,a3,a4⟩,⟨b1,b2,b3⟩,c1,c2,c3,c4,c5,c6,c7⟩ := h
 refine ⟨⟨?_,?_,?_,?_⟩,⟨?_,?_,?_⟩,?_,?_,?_,?_,?_,?_,?_⟩ <;> first | assumption | exact Nat.zero_le _ | exact (show (-9223372036854775808 : Int) <= 0 /\ (0 : Int) <= 9223372036854775807 from ⟨by decide,by decide⟩)
theorem Fit.no_retain {q : Pkv} (h : Fit q) : Fit q.no_retain := by
 obtain ⟨⟨a1,a2,a3,a4⟩,⟨b1,b2,b3⟩,c1,c2,c3,c4,c5,c6,c7⟩ := h
 refine ⟨⟨?_,?_,?_,?_⟩,⟨?_,?_,?_⟩,?_,?_,?_,?_,?_,?_,?_⟩ <;> first | assumption | exact Nat.zero_le _ | exact (show (-9223372036854775808 : Int) <= 0 /\ (0 : Int) <= 9223372036854775807 from ⟨by decide,by decide⟩)
theorem Fit.no_clean {q : Pkv} (h : Fit q) : Fit q.no_clean := by
 obtain ⟨⟨a1,a2,a3,a4⟩,⟨b1,b2,b3⟩,c1,c2,c3,c4,c5,c6,c7⟩ := h
 refine ⟨⟨?_,?_,?_,?_⟩,⟨?_,?_,?_⟩,?_,?_,?_,?_,?_,?_,?_⟩ <;> first | assumption | exact Nat.zero_le _ | exact (show (-9223372036854775808 : Int) <= 0 /\ (0 : Int) <= 9223372036854775807 from ⟨by decide,by decide⟩)
theorem WF.below {w0 w w' : World} {W : Nat} {p : Pkv} {st : Option (List Int)} {m : Nat} (h : WF w0 w W p st m) (hb : Below w.heap.size w w') : WF w0 w' W p st m := by
 obtain ⟨h1,h2,h3,bv,sz,T,E,h4,h5,h6,h7⟩ := h
 refine ⟨h1.trans (hb.mono h1.size),h2,h3.below hb,bv,sz,T,E,h4.below hb,h5,h6,?_⟩
 cases st with
 | none => obtain ⟨d,n,hd,he⟩ := h7; exact ⟨d,n,hd,ErO.bx (X := fun b => b = W) (may := isAny) (BX.of_below hb (cell_lt h3.kind)) rfl he⟩
 | some l => exact h7
theorem SgF.ev {w : World} {W : Nat} {sz : Nat} {T : List Int} {E : Value} {st : Option (List Int)} (h : SgF w W sz T E st) : EV E := by
 cases st with
 | none => obtain ⟨d,n,hd,he⟩ := h; exact .inr he.iface
 | some l => exact .inl h.1
theorem must_f {w0 w : World} {W : Nat} {p : Pkv} {st : Option (List Int)} {m : Nat} (h : WF w0 w W p st m) (c : Bool) : Calls Tryz.prog 54 #[.pointer (some ⟨W,0,none⟩),.bool c] w (GPost w0 W p (st.bind (sMust c)) m) := by
 obtain ⟨h1,h2,h3,bv,sz,T,E,h4,h5,h6,h7⟩ := h
 refine (wmust_gen W bv E sz c w h4.wt h7.ev).mono ?_
 rintro r w' ⟨rfl,k1,k2,k3⟩
 have hF : FW W bv.ownBlock w w' := FW.of_bx k2 (fun j (e : j = 21) => by subst e; decide)
 refine ⟨rfl,hF.below h1 h2 (fun g e => by have := ws_rows h4 g e; omega),h2,h3.fw hF,bv,sz,T,_,h4.bx k2 k1,h5,h6,?_⟩
 cases st with
 | none =>
  obtain ⟨d,n,hd,he⟩ := h7
  obtain ⟨t,x,rfl⟩ := he.iface
  rw [mst_if]
  exact ⟨d,n,hd,ErO.bx (X := fun b => b = W) k2 rfl he⟩
 | some l =>
  obtain ⟨rfl,k⟩ := h7
  cases c
  ·exact ⟨0,1,by omega,rfl⟩
  ·exact ⟨rfl,k⟩
end Go.Proofs.YtemedclhglkfjaaGreatDoor.K
