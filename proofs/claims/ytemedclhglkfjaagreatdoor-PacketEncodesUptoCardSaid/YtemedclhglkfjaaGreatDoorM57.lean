/- Proved here: helpers, one text behind the other. -/
import Derived.Test.YtemedclhglkfjaaGreatDoorA1
import Derived.Test.YtemedclhglkfjaaGreatDoorM53
import Derived.Test.YtemedclhglkfjaaGreatDoorA2
import Derived.Deep.CutRange
set_option maxHeartbeats 20000000
namespace Go.Proofs.YtemedclhglkfjaaGreatDoor.K.W
open Go.RowKit
open Go.Proofs.YtemedclhglkfjaaGreatDoor.K
set_option maxRecDepth 100000
structure Sm (P : Pa) : Prop where
 user : P.user.length <= 8000
 pass : P.pass.length <= 8000
 filters : P.filters.length <= 8000
 codes : P.codes.length <= 80000
def Hs (c : Bool) (P : Pa) : Prop := c = false -> Sm P
def HvPost (P : Pa) (w : World) (e : Ending) (w' : World) : Prop := ∃ bo : Bool,e = .returned (.bool bo) /\ Hid (Hs bo P) /\ Below w.heap.size w w'
theorem hv_any (q : Pkv) (P : Pa) (w : World) (hR : RPk w q P) (hU : Ub P) : Calls Tryz.prog 5 #[q.val] w (HvPost P w) := by
 have HW : Hid (∀ W,Below w.heap.size w W -> Calls Tryz.prog 6 #[.agg q.cells.toArray] W (WtPost P W)) := fun W hW => wt_any q P W (hR.below hW) hU
 have HBA : Hid (Below w.heap.size w (w.alloc (.cells q.cells.toArray 30))) := bal _ _
 have HP := zh (pk_new w q)
 have m7 : q.props.n <= 1048576 := by rw [hR.cnt.ns.1]; exact hU.props.1
 clear hR hU
 go_enter Tryz.func5,Tryz.ntmps5
 go_upto_region 1 with fail
 change Code.wp _ _ _ _ (w.alloc (.cells q.cells.toArray 30))
 generalize w.alloc (.cells q.cells.toArray 30) = wa at HBA HP |-
 go_step
 refine wpList_load_mid rfl 30 _ rfl w.heap.size 0 rfl q.cells _ (uh HP).range Tryz.underlying30 rfl packet_size ?_
 simp only [Act.put,List.setIfInBounds_toArray,List.set_cons_zero,List.set_cons_succ]
 go_wp2_with fail
 refine ((uh HW) wa (uh HBA)).mono ?_
 rintro e w2 ⟨N,rfl,hN1,hN2,hb2⟩
 have c7 := ((uh HP).below hb2).props
 have HB2 : Hid (Below w.heap.size w w2) := bnk (uh HBA) hb2
 have HSM : Hid (¬ 80000 < N -> Sm P) := fun h => ⟨by omega,by omega,by omega,by omega⟩
 clear hN1 hb2 HP
 by_cases h8 : 80000 < N
 ·go_wp2
  go_ret
  exact ⟨_,rfl,(fun h => by cases h),uh HB2⟩
 ·by_cases h2 : 200 < q.props.n
  ·go_wp2
   go_ret
   exact ⟨_,rfl,(fun _ => (uh HSM) h8),uh HB2⟩
  ·go_wp2
   go_ret
   exact ⟨_,rfl,(fun _ => (uh HSM) h8),uh HB2⟩
theorem small_of {l : List Pr} (h : UbP l) : Go.Proofs.YtemedclhglkfjaaGreatDoor.Small l := fun k hk => by have := h.2 k hk; omega
theorem big_of {P : Pa} (h : Ok P) (s : Sm P) : Big P := by
 have hu := h.ub
 refine ⟨h.nums,⟨by have := hu.texts; omega,by have := hu.texts; omega,by have := hu.texts; omega⟩,⟨by have := h.props; omega,by have := h.wills; omega,by have := s.user; omega,by have := s.pass; omega,by have := h.subs; omega,by have := s.filters; omega,by have := s.codes; omega⟩,small_of hu.props,fun k hk => ?_,fun k hk => by have := hu.user.2 k hk; omega,fun k hk => by have := hu.subs.2 k hk; omega,fun k hk => by have := hu.filters.2 k hk; omega,h.codes⟩
 obtain ⟨h1,h2,h3⟩ := hu.wills.2 k hk
 exact ⟨by omega,by have := h.wprops k hk; omega,small_of h3⟩
theorem mid_of {P : Pa} (h : Ok P) (s : Sm P) : Mid P := by
 have hu := h.ub
 refine ⟨big_of h s,by have := h.props; omega,fun k hk => ?_,fun k hk => by have := hu.pass.2 k hk; omega⟩
 obtain ⟨h1,h2,h3⟩ := hu.wills.2 k hk
 exact ⟨by have := h.wprops k hk; omega,by omega⟩
theorem cp_of {P : Pa} (h : Ok P) (s : Sm P) : CpOk P :=
 ⟨by have := h.props; omega,⟨by have := h.wills; omega,fun k hk => by have := h.wprops k hk; omega⟩,by have := s.user; omega,by have := s.pass; omega,by have := h.subs; omega,by have := s.filters; omega,by have := s.codes; omega⟩
theorem sml_of {P : Pa} (h : Ok P) : Small P := ⟨by have := h.props; omega,by have := h.wills; omega,by have := h.subs; omega⟩
def eN (P : Pa) : Int := if mayA P = true then (if (pby P).length <= 65536 then 0 else 2) else 1
def eB (P : Pa) : List Int := if mayA P = true /\ (pby P).length <= 65536 then pby P else []
theorem nil_byt (w : World) : Byt w (.slice none 0 0) [] := ⟨none,0,rfl,⟨by simp,by simp⟩,by intro j; simp,.inl rfl⟩
theorem ErP.xx {w : World} {E : Value} {n : Int} (h : ErP w E n) : ErrX w E n := by
 obtain ⟨x,d,_,hd,he⟩ := h
 exact .inr ⟨d,hd,he⟩
theorem enc_uni {w : World} {q : Pkv} {P : Pa} (hR : RPk w q P) (hB : Big P) : Calls Tryz.prog 8 #[q.val] w fun e w' => ∃ v E,e = .returned (.tuple #[v,E]) /\ Hid (Byt w' v (eB P)) /\ Hid (ErrX w' E (eN P)) /\ Below w.heap.size w w' := by
 refine (enc_page hR hB).mono ?_
 rintro e w' ⟨hb,⟨hm,x,rfl,hE⟩ | ⟨hm,hl,x,rfl,hE⟩ | ⟨hm,hl,v,rfl,hv⟩⟩
 ·have e1 : eN P = 1 := by unfold eN; rw [if_neg (by rw [hm]; decide)]
  have e2 : eB P = [] := by unfold eB; rw [if_neg (by rw [hm]; simp)]
  refine ⟨_,_,rfl,?_,?_,hb⟩
  ·rw [e2]; exact nil_byt _
  ·rw [e1]; exact ErP.xx (uh hE)
 ·have e1 : eN P = 2 := by unfold eN; rw [if_pos hm,if_neg (by omega)]
  have e2 : eB P = [] := by unfold eB; rw [if_neg (by omega)]
  refine ⟨_,_,rfl,?_,?_,hb⟩
  ·rw [e2]; exact nil_byt _
  ·rw [e1]; exact ErP.xx (uh hE)
 ·have e1 : eN P = 0 := by unfold eN; rw [if_pos hm,if_pos hl]
  have e2 : eB P = pby P := by unfold eB; rw [if_pos ⟨hm,hl⟩]
  refine ⟨_,_,rfl,?_,?_,hb⟩
  ·rw [e2]; exact (uh hv).byt
  ·rw [e1]; exact .inl ⟨rfl,rfl⟩
theorem genc_uni {w : World} {q : Pkv} {P : Pa} (hR : RPk w q P) (hM : Mid P) (hpy : P.payload.size <= 1073741824) : Calls Tryz.prog 9 #[q.val] w fun e w' => ∃ v,e = .returned (.tuple #[v,.int .i64 (eN P)]) /\ Hid (Byt w' v (eB P)) /\ Below w.heap.size w w' := by
 refine (genc_any hR hM hpy).mono ?_
 rintro e w' ⟨hb,⟨hm,rfl⟩ | ⟨hm,hl,rfl⟩ | ⟨hm,hl,v,rfl,hv⟩⟩
 ·have e1 : eN P = 1 := by unfold eN; rw [if_neg (by rw [hm]; decide)]
  have e2 : eB P = [] := by unfold eB; rw [if_neg (by rw [hm]; simp)]
  refine ⟨_,by rw [e1],?_,hb⟩
  rw [e2]; exact nil_byt _
 ·have e1 : eN P = 2 := by unfold eN pby; rw [if_pos hm,if_neg (by omega)]
  have e2 : eB P = [] := by unfold eB pby; rw [if_neg (by omega)]
  refine ⟨_,by rw [e1],?_,hb⟩
  rw [e2]; exact nil_byt _
 ·have e1 : eN P = 0 := by unfold eN pby; rw [if_pos hm,if_pos hl]
  have e2 : eB P = pby P := by unfold eB pby; rw [if_pos ⟨hm,hl⟩]
  refine ⟨_,by rw [e1],?_,hb⟩
  rw [e2]; exact (uh hv).byt
end Go.Proofs.YtemedclhglkfjaaGreatDoor.K.W
namespace Go.Proofs.YtemedclhglkfjaaGreatDoor.K.W
open Go.RowKit
open Go.Proofs.YtemedclhglkfjaaGreatDoor.K
set_option maxRecDepth 100000
theorem range_bel {w w' : World} {b o : Nat} {cs : List Value} (h : w.rangeAt b o cs) (hb : Below w.heap.size w w') : w'.rangeAt b o cs := fun j v hj => (hb.cell (p := ⟨b,o + j,none⟩) (cell_lt (h j v hj))).trans (h j v hj)
def AskP (w : World) (b p : Nat) (q : Pkv) (P : Pa) : Prop := w.rangeAt b p q.cells /\ RPk w q P /\ Ok P
theorem encodes_walk (b off len cap : Nat) (qs : Nat -> Pkv) (Ps : Nat -> Pa) (w : World) (_hlen : len <= maxLen) (hg : Laid w) (hc : ∀ k,k < len -> AskP w b (off + k * 20) (qs k) (Ps k)) :
  Calls Tryz.prog 3 #[.slice (some ⟨b,off,none⟩) len cap] w fun e w' => e = .returned (.bool true) /\ Below w.heap.size w w' := by
 unfold maxLen at _hlen
 have HC := zh hc
 have HG := zh hg
 clear hc hg
 go_enter Tryz.func3,Tryz.ntmps3
 go_wp2
 go_loopw [3] (fun i wr => ∃ k : Nat,k <= len /\ k <= 10 /\ i = .int .i64 k /\ Below w.heap.size w wr) (fun i _ => 10 - (intOf i).toNat)
 case atStart => exact ⟨0,Nat.zero_le _,by omega,rfl,Below.refl _ _⟩
 case round =>
  obtain ⟨k,hk,hk10,rfl,hbel⟩ := hrel
  by_cases hlt : k < len /\ k < 10
  ·obtain ⟨hlt,hlt10⟩ := hlt
   obtain ⟨hra,hrp,hok⟩ := (uh HC) k hlt
   generalize qs k = q at hra hrp
   generalize Ps k = P at hrp hok
   have hsz := hbel.size
   have HD : Hid (∀ W,Below wr.heap.size wr W -> W.rangeAt b (off + k * 20) q.cells /\ RPk W q P /\ Laid W /\ Below w.heap.size w W) := fun W hW => by
    have hb2 := hbel.trans (hW.mono hsz)
    exact ⟨range_bel hra hb2,hrp.below hb2,(uh HG).below hb2 (uh HG).pos,hb2⟩
   have HOK := zh hok
   have HBEL := zh hbel
   clear hra hrp hok hbel
   go_upto_region 4 with fail
   go_cut [37] from 9 to 77 (fun s37 wx => ∃ c : Bool,s37 = .bool c /\ Hid (Hs c P) /\ Hid (Below wr.heap.size wr wx))
   case first =>
    iterate 13 go_step
    refine wpList_load_mid rfl 30 _ rfl b (off + k * 20) rfl q.cells _ ((uh HD) _ (Below.refl _ _)).1 Tryz.underlying30 rfl packet_size ?_
    simp only [Act.put,List.setIfInBounds_toArray,List.set_cons_zero,List.set_cons_succ]
    go_wp2_with fail
    refine (hv_any q P _ ((uh HD) _ (Below.refl _ _)).2.1 (uh HOK).ub).mono ?_
    rintro e w2 ⟨bo,rfl,hsm,hb2⟩
    cases bo
    ·by_cases hk2 : 2 < k
     ·have hk2' : (2 : Int) < (k : Int) := by omega
      dsimp only
      iterate 18 go_step
      refine mpList_wanted (by rfl) fun K hK => wp_load_mid 30 _ rfl b (off + k * 20) rfl q.cells _ ((uh HD) _ hb2).1 Tryz.underlying30 rfl packet_size (hK _ _ ?_)
      clear hK K
      simp only [Act.put,List.setIfInBounds_toArray,List.set_cons_zero,List.set_cons_succ]
      go_wp2_with fail
      refine (wt_any q P _ ((uh HD) _ hb2).2.1 (uh HOK).ub).mono ?_
      rintro e w3 ⟨N,rfl,-,hN2,hb3⟩
      have HB3 : Hid (Below wr.heap.size wr w3) := bnk hb2 hb3
      clear hb3
      by_cases h6 : 6000 < N
      ·go_wp2
       go_meet
       case rel => exact ⟨_,rfl,(fun h => by cases h),HB3⟩
      ·go_wp2
       go_meet
       case rel => exact ⟨_,rfl,by rw [decide_eq_false (by omega : ¬ 6000 < N)]; exact hsm,HB3⟩
     ·go_wp2
      go_meet
      case rel => exact ⟨_,rfl,hsm,hb2⟩
    ·go_wp2
     go_meet
     case rel => exact ⟨_,rfl,(fun h => by cases h),hb2⟩
   case rest =>
   obtain ⟨c,rfl,hsm,HBC⟩ := hcut
   cases c
   rotate_left
   ·have HBF := zh ((uh HD) _ (uh HBC)).2.2.2
    go_wp2
    go_ret
    exact ⟨rfl,uh HBF⟩
   have HSM : Hid (Sm P) := (uh hsm) rfl
   clear hsm
   go_upto_region 6 with fail
   iterate 13 go_step
   refine wpList_load_mid rfl 30 _ rfl b (off + k * 20) rfl q.cells _ ((uh HD) _ (uh HBC)).1 Tryz.underlying30 rfl packet_size ?_
   simp only [Act.put,List.setIfInBounds_toArray,List.set_cons_zero,List.set_cons_succ]
   go_wp2_with fail
   refine (cpp_any q P wc ((uh HD) _ (uh HBC)).2.1 (cp_of (uh HOK) (uh HSM))).mono ?_
   rintro e w3 ⟨q2,rfl,hR2,hb3⟩
   have HC3 : Hid (Below wr.heap.size wr w3) := bnk (uh HBC) hb3
   have HR3 := hR2
   clear hb3 hR2
   dsimp only
   go_step
   refine Go.Proofs.YtemedclhglkfjaaGreatDoor.wpList_value rfl (mpacket_alloc _ _ _ _ _ _) ?_
   simp only [Act.put,List.setIfInBounds_toArray,List.set_cons_zero,List.set_cons_succ]
   refine Go.Proofs.YtemedclhglkfjaaGreatDoor.wpList_skip rfl (mpacket_store _ _ _ _ _ _ _ q2 _ rfl rfl) ?_
   simp only [Act.put]
   have HA4 : Hid (Below w3.heap.size w3 (w3.alloc (.cells q2.cells.toArray 30))) := bal _ _
   have HP4 := zh (pk_new w3 q2)
   obtain ⟨B4,hB4⟩ : ∃ B4,B4 = w3.heap.size := ⟨_,rfl⟩
   rw [<- hB4] at HP4 |-
   clear hB4
   generalize w3.alloc (.cells q2.cells.toArray 30) = w4 at HA4 HP4 |-
   have HR4 : Hid (RPk w4 q2 P) := (uh HR3).below (uh HA4)
   have HC4 : Hid (Below wr.heap.size wr w4) := bnk (uh HC3) (uh HA4)
   clear HR3 HC3 HA4
   go_upto_region 7 with fail
   go_step
   refine wpList_load_mid rfl 30 _ rfl B4 0 rfl q2.cells _ (uh HP4).range Tryz.underlying30 rfl packet_size ?_
   simp only [Act.put,List.setIfInBounds_toArray,List.set_cons_zero,List.set_cons_succ]
   go_wp2_with fail
   refine (enc_uni (uh HR4) (big_of (uh HOK) (uh HSM))).mono ?_
   rintro e w5 ⟨v5,E5,rfl,hv5,hE5,hb5⟩
   have HR5 : Hid (RPk w5 q2 P) := (uh HR4).below hb5
   have HP5 := zh ((uh HP4).below hb5)
   have HC5 : Hid (Below wr.heap.size wr w5) := bnk (uh HC4) hb5
   clear HR4 HP4 HC4 hb5
   obtain ⟨ao5,vc5,hf5,-⟩ := (uh hv5).form
   have HN : Hid (eN P = eN P) := rfl
   generalize hmE : eN P = mm at hE5
   have HME := zh hmE
   clear hmE HN
   generalize hlE : eB P = lb at hv5 hf5
   have HLE := zh hlE
   clear hlE
   generalize hnE : lb.length = nb at hf5
   have HNE := zh hnE
   subst hf5
   clear hnE
   go_upto_region 8 with fail
   iterate 13 go_step
   refine wpList_load_mid rfl 30 _ rfl b (off + k * 20) rfl q.cells _ ((uh HD) _ (uh HC5)).1 Tryz.underlying30 rfl packet_size ?_
   simp only [Act.put,List.setIfInBounds_toArray,List.set_cons_zero,List.set_cons_succ]
   have HGE := zh (genc_uni ((uh HD) _ (uh HC5)).2.1 (mid_of (uh HOK) (uh HSM)) (by have := (uh HOK).ub.texts; omega))
   rw [uh HME,uh HLE] at HGE
   go_wp2_with fail
   refine (uh HGE).mono ?_
   rintro e w6 ⟨v6,rfl,hv6,hb6⟩
   have HV5 : Hid (Byt w6 (.slice ao5 nb vc5) lb) := (uh hv5).below hb6
   have HE6 : Hid (ErrX w6 E5 mm) := (uh hE5).below hb6
   have HR6 : Hid (RPk w6 q2 P) := (uh HR5).below hb6
   have HP6 := zh ((uh HP5).below hb6)
   have HC6 : Hid (Below wr.heap.size wr w6) := bnk (uh HC5) hb6
   have HV6 := hv6
   obtain ⟨ao6,vc6,hf6,-⟩ := (uh HV6).form
   rw [uh HNE] at hf6
   subst hf6
   clear hb6 hv5 hE5 hv6 HR5 HP5 HC5 HGE
   have HG6 := zh ((uh HD) _ (uh HC6)).2.2.1
   go_upto_region 9 with fail
   have HK : Hid (∀ W : World,Below w6.heap.size w6 W -> W.rangeAt B4 0 q2.cells /\ W.rangeAt b (off + k * 20) q.cells) := fun W hW => ⟨range_bel (uh HP6).range hW,range_bel ((uh HD) _ (uh HC6)).1 hW⟩
   have b61 : Hid (Below w6.heap.size w6 w6.drew) := below_drewN (Below.refl _ _) 1
   refine wp_region_noPanic ?_
   refine wp_region_held_drew (S := fun W => W.rangeAt B4 0 q2.cells /\ W.rangeAt b (off + k * 20) q.cells) (by kernel_rfl) ((uh HK) _ (uh b61)) (fun hHeld => ?_)
   refine rtk 0 (h := ?_)
   refine rtk 2 (h := ?_)
   refine rcl 1 (h := fun K hK => ?_)
   go_simp
   refine (num4 E5 mm _ ((uh HG6).below (uh b61) (uh HG6).pos) ((uh HE6).below (uh b61))).mono ?_
   rintro e w7 ⟨rfl,hb7⟩
   have HB7 : Hid (Below w6.heap.size w6 w7) := bnk (uh b61) hb7
   clear hb7
   go_simp
   refine hK.out _ _ ((uh HK) _ (uh HB7)) (fun hHeld => ?_)
   clear hK K
   refine rtk 3 (v := .bool false) (hy := Or.inl ⟨by rfl,fun W _ => by go_simp⟩) (h := ?_)
   refine rtk 4 (h := ?_)
   refine rtk 5 (h := ?_)
   refine rtk 6 (h := ?_)
   refine rcl 7 (h := fun K hK => ?_)
   go_simp
   refine (eq_any _ _ lb lb _ ((uh HV5).below (uh HB7)) ((uh HV6).below (uh HB7))).mono ?_
   rintro e w8 ⟨rfl,kk,hw8⟩
   rw [decide_eq_true (rfl : lb = lb)]
   have HB8 : Hid (Below w6.heap.size w6 w8) := bnk (uh HB7) (by rw [hw8]; exact below_drewN (Below.refl _ _) kk)
   clear hw8
   go_simp
   refine hK.out _ _ ((uh HK) _ (uh HB8)) (fun hHeld => ?_)
   clear hK K
   refine rtk 8 (h := ?_)
   refine rtk 9 (h := ?_)
   refine rtk 10 (h := ?_)
   refine rtk 11 (v := .agg q2.cells.toArray) (hy := yieldsIf_load_mid (by rfl) 30 _ rfl B4 0 rfl q2.cells _ (fun _ h => h.1) Tryz.underlying30 rfl packet_size) (h := ?_)
   refine rtk 12 (h := ?_)
   refine rtk 13 (h := ?_)
   refine rtk 14 (h := ?_)
   refine rtk 15 (h := ?_)
   refine rtk 16 (v := .agg q.cells.toArray) (hy := yieldsIf_load_mid (by rfl) 30 _ rfl b (off + k * 20) rfl q.cells _ (fun _ h => h.2) Tryz.underlying30 rfl packet_size) (h := ?_)
   refine rcl 17 (h := fun K hK => ?_)
   go_simp
   have HEQ : Hid (Calls Tryz.prog 12 #[.agg q2.cells.toArray,.agg q.cells.toArray] w8 fun e w' => e = .returned (.bool true) /\ Below w8.heap.size w8 w') := eqpk_same q2 q P w8 ((uh HR6).below (uh HB8)) (((uh HD) _ (bnk (uh HC6) (uh HB8))).2.1) (sml_of (uh HOK))
   refine (uh HEQ).mono ?_
   rintro e w9 ⟨rfl,hb9⟩
   have HB9 : Hid (Below w6.heap.size w6 w9) := bnk (uh HB8) hb9
   clear hb9
   go_simp
   refine hK.out _ _ ((uh HK) _ (uh HB9)) (fun hHeld => ?_)
   clear hK K
   refine rtk 18 (h := ?_)
   refine rtk 19 (h := ?_)
   refine wpAnyH_done (by kernel_rfl) ?_ _
   refine NoPanic.normal ?_
   have HBb := zh ((uh HD) _ (bnk (uh HC6) (uh HB9))).2.2.2
   go_wp2
   go_roundw
   case rel => exact ⟨k + 1,by omega,by omega,by go_num,uh HBb⟩
   case measure => simp [intOf]; omega
  ·go_wp2_with (go_at_call 13; refine (wakes4 _).mono ?_; rintro e w' ⟨rfl,hbw⟩)
   all_goals (
    go_ret
    exact ⟨rfl,hbel.trans (hbw.mono hbel.size)⟩)
theorem encodes_walk0 (ao : Option Addr) (cap : Nat) (w : World) : Calls Tryz.prog 3 #[.slice ao 0 cap] w fun e w' => e = .returned (.bool true) /\ Below w.heap.size w w' := by
 go_enter Tryz.func3,Tryz.ntmps3
 go_wp2
 refine wp_loop_rounds 1 ?_
 rw [rounds_succ]
 go_wp2_with (go_at_call 13; refine (wakes4 _).mono ?_; rintro e w' ⟨rfl,hbw⟩)
 go_ret
 exact ⟨rfl,hbw⟩
end Go.Proofs.YtemedclhglkfjaaGreatDoor.K.W
namespace Go.Proofs.YtemedclhglkfjaaGreatDoor.K.W
open Go.ChangeShapes Go.WideShapes Go.ChangeAt Go.RowKit Go.Deep
open Go.Proofs.YtemedclhglkfjaaGreatDoor.K
set_option maxRecDepth 100000
def AsksP (W : World) (v : Value) : Prop :=
 ∃ ao len cap,v = .slice ao len cap /\ len <= maxLen /\ (len = 0 \/ ∃ b off,ao = some ⟨b,off,none⟩ /\ ∃ (qs : Nat -> Pkv) (Ps : Nat -> Pa),∀ k,k < len -> AskP W b (off + k * 20) (qs k) (Ps k))
abbrev akc (x : (Pkv × Pa) × Value) : List Value := x.1.1.cells ++ [x.2]
theorem cells_len (q : Pkv) : q.cells.length = 19 := rfl
theorem ask_of {H : Type} {enc : TypeId × Value -> H} {W : World} {n : Nat} {cs : List Value} {d0 : DataW H} {ps : List MemPlace} (h : DataW.trod enc Tryz.prog W 0 (fun _ => true) true n 33 cs = some (d0,ps)) (hb : Rows.uptoBulk d0 <= 1048576) :
  (∃ x : (Pkv × Pa) × Value,cs = akc x /\ RPk W x.1.1 x.1.2 /\ Ok x.1.2) /\ 1 <= Rows.uptoBulk d0 := by
 refine ⟨?_,one_le d0⟩
 obtain ⟨xs,k,hk,hxy,hcl,hxl,hf⟩ := DataW.trod_struct Tryz.underlying33 h
 rw [cAsk] at hcl
 simp only [Prod.mk.injEq] at hxy
 match xs,hxl with
 | [y0,y1],_ =>
  have g0 := hf 0 _ rfl
  simp [cPk] at g0
  obtain ⟨d1,p1⟩ := y0
  obtain ⟨q,P,hq,hR,hO⟩ := pk_of g0 (by
   have k1 := part_le (d := d1) (l := [d1,y1.1]) (by simp)
   rw [hxy.1] at hb
   simp only [List.map,Rows.uptoBulk] at hb
   omega)
  have hd : cs = cs.take 19 ++ cs.drop 19 := (List.take_append_drop 19 cs).symm
  have hl : (cs.drop 19).length = 1 := by rw [List.length_drop,hcl]
  obtain ⟨v,hv⟩ := List.length_eq_one_iff.1 hl
  exact ⟨((q,P),v),by rw [hd,hv,hq],hR,hO⟩
instance : Inhabited Pa := ⟨⟨0,false,0,false,⟨#[]⟩,0,⟨#[]⟩,[],⟨#[]⟩,false,0,[],[],[],0,false,[],[],[]⟩⟩
theorem asks_openP {H : Type} {enc : TypeId × Value -> H} {W : World} {v : Value} {d : DataW H} {ps : List MemPlace} (h : DataW.Trod enc Tryz.prog W 0 (fun _ => true) true 22 v d ps) (hs : ∃ ao len cap,v = .slice ao len cap)
  (hb : Rows.uptoBulk d <= 1048576) : AsksP W v := by
 obtain ⟨ao,len,cap,rfl⟩ := hs
 obtain ⟨fuel,hf⟩ := h
 obtain ⟨s,l,hv,hn,hc,hat,hg,-⟩ := list_of_trod (α := (Pkv × Pa) × Value) ((pkz,default),.nilIface) 22 33 20 1 Tryz.underlying22 cAsk (by omega) akc (fun x => by simp [akc,cells_len]) (fun x => RPk W x.1.1 x.1.2 /\ Ok x.1.2) (fun n cs d ps h hb => ask_of h hb) (v := .slice ao len cap) (by simpa [Value.cells] using hf) hb
 have e1 : ao = s.ao /\ len = s.n /\ cap = s.cap := by
  have := hv
  simp only [Sl.val,Value.slice.injEq] at this
  exact this
 obtain ⟨e1,e2,e3⟩ := e1
 refine ⟨ao,len,cap,rfl,by rw [e2,hn]; omega,?_⟩
 rcases hat with h0 | ⟨b,off,e,hat⟩
 ·exact .inl (by rw [e2,hn,h0]; rfl)
 ·refine .inr ⟨b,off,by rw [e1,e],fun k => (l.getD k ((pkz,default),.nilIface)).1.1,fun k => (l.getD k ((pkz,default),.nilIface)).1.2,fun k hk => ?_⟩
  rw [e2,hn] at hk
  refine ⟨fun j u hu => hat k hk j u ?_,(hg k hk).1,(hg k hk).2⟩
  have hj := (List.getElem?_eq_some_iff.1 hu).1
  rw [List.getElem?_append_left hj]
  exact hu
theorem encodes_calls (v : Value) (w : World) (hg : Laid w) (h : AsksP w v) :
  Calls Tryz.prog 3 #[v] w fun e w' => e = .returned (.bool true) /\ Below w.heap.size w w' := by
 obtain ⟨ao,len,cap,rfl,hlen,h0 | ⟨b,off,rfl,qs,Ps,hk⟩⟩ := h
 ·subst h0
  exact encodes_walk0 ao cap w
 ·exact encodes_walk b off len cap qs Ps w hlen hg hk
end Go.Proofs.YtemedclhglkfjaaGreatDoor.K.W
