/- Proved here: helpers, one text behind the other. -/
import Derived.Test.YtemedclhglkfjaaGreatDoorB3
import Derived.Test.YtemedclhglkfjaaGreatDoorZPLawKit
import Derived.Deep.CutRange
set_option maxHeartbeats 20000000
namespace Go.Proofs.YtemedclhglkfjaaGreatDoor.K.B
open Go.RowKit
open Go.Proofs.YtemedclhglkfjaaGreatDoor.K
open Go.Proofs.YtemedclhglkfjaaGreatDoor.K.W
set_option maxRecDepth 100000
theorem pk_alloc (ρ : Operand -> Value) (dst : Option Tmp) (ty : TypeId) (pos : String) (after : Array Edge) (w : World) :
  (execOp ρ ⟨dst,.alloc 30,ty,pos,after,none⟩).run Tryz.prog w = .ok (.value (.pointer (some ⟨w.heap.size,0,none⟩))) (w.alloc (.cells pkz.cells.toArray 30)) := by
 kernel_rfl
theorem pk_store (a : Act) (dst : Option Tmp) (x y : Operand) (ty : TypeId) (pos : String) (after : Array Edge) (q : Pkv) (w : World) (hx : a.eval x = .pointer (some ⟨w.heap.size,0,none⟩)) (hy : a.eval y = q.val) :
  (execOp a.eval ⟨dst,.store 30 x y,ty,pos,after,none⟩).run Tryz.prog (w.alloc (.cells pkz.cells.toArray 30)) = .ok .skip (w.alloc (.cells q.cells.toArray 30)) := by
 show Sem.run Tryz.prog (do Instr.storeAt 30 (a.eval x) (a.eval y); pure Next.skip) _ = _
 rw [hx,hy,show q.val = .agg q.cells.toArray from rfl]
 simp only [Sem.run_bind]
 rw [run_storeAt_new w 30 pkz.cells.toArray q.cells.toArray (by rw [packet_size]; rfl) rfl (Pkv.ones' q)]
 rfl
theorem step_store {w : World} {ops : Array Oper} {o : Oper} {a : Act} {K : Act -> World -> Prop} {Q : Exit -> Act -> World -> Prop} {E : Prop} (hgd : o.guard = none) (ty : TypeId) (x y : Operand) (ho : o.op = .store ty x y)
  (b : Nat) (cells : Array Value) (hx : a.eval x = .pointer (some ⟨b,0,none⟩)) (hy : a.eval y = .agg cells) (ht : w.there b 0 cells.size) (hi : (Tryz.prog.info? ty).map (·.size) = some cells.size) (h1 : cells.all (·.oneCell') = true)
  (h : K (a.put o.dst undef) (w.setCells b 0 cells.toList)) : if Region.wanted o (yielded ops a.tmps) = true then Oper.wp Tryz.prog o a w K Q else E := by
 have hw : Region.wanted o (yielded ops a.tmps) = true := by simp [Region.wanted,hgd]
 rw [if_pos hw]
 exact wp_store_mid ty x y ho b 0 cells hx hy ht hi h1 h
theorem pk_grown {w w' : World} {R : Nat} {p : Pkv} {row : Option Nat} (h : Pk w R p) (hg : w.grownBy w' row) (hne : some R ≠ row) : Pk w' R p := fun j hj => ⟨hg.cell (h j hj).1 hne,(hg.frozen_far ⟨R,j,none⟩ (cell_lt (h j hj).1) hne).trans (h j hj).2⟩
theorem range_bel {w w' : World} {b o : Nat} {cs : List Value} (h : w.rangeAt b o cs) (hb : Below w.heap.size w w') : w'.rangeAt b o cs := fun j v hj => (hb.cell (p := ⟨b,o + j,none⟩) (cell_lt (h j v hj))).trans (h j v hj)
def AskB (w : World) (b p : Nat) (q : Pkv) (P : Pa) (vb : Value) (z : List Int) : Prop := w.rangeAt b p q.cells /\ RPk w q P /\ Ok P /\ w.cell? ⟨b,p + 19,none⟩ = some vb /\ Byt w vb z
def Ps (c : Bool) (P : Pa) (n : Nat) : Prop := c = false -> Sm P /\ n <= 5000
theorem back_walk (b off len cap : Nat) (qs : Nat -> Pkv) (Pp : Nat -> Pa) (vs : Nat -> Value) (zs : Nat -> List Int) (w : World) (_hlen : len <= maxLen) (hg : Laid w) (hc : ∀ k,k < len -> AskB w b (off + k * 20) (qs k) (Pp k) (vs k) (zs k)) :
  Calls Tryz.prog 4 #[.slice (some ⟨b,off,none⟩) len cap] w fun e w' => e = .returned (.bool true) /\ Below w.heap.size w w' := by
 unfold maxLen at _hlen
 have HC := zh hc
 have HG := zh hg
 clear hc hg
 go_enter Tryz.func4,Tryz.ntmps4
 go_wp2
 go_loopw [3] (fun i wr => ∃ k : Nat,k <= len /\ k <= 10 /\ i = .int .i64 k /\ Below w.heap.size w wr) (fun i _ => 10 - (intOf i).toNat)
 case atStart => exact ⟨0,Nat.zero_le _,by omega,rfl,Below.refl _ _⟩
 case round =>
  obtain ⟨wo,hwo⟩ : ∃ wo,wo = wr := ⟨wr,rfl⟩
  subst hwo
  obtain ⟨k,hk,hk10,rfl,hbel⟩ := hrel
  by_cases hlt : k < len /\ k < 10
  ·obtain ⟨hlt,hlt10⟩ := hlt
   obtain ⟨hra,hrp,hok,hcl,hby⟩ := (uh HC) k hlt
   obtain ⟨ao,vc,hvb,-⟩ := hby.form
   rw [hvb] at hcl hby
   generalize qs k = q at hra hrp
   generalize Pp k = P at hrp hok
   generalize zs k = z at hcl hby hvb
   obtain ⟨n,hn⟩ : ∃ n,n = z.length := ⟨_,rfl⟩
   rw [<- hn] at hcl hby
   clear hvb
   have HN := zh hn
   clear hn
   have hsz := hbel.size
   have HD : Hid (∀ W,Below wo.heap.size wo W -> W.rangeAt b (off + k * 20) q.cells /\ RPk W q P /\ Laid W /\ Below w.heap.size w W /\ W.cell? ⟨b,off + k * 20 + 19,none⟩ = some (.slice ao n vc) /\ Byt W (.slice ao n vc) z) := fun W hW => by
    have hb2 := hbel.trans (hW.mono hsz)
    exact ⟨range_bel hra hb2,hrp.below hb2,(uh HG).below hb2 (uh HG).pos,hb2,(hb2.cell (p := ⟨b,off + k * 20 + 19,none⟩) (cell_lt hcl)).trans hcl,hby.below hb2⟩
   have HOK := zh hok
   have HBEL := zh hbel
   clear hra hrp hok hbel hcl hby
   go_upto_region 4 with fail
   go_cut [51] from 18 to 143 (fun s51 wx => ∃ c : Bool,s51 = .bool c /\ Hid (Ps c P n) /\ Hid (Below wo.heap.size wo wx))
   case first =>
    iterate 13 go_step
    refine wpList_load_mid rfl 30 _ rfl b (off + k * 20) rfl q.cells _ ((uh HD) _ (Below.refl _ _)).1 Tryz.underlying30 rfl packet_size ?_
    simp only [Act.put,List.setIfInBounds_toArray,List.set_cons_zero,List.set_cons_succ]
    go_wp2_with fail
    refine (hv_any q P _ ((uh HD) _ (Below.refl _ _)).2.1 (uh HOK).ub).mono ?_
    rintro e w2 ⟨bo,rfl,hsm,hb2⟩
    cases bo
    ·dsimp only
     iterate 12 go_step
     refine mpList_wanted (by rfl) fun K hK => wp_load_mid 30 _ rfl b (off + k * 20) rfl q.cells _ ((uh HD) _ hb2).1 Tryz.underlying30 rfl packet_size (hK _ _ ?_)
     clear hK K
     simp only [Act.put,List.setIfInBounds_toArray,List.set_cons_zero,List.set_cons_succ]
     go_wp2_with fail
     refine (wt_any q P _ ((uh HD) _ hb2).2.1 (uh HOK).ub).mono ?_
     rintro e w3 ⟨N,rfl,-,hN2,hb3⟩
     have HB3 : Hid (Below wo.heap.size wo w3) := bnk hb2 hb3
     clear hb3
     by_cases h6 : 6000 < N
     ·go_wp2
      go_meet
      case rel => exact ⟨_,rfl,(fun h => by cases h),HB3⟩
     ·obtain ⟨-,-,-,-,c3,-⟩ := (uh HD) _ (uh HB3)
      by_cases h5 : (5000 : Int) < n
      ·go_wp2
       go_meet
       case rel => exact ⟨_,rfl,(fun h => by cases h),HB3⟩
      ·go_wp2
       go_meet
       case rel => exact ⟨_,rfl,(fun _ => ⟨(uh hsm) rfl,by omega⟩),HB3⟩
    ·go_wp2
     go_meet
     case rel => exact ⟨_,rfl,(fun h => by cases h),hb2⟩
   case rest =>
   obtain ⟨c,rfl,hsm,HBC⟩ := hcut
   cases c
   rotate_left
   ·have HBF := zh ((uh HD) _ (uh HBC)).2.2.2.1
    go_wp2
    go_ret
    exact ⟨rfl,uh HBF⟩
   have HSM : Hid (Sm P) := ((uh hsm) rfl).1
   have hn5 : n <= 5000 := ((uh hsm) rfl).2
   clear hsm
   go_upto_region 6 with fail
   iterate 13 go_step
   refine wpList_load_mid rfl 30 _ rfl b (off + k * 20) rfl q.cells _ ((uh HD) _ (uh HBC)).1 Tryz.underlying30 rfl packet_size ?_
   simp only [Act.put,List.setIfInBounds_toArray,List.set_cons_zero,List.set_cons_succ]
   go_wp2_with fail
   refine (enc_two ((uh HD) _ (uh HBC)).2.1 (big_of (uh HOK) (uh HSM))).mono ?_
   rintro e w5 ⟨hb5,⟨x5,m5,rfl,hm5,hE5⟩ | ⟨lb,v5,rfl,HT,hv5⟩⟩
   ·have HC5 : Hid (Below wo.heap.size wo w5) := bnk (uh HBC) hb5
    clear hb5
    go_wp2_with fail
    refine (num4 _ m5 _ ((uh HD) _ (uh HC5)).2.2.1 (uh hE5)).mono ?_
    rintro e wZ ⟨rfl,hbZ⟩
    have HCZ : Hid (Below wo.heap.size wo wZ) := bnk (uh HC5) hbZ
    clear hbZ hE5 HC5
    have hmb : (m5 == 0) = false := by simp [hm5]
    obtain ⟨-,-,-,-,cZ,-⟩ := (uh HD) _ (uh HCZ)
    go_wp2_with fail
    refine (dec_two ((uh HD) _ (uh HCZ)).2.2.2.2.2).mono ?_
    rintro e wA ⟨qA,nA,EA,rfl,hbA,hcase⟩
    have HCA : Hid (Below wo.heap.size wo wA) := bnk (uh HCZ) hbA
    clear hbA cZ HCZ
    dsimp only
    iterate 13 go_step
    refine Go.Proofs.YtemedclhglkfjaaGreatDoor.wpList_value rfl (pk_alloc _ _ _ _ _ _) ?_
    simp only [Act.put,List.setIfInBounds_toArray,List.set_cons_zero,List.set_cons_succ]
    refine Go.Proofs.YtemedclhglkfjaaGreatDoor.wpList_skip rfl (pk_store _ _ _ _ _ _ _ qA _ rfl rfl) ?_
    simp only [Act.put]
    have HAB : Hid (Below wA.heap.size wA (wA.alloc (.cells qA.cells.toArray 30))) := bal _ _
    have HPB := zh (pk_new wA qA)
    obtain ⟨BB,hBB⟩ : ∃ BB,BB = wA.heap.size := ⟨_,rfl⟩
    rw [<- hBB] at HPB |-
    clear hBB
    generalize wA.alloc (.cells qA.cells.toArray 30) = wB at HAB HPB |-
    have HCB : Hid (Below wo.heap.size wo wB) := bnk (uh HCA) (uh HAB)
    clear HCA
    rcases hcase with ⟨mA,hmA,hEA⟩ | ⟨rfl,PA,lA,hRA,hBA,h1A,h2A,h3A,h4A⟩
    ·go_wp2_with fail
     refine (num4 _ mA _ ((uh HD) _ (uh HCB)).2.2.1 ((uh hEA).below (uh HAB))).mono ?_
     rintro e wE ⟨rfl,hbE⟩
     have HCE := zh ((uh HD) _ (bnk (uh HCB) hbE)).2.2.2.1
     clear hbE
     have hmz : (mA == 0) = false := by simp [hmA]
     go_wp2
     go_roundw
     case rel => exact ⟨k + 1,by omega,by omega,by go_num,uh HCE⟩
     case measure => simp [intOf]; omega
    ·go_wp2_with fail
     refine (num4_nil _).mono ?_
     rintro e wE ⟨rfl,rfl⟩
     go_upto_region 19 with fail
     go_step
     refine wpList_load_mid rfl 30 _ rfl BB 0 rfl qA.cells _ (uh HPB).range Tryz.underlying30 rfl packet_size ?_
     simp only [Act.put,List.setIfInBounds_toArray,List.set_cons_zero,List.set_cons_succ]
     go_wp2_with fail
     refine (enc_sure ((uh hRA).below (uh HAB)) (uh hBA) (uh h1A) (uh h2A) (uh h3A) h4A).mono ?_
     rintro e wF ⟨vF,MF,hMF,rfl,⟨aF,cF,rfl⟩,hbF⟩
     have HCF : Hid (Below wo.heap.size wo wF) := bnk (uh HCB) hbF
     clear hbF HCB
     go_wp2_with fail
     refine (num4_nil _).mono ?_
     rintro e wG ⟨rfl,rfl⟩
     have HCG := zh ((uh HD) _ (uh HCF)).2.2.2.1
     have hMF' : ¬ (nA : Int) < (MF : Int) := by omega
     go_wp2
     go_roundw
     case rel => exact ⟨k + 1,by omega,by omega,by go_num,uh HCG⟩
     case measure => simp [intOf]; omega
   ·have HC5 : Hid (Below wo.heap.size wo w5) := bnk (uh HBC) hb5
    clear hb5
    obtain ⟨bo,bc,hf5,hbc1,hbc2⟩ := (uh hv5).form
    obtain ⟨N,hNN⟩ : ∃ N,N = (pbt P lb).length := ⟨_,rfl⟩
    have hN6 : N <= 65536 := by rw [hNN]; exact (uh HT).len
    rw [<- hNN] at hf5 hbc1
    have HNN := zh hNN
    clear hNN
    subst hf5
    go_wp2_with fail
    refine (num4_nil _).mono ?_
    rintro e w6 ⟨rfl,rfl⟩
    go_upto_region 8 with fail
    go_cut [6,7,8] from 64 to 76 (fun s6 s7 s8 wx => ∃ (A : Nat) (q9 : Pkv),s6 = .pointer (some ⟨A,0,none⟩) /\ s7 = .int .i64 N /\ s8 = .nilIface /\ Hid (Pk wx A q9) /\ Hid (RPk wx q9 P) /\ Hid (Below w6.heap.size w6 wx))
    case first =>
     have HX0 : Hid (Below w6.heap.size w6 w6.drew) := below_drewN (Below.refl _ _) 1
     refine wp_region_noPanic ?_
     refine wp_region_held_drew (S := (fun w' => w'.cell? ⟨b,off + k * 20 + 19,none⟩ = some (.slice ao n vc))) (by kernel_rfl) ((uh HD) _ (bnk (uh HC5) (uh HX0))).2.2.2.2.1 (fun hHeld => ?_)
     generalize w6.drew = wd at HX0 hHeld |-
     refine rtk 0 (h := ?_)
     refine rtk 2 (h := ?_)
     refine rtk 3 (h := ?_)
     refine rtk 4 (h := ?_)
     refine rtk 5 (h := ?_)
     refine rtk 6 (h := ?_)
     refine wpAnyH_ready (rs := [1,13]) (by kernel_rfl) (by simp) ?_
     refine rac (h := fun K hK => ?_) (hs := rac (h := fun K hK => ?_) (hs := AllReadyH.nil))
     ·go_simp
      refine (copyb_any (.slice bo N bc) (pbt P lb) wd ((uh hv5).below (uh HX0)) (by rw [<- uh HNN]; omega)).mono ?_
      rintro e w7 ⟨v7,rfl,ho7,-,hb7⟩
      have HX7 : Hid (Below w6.heap.size w6 w7) := bnk (uh HX0) hb7
      have HO7 : Hid (w7.ownsRow w6.heap.size 5 1 v7 N ((pbt P lb).map (Value.int .u8))) := owns_mono (by rw [uh HNN]; exact uh ho7) (uh HX0).size
      clear hb7 ho7
      refine hK.out _ _ ((uh HD) _ (bnk (uh HC5) (uh HX7))).2.2.2.2.1 (fun hHeld => ?_)
      clear hK K
      refine wpAnyH_ready (rs := [7,13]) (by kernel_rfl) (by simp) ?_
      refine rac (h := fun K hK => ?_) (hs := rac (h := fun K hK => ?_) (hs := AllReadyH.nil))
      ·refine step_append_byt (by rfl) _ _ (by rfl) w6.heap.size v7 N (pbt P lb) (by rfl) (by exact uh HO7) (.slice ao n vc) z (by rfl) (by exact ((uh HD) _ (bnk (uh HC5) (uh HX7))).2.2.2.2.2) (by rw [<- uh HN]; omega) (by exact (uh HX7).size) ?_
       intro v8 w8 hown8 hgrow8
       have HX8 : Hid (Below w6.heap.size w6 w8) := (uh HX7).grown hgrow8 (uh HX7).size (fun g hg => ((uh HO7).lt g hg).1)
       have HY8 : Hid (Byt w8 v8 (pbt P lb ++ z)) := byt_of_owns hown8 (range_app (uh HT).rng ((uh HD) _ (bnk (uh HC5) (uh HX7))).2.2.2.2.2.range)
       clear hown8 hgrow8
       refine hK.out _ _ ((uh HD) _ (bnk (uh HC5) (uh HX8))).2.2.2.2.1 (fun hHeld => ?_)
       clear hK K
       refine wpAnyH_ready (rs := [8,13]) (by kernel_rfl) (by simp) ?_
       refine rac (h := fun K hK => ?_) (hs := rac (h := fun K hK => ?_) (hs := AllReadyH.nil))
       ·go_simp
        have HDG := zh (dec_good (uh HY8) (uh HT))
        rw [<- uh HNN] at HDG
        refine (uh HDG).mono ?_
        rintro e w9 ⟨q9,rfl,hM9,hb9⟩
        have HX9 : Hid (Below w6.heap.size w6 w9) := bnk (uh HX8) hb9
        clear hb9 HDG
        refine hK.out _ _ ((uh HD) _ (bnk (uh HC5) (uh HX9))).2.2.2.2.1 (fun hHeld => ?_)
        clear hK K
        refine rtk 9 (h := ?_)
        refine rtk 10 (h := ?_)
        refine rtk 11 (h := ?_)
        refine rtk 12 (h := ?_)
        refine rcl 13 (h := fun K hK => ?_)
        refine step_value (by rfl) (pk_alloc _ _ _ _ _ _) ?_
        simp only [Act.put,List.setIfInBounds_toArray,List.set_cons_zero,List.set_cons_succ]
        have HXz : Hid (Below w6.heap.size w6 (w9.alloc (.cells pkz.cells.toArray 30))) := bnk (uh HX9) (bal _ _)
        refine hK.out _ _ ((uh HD) _ (bnk (uh HC5) (uh HXz))).2.2.2.2.1 (fun hHeld => ?_)
        clear hK K
        refine rcl 14 (h := fun K hK => ?_)
        refine step_skip (by rfl) (pk_store _ _ _ _ _ _ _ q9 _ rfl rfl) ?_
        simp only [Act.put]
        have hbq : Below w9.heap.size w9 (w9.alloc (.cells q9.cells.toArray 30)) := bal _ _
        have HPB := zh (pk_new w9 q9)
        have HRB : Hid (RPk (w9.alloc (.cells q9.cells.toArray 30)) q9 P) := (mean_rpk (uh hM9).1 (uh hM9).2).below hbq
        have HXB : Hid (Below w6.heap.size w6 (w9.alloc (.cells q9.cells.toArray 30))) := bnk (uh HX9) hbq
        obtain ⟨A,hA⟩ : ∃ A,A = w9.heap.size := ⟨_,rfl⟩
        rw [<- hA] at HPB |-
        clear hA hbq HXz
        generalize w9.alloc (.cells q9.cells.toArray 30) = wb at HPB HRB HXB |-
        refine hK.out _ _ ((uh HD) _ (bnk (uh HC5) (uh HXB))).2.2.2.2.1 (fun hHeld => ?_)
        clear hK K
        refine rcl 15 (h := fun K hK => ?_)
        go_simp
        refine hK.out _ _ ((uh HD) _ (bnk (uh HC5) (uh HXB))).2.2.2.2.1 (fun hHeld => ?_)
        clear hK K
        refine rcl 16 (h := fun K hK => ?_)
        go_simp
        refine hK.out _ _ ((uh HD) _ (bnk (uh HC5) (uh HXB))).2.2.2.2.1 (fun hHeld => ?_)
        clear hK K
        refine wpAnyH_done (by kernel_rfl) ?_ _
        refine NoPanic.normal ?_
        go_wp2_with fail
        go_meet
        case rel => exact ⟨A,q9,rfl,rfl,rfl,HPB,HRB,HXB⟩
       ·refine step_value (by rfl) (pk_alloc _ _ _ _ _ _) ?_
        simp only [Act.put,List.setIfInBounds_toArray,List.set_cons_zero,List.set_cons_succ]
        have hbz : Below w8.heap.size w8 (w8.alloc (.cells pkz.cells.toArray 30)) := bal _ _
        have HXz : Hid (Below w6.heap.size w6 (w8.alloc (.cells pkz.cells.toArray 30))) := bnk (uh HX8) hbz
        have HPz := zh (pk_new w8 pkz)
        obtain ⟨A,hA⟩ : ∃ A,A = w8.heap.size := ⟨_,rfl⟩
        have hA6 : w6.heap.size <= A := by rw [hA]; exact (uh HX8).size
        have HYz : Hid (Byt (w8.alloc (.cells pkz.cells.toArray 30)) v8 (pbt P lb ++ z)) := (uh HY8).below hbz
        rw [<- hA] at HPz |-
        clear hA hbz
        generalize w8.alloc (.cells pkz.cells.toArray 30) = wz at HXz HPz HYz |-
        refine hK.out _ _ ((uh HD) _ (bnk (uh HC5) (uh HXz))).2.2.2.2.1 (fun hHeld => ?_)
        clear hK K
        refine rcl 8 (h := fun K hK => ?_)
        go_simp
        have HDG := zh (dec_good (uh HYz) (uh HT))
        rw [<- uh HNN] at HDG
        refine (uh HDG).mono ?_
        rintro e w9 ⟨q9,rfl,hM9,hb9⟩
        have HX9 : Hid (Below w6.heap.size w6 w9) := bnk (uh HXz) hb9
        have HPz9 := zh ((uh HPz).below hb9)
        have hAd : A < wz.heap.size := cell_lt (uh HPz).kind
        clear hb9 HDG
        refine hK.out _ _ ((uh HD) _ (bnk (uh HC5) (uh HX9))).2.2.2.2.1 (fun hHeld => ?_)
        clear hK K
        refine rtk 9 (h := ?_)
        refine rtk 10 (h := ?_)
        refine rtk 11 (h := ?_)
        refine rtk 12 (h := ?_)
        refine rcl 14 (h := fun K hK => ?_)
        refine step_store (by rfl) 30 _ _ rfl A q9.cells.toArray rfl rfl ((uh HPz9).there _) packet_size (Pkv.ones' _) ?_
        simp only [Act.put]
        have HPB := zh ((uh HPz9).stored q9)
        have HRB : Hid (RPk (w9.setCells A 0 q9.cells) q9 P) := mean_rpk ((uh hM9).1.cells hAd) (uh hM9).2
        have HXB : Hid (Below w6.heap.size w6 (w9.setCells A 0 q9.cells)) := setCells_below (uh HX9) hA6
        generalize w9.setCells A 0 q9.cells = wb at HPB HRB HXB |-
        refine hK.out _ _ ((uh HD) _ (bnk (uh HC5) (uh HXB))).2.2.2.2.1 (fun hHeld => ?_)
        clear hK K
        refine rcl 15 (h := fun K hK => ?_)
        go_simp
        refine hK.out _ _ ((uh HD) _ (bnk (uh HC5) (uh HXB))).2.2.2.2.1 (fun hHeld => ?_)
        clear hK K
        refine rcl 16 (h := fun K hK => ?_)
        go_simp
        refine hK.out _ _ ((uh HD) _ (bnk (uh HC5) (uh HXB))).2.2.2.2.1 (fun hHeld => ?_)
        clear hK K
        refine wpAnyH_done (by kernel_rfl) ?_ _
        refine NoPanic.normal ?_
        go_wp2_with fail
        go_meet
        case rel => exact ⟨A,q9,rfl,rfl,rfl,HPB,HRB,HXB⟩
      ·refine step_value (by rfl) (pk_alloc _ _ _ _ _ _) ?_
       simp only [Act.put,List.setIfInBounds_toArray,List.set_cons_zero,List.set_cons_succ]
       have hbz : Below w7.heap.size w7 (w7.alloc (.cells pkz.cells.toArray 30)) := bal _ _
       have HXz : Hid (Below w6.heap.size w6 (w7.alloc (.cells pkz.cells.toArray 30))) := bnk (uh HX7) hbz
       have HPz := zh (pk_new w7 pkz)
       obtain ⟨A,hA⟩ : ∃ A,A = w7.heap.size := ⟨_,rfl⟩
       have hA6 : w6.heap.size <= A := by rw [hA]; exact (uh HX7).size
       have HNE : Hid (∀ g,v7.ownBlock = some g -> g ≠ A) := fun g hg e => by have k1 := ((uh HO7).lt g hg).2; omega
       have HOz : Hid ((w7.alloc (.cells pkz.cells.toArray 30)).ownsRow w6.heap.size 5 1 v7 N ((pbt P lb).map (Value.int .u8))) := owns_below (uh HO7) hbz
       rw [<- hA] at HPz |-
       clear hA hbz
       generalize w7.alloc (.cells pkz.cells.toArray 30) = wz at HXz HPz HOz |-
       refine hK.out _ _ ((uh HD) _ (bnk (uh HC5) (uh HXz))).2.2.2.2.1 (fun hHeld => ?_)
       clear hK K
       refine rcl 7 (h := fun K hK => ?_)
       refine step_append_byt (by rfl) _ _ (by rfl) w6.heap.size v7 N (pbt P lb) (by rfl) (by exact uh HOz) (.slice ao n vc) z (by rfl) (by exact ((uh HD) _ (bnk (uh HC5) (uh HXz))).2.2.2.2.2) (by rw [<- uh HN]; omega) (by exact (uh HXz).size) ?_
       intro v8 w8 hown8 hgrow8
       have HX8 : Hid (Below w6.heap.size w6 w8) := (uh HXz).grown hgrow8 (uh HXz).size (fun g hg => ((uh HOz).lt g hg).1)
       have HY8 : Hid (Byt w8 v8 (pbt P lb ++ z)) := byt_of_owns hown8 (range_app (uh HT).rng ((uh HD) _ (bnk (uh HC5) (uh HXz))).2.2.2.2.2.range)
       have HPz8 := zh (pk_grown (uh HPz) hgrow8 (fun e => (uh HNE) A e.symm rfl))
       clear hown8 hgrow8
       refine hK.out _ _ ((uh HD) _ (bnk (uh HC5) (uh HX8))).2.2.2.2.1 (fun hHeld => ?_)
       clear hK K
       refine rcl 8 (h := fun K hK => ?_)
       go_simp
       have HDG := zh (dec_good (uh HY8) (uh HT))
       rw [<- uh HNN] at HDG
       refine (uh HDG).mono ?_
       rintro e w9 ⟨q9,rfl,hM9,hb9⟩
       have HX9 : Hid (Below w6.heap.size w6 w9) := bnk (uh HX8) hb9
       have HPz9 := zh ((uh HPz8).below hb9)
       have hAd : A < w8.heap.size := cell_lt (uh HPz8).kind
       clear hb9 HDG
       refine hK.out _ _ ((uh HD) _ (bnk (uh HC5) (uh HX9))).2.2.2.2.1 (fun hHeld => ?_)
       clear hK K
       refine rtk 9 (h := ?_)
       refine rtk 10 (h := ?_)
       refine rtk 11 (h := ?_)
       refine rtk 12 (h := ?_)
       refine rcl 14 (h := fun K hK => ?_)
       refine step_store (by rfl) 30 _ _ rfl A q9.cells.toArray rfl rfl ((uh HPz9).there _) packet_size (Pkv.ones' _) ?_
       simp only [Act.put]
       have HPB := zh ((uh HPz9).stored q9)
       have HRB : Hid (RPk (w9.setCells A 0 q9.cells) q9 P) := mean_rpk ((uh hM9).1.cells hAd) (uh hM9).2
       have HXB : Hid (Below w6.heap.size w6 (w9.setCells A 0 q9.cells)) := setCells_below (uh HX9) hA6
       generalize w9.setCells A 0 q9.cells = wb at HPB HRB HXB |-
       refine hK.out _ _ ((uh HD) _ (bnk (uh HC5) (uh HXB))).2.2.2.2.1 (fun hHeld => ?_)
       clear hK K
       refine rcl 15 (h := fun K hK => ?_)
       go_simp
       refine hK.out _ _ ((uh HD) _ (bnk (uh HC5) (uh HXB))).2.2.2.2.1 (fun hHeld => ?_)
       clear hK K
       refine rcl 16 (h := fun K hK => ?_)
       go_simp
       refine hK.out _ _ ((uh HD) _ (bnk (uh HC5) (uh HXB))).2.2.2.2.1 (fun hHeld => ?_)
       clear hK K
       refine wpAnyH_done (by kernel_rfl) ?_ _
       refine NoPanic.normal ?_
       go_wp2_with fail
       go_meet
       case rel => exact ⟨A,q9,rfl,rfl,rfl,HPB,HRB,HXB⟩
     ·refine step_value (by rfl) (pk_alloc _ _ _ _ _ _) ?_
      simp only [Act.put,List.setIfInBounds_toArray,List.set_cons_zero,List.set_cons_succ]
      have hbz : Below wd.heap.size wd (wd.alloc (.cells pkz.cells.toArray 30)) := bal _ _
      have HXz : Hid (Below w6.heap.size w6 (wd.alloc (.cells pkz.cells.toArray 30))) := bnk (uh HX0) hbz
      have HPz := zh (pk_new wd pkz)
      obtain ⟨A,hA⟩ : ∃ A,A = wd.heap.size := ⟨_,rfl⟩
      have hA6 : w6.heap.size <= A := by rw [hA]; exact (uh HX0).size
      rw [<- hA] at HPz |-
      clear hA hbz
      generalize wd.alloc (.cells pkz.cells.toArray 30) = wz at HXz HPz |-
      refine hK.out _ _ ((uh HD) _ (bnk (uh HC5) (uh HXz))).2.2.2.2.1 (fun hHeld => ?_)
      clear hK K
      refine rcl 1 (h := fun K hK => ?_)
      go_simp
      refine (copyb_any (.slice bo N bc) (pbt P lb) wz ((uh hv5).below (uh HXz)) (by rw [<- uh HNN]; omega)).mono ?_
      rintro e w7 ⟨v7,rfl,ho7,-,hb7⟩
      have HX7 : Hid (Below w6.heap.size w6 w7) := bnk (uh HXz) hb7
      have HO7 : Hid (w7.ownsRow w6.heap.size 5 1 v7 N ((pbt P lb).map (Value.int .u8))) := owns_mono (by rw [uh HNN]; exact uh ho7) (uh HXz).size
      have HPz7 := zh ((uh HPz).below hb7)
      have HNE : Hid (∀ g,v7.ownBlock = some g -> g ≠ A) := fun g hg e => by have k1 := ((uh ho7).lt g hg).1; have k2 := cell_lt (uh HPz).kind; simp only at k2; omega
      clear hb7 ho7
      refine hK.out _ _ ((uh HD) _ (bnk (uh HC5) (uh HX7))).2.2.2.2.1 (fun hHeld => ?_)
      clear hK K
      refine rcl 7 (h := fun K hK => ?_)
      refine step_append_byt (by rfl) _ _ (by rfl) w6.heap.size v7 N (pbt P lb) (by rfl) (by exact uh HO7) (.slice ao n vc) z (by rfl) (by exact ((uh HD) _ (bnk (uh HC5) (uh HX7))).2.2.2.2.2) (by rw [<- uh HN]; omega) (by exact (uh HX7).size) ?_
      intro v8 w8 hown8 hgrow8
      have HX8 : Hid (Below w6.heap.size w6 w8) := (uh HX7).grown hgrow8 (uh HX7).size (fun g hg => ((uh HO7).lt g hg).1)
      have HY8 : Hid (Byt w8 v8 (pbt P lb ++ z)) := byt_of_owns hown8 (range_app (uh HT).rng ((uh HD) _ (bnk (uh HC5) (uh HX7))).2.2.2.2.2.range)
      have HPz8 := zh (pk_grown (uh HPz7) hgrow8 (fun e => (uh HNE) A e.symm rfl))
      clear hown8 hgrow8
      refine hK.out _ _ ((uh HD) _ (bnk (uh HC5) (uh HX8))).2.2.2.2.1 (fun hHeld => ?_)
      clear hK K
      refine rcl 8 (h := fun K hK => ?_)
      go_simp
      have HDG := zh (dec_good (uh HY8) (uh HT))
      rw [<- uh HNN] at HDG
      refine (uh HDG).mono ?_
      rintro e w9 ⟨q9,rfl,hM9,hb9⟩
      have HX9 : Hid (Below w6.heap.size w6 w9) := bnk (uh HX8) hb9
      have HPz9 := zh ((uh HPz8).below hb9)
      have hAd : A < w8.heap.size := cell_lt (uh HPz8).kind
      clear hb9 HDG
      refine hK.out _ _ ((uh HD) _ (bnk (uh HC5) (uh HX9))).2.2.2.2.1 (fun hHeld => ?_)
      clear hK K
      refine rtk 9 (h := ?_)
      refine rtk 10 (h := ?_)
      refine rtk 11 (h := ?_)
      refine rtk 12 (h := ?_)
      refine rcl 14 (h := fun K hK => ?_)
      refine step_store (by rfl) 30 _ _ rfl A q9.cells.toArray rfl rfl ((uh HPz9).there _) packet_size (Pkv.ones' _) ?_
      simp only [Act.put]
      have HPB := zh ((uh HPz9).stored q9)
      have HRB : Hid (RPk (w9.setCells A 0 q9.cells) q9 P) := mean_rpk ((uh hM9).1.cells hAd) (uh hM9).2
      have HXB : Hid (Below w6.heap.size w6 (w9.setCells A 0 q9.cells)) := setCells_below (uh HX9) hA6
      generalize w9.setCells A 0 q9.cells = wb at HPB HRB HXB |-
      refine hK.out _ _ ((uh HD) _ (bnk (uh HC5) (uh HXB))).2.2.2.2.1 (fun hHeld => ?_)
      clear hK K
      refine rcl 15 (h := fun K hK => ?_)
      go_simp
      refine hK.out _ _ ((uh HD) _ (bnk (uh HC5) (uh HXB))).2.2.2.2.1 (fun hHeld => ?_)
      clear hK K
      refine rcl 16 (h := fun K hK => ?_)
      go_simp
      refine hK.out _ _ ((uh HD) _ (bnk (uh HC5) (uh HXB))).2.2.2.2.1 (fun hHeld => ?_)
      clear hK K
      refine wpAnyH_done (by kernel_rfl) ?_ _
      refine NoPanic.normal ?_
      go_wp2_with fail
      go_meet
      case rel => exact ⟨A,q9,rfl,rfl,rfl,HPB,HRB,HXB⟩
    case rest =>
    obtain ⟨B4,q9,rfl,rfl,rfl,HPB,HRa,HXa⟩ := hcut
    have HYa : Hid (Byt wc (.slice bo N bc) (pbt P lb)) := (uh hv5).below (uh HXa)
    have HCa : Hid (Below wo.heap.size wo wc) := bnk (uh HC5) (uh HXa)
    clear hv5 HXa HC5
    go_upto_region 9 with fail
    have HK : Hid (∀ W : World,Below wc.heap.size wc W -> W.rangeAt B4 0 q9.cells /\ W.rangeAt b (off + k * 20) q.cells) := fun W hW => ⟨range_bel (uh HPB).range hW,range_bel ((uh HD) _ (uh HCa)).1 hW⟩
    have ba1 : Hid (Below wc.heap.size wc wc.drew) := below_drewN (Below.refl _ _) 1
    refine wp_region_noPanic ?_
    refine wp_region_held_drew (S := fun W => W.rangeAt B4 0 q9.cells /\ W.rangeAt b (off + k * 20) q.cells) (by kernel_rfl) ((uh HK) _ (uh ba1)) (fun hHeld => ?_)
    refine rtk 0 (h := ?_)
    refine rcl 1 (h := fun K hK => ?_)
    go_simp
    refine (num4_nil _).mono ?_
    rintro e wb ⟨rfl,hwb⟩
    have HBb : Hid (Below wc.heap.size wc wb) := by rw [hwb]; exact uh ba1
    clear hwb
    go_simp
    refine hK.out _ _ ((uh HK) _ (uh HBb)) (fun hHeld => ?_)
    clear hK K
    refine rtk 2 (v := .bool false) (hy := Or.inl ⟨by rfl,fun W _ => by go_simp⟩) (h := ?_)
    refine rtk 3 (h := ?_)
    refine rtk 4 (h := ?_)
    refine rtk 5 (h := ?_)
    refine rtk 6 (h := ?_)
    refine rtk 7 (v := .bool false) (hy := Or.inl ⟨by rfl,fun W _ => by go_simp⟩) (h := ?_)
    refine rtk 8 (h := ?_)
    refine rtk 9 (h := ?_)
    refine rtk 10 (v := .agg q9.cells.toArray) (hy := yieldsIf_load_mid (by rfl) 30 _ rfl B4 0 rfl q9.cells _ (fun _ h => h.1) Tryz.underlying30 rfl packet_size) (h := ?_)
    refine rtk 11 (h := ?_)
    refine rtk 12 (h := ?_)
    refine rtk 13 (h := ?_)
    refine rtk 14 (h := ?_)
    refine rtk 15 (v := .agg q.cells.toArray) (hy := yieldsIf_load_mid (by rfl) 30 _ rfl b (off + k * 20) rfl q.cells _ (fun _ h => h.2) Tryz.underlying30 rfl packet_size) (h := ?_)
    refine rcl 16 (h := fun K hK => ?_)
    go_simp
    have HEQ : Hid (Calls Tryz.prog 12 #[.agg q9.cells.toArray,.agg q.cells.toArray] wb fun e w' => e = .returned (.bool true) /\ Below wb.heap.size wb w') := eqpk_same q9 q P wb ((uh HRa).below (uh HBb)) (((uh HD) _ (bnk (uh HCa) (uh HBb))).2.1) (sml_of (uh HOK))
    refine (uh HEQ).mono ?_
    rintro e wd9 ⟨rfl,hbc'⟩
    have HBc : Hid (Below wc.heap.size wc wd9) := bnk (uh HBb) hbc'
    clear hbc' HEQ
    go_simp
    refine hK.out _ _ ((uh HK) _ (uh HBc)) (fun hHeld => ?_)
    clear hK K
    refine rtk 17 (h := ?_)
    refine rtk 18 (h := ?_)
    refine wpAnyH_done (by kernel_rfl) ?_ _
    refine NoPanic.normal ?_
    have HCc : Hid (Below wo.heap.size wo wd9) := bnk (uh HCa) (uh HBc)
    have HYc : Hid (Byt wd9 (.slice bo N bc) (pbt P lb)) := (uh HYa).below (uh HBc)
    clear HK ba1 HBb HBc HCa HRa HPB HYa
    go_wp2
    go_loopw [9] (fun j wr => ∃ m : Nat,m <= 200000 /\ j = .int .i64 m /\ Below wd9.heap.size wd9 wr) (fun j _ => N - (intOf j).toNat)
    case atStart => exact ⟨0,by omega,rfl,Below.refl _ _⟩
    case round =>
     obtain ⟨m,hm,rfl,hbm⟩ := hrel
     obtain ⟨wi,hwi⟩ : ∃ wi,wi = wr := ⟨wr,rfl⟩
     subst hwi
     have HXi := zh hbm
     have HCi : Hid (Below wo.heap.size wo wi) := bnk (uh HCc) hbm
     have HYi : Hid (Byt wi (.slice bo N bc) (pbt P lb)) := (uh HYc).below hbm
     clear hbm
     by_cases hmN : m < N
     ·have HTK : Hid (Byt wi (.slice bo m bc) ((pbt P lb).take m)) := (uh HYi).take m (by omega)
      have HDS := zh (dec_short (k := m) (uh HTK) (uh HT) (by rw [<- uh HNN]; exact hmN))
      clear HYi
      go_wp2_with fail
      refine (uh HDS).mono ?_
      rintro e wj ⟨Ej,rfl,hEj,hbj⟩
      have HXj : Hid (Below wd9.heap.size wd9 wj) := bnk (uh HXi) hbj
      clear hbj HDS HTK HXi HCi
      dsimp only
      iterate 13 go_step
      refine Go.Proofs.YtemedclhglkfjaaGreatDoor.wpList_value rfl (pk_alloc _ _ _ _ _ _) ?_
      simp only [Act.put,List.setIfInBounds_toArray,List.set_cons_zero,List.set_cons_succ]
      refine Go.Proofs.YtemedclhglkfjaaGreatDoor.wpList_skip rfl (pk_store _ _ _ _ _ _ _ pkz _ rfl rfl) ?_
      simp only [Act.put]
      have HAB : Hid (Below wj.heap.size wj (wj.alloc (.cells pkz.cells.toArray 30))) := bal _ _
      generalize wj.alloc (.cells pkz.cells.toArray 30) = wk at HAB |-
      have HXk : Hid (Below wd9.heap.size wd9 wk) := bnk (uh HXj) (uh HAB)
      have HEk : Hid (ErrX wk Ej 3) := (uh hEj).below (uh HAB)
      clear hEj HXj HAB
      go_wp2_with fail
      refine (num4 _ 3 _ ((uh HD) _ (bnk (uh HCc) (uh HXk))).2.2.1 (uh HEk)).mono ?_
      rintro e wl ⟨rfl,hbl⟩
      have HXl : Hid (Below wd9.heap.size wd9 wl) := bnk (uh HXk) hbl
      clear hbl HXk HEk
      go_wp2
      go_roundw
      case rel => exact ⟨m + 1 + N / 15,by omega,by go_num,uh HXl⟩
      case measure => simp [intOf]; omega
     ·have HCZ := HCi
      clear HXi HYi HCi
      obtain ⟨-,-,-,-,cZ,-⟩ := (uh HD) _ (uh HCZ)
      go_wp2_with fail
      refine (dec_two ((uh HD) _ (uh HCZ)).2.2.2.2.2).mono ?_
      rintro e wA ⟨qA,nA,EA,rfl,hbA,hcase⟩
      have HCA : Hid (Below wo.heap.size wo wA) := bnk (uh HCZ) hbA
      clear hbA cZ HCZ
      dsimp only
      iterate 13 go_step
      refine Go.Proofs.YtemedclhglkfjaaGreatDoor.wpList_value rfl (pk_alloc _ _ _ _ _ _) ?_
      simp only [Act.put,List.setIfInBounds_toArray,List.set_cons_zero,List.set_cons_succ]
      refine Go.Proofs.YtemedclhglkfjaaGreatDoor.wpList_skip rfl (pk_store _ _ _ _ _ _ _ qA _ rfl rfl) ?_
      simp only [Act.put]
      have HAB : Hid (Below wA.heap.size wA (wA.alloc (.cells qA.cells.toArray 30))) := bal _ _
      have HPB := zh (pk_new wA qA)
      obtain ⟨BB,hBB⟩ : ∃ BB,BB = wA.heap.size := ⟨_,rfl⟩
      rw [<- hBB] at HPB |-
      clear hBB
      generalize wA.alloc (.cells qA.cells.toArray 30) = wB at HAB HPB |-
      have HCB : Hid (Below wo.heap.size wo wB) := bnk (uh HCA) (uh HAB)
      clear HCA
      rcases hcase with ⟨mA,hmA,hEA⟩ | ⟨rfl,PA,lA,hRA,hBA,h1A,h2A,h3A,h4A⟩
      ·go_wp2_with fail
       refine (num4 _ mA _ ((uh HD) _ (uh HCB)).2.2.1 ((uh hEA).below (uh HAB))).mono ?_
       rintro e wE ⟨rfl,hbE⟩
       have HCE := zh ((uh HD) _ (bnk (uh HCB) hbE)).2.2.2.1
       clear hbE
       have hmz : (mA == 0) = false := by simp [hmA]
       go_wp2
       go_roundw
       case rel => exact ⟨k + 1,by omega,by omega,by go_num,uh HCE⟩
       case measure => simp [intOf]; omega
      ·go_wp2_with fail
       refine (num4_nil _).mono ?_
       rintro e wE ⟨rfl,rfl⟩
       go_upto_region 19 with fail
       go_step
       refine wpList_load_mid rfl 30 _ rfl BB 0 rfl qA.cells _ (uh HPB).range Tryz.underlying30 rfl packet_size ?_
       simp only [Act.put,List.setIfInBounds_toArray,List.set_cons_zero,List.set_cons_succ]
       go_wp2_with fail
       refine (enc_sure ((uh hRA).below (uh HAB)) (uh hBA) (uh h1A) (uh h2A) (uh h3A) h4A).mono ?_
       rintro e wF ⟨vF,MF,hMF,rfl,⟨aF,cF,rfl⟩,hbF⟩
       have HCF : Hid (Below wo.heap.size wo wF) := bnk (uh HCB) hbF
       clear hbF HCB
       go_wp2_with fail
       refine (num4_nil _).mono ?_
       rintro e wG ⟨rfl,rfl⟩
       have HCG := zh ((uh HD) _ (uh HCF)).2.2.2.1
       have hMF' : ¬ (nA : Int) < (MF : Int) := by omega
       go_wp2
       go_roundw
       case rel => exact ⟨k + 1,by omega,by omega,by go_num,uh HCG⟩
       case measure => simp [intOf]; omega
  ·go_wp2_with (go_at_call 13; refine (wakes4 _).mono ?_; rintro e w' ⟨rfl,hbw⟩)
   all_goals (
    go_ret
    exact ⟨rfl,hbel.trans (hbw.mono hbel.size)⟩)
theorem back_walk0 (ao : Option Addr) (cap : Nat) (w : World) : Calls Tryz.prog 4 #[.slice ao 0 cap] w fun e w' => e = .returned (.bool true) /\ Below w.heap.size w w' := by
 go_enter Tryz.func4,Tryz.ntmps4
 go_wp2
 refine wp_loop_rounds 1 ?_
 rw [rounds_succ]
 go_wp2_with (go_at_call 13; refine (wakes4 _).mono ?_; rintro e w' ⟨rfl,hbw⟩)
 go_ret
 exact ⟨rfl,hbw⟩
end Go.Proofs.YtemedclhglkfjaaGreatDoor.K.B
namespace Go.Proofs.YtemedclhglkfjaaGreatDoor.K.B
open Go.ChangeShapes Go.WideShapes Go.ChangeAt Go.RowKit Go.Deep
open Go.Proofs.YtemedclhglkfjaaGreatDoor.K
open Go.Proofs.YtemedclhglkfjaaGreatDoor.K.W
set_option maxRecDepth 100000
theorem cU8 : Tryz.prog.cellsOf 5 = 1 := by kernel_rfl
theorem byt_of_trod {H : Type} {enc : TypeId × Value -> H} {W : World} {fuel : Nat} {v : Value} {d : DataW H} {ps : List MemPlace} (h : DataW.trod enc Tryz.prog W 0 (fun _ => true) true fuel 31 [v] = some (d,ps)) :
  ∃ bs,Byt W v bs := by
 rcases open_ints Tryz.underlying31 Tryz.underlying5 cU8 h with ⟨hcs,hx⟩ | ⟨a,len,cap,zs,hcs,_,hl,hm,hz,hx,hcell,hwz⟩
 ·simp at hcs
  subst hcs
  exact ⟨[],⟨none,0,rfl,⟨by simp,by simp⟩,by intro j; simp,.inl rfl⟩⟩
 ·simp at hcs
  subst hcs
  simp only [if_true] at hz
  simp only [Prod.mk.injEq] at hx
  obtain ⟨rfl,rfl⟩ := hx
  have hr : ∀ j,0 <= (zs.take len).getD j 0 /\ (zs.take len).getD j 0 <= 255 := by
   intro j
   by_cases hj : j < (zs.take len).length
   ·have hmem : (zs.take len).getD j 0 ∈ zs := by
     rw [List.getD_eq_getElem?_getD,List.getElem?_eq_getElem hj]
     exact List.mem_of_mem_take (List.getElem_mem hj)
    have := hwz _ hmem
    have h1 : IntKind.u8.min = 0 := rfl
    have h2 : IntKind.u8.max = 255 := rfl
    simp only [Lit.wf,Bool.and_eq_true,decide_eq_true_eq] at this
    omega
   ·rw [List.getD_eq_getElem?_getD,List.getElem?_eq_none (by omega)]; simp
  have hlen : (zs.take len).length = len := by rw [List.length_take]; omega
  refine ⟨zs.take len,⟨some a,cap,by rw [hlen],⟨by rw [hlen]; exact hl,hm⟩,hr,?_⟩⟩
  ·by_cases h0 : len = 0
   ·exact .inl (by rw [h0]; rfl)
   ·obtain ⟨b,off,spot⟩ := a
    have hspot : spot = none := by simpa [Addr.add] using World.cell?_spot (hcell 0 (by omega))
    subst hspot
    refine .inr ⟨b,off,rfl,fun j hj => ?_⟩
    rw [hlen] at hj
    rw [<- add_plain,hcell j (by omega),List.getD_eq_getElem?_getD,List.getD_eq_getElem?_getD,List.getElem?_take,if_pos hj]
def AsksB (W : World) (v : Value) : Prop :=
 ∃ ao len cap,v = .slice ao len cap /\ len <= maxLen /\ (len = 0 \/ ∃ b off,ao = some ⟨b,off,none⟩ /\ ∃ (qs : Nat -> Pkv) (Pp : Nat -> Pa) (vs : Nat -> Value) (zs : Nat -> List Int),∀ k,k < len -> AskB W b (off + k * 20) (qs k) (Pp k) (vs k) (zs k))
abbrev AskT := (Pkv × Pa) × Value × List Int
abbrev akc (x : AskT) : List Value := x.1.1.cells ++ [x.2.1]
theorem cells_len (q : Pkv) : q.cells.length = 19 := rfl
theorem ask_of {H : Type} {enc : TypeId × Value -> H} {W : World} {n : Nat} {cs : List Value} {d0 : DataW H} {ps : List MemPlace} (h : DataW.trod enc Tryz.prog W 0 (fun _ => true) true n 33 cs = some (d0,ps)) (hb : Rows.uptoBulk d0 <= 1048576) :
  (∃ x : AskT,cs = akc x /\ RPk W x.1.1 x.1.2 /\ Ok x.1.2 /\ Byt W x.2.1 x.2.2) /\ 1 <= Rows.uptoBulk d0 := by
 refine ⟨?_,one_le d0⟩
 obtain ⟨xs,k,hk,hxy,hcl,hxl,hf⟩ := DataW.trod_struct Tryz.underlying33 h
 rw [cAsk] at hcl
 simp only [Prod.mk.injEq] at hxy
 match xs,hxl with
 | [y0,y1],_ =>
  have g0 := hf 0 _ rfl
  simp [cPk] at g0
  have g1 := hf 1 _ rfl
  simp [cBytes] at g1
  obtain ⟨d1,p1⟩ := y0
  obtain ⟨q,P,hq,hR,hO⟩ := pk_of g0 (by
   have k1 := part_le (d := d1) (l := [d1,y1.1]) (by simp)
   rw [hxy.1] at hb
   simp only [List.map,Rows.uptoBulk] at hb
   omega)
  have hd : cs = cs.take 19 ++ cs.drop 19 := (List.take_append_drop 19 cs).symm
  have hl : (cs.drop 19).length = 1 := by rw [List.length_drop,hcl]
  obtain ⟨v,hv⟩ := List.length_eq_one_iff.1 hl
  rw [hv] at g1
  obtain ⟨d2,p2⟩ := y1
  obtain ⟨bs,hB⟩ := byt_of_trod (v := v) (by simpa using g1)
  exact ⟨((q,P),v,bs),by rw [hd,hv,hq],hR,hO,hB⟩
theorem asks_openB {H : Type} {enc : TypeId × Value -> H} {W : World} {v : Value} {d : DataW H} {ps : List MemPlace} (h : DataW.Trod enc Tryz.prog W 0 (fun _ => true) true 22 v d ps) (hs : ∃ ao len cap,v = .slice ao len cap)
  (hb : Rows.uptoBulk d <= 1048576) : AsksB W v := by
 obtain ⟨ao,len,cap,rfl⟩ := hs
 obtain ⟨fuel,hf⟩ := h
 obtain ⟨s,l,hv,hn,hc,hat,hg,-⟩ := list_of_trod (α := AskT) ((pkz,pa0 0 false 0 false),.nilIface,[]) 22 33 20 1 Tryz.underlying22 cAsk (by omega) akc (fun x => by simp [akc,cells_len]) (fun x => RPk W x.1.1 x.1.2 /\ Ok x.1.2 /\ Byt W x.2.1 x.2.2) (fun n cs d ps h hb => ask_of h hb) (v := .slice ao len cap) (by simpa [Value.cells] using hf) hb
 have e1 : ao = s.ao /\ len = s.n /\ cap = s.cap := by
  have := hv
  simp only [Sl.val,Value.slice.injEq] at this
  exact this
 obtain ⟨e1,e2,e3⟩ := e1
 refine ⟨ao,len,cap,rfl,by rw [e2,hn]; omega,?_⟩
 rcases hat with h0 | ⟨b,off,e,hat⟩
 ·exact .inl (by rw [e2,hn,h0]; rfl)
 ·refine .inr ⟨b,off,by rw [e1,e],fun k => (l.getD k ((pkz,pa0 0 false 0 false),.nilIface,[])).1.1,fun k => (l.getD k ((pkz,pa0 0 false 0 false),.nilIface,[])).1.2,fun k => (l.getD k ((pkz,pa0 0 false 0 false),.nilIface,[])).2.1,fun k => (l.getD k ((pkz,pa0 0 false 0 false),.nilIface,[])).2.2,fun k hk => ?_⟩
  rw [e2,hn] at hk
  refine ⟨fun j u hu => hat k hk j u ?_,(hg k hk).1,(hg k hk).2.1,hat k hk 19 _ ?_,(hg k hk).2.2⟩
  ·have hj := (List.getElem?_eq_some_iff.1 hu).1
   rw [List.getElem?_append_left hj]
   exact hu
  ·rw [List.getElem?_append_right (by rw [cells_len]; omega),cells_len]
   rfl
theorem back_calls (v : Value) (w : World) (hg : Laid w) (h : AsksB w v) :
  Calls Tryz.prog 4 #[v] w fun e w' => e = .returned (.bool true) /\ Below w.heap.size w w' := by
 obtain ⟨ao,len,cap,rfl,hlen,h0 | ⟨b,off,rfl,qs,Pp,vs,zs,hk⟩⟩ := h
 ·subst h0
  exact back_walk0 ao cap w
 ·exact back_walk b off len cap qs Pp vs zs w hlen hg hk
end Go.Proofs.YtemedclhglkfjaaGreatDoor.K.B
