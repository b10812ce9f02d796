/- Proved here: helpers, one text behind the other. -/
import Derived.Test.YtemedclhglkfjaaGreatDoorM48
import Derived.Test.YtemedclhglkfjaaGreatDoorM51
import Derived.Test.YtemedclhglkfjaaGreatDoorZKTk
set_option maxHeartbeats 20000000
namespace Go.Proofs.YtemedclhglkfjaaGreatDoor.K
open Go.RowKit
set_option maxRecDepth 100000
theorem all_false {α : Type} {f : α -> Bool} {l : List α} {k : Nat} {c0 : Bool} (h : false = (c0 && (l.take k).all f)) : (c0 && l.all f) = false := by
 cases c0
 ·rfl
 ·rw [Bool.true_and] at h |-
  rw [<- List.take_append_drop k l,List.all_append,<- h]
  rfl
theorem all_snoc {α : Type} (f : α -> Bool) (l : List α) (k : Nat) (hk : k < l.length) {c0 : Bool} (h : true = (c0 && (l.take k).all f)) : f l[k] = (c0 && (l.take (k + 1)).all f) := by
 cases c0
 ·cases h
 ·rw [Bool.true_and] at h |-
  rw [List.take_add_one,List.getElem?_eq_getElem hk,List.all_append,<- h,Bool.true_and]
  simp
theorem may_subs (q : Pkv) (P : Pa) (w : World) (hR : RPk w q P) (hmx : P.props.length <= 1000000000) (hsm : Go.Proofs.YtemedclhglkfjaaGreatDoor.Small P.props) (E : Bool) (hEQ : ∀ W,Below w.heap.size w W -> Calls Tryz.prog 12 #[.agg (((xk q).wi_id q.id).wi_subs q.subs).cells.toArray,.agg q.cells.toArray] W fun e w' => e = .returned (.bool E) /\ Below W.heap.size W w') (hz : ∀ k,k < P.subs.length -> (P.subs.getD k sb0).filter.size <= 4611686018427387904) (len : Nat) (hln : P.subs.length = len) (hlb : len <= 1000000000) (hk : P.kind = 8) :
  Calls Tryz.prog 27 #[q.val] w fun e w' => e = .returned (.bool (tlB P ((idO q.id && mc P.subs.length) && P.subs.all msB) E)) /\ Below w.heap.size w w' := by
 have HEQ := zh hEQ
 have HMX0 := zh hmx
 have HSM := zh hsm
 have HRP := zh hR.props
 have HQN := zh hR.cnt.ns.1
 have HKP := zh hR.sc.1
 obtain ⟨ao,cap,hv,⟨hlc,hcm⟩,hS⟩ := hR.subs
 rw [hln] at hv hlc
 have HLN := zh hln
 clear hln
 have HV := zh hv
 have HS := zh hS
 have HZ := zh hz
 clear hv hS hz
 have hk2 := hk
 rw [<- hR.sc.1] at hk2
 have HKK := zh hk2
 have HSC := zh hR
 clear hEQ hsm hR hk hk2
 have HPN := zh (pk_new w q)
 have HMN := zh (ms_new w q)
 have HX : Hid ((w.alloc (.cells q.cells.toArray 30)).heap.size = w.heap.size + 1) := by show _ = _; simp
 go_enter Tryz.func27,Tryz.ntmps27
 go_upto_region 1 with fail
 change Code.wp _ _ _ _ (w.alloc (.cells q.cells.toArray 30))
 generalize w.alloc (.cells q.cells.toArray 30) = wa at HPN HMN HX |-
 have c0 := (uh HPN).kind
 have c7 := (uh HPN).props
 iterate 13 go_step
 refine Go.Proofs.YtemedclhglkfjaaGreatDoor.wpList_value rfl (packet_build2 _ _ _ _ _ _ _ q rfl rfl _) ?_
 simp only [Act.put,List.setIfInBounds_toArray,List.set_cons_zero,List.set_cons_succ]
 refine Go.Proofs.YtemedclhglkfjaaGreatDoor.wpList_value rfl (mpacket_alloc _ _ _ _ _ _) ?_
 simp only [Act.put,List.setIfInBounds_toArray,List.set_cons_zero,List.set_cons_succ]
 refine Go.Proofs.YtemedclhglkfjaaGreatDoor.wpList_skip rfl (mpacket_store _ _ _ _ _ _ _ (xk q) wa rfl rfl) ?_
 simp only [Act.put]
 have HM : Hid (MS w (wa.alloc (.cells (xk q).cells.toArray 30)) w.heap.size wa.heap.size q (xk q)) := by rw [uh HX]; exact uh HMN
 generalize wa.alloc (.cells (xk q).cells.toArray 30) = w1 at HM |-
 generalize wa.heap.size = X at HM |-
 generalize hBB : w.heap.size = B at HM |-
 have HBB := zh hBB
 clear c0 c7 HPN HMN HX hBB
 have c0 := (uh HM).pb.kind
 rw [uh HKK] at c0
 go_wp2_with fail
 have HMd0 : Hid (MS w w1.drew B X q (xk q)) := (uh HM).below (below_drewN (Below.refl _ _) 1)
 clear HM c0
 refine wp_region_noPanic ?_
 refine wp_region_held_drew (S := (fun w' => w'.cell? ⟨B,5,none⟩ = some (.int .i64 q.id) /\ w'.cell? ⟨B,16,none⟩ = some (q.subs.val))) (by kernel_rfl) ⟨(uh HMd0).pb.id,(uh HMd0).pb.subs⟩ (fun hHeld => ?_)
 generalize w1.drew = wd0 at HMd0 hHeld |-
 refine rtk 0 (h := ?_)
 refine rtk 1 (h := ?_)
 refine rtk 2 (h := ?_)
 refine rtk 3 (h := ?_)
 refine rtk 4 (h := ?_)
 have x5 := (uh HMd0).px.id
 have y5 := (uh HMd0).px.id_f
 have HMd1 := zh ((uh HMd0).wi_id q.id)
 refine rcl 5 (h := fun K hK => ?_)
 go_simp
 refine hK.out _ _ ⟨(uh HMd1).pb.id,(uh HMd1).pb.subs⟩ (fun hHeld => ?_)
 clear hK K x5 y5 HMd0
 generalize World.setCell _ ⟨X,5,none⟩ (.int .i64 q.id) = wd1 at HMd1 hHeld |-
 refine rtk 6 (h := ?_)
 have x16 := (uh HMd1).px.subs
 have y16 := (uh HMd1).px.subs_f
 have HMd2 := zh ((uh HMd1).wi_subs q.subs)
 refine rcl 7 (h := fun K hK => ?_)
 go_simp
 refine hK.out _ _ ⟨(uh HMd2).pb.id,(uh HMd2).pb.subs⟩ (fun hHeld => ?_)
 clear hK K x16 y16 HMd1
 generalize World.setCell _ ⟨X,16,none⟩ (q.subs.val) = wd2 at HMd2 hHeld |-
 refine wpAnyH_done (by kernel_rfl) ?_ _
 refine NoPanic.normal ?_
 have HM := HMd2
 clear HMd2 hHeld
 have b5 := (uh HM).pb.id
 have b16 := (uh HM).pb.subs
 rw [uh HV] at b16
 go_wp2_with fail
 refine (gid_any q.id _).mono ?_
 rintro e w3 ⟨rfl,hw3⟩
 obtain rfl := hw3.symm
 clear hw3
 cases hid : idO q.id
 ·have HR : Hid (tlB P ((idO q.id && mc P.subs.length) && P.subs.all msB) E = false) := by show _ = _; rw [hid]; rfl
  clear hid
  go_wp2
  refine wp_loop_rounds 1 ?_
  rw [rounds_succ]
  go_wp2
  all_goals (
   go_ret
   exact ⟨by rw [uh HR]; rfl,(uh HM).bel⟩)
 ·have HID := zh hid
  clear hid
  go_wp2_with fail
  refine (gsome_any _ _).mono ?_
  rintro e w4 ⟨rfl,hw4⟩
  obtain rfl := hw4.symm
  clear hw4 b5
  obtain ⟨c0,HC0⟩ : ∃ c0,Hid (c0 = mc len) := ⟨_,rfl⟩
  rw [<- uh HC0]
  go_wp2
  go_loopw [4,5] (fun cv i wr => ∃ (k : Nat) (c : Bool),k <= len /\ i = .int .i64 k /\ cv = .bool c /\ Hid (c = (c0 && (P.subs.take k).all msB)) /\ Hid (MS w wr B X q (((xk q).wi_id q.id).wi_subs q.subs))) (fun _ i _ => len - (intOf i).toNat)
  case atStart => exact ⟨0,c0,Nat.zero_le _,rfl,rfl,by show _ = _; simp,HM⟩
  case round =>
   obtain ⟨k,c,hk,rfl,rfl,HC,HM1⟩ := hrel
   clear HM
   have HM := HM1
   clear HM1
   have b16 := (uh HM).pb.subs
   rw [uh HV] at b16
   by_cases hlt : k < len
   ·cases c
    ·have HR : Hid (tlB P ((idO q.id && mc P.subs.length) && P.subs.all msB) E = false) := by
      show _ = _
      rw [uh HLN,<- uh HC0,uh HID,Bool.true_and,all_false (uh HC)]
      rfl
     go_wp2
     go_ret
     exact ⟨by rw [uh HR]; rfl,(uh HM).bel⟩
    ·have hkl : k < P.subs.length := by rw [uh HLN]; exact hlt
     have HN := zh (all_snoc msB P.subs k hkl (uh HC))
     obtain ⟨b,off,rfl,hcl⟩ : ∃ b off,ao = some ⟨b,off,none⟩ /\ SbAt w b off P.subs := by
      rcases uh HS with e | k
      ·rw [e] at hkl; simp at hkl
      ·exact k
     have hb := hcl k hkl
     have hB := (uh HM).bel
     obtain ⟨d0,d1,d2,d3,d4⟩ := hb
     have hbl : b < w.heap.size := cell_lt d0
     have e0 := (hB.cell hbl).trans d0
     have e1 := (hB.cell hbl).trans d1
     have e2 := (hB.cell hbl).trans d2
     have e3 := (hB.cell hbl).trans d3
     have e4 := (hB.cell hbl).trans d4
     have hzz := (uh HZ) k hkl
     clear d0 d1 d2 d3 d4
     have hgd : P.subs.getD k sb0 = P.subs[k] := by rw [List.getD_eq_getElem?_getD,List.getElem?_eq_getElem hkl]; rfl
     rw [hgd] at e0 e1 e2 e3 e4 hzz
     generalize P.subs[k] = sv at e0 e1 e2 e3 e4 hzz HN
     clear hgd
     clear hcl hB
     go_wp2_with fail
     refine (maySub_any sv _ hzz).mono ?_
     rintro e w5 ⟨rfl,hb5⟩
     have HM2 := zh ((uh HM).below hb5)
     clear hb5 e0 e1 e2 e3 e4
     go_wp2
     go_roundw
     case rel => exact ⟨k + 1,_,by omega,by go_num,rfl,uh HN,HM2⟩
     case measure => simp [intOf]; omega
   ·obtain rfl : len = k := by omega
    have HCC : Hid (c = ((idO q.id && mc P.subs.length) && P.subs.all msB)) := by
     show _ = _
     rw [uh HLN,uh HC,List.take_of_length_le (Nat.le_of_eq (uh HLN)),uh HC0,uh HID,Bool.true_and]
    cases c
    ·have HR : Hid (tlB P ((idO q.id && mc P.subs.length) && P.subs.all msB) E = false) := by show _ = _; rw [<- uh HCC]; rfl
     go_wp2
     go_ret
     exact ⟨by rw [uh HR]; rfl,(uh HM).bel⟩
    ·go_upto_region 55 with fail
     iterate 7 go_step
     refine mpList_wanted (by rfl) fun K hK => wp_load_mid 30 _ rfl X 0 rfl (((xk q).wi_id q.id).wi_subs q.subs).cells _ (uh HM).px.range Tryz.underlying30 rfl packet_size (hK _ _ ?_)
     clear hK K
     simp only [Act.put,List.setIfInBounds_toArray,List.set_cons_zero,List.set_cons_succ]
     refine mpList_wanted (by rfl) fun K hK => wp_load_mid 30 _ rfl B 0 rfl q.cells _ (uh HM).pb.range Tryz.underlying30 rfl packet_size (hK _ _ ?_)
     clear hK K
     simp only [Act.put,List.setIfInBounds_toArray,List.set_cons_zero,List.set_cons_succ]
     go_wp2_with fail
     refine ((uh HEQ) _ (uh HM).bel).mono ?_
     rintro e wz ⟨rfl,hbz⟩
     have HZ := zh ((uh HM).below hbz)
     clear hbz HM
     have z0 := (uh HZ).pb.kind
     have z7 := (uh HZ).pb.props
     rw [show q.props.val = .slice q.props.ao q.props.n q.props.cap from rfl,uh HQN] at z7
     cases E
     ·have HR : Hid (tlB P ((idO q.id && mc P.subs.length) && P.subs.all msB) false = false) := by show _ = _; rw [<- uh HCC]; rfl
      go_wp2
      go_ret
      exact ⟨by rw [uh HR]; rfl,(uh HZ).bel⟩
     ·by_cases hp0 : P.props.length = 0
      ·have HR : Hid (tlB P ((idO q.id && mc P.subs.length) && P.subs.all msB) true = true) := by show _ = _; rw [<- uh HCC]; unfold tlB; rw [decide_eq_true hp0]; rfl
       rw [hp0] at z7
       clear hp0
       go_wp2
       go_ret
       exact ⟨by rw [uh HR]; rfl,(uh HZ).bel⟩
      ·have HR : Hid (tlB P ((idO q.id && mc P.subs.length) && P.subs.all msB) true = okP P.kind P.props) := by show _ = _; rw [<- uh HCC]; unfold tlB; rw [decide_eq_false hp0]; rfl
       have hp1 : ((P.props.length : Int) == 0) = false := beq_false_of_ne (by omega)
       clear hp0
       rw [uh HKP] at z0
       go_wp2_with fail
       refine (gprops_any _ P.props P.kind _ (by rw [<- uh HQN]; exact (uh HRP).below (uh HZ).bel) hmx (uh HSM)).mono ?_
       rintro e wy ⟨rfl,hby⟩
       have HY := zh ((uh HZ).below hby)
       clear hby HZ
       go_wp2
       go_ret
       exact ⟨by rw [uh HR]; rfl,(uh HY).bel⟩
theorem may_filters (q : Pkv) (P : Pa) (w : World) (hR : RPk w q P) (hmx : P.props.length <= 1000000000) (hsm : Go.Proofs.YtemedclhglkfjaaGreatDoor.Small P.props) (E : Bool) (hEQ : ∀ W,Below w.heap.size w W -> Calls Tryz.prog 12 #[.agg (((xk q).wi_id q.id).wi_filters q.filters).cells.toArray,.agg q.cells.toArray] W fun e w' => e = .returned (.bool E) /\ Below W.heap.size W w') (hz : ∀ k,k < P.filters.length -> (P.filters.getD k ⟨#[]⟩).size <= 4611686018427387904) (len : Nat) (hln : P.filters.length = len) (hlb : len <= 1000000000) (hk : P.kind = 10) :
  Calls Tryz.prog 27 #[q.val] w fun e w' => e = .returned (.bool (tlB P ((idO q.id && mc P.filters.length) && P.filters.all okT) E)) /\ Below w.heap.size w w' := by
 have HEQ := zh hEQ
 have HMX0 := zh hmx
 have HSM := zh hsm
 have HRP := zh hR.props
 have HQN := zh hR.cnt.ns.1
 have HKP := zh hR.sc.1
 obtain ⟨ao,cap,hv,⟨hlc,hcm⟩,hS⟩ := hR.filters
 rw [hln] at hv hlc
 have HLN := zh hln
 clear hln
 have HV := zh hv
 have HS := zh hS
 have HZ := zh hz
 clear hv hS hz
 have hk2 := hk
 rw [<- hR.sc.1] at hk2
 have HKK := zh hk2
 have HSC := zh hR
 clear hEQ hsm hR hk hk2
 have HPN := zh (pk_new w q)
 have HMN := zh (ms_new w q)
 have HX : Hid ((w.alloc (.cells q.cells.toArray 30)).heap.size = w.heap.size + 1) := by show _ = _; simp
 go_enter Tryz.func27,Tryz.ntmps27
 go_upto_region 1 with fail
 change Code.wp _ _ _ _ (w.alloc (.cells q.cells.toArray 30))
 generalize w.alloc (.cells q.cells.toArray 30) = wa at HPN HMN HX |-
 have c0 := (uh HPN).kind
 have c7 := (uh HPN).props
 iterate 13 go_step
 refine Go.Proofs.YtemedclhglkfjaaGreatDoor.wpList_value rfl (packet_build2 _ _ _ _ _ _ _ q rfl rfl _) ?_
 simp only [Act.put,List.setIfInBounds_toArray,List.set_cons_zero,List.set_cons_succ]
 refine Go.Proofs.YtemedclhglkfjaaGreatDoor.wpList_value rfl (mpacket_alloc _ _ _ _ _ _) ?_
 simp only [Act.put,List.setIfInBounds_toArray,List.set_cons_zero,List.set_cons_succ]
 refine Go.Proofs.YtemedclhglkfjaaGreatDoor.wpList_skip rfl (mpacket_store _ _ _ _ _ _ _ (xk q) wa rfl rfl) ?_
 simp only [Act.put]
 have HM : Hid (MS w (wa.alloc (.cells (xk q).cells.toArray 30)) w.heap.size wa.heap.size q (xk q)) := by rw [uh HX]; exact uh HMN
 generalize wa.alloc (.cells (xk q).cells.toArray 30) = w1 at HM |-
 generalize wa.heap.size = X at HM |-
 generalize hBB : w.heap.size = B at HM |-
 have HBB := zh hBB
 clear c0 c7 HPN HMN HX hBB
 have c0 := (uh HM).pb.kind
 rw [uh HKK] at c0
 go_wp2_with fail
 have HMd0 : Hid (MS w w1.drew B X q (xk q)) := (uh HM).below (below_drewN (Below.refl _ _) 1)
 clear HM c0
 refine wp_region_noPanic ?_
 refine wp_region_held_drew (S := (fun w' => w'.cell? ⟨B,5,none⟩ = some (.int .i64 q.id) /\ w'.cell? ⟨B,17,none⟩ = some (q.filters.val))) (by kernel_rfl) ⟨(uh HMd0).pb.id,(uh HMd0).pb.filters⟩ (fun hHeld => ?_)
 generalize w1.drew = wd0 at HMd0 hHeld |-
 refine rtk 0 (h := ?_)
 refine rtk 1 (h := ?_)
 refine rtk 2 (h := ?_)
 refine rtk 3 (h := ?_)
 refine rtk 4 (h := ?_)
 have x5 := (uh HMd0).px.id
 have y5 := (uh HMd0).px.id_f
 have HMd1 := zh ((uh HMd0).wi_id q.id)
 refine rcl 5 (h := fun K hK => ?_)
 go_simp
 refine hK.out _ _ ⟨(uh HMd1).pb.id,(uh HMd1).pb.filters⟩ (fun hHeld => ?_)
 clear hK K x5 y5 HMd0
 generalize World.setCell _ ⟨X,5,none⟩ (.int .i64 q.id) = wd1 at HMd1 hHeld |-
 refine rtk 6 (h := ?_)
 have x17 := (uh HMd1).px.filters
 have y17 := (uh HMd1).px.filters_f
 have HMd2 := zh ((uh HMd1).wi_filters q.filters)
 refine rcl 7 (h := fun K hK => ?_)
 go_simp
 refine hK.out _ _ ⟨(uh HMd2).pb.id,(uh HMd2).pb.filters⟩ (fun hHeld => ?_)
 clear hK K x17 y17 HMd1
 generalize World.setCell _ ⟨X,17,none⟩ (q.filters.val) = wd2 at HMd2 hHeld |-
 refine wpAnyH_done (by kernel_rfl) ?_ _
 refine NoPanic.normal ?_
 have HM := HMd2
 clear HMd2 hHeld
 have b5 := (uh HM).pb.id
 have b17 := (uh HM).pb.filters
 rw [uh HV] at b17
 go_wp2_with fail
 refine (gid_any q.id _).mono ?_
 rintro e w3 ⟨rfl,hw3⟩
 obtain rfl := hw3.symm
 clear hw3
 cases hid : idO q.id
 ·have HR : Hid (tlB P ((idO q.id && mc P.filters.length) && P.filters.all okT) E = false) := by show _ = _; rw [hid]; rfl
  clear hid
  go_wp2
  refine wp_loop_rounds 1 ?_
  rw [rounds_succ]
  go_wp2
  all_goals (
   go_ret
   exact ⟨by rw [uh HR]; rfl,(uh HM).bel⟩)
 ·have HID := zh hid
  clear hid
  go_wp2_with fail
  refine (gsome_any _ _).mono ?_
  rintro e w4 ⟨rfl,hw4⟩
  obtain rfl := hw4.symm
  clear hw4 b5
  obtain ⟨c0,HC0⟩ : ∃ c0,Hid (c0 = mc len) := ⟨_,rfl⟩
  rw [<- uh HC0]
  go_wp2
  go_loopw [4,6] (fun cv i wr => ∃ (k : Nat) (c : Bool),k <= len /\ i = .int .i64 k /\ cv = .bool c /\ Hid (c = (c0 && (P.filters.take k).all okT)) /\ Hid (MS w wr B X q (((xk q).wi_id q.id).wi_filters q.filters))) (fun _ i _ => len - (intOf i).toNat)
  case atStart => exact ⟨0,c0,Nat.zero_le _,rfl,rfl,by show _ = _; simp,HM⟩
  case round =>
   obtain ⟨k,c,hk,rfl,rfl,HC,HM1⟩ := hrel
   clear HM
   have HM := HM1
   clear HM1
   have b17 := (uh HM).pb.filters
   rw [uh HV] at b17
   by_cases hlt : k < len
   ·cases c
    ·have HR : Hid (tlB P ((idO q.id && mc P.filters.length) && P.filters.all okT) E = false) := by
      show _ = _
      rw [uh HLN,<- uh HC0,uh HID,Bool.true_and,all_false (uh HC)]
      rfl
     go_wp2
     go_ret
     exact ⟨by rw [uh HR]; rfl,(uh HM).bel⟩
    ·have hkl : k < P.filters.length := by rw [uh HLN]; exact hlt
     have HN := zh (all_snoc okT P.filters k hkl (uh HC))
     obtain ⟨b,off,rfl,hcl⟩ : ∃ b off,ao = some ⟨b,off,none⟩ /\ ∀ j,j < P.filters.length -> w.cell? ⟨b,off + j,none⟩ = some (.string (P.filters.getD j ⟨#[]⟩)) := by
      rcases uh HS with e | k
      ·rw [e] at hkl; simp at hkl
      ·exact k
     have hb := hcl k hkl
     have hB := (uh HM).bel
     have e0 := (hB.cell (cell_lt hb)).trans hb
     have hzz := (uh HZ) k hkl
     have hgd : P.filters.getD k ⟨#[]⟩ = P.filters[k] := by rw [List.getD_eq_getElem?_getD,List.getElem?_eq_getElem hkl]; rfl
     rw [hgd] at e0 hzz
     clear hb
     generalize P.filters[k] = sv at e0 hzz HN
     clear hgd
     clear hcl hB
     go_wp2_with fail
     refine (gtext_any sv (okT sv) rfl _ hzz).mono ?_
     rintro e w5 ⟨rfl,hb5⟩
     have HM2 := zh ((uh HM).below hb5)
     clear hb5 e0
     go_wp2
     go_roundw
     case rel => exact ⟨k + 1,_,by omega,by go_num,rfl,uh HN,HM2⟩
     case measure => simp [intOf]; omega
   ·obtain rfl : len = k := by omega
    have HCC : Hid (c = ((idO q.id && mc P.filters.length) && P.filters.all okT)) := by
     show _ = _
     rw [uh HLN,uh HC,List.take_of_length_le (Nat.le_of_eq (uh HLN)),uh HC0,uh HID,Bool.true_and]
    cases c
    ·have HR : Hid (tlB P ((idO q.id && mc P.filters.length) && P.filters.all okT) E = false) := by show _ = _; rw [<- uh HCC]; rfl
     go_wp2
     go_ret
     exact ⟨by rw [uh HR]; rfl,(uh HM).bel⟩
    ·go_upto_region 55 with fail
     iterate 7 go_step
     refine mpList_wanted (by rfl) fun K hK => wp_load_mid 30 _ rfl X 0 rfl (((xk q).wi_id q.id).wi_filters q.filters).cells _ (uh HM).px.range Tryz.underlying30 rfl packet_size (hK _ _ ?_)
     clear hK K
     simp only [Act.put,List.setIfInBounds_toArray,List.set_cons_zero,List.set_cons_succ]
     refine mpList_wanted (by rfl) fun K hK => wp_load_mid 30 _ rfl B 0 rfl q.cells _ (uh HM).pb.range Tryz.underlying30 rfl packet_size (hK _ _ ?_)
     clear hK K
     simp only [Act.put,List.setIfInBounds_toArray,List.set_cons_zero,List.set_cons_succ]
     go_wp2_with fail
     refine ((uh HEQ) _ (uh HM).bel).mono ?_
     rintro e wz ⟨rfl,hbz⟩
     have HZ := zh ((uh HM).below hbz)
     clear hbz HM
     have z0 := (uh HZ).pb.kind
     have z7 := (uh HZ).pb.props
     rw [show q.props.val = .slice q.props.ao q.props.n q.props.cap from rfl,uh HQN] at z7
     cases E
     ·have HR : Hid (tlB P ((idO q.id && mc P.filters.length) && P.filters.all okT) false = false) := by show _ = _; rw [<- uh HCC]; rfl
      go_wp2
      go_ret
      exact ⟨by rw [uh HR]; rfl,(uh HZ).bel⟩
     ·by_cases hp0 : P.props.length = 0
      ·have HR : Hid (tlB P ((idO q.id && mc P.filters.length) && P.filters.all okT) true = true) := by show _ = _; rw [<- uh HCC]; unfold tlB; rw [decide_eq_true hp0]; rfl
       rw [hp0] at z7
       clear hp0
       go_wp2
       go_ret
       exact ⟨by rw [uh HR]; rfl,(uh HZ).bel⟩
      ·have HR : Hid (tlB P ((idO q.id && mc P.filters.length) && P.filters.all okT) true = okP P.kind P.props) := by show _ = _; rw [<- uh HCC]; unfold tlB; rw [decide_eq_false hp0]; rfl
       have hp1 : ((P.props.length : Int) == 0) = false := beq_false_of_ne (by omega)
       clear hp0
       rw [uh HKP] at z0
       go_wp2_with fail
       refine (gprops_any _ P.props P.kind _ (by rw [<- uh HQN]; exact (uh HRP).below (uh HZ).bel) hmx (uh HSM)).mono ?_
       rintro e wy ⟨rfl,hby⟩
       have HY := zh ((uh HZ).below hby)
       clear hby HZ
       go_wp2
       go_ret
       exact ⟨by rw [uh HR]; rfl,(uh HY).bel⟩
theorem may_codes (q : Pkv) (P : Pa) (w : World) (hR : RPk w q P) (hmx : P.props.length <= 1000000000) (hsm : Go.Proofs.YtemedclhglkfjaaGreatDoor.Small P.props) (E : Bool) (hEQ : ∀ W,Below w.heap.size w W -> Calls Tryz.prog 12 #[.agg (((xk q).wi_id q.id).wi_codes q.codes).cells.toArray,.agg q.cells.toArray] W fun e w' => e = .returned (.bool E) /\ Below W.heap.size W w') (hz : ∀ k,k < P.codes.length -> -9223372036854775808 <= P.codes.getD k 0 /\ P.codes.getD k 0 <= 9223372036854775807) (len : Nat) (hln : P.codes.length = len) (hlb : len <= 1000000000) (hk : P.kind = 9 \/ P.kind = 11) :
  Calls Tryz.prog 27 #[q.val] w fun e w' => e = .returned (.bool (tlB P ((idO q.id && mc P.codes.length) && P.codes.all codeO) E)) /\ Below w.heap.size w w' := by
 have HEQ := zh hEQ
 have HMX0 := zh hmx
 have HSM := zh hsm
 have HRP := zh hR.props
 have HQN := zh hR.cnt.ns.1
 have HKP := zh hR.sc.1
 obtain ⟨ao,cap,hv,⟨hlc,hcm⟩,hS⟩ := hR.codes
 rw [hln] at hv hlc
 have HLN := zh hln
 clear hln
 have HV := zh hv
 have HS := zh hS
 have HZ := zh hz
 clear hv hS hz
 have hk2 := hk
 rw [<- hR.sc.1] at hk2
 have HKK := zh hk2
 have HSC := zh hR
 clear hEQ hsm hR hk hk2
 have HPN := zh (pk_new w q)
 have HMN := zh (ms_new w q)
 have HX : Hid ((w.alloc (.cells q.cells.toArray 30)).heap.size = w.heap.size + 1) := by show _ = _; simp
 go_enter Tryz.func27,Tryz.ntmps27
 go_upto_region 1 with fail
 change Code.wp _ _ _ _ (w.alloc (.cells q.cells.toArray 30))
 generalize w.alloc (.cells q.cells.toArray 30) = wa at HPN HMN HX |-
 have c0 := (uh HPN).kind
 have c7 := (uh HPN).props
 iterate 13 go_step
 refine Go.Proofs.YtemedclhglkfjaaGreatDoor.wpList_value rfl (packet_build2 _ _ _ _ _ _ _ q rfl rfl _) ?_
 simp only [Act.put,List.setIfInBounds_toArray,List.set_cons_zero,List.set_cons_succ]
 refine Go.Proofs.YtemedclhglkfjaaGreatDoor.wpList_value rfl (mpacket_alloc _ _ _ _ _ _) ?_
 simp only [Act.put,List.setIfInBounds_toArray,List.set_cons_zero,List.set_cons_succ]
 refine Go.Proofs.YtemedclhglkfjaaGreatDoor.wpList_skip rfl (mpacket_store _ _ _ _ _ _ _ (xk q) wa rfl rfl) ?_
 simp only [Act.put]
 have HM : Hid (MS w (wa.alloc (.cells (xk q).cells.toArray 30)) w.heap.size wa.heap.size q (xk q)) := by rw [uh HX]; exact uh HMN
 generalize wa.alloc (.cells (xk q).cells.toArray 30) = w1 at HM |-
 generalize wa.heap.size = X at HM |-
 generalize hBB : w.heap.size = B at HM |-
 have HBB := zh hBB
 clear c0 c7 HPN HMN HX hBB
 have c0 := (uh HM).pb.kind
 rcases uh HKK with hk | hk <;> rw [hk] at c0 <;> clear hk
 all_goals (
  go_wp2_with fail
  have HMd0 : Hid (MS w w1.drew B X q (xk q)) := (uh HM).below (below_drewN (Below.refl _ _) 1)
  clear HM c0
  refine wp_region_noPanic ?_
  refine wp_region_held_drew (S := (fun w' => w'.cell? ⟨B,5,none⟩ = some (.int .i64 q.id) /\ w'.cell? ⟨B,18,none⟩ = some (q.codes.val))) (by kernel_rfl) ⟨(uh HMd0).pb.id,(uh HMd0).pb.codes⟩ (fun hHeld => ?_)
  generalize w1.drew = wd0 at HMd0 hHeld |-
  refine rtk 0 (h := ?_)
  refine rtk 1 (h := ?_)
  refine rtk 2 (h := ?_)
  refine rtk 3 (h := ?_)
  refine rtk 4 (h := ?_)
  have x5 := (uh HMd0).px.id
  have y5 := (uh HMd0).px.id_f
  have HMd1 := zh ((uh HMd0).wi_id q.id)
  refine rcl 5 (h := fun K hK => ?_)
  go_simp
  refine hK.out _ _ ⟨(uh HMd1).pb.id,(uh HMd1).pb.codes⟩ (fun hHeld => ?_)
  clear hK K x5 y5 HMd0
  generalize World.setCell _ ⟨X,5,none⟩ (.int .i64 q.id) = wd1 at HMd1 hHeld |-
  refine rtk 6 (h := ?_)
  have x18 := (uh HMd1).px.codes
  have y18 := (uh HMd1).px.codes_f
  have HMd2 := zh ((uh HMd1).wi_codes q.codes)
  refine rcl 7 (h := fun K hK => ?_)
  go_simp
  refine hK.out _ _ ⟨(uh HMd2).pb.id,(uh HMd2).pb.codes⟩ (fun hHeld => ?_)
  clear hK K x18 y18 HMd1
  generalize World.setCell _ ⟨X,18,none⟩ (q.codes.val) = wd2 at HMd2 hHeld |-
  refine wpAnyH_done (by kernel_rfl) ?_ _
  refine NoPanic.normal ?_
  have HM := HMd2
  clear HMd2 hHeld
  have b5 := (uh HM).pb.id
  have b18 := (uh HM).pb.codes
  rw [uh HV] at b18
  go_wp2_with fail
  refine (gid_any q.id _).mono ?_
  rintro e w3 ⟨rfl,hw3⟩
  obtain rfl := hw3.symm
  clear hw3
  cases hid : idO q.id
  ·have HR : Hid (tlB P ((idO q.id && mc P.codes.length) && P.codes.all codeO) E = false) := by show _ = _; rw [hid]; rfl
   clear hid
   go_wp2
   refine wp_loop_rounds 1 ?_
   rw [rounds_succ]
   go_wp2
   all_goals (
    go_ret
    exact ⟨by rw [uh HR]; rfl,(uh HM).bel⟩)
  ·have HID := zh hid
   clear hid
   go_wp2_with fail
   refine (gsome_any _ _).mono ?_
   rintro e w4 ⟨rfl,hw4⟩
   obtain rfl := hw4.symm
   clear hw4 b5
   obtain ⟨c0,HC0⟩ : ∃ c0,Hid (c0 = mc len) := ⟨_,rfl⟩
   rw [<- uh HC0]
   go_wp2
   go_loopw [4,7] (fun cv i wr => ∃ (k : Nat) (c : Bool),k <= len /\ i = .int .i64 k /\ cv = .bool c /\ Hid (c = (c0 && (P.codes.take k).all codeO)) /\ Hid (MS w wr B X q (((xk q).wi_id q.id).wi_codes q.codes))) (fun _ i _ => len - (intOf i).toNat)
   case atStart => exact ⟨0,c0,Nat.zero_le _,rfl,rfl,by show _ = _; simp,HM⟩
   case round =>
    obtain ⟨k,c,hk,rfl,rfl,HC,HM1⟩ := hrel
    clear HM
    have HM := HM1
    clear HM1
    have b18 := (uh HM).pb.codes
    rw [uh HV] at b18
    by_cases hlt : k < len
    ·cases c
     ·have HR : Hid (tlB P ((idO q.id && mc P.codes.length) && P.codes.all codeO) E = false) := by
       show _ = _
       rw [uh HLN,<- uh HC0,uh HID,Bool.true_and,all_false (uh HC)]
       rfl
      go_wp2
      go_ret
      exact ⟨by rw [uh HR]; rfl,(uh HM).bel⟩
     ·have hkl : k < P.codes.length := by rw [uh HLN]; exact hlt
      have HN := zh (all_snoc codeO P.codes k hkl (uh HC))
      obtain ⟨b,off,rfl,hcl⟩ : ∃ b off,ao = some ⟨b,off,none⟩ /\ ∀ j,j < P.codes.length -> w.cell? ⟨b,off + j,none⟩ = some (.int .i64 (P.codes.getD j 0)) := by
       rcases uh HS with e | k
       ·rw [e] at hkl; simp at hkl
       ·exact k
      have hb := hcl k hkl
      have hB := (uh HM).bel
      have e0 := (hB.cell (cell_lt hb)).trans hb
      have hzz := (uh HZ) k hkl
      have hgd : P.codes.getD k 0 = P.codes[k] := by rw [List.getD_eq_getElem?_getD,List.getElem?_eq_getElem hkl]; rfl
      rw [hgd] at e0 hzz
      clear hb
      generalize P.codes[k] = sv at e0 hzz HN
      clear hgd
      clear hcl hB
      go_wp2_with fail
      refine (gcode_any sv _).mono ?_
      rintro e w5 ⟨rfl,hw5⟩
      have HM2 : Hid (MS w w5 B X q (((xk q).wi_id q.id).wi_codes q.codes)) := by rw [hw5]; exact HM
      clear hw5 e0
      go_wp2
      go_roundw
      case rel => exact ⟨k + 1,_,by omega,by go_num,rfl,uh HN,HM2⟩
      case measure => simp [intOf]; omega
    ·obtain rfl : len = k := by omega
     have HCC : Hid (c = ((idO q.id && mc P.codes.length) && P.codes.all codeO)) := by
      show _ = _
      rw [uh HLN,uh HC,List.take_of_length_le (Nat.le_of_eq (uh HLN)),uh HC0,uh HID,Bool.true_and]
     cases c
     ·have HR : Hid (tlB P ((idO q.id && mc P.codes.length) && P.codes.all codeO) E = false) := by show _ = _; rw [<- uh HCC]; rfl
      go_wp2
      go_ret
      exact ⟨by rw [uh HR]; rfl,(uh HM).bel⟩
     ·go_upto_region 55 with fail
      iterate 7 go_step
      refine mpList_wanted (by rfl) fun K hK => wp_load_mid 30 _ rfl X 0 rfl (((xk q).wi_id q.id).wi_codes q.codes).cells _ (uh HM).px.range Tryz.underlying30 rfl packet_size (hK _ _ ?_)
      clear hK K
      simp only [Act.put,List.setIfInBounds_toArray,List.set_cons_zero,List.set_cons_succ]
      refine mpList_wanted (by rfl) fun K hK => wp_load_mid 30 _ rfl B 0 rfl q.cells _ (uh HM).pb.range Tryz.underlying30 rfl packet_size (hK _ _ ?_)
      clear hK K
      simp only [Act.put,List.setIfInBounds_toArray,List.set_cons_zero,List.set_cons_succ]
      go_wp2_with fail
      refine ((uh HEQ) _ (uh HM).bel).mono ?_
      rintro e wz ⟨rfl,hbz⟩
      have HZ := zh ((uh HM).below hbz)
      clear hbz HM
      have z0 := (uh HZ).pb.kind
      have z7 := (uh HZ).pb.props
      rw [show q.props.val = .slice q.props.ao q.props.n q.props.cap from rfl,uh HQN] at z7
      cases E
      ·have HR : Hid (tlB P ((idO q.id && mc P.codes.length) && P.codes.all codeO) false = false) := by show _ = _; rw [<- uh HCC]; rfl
       go_wp2
       go_ret
       exact ⟨by rw [uh HR]; rfl,(uh HZ).bel⟩
      ·by_cases hp0 : P.props.length = 0
       ·have HR : Hid (tlB P ((idO q.id && mc P.codes.length) && P.codes.all codeO) true = true) := by show _ = _; rw [<- uh HCC]; unfold tlB; rw [decide_eq_true hp0]; rfl
        rw [hp0] at z7
        clear hp0
        go_wp2
        go_ret
        exact ⟨by rw [uh HR]; rfl,(uh HZ).bel⟩
       ·have HR : Hid (tlB P ((idO q.id && mc P.codes.length) && P.codes.all codeO) true = okP P.kind P.props) := by show _ = _; rw [<- uh HCC]; unfold tlB; rw [decide_eq_false hp0]; rfl
        have hp1 : ((P.props.length : Int) == 0) = false := beq_false_of_ne (by omega)
        clear hp0
        rw [uh HKP] at z0
        go_wp2_with fail
        refine (gprops_any _ P.props P.kind _ (by rw [<- uh HQN]; exact (uh HRP).below (uh HZ).bel) hmx (uh HSM)).mono ?_
        rintro e wy ⟨rfl,hby⟩
        have HY := zh ((uh HZ).below hby)
        clear hby HZ
        go_wp2
        go_ret
        exact ⟨by rw [uh HR]; rfl,(uh HY).bel⟩)
def pubO (topic : ByteArray) (qos id : Int) (dup : Bool) : Bool := okT topic && (decide (0 <= qos) && (decide (qos <= 2) && (if qos = 0 then decide (id = 0) && !dup else idO id)))
theorem pubO_t {t : ByteArray} {q i : Int} {d : Bool} (h : okT t = false) : pubO t q i d = false := by unfold pubO; rw [h]; rfl
theorem pubO_1 {t : ByteArray} {q i : Int} {d : Bool} (h : ¬ 0 <= q) : pubO t q i d = false := by unfold pubO; rw [decide_eq_false h]; simp
theorem pubO_2 {t : ByteArray} {q i : Int} {d : Bool} (h : ¬ q <= 2) : pubO t q i d = false := by unfold pubO; rw [decide_eq_false h]; simp
theorem pubO_3 {t : ByteArray} {i : Int} {d : Bool} (h : ¬ i = 0) : pubO t 0 i d = false := by unfold pubO; rw [if_pos rfl,decide_eq_false h]; simp
theorem pubO_4 {t : ByteArray} {i : Int} : pubO t 0 i true = false := by unfold pubO; rw [if_pos rfl]; simp
theorem pubO_5 {t : ByteArray} (h : okT t = true) : pubO t 0 0 false = true := by unfold pubO; rw [h]; rfl
theorem pubO_6 {t : ByteArray} {q i : Int} {d : Bool} (h : okT t = true) (h1 : 0 < q) (h2 : q <= 2) : pubO t q i d = idO i := by unfold pubO; rw [h,decide_eq_true (show 0 <= q from by omega),decide_eq_true h2,if_neg (by omega)]; simp
theorem may_pub (q : Pkv) (P : Pa) (w : World) (hR : RPk w q P) (hmx : P.props.length <= 1000000000) (hsm : Go.Proofs.YtemedclhglkfjaaGreatDoor.Small P.props) (E : Bool) (hEQ : ∀ W,Below w.heap.size w W -> Calls Tryz.prog 12 #[.agg (((((((xk q).wi_dup q.dup).wi_qos q.qos).wi_retain q.retain).wi_topic q.topic).wi_id q.id).wi_payload q.payload).cells.toArray,.agg q.cells.toArray] W fun e w' => e = .returned (.bool E) /\ Below W.heap.size W w') (hto : q.topic.size <= 4611686018427387904) (hk : P.kind = 3) :
  Calls Tryz.prog 27 #[q.val] w fun e w' => e = .returned (.bool (tlB P (pubO q.topic q.qos q.id q.dup) E)) /\ Below w.heap.size w w' := by
 have HEQ := zh hEQ
 have HMX0 := zh hmx
 have HSM := zh hsm
 have HRP := zh hR.props
 have HQN := zh hR.cnt.ns.1
 have HKP := zh hR.sc.1
 have hk2 := hk
 rw [<- hR.sc.1] at hk2
 have HKK := zh hk2
 have HSC := zh hR
 clear hEQ hsm hR hk hk2
 have HPN := zh (pk_new w q)
 have HMN := zh (ms_new w q)
 have HX : Hid ((w.alloc (.cells q.cells.toArray 30)).heap.size = w.heap.size + 1) := by show _ = _; simp
 go_enter Tryz.func27,Tryz.ntmps27
 go_upto_region 1 with fail
 change Code.wp _ _ _ _ (w.alloc (.cells q.cells.toArray 30))
 generalize w.alloc (.cells q.cells.toArray 30) = wa at HPN HMN HX |-
 have c0 := (uh HPN).kind
 have c7 := (uh HPN).props
 iterate 13 go_step
 refine Go.Proofs.YtemedclhglkfjaaGreatDoor.wpList_value rfl (packet_build2 _ _ _ _ _ _ _ q rfl rfl _) ?_
 simp only [Act.put,List.setIfInBounds_toArray,List.set_cons_zero,List.set_cons_succ]
 refine Go.Proofs.YtemedclhglkfjaaGreatDoor.wpList_value rfl (mpacket_alloc _ _ _ _ _ _) ?_
 simp only [Act.put,List.setIfInBounds_toArray,List.set_cons_zero,List.set_cons_succ]
 refine Go.Proofs.YtemedclhglkfjaaGreatDoor.wpList_skip rfl (mpacket_store _ _ _ _ _ _ _ (xk q) wa rfl rfl) ?_
 simp only [Act.put]
 have HM : Hid (MS w (wa.alloc (.cells (xk q).cells.toArray 30)) w.heap.size wa.heap.size q (xk q)) := by rw [uh HX]; exact uh HMN
 generalize wa.alloc (.cells (xk q).cells.toArray 30) = w1 at HM |-
 generalize wa.heap.size = X at HM |-
 generalize hBB : w.heap.size = B at HM |-
 have HBB := zh hBB
 clear c0 c7 HPN HMN HX hBB
 have c0 := (uh HM).pb.kind
 rw [uh HKK] at c0
 go_wp2_with fail
 have HMd0 : Hid (MS w w1.drew B X q (xk q)) := (uh HM).below (below_drewN (Below.refl _ _) 1)
 clear HM c0
 refine wp_region_noPanic ?_
 refine wp_region_held_drew (S := (fun w' => w'.cell? ⟨B,1,none⟩ = some (.bool q.dup) /\ w'.cell? ⟨B,2,none⟩ = some (.int .i64 q.qos) /\ w'.cell? ⟨B,3,none⟩ = some (.bool q.retain) /\ w'.cell? ⟨B,4,none⟩ = some (.string q.topic) /\ w'.cell? ⟨B,5,none⟩ = some (.int .i64 q.id) /\ w'.cell? ⟨B,6,none⟩ = some (.string q.payload))) (by kernel_rfl) ⟨(uh HMd0).pb.dup,(uh HMd0).pb.qos,(uh HMd0).pb.retain,(uh HMd0).pb.topic,(uh HMd0).pb.id,(uh HMd0).pb.payload⟩ (fun hHeld => ?_)
 generalize w1.drew = wd0 at HMd0 hHeld |-
 refine rtk 0 (h := ?_)
 refine rtk 1 (h := ?_)
 refine rtk 2 (h := ?_)
 refine rtk 3 (h := ?_)
 refine rtk 4 (h := ?_)
 refine rtk 5 (h := ?_)
 refine rtk 6 (h := ?_)
 refine rtk 7 (h := ?_)
 refine rtk 8 (h := ?_)
 refine rtk 9 (h := ?_)
 refine rtk 10 (h := ?_)
 refine rtk 11 (h := ?_)
 refine rtk 12 (h := ?_)
 have x1 := (uh HMd0).px.dup
 have y1 := (uh HMd0).px.dup_f
 have HMd1 := zh ((uh HMd0).wi_dup q.dup)
 refine rcl 13 (h := fun K hK => ?_)
 go_simp
 refine hK.out _ _ ⟨(uh HMd1).pb.dup,(uh HMd1).pb.qos,(uh HMd1).pb.retain,(uh HMd1).pb.topic,(uh HMd1).pb.id,(uh HMd1).pb.payload⟩ (fun hHeld => ?_)
 clear hK K x1 y1 HMd0
 generalize World.setCell _ ⟨X,1,none⟩ (.bool q.dup) = wd1 at HMd1 hHeld |-
 refine rtk 14 (h := ?_)
 have x2 := (uh HMd1).px.qos
 have y2 := (uh HMd1).px.qos_f
 have HMd2 := zh ((uh HMd1).wi_qos q.qos)
 refine rcl 15 (h := fun K hK => ?_)
 go_simp
 refine hK.out _ _ ⟨(uh HMd2).pb.dup,(uh HMd2).pb.qos,(uh HMd2).pb.retain,(uh HMd2).pb.topic,(uh HMd2).pb.id,(uh HMd2).pb.payload⟩ (fun hHeld => ?_)
 clear hK K x2 y2 HMd1
 generalize World.setCell _ ⟨X,2,none⟩ (.int .i64 q.qos) = wd2 at HMd2 hHeld |-
 refine rtk 16 (h := ?_)
 have x3 := (uh HMd2).px.retain
 have y3 := (uh HMd2).px.retain_f
 have HMd3 := zh ((uh HMd2).wi_retain q.retain)
 refine rcl 17 (h := fun K hK => ?_)
 go_simp
 refine hK.out _ _ ⟨(uh HMd3).pb.dup,(uh HMd3).pb.qos,(uh HMd3).pb.retain,(uh HMd3).pb.topic,(uh HMd3).pb.id,(uh HMd3).pb.payload⟩ (fun hHeld => ?_)
 clear hK K x3 y3 HMd2
 generalize World.setCell _ ⟨X,3,none⟩ (.bool q.retain) = wd3 at HMd3 hHeld |-
 refine rtk 18 (h := ?_)
 have x4 := (uh HMd3).px.topic
 have y4 := (uh HMd3).px.topic_f
 have HMd4 := zh ((uh HMd3).wi_topic q.topic)
 refine rcl 19 (h := fun K hK => ?_)
 go_simp
 refine hK.out _ _ ⟨(uh HMd4).pb.dup,(uh HMd4).pb.qos,(uh HMd4).pb.retain,(uh HMd4).pb.topic,(uh HMd4).pb.id,(uh HMd4).pb.payload⟩ (fun hHeld => ?_)
 clear hK K x4 y4 HMd3
 generalize World.setCell _ ⟨X,4,none⟩ (.string q.topic) = wd4 at HMd4 hHeld |-
 refine rtk 20 (h := ?_)
 have x5 := (uh HMd4).px.id
 have y5 := (uh HMd4).px.id_f
 have HMd5 := zh ((uh HMd4).wi_id q.id)
 refine rcl 21 (h := fun K hK => ?_)
 go_simp
 refine hK.out _ _ ⟨(uh HMd5).pb.dup,(uh HMd5).pb.qos,(uh HMd5).pb.retain,(uh HMd5).pb.topic,(uh HMd5).pb.id,(uh HMd5).pb.payload⟩ (fun hHeld => ?_)
 clear hK K x5 y5 HMd4
 generalize World.setCell _ ⟨X,5,none⟩ (.int .i64 q.id) = wd5 at HMd5 hHeld |-
 refine rtk 22 (h := ?_)
 have x6 := (uh HMd5).px.payload
 have y6 := (uh HMd5).px.payload_f
 have HMd6 := zh ((uh HMd5).wi_payload q.payload)
 refine rcl 23 (h := fun K hK => ?_)
 go_simp
 refine hK.out _ _ ⟨(uh HMd6).pb.dup,(uh HMd6).pb.qos,(uh HMd6).pb.retain,(uh HMd6).pb.topic,(uh HMd6).pb.id,(uh HMd6).pb.payload⟩ (fun hHeld => ?_)
 clear hK K x6 y6 HMd5
 generalize World.setCell _ ⟨X,6,none⟩ (.string q.payload) = wd6 at HMd6 hHeld |-
 refine wpAnyH_done (by kernel_rfl) ?_ _
 refine NoPanic.normal ?_
 have HM := HMd6
 clear HMd6 hHeld
 have HPO : Hid (pubO q.topic q.qos q.id q.dup = pubO q.topic q.qos q.id q.dup) := rfl
 have b1 := (uh HM).pb.dup
 have b2 := (uh HM).pb.qos
 have b4 := (uh HM).pb.topic
 have b5 := (uh HM).pb.id
 have HE0 := zh (Eq.refl (tlB P (pubO q.topic q.qos q.id q.dup) E))
 obtain ⟨qo,hqo⟩ : ∃ z,z = q.qos := ⟨_,rfl⟩
 obtain ⟨idd,hidd⟩ : ∃ z,z = q.id := ⟨_,rfl⟩
 obtain ⟨dd,hdd⟩ : ∃ z,z = q.dup := ⟨_,rfl⟩
 have HQO := zh hqo
 have HIDD := zh hidd
 have HDD := zh hdd
 rw [<- hqo] at b2
 rw [<- hidd] at b5
 rw [<- hdd] at b1
 clear hqo hidd hdd HPO HE0
 have HOK : Hid (pubO q.topic q.qos q.id q.dup = pubO q.topic qo idd dd) := by show _ = _; rw [uh HQO,uh HIDD,uh HDD]
 clear HQO HIDD HDD
 cases ht : okT q.topic
 ·have HT := zh ht
  clear ht
  go_wp2_with fail
  refine (gtext_any q.topic false (uh HT) _ hto).mono ?_
  rintro e w3 ⟨rfl,hb3⟩
  have HM3 := zh ((uh HM).below hb3)
  clear hb3 HM
  have HM := HM3
  clear HM3
  have HR : Hid (tlB P (pubO q.topic q.qos q.id q.dup) E = false) := by show _ = _; rw [uh HOK,pubO_t (uh HT)]; rfl
  go_wp2
  go_ret
  exact ⟨by rw [uh HR]; rfl,(uh HM).bel⟩
 ·have HT := zh ht
  clear ht
  go_wp2_with fail
  refine (gtext_any q.topic true (uh HT) _ hto).mono ?_
  rintro e w3 ⟨rfl,hb3⟩
  have HM3 := zh ((uh HM).below hb3)
  have b1 := (hb3.cell (cell_lt b1)).trans b1
  have b2 := (hb3.cell (cell_lt b2)).trans b2
  have b5 := (hb3.cell (cell_lt b5)).trans b5
  clear hb3 HM
  have HM := HM3
  clear HM3
  by_cases h1 : 0 <= qo
  ·by_cases h2 : qo <= 2
   ·by_cases h3 : qo = 0
    ·subst h3
     by_cases h4 : idd = 0
     ·subst h4
      cases dd
      ·go_upto_region 55 with fail
       iterate 7 go_step
       refine mpList_wanted (by rfl) fun K hK => wp_load_mid 30 _ rfl X 0 rfl (((((((xk q).wi_dup q.dup).wi_qos q.qos).wi_retain q.retain).wi_topic q.topic).wi_id q.id).wi_payload q.payload).cells _ (uh HM).px.range Tryz.underlying30 rfl packet_size (hK _ _ ?_)
       clear hK K
       simp only [Act.put,List.setIfInBounds_toArray,List.set_cons_zero,List.set_cons_succ]
       refine mpList_wanted (by rfl) fun K hK => wp_load_mid 30 _ rfl B 0 rfl q.cells _ (uh HM).pb.range Tryz.underlying30 rfl packet_size (hK _ _ ?_)
       clear hK K
       simp only [Act.put,List.setIfInBounds_toArray,List.set_cons_zero,List.set_cons_succ]
       go_wp2_with fail
       refine ((uh HEQ) _ (uh HM).bel).mono ?_
       rintro e wz ⟨rfl,hbz⟩
       have HZ := zh ((uh HM).below hbz)
       clear hbz HM
       have z0 := (uh HZ).pb.kind
       have z7 := (uh HZ).pb.props
       rw [show q.props.val = .slice q.props.ao q.props.n q.props.cap from rfl,uh HQN] at z7
       cases E
       ·have HR : Hid (tlB P (pubO q.topic q.qos q.id q.dup) false = false) := by show _ = _; rw [uh HOK,pubO_5 (uh HT)]; rfl
        go_wp2
        go_ret
        exact ⟨by rw [uh HR]; rfl,(uh HZ).bel⟩
       ·by_cases hp0 : P.props.length = 0
        ·have HR : Hid (tlB P (pubO q.topic q.qos q.id q.dup) true = true) := by show _ = _; rw [uh HOK,pubO_5 (uh HT)]; unfold tlB; rw [decide_eq_true hp0]; rfl
         rw [hp0] at z7
         clear hp0
         go_wp2
         go_ret
         exact ⟨by rw [uh HR]; rfl,(uh HZ).bel⟩
        ·have HR : Hid (tlB P (pubO q.topic q.qos q.id q.dup) true = okP P.kind P.props) := by show _ = _; rw [uh HOK,pubO_5 (uh HT)]; unfold tlB; rw [decide_eq_false hp0]; rfl
         have hp1 : ((P.props.length : Int) == 0) = false := beq_false_of_ne (by omega)
         clear hp0
         rw [uh HKP] at z0
         go_wp2_with fail
         refine (gprops_any _ P.props P.kind _ (by rw [<- uh HQN]; exact (uh HRP).below (uh HZ).bel) hmx (uh HSM)).mono ?_
         rintro e wy ⟨rfl,hby⟩
         have HY := zh ((uh HZ).below hby)
         clear hby HZ
         go_wp2
         go_ret
         exact ⟨by rw [uh HR]; rfl,(uh HY).bel⟩
      ·have HR : Hid (tlB P (pubO q.topic q.qos q.id q.dup) E = false) := by show _ = _; rw [uh HOK,pubO_4]; rfl
       go_wp2
       go_ret
       exact ⟨by rw [uh HR]; rfl,(uh HM).bel⟩
     ·have h4b : (idd == 0) = false := beq_false_of_ne h4
      have H4 := zh h4
      clear h4
      have HR : Hid (tlB P (pubO q.topic q.qos q.id q.dup) E = false) := by show _ = _; rw [uh HOK,pubO_3 (uh H4)]; rfl
      go_wp2
      go_ret
      exact ⟨by rw [uh HR]; rfl,(uh HM).bel⟩
    ·have h5 : 0 < qo := by omega
     have h6 : (qo == 0) = false := beq_false_of_ne h3
     have HO6 : Hid (pubO q.topic q.qos q.id q.dup = idO idd) := by show _ = _; rw [uh HOK,pubO_6 (uh HT) h5 h2]
     clear h3
     go_wp2_with fail
     refine (gid_any idd _).mono ?_
     rintro e w4 ⟨rfl,hw4⟩
     obtain rfl := hw4.symm
     clear hw4
     cases hid : idO idd
     ·have HID := zh hid
      clear hid
      have HR : Hid (tlB P (pubO q.topic q.qos q.id q.dup) E = false) := by show _ = _; rw [uh HO6,uh HID]; rfl
      go_wp2
      go_ret
      exact ⟨by rw [uh HR]; rfl,(uh HM).bel⟩
     ·have HID := zh hid
      clear hid
      go_upto_region 55 with fail
      iterate 7 go_step
      refine mpList_wanted (by rfl) fun K hK => wp_load_mid 30 _ rfl X 0 rfl (((((((xk q).wi_dup q.dup).wi_qos q.qos).wi_retain q.retain).wi_topic q.topic).wi_id q.id).wi_payload q.payload).cells _ (uh HM).px.range Tryz.underlying30 rfl packet_size (hK _ _ ?_)
      clear hK K
      simp only [Act.put,List.setIfInBounds_toArray,List.set_cons_zero,List.set_cons_succ]
      refine mpList_wanted (by rfl) fun K hK => wp_load_mid 30 _ rfl B 0 rfl q.cells _ (uh HM).pb.range Tryz.underlying30 rfl packet_size (hK _ _ ?_)
      clear hK K
      simp only [Act.put,List.setIfInBounds_toArray,List.set_cons_zero,List.set_cons_succ]
      go_wp2_with fail
      refine ((uh HEQ) _ (uh HM).bel).mono ?_
      rintro e wz ⟨rfl,hbz⟩
      have HZ := zh ((uh HM).below hbz)
      clear hbz HM
      have z0 := (uh HZ).pb.kind
      have z7 := (uh HZ).pb.props
      rw [show q.props.val = .slice q.props.ao q.props.n q.props.cap from rfl,uh HQN] at z7
      cases E
      ·have HR : Hid (tlB P (pubO q.topic q.qos q.id q.dup) false = false) := by show _ = _; rw [uh HO6,uh HID]; rfl
       go_wp2
       go_ret
       exact ⟨by rw [uh HR]; rfl,(uh HZ).bel⟩
      ·by_cases hp0 : P.props.length = 0
       ·have HR : Hid (tlB P (pubO q.topic q.qos q.id q.dup) true = true) := by show _ = _; rw [uh HO6,uh HID]; unfold tlB; rw [decide_eq_true hp0]; rfl
        rw [hp0] at z7
        clear hp0
        go_wp2
        go_ret
        exact ⟨by rw [uh HR]; rfl,(uh HZ).bel⟩
       ·have HR : Hid (tlB P (pubO q.topic q.qos q.id q.dup) true = okP P.kind P.props) := by show _ = _; rw [uh HO6,uh HID]; unfold tlB; rw [decide_eq_false hp0]; rfl
        have hp1 : ((P.props.length : Int) == 0) = false := beq_false_of_ne (by omega)
        clear hp0
        rw [uh HKP] at z0
        go_wp2_with fail
        refine (gprops_any _ P.props P.kind _ (by rw [<- uh HQN]; exact (uh HRP).below (uh HZ).bel) hmx (uh HSM)).mono ?_
        rintro e wy ⟨rfl,hby⟩
        have HY := zh ((uh HZ).below hby)
        clear hby HZ
        go_wp2
        go_ret
        exact ⟨by rw [uh HR]; rfl,(uh HY).bel⟩
   ·have H2 := zh h2
    have h2b : 2 < qo := by omega
    clear h2
    have HR : Hid (tlB P (pubO q.topic q.qos q.id q.dup) E = false) := by show _ = _; rw [uh HOK,pubO_2 (show ¬ qo <= 2 from by omega)]; rfl
    go_wp2
    go_ret
    exact ⟨by rw [uh HR]; rfl,(uh HM).bel⟩
  ·have h1b : qo < 0 := by omega
   clear h1
   have HR : Hid (tlB P (pubO q.topic q.qos q.id q.dup) E = false) := by show _ = _; rw [uh HOK,pubO_1 (show ¬ 0 <= qo from by omega)]; rfl
   go_wp2
   go_ret
   exact ⟨by rw [uh HR]; rfl,(uh HM).bel⟩
theorem may_none (q : Pkv) (P : Pa) (w : World) (hR : RPk w q P) (hk : ¬ P.kind = 1 /\ ¬ P.kind = 2 /\ ¬ P.kind = 3 /\ ¬ P.kind = 4 /\ ¬ P.kind = 5 /\ ¬ P.kind = 6 /\ ¬ P.kind = 7 /\ ¬ P.kind = 8 /\ ¬ P.kind = 9 /\ ¬ P.kind = 10 /\ ¬ P.kind = 11 /\ ¬ P.kind = 12 /\ ¬ P.kind = 13 /\ ¬ P.kind = 14 /\ ¬ P.kind = 15) : Calls Tryz.prog 27 #[q.val] w fun e w' => e = .returned (.bool false) /\ Below w.heap.size w w' := by
 rw [<- hR.sc.1] at hk
 obtain ⟨k1,k2,k3,k4,k5,k6,k7,k8,k9,k10,k11,k12,k13,k14,k15⟩ := hk
 have k1 := beq_false_of_ne k1
 have k2 := beq_false_of_ne k2
 have k3 := beq_false_of_ne k3
 have k4 := beq_false_of_ne k4
 have k5 := beq_false_of_ne k5
 have k6 := beq_false_of_ne k6
 have k7 := beq_false_of_ne k7
 have k8 := beq_false_of_ne k8
 have k9 := beq_false_of_ne k9
 have k10 := beq_false_of_ne k10
 have k11 := beq_false_of_ne k11
 have k12 := beq_false_of_ne k12
 have k13 := beq_false_of_ne k13
 have k14 := beq_false_of_ne k14
 have k15 := beq_false_of_ne k15
 clear hR
 have HPN := zh (pk_new w q)
 have HMN := zh (ms_new w q)
 have HX : Hid ((w.alloc (.cells q.cells.toArray 30)).heap.size = w.heap.size + 1) := by show _ = _; simp
 go_enter Tryz.func27,Tryz.ntmps27
 go_upto_region 1 with fail
 change Code.wp _ _ _ _ (w.alloc (.cells q.cells.toArray 30))
 generalize w.alloc (.cells q.cells.toArray 30) = wa at HPN HMN HX |-
 have c0 := (uh HPN).kind
 have c7 := (uh HPN).props
 iterate 13 go_step
 refine Go.Proofs.YtemedclhglkfjaaGreatDoor.wpList_value rfl (packet_build2 _ _ _ _ _ _ _ q rfl rfl _) ?_
 simp only [Act.put,List.setIfInBounds_toArray,List.set_cons_zero,List.set_cons_succ]
 refine Go.Proofs.YtemedclhglkfjaaGreatDoor.wpList_value rfl (mpacket_alloc _ _ _ _ _ _) ?_
 simp only [Act.put,List.setIfInBounds_toArray,List.set_cons_zero,List.set_cons_succ]
 refine Go.Proofs.YtemedclhglkfjaaGreatDoor.wpList_skip rfl (mpacket_store _ _ _ _ _ _ _ (xk q) wa rfl rfl) ?_
 simp only [Act.put]
 have HM : Hid (MS w (wa.alloc (.cells (xk q).cells.toArray 30)) w.heap.size wa.heap.size q (xk q)) := by rw [uh HX]; exact uh HMN
 generalize wa.alloc (.cells (xk q).cells.toArray 30) = w1 at HM |-
 generalize wa.heap.size = X at HM |-
 generalize hBB : w.heap.size = B at HM |-
 have HBB := zh hBB
 clear c0 c7 HPN HMN HX hBB
 have c0 := (uh HM).pb.kind
 go_wp2
 go_ret
 exact ⟨rfl,(uh HM).bel⟩
end Go.Proofs.YtemedclhglkfjaaGreatDoor.K
