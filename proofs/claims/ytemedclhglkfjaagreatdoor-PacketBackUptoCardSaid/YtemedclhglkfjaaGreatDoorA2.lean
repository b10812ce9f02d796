/- Proved here: helpers, one text behind the other. -/
import Derived.Test.YtemedclhglkfjaaGreatDoorM37
import Derived.Test.YtemedclhglkfjaaGreatDoorM24
import Derived.Test.YtemedclhglkfjaaGreatDoorM17
import Derived.Test.YtemedclhglkfjaaGreatDoorM18
import Derived.Test.YtemedclhglkfjaaGreatDoorM14
import Derived.Test.YtemedclhglkfjaaGreatDoorM22
set_option maxHeartbeats 20000000
namespace Go.Proofs.YtemedclhglkfjaaGreatDoor.K
open Go.RowKit
set_option maxRecDepth 100000
abbrev pkp : Pkv := pk0 12 false 0 false
theorem empty_ping (w : World) : Calls Tryz.prog 55 #[.agg pkp.cells.toArray] w fun e w' => e = .returned (.bool true) /\ Below w.heap.size w w' := by
 have hz : bits .or .i64 0 0 = 0 := by kernel_rfl
 show Calls Tryz.prog 55 #[.agg #[.int .i64 12,.bool false,.int .i64 0,.bool false,.string ⟨#[]⟩,.int .i64 0,.string ⟨#[]⟩,.slice none 0 0,.string ⟨#[]⟩,.bool false,.int .i64 0,.slice none 0 0,.slice none 0 0,.slice none 0 0,.int .i64 0,.bool false,.slice none 0 0,.slice none 0 0,.slice none 0 0]] w _
 go_enter Tryz.func55,Tryz.ntmps55
 go_wp2
 go_ret
 exact ⟨rfl,by go_grown⟩
theorem wpacket_ping (W : Nat) (w : World) (hp : Pk w W pkp) : Calls Tryz.prog 24 #[.pointer (some ⟨W,0,none⟩)] w fun e w' => e = .returned (.tuple #[]) /\ Below w.heap.size w w' := by
 have c0 : w.cell? ⟨W,0,none⟩ = some (.int .i64 12) := hp.kind
 have HP := zh hp
 clear hp
 go_enter Tryz.func24,Tryz.ntmps24
 go_upto_region 25 with fail
 iterate 13 go_step
 refine wpList_load_mid rfl 30 _ rfl W 0 rfl pkp.cells _ (uh HP).range Tryz.underlying30 rfl packet_size ?_
 simp only [Act.put,List.setIfInBounds_toArray,List.set_cons_zero,List.set_cons_succ]
 go_wp2_with fail
 refine (empty_ping w).mono ?_
 rintro e w1 ⟨rfl,hb1⟩
 have HB1 := zh hb1
 clear hb1 c0
 go_wp2_with fail
 refine (wmust_true W w1).mono ?_
 rintro e w2 ⟨rfl,hw2⟩
 obtain rfl := hw2.symm
 clear hw2
 go_wp2
 go_end0
 exact ⟨rfl,uh HB1⟩
def wrc (q : Pkv) : Array Value := #[.int .i64 q.kind,.bool q.dup,.int .i64 q.qos,.bool q.retain,.string q.topic,.int .i64 q.id,.string q.payload,q.props.val,.string q.client,.bool q.clean,.int .i64 q.keep,q.wills.val,q.user.val,q.pass.val,.int .i64 q.code,.bool q.session,q.subs.val,q.filters.val,q.codes.val,.slice none 0 0,.int .i64 0,.nilIface]
theorem writer_build (a : Act) (dst : Option Tmp) (x : Operand) (ty : TypeId) (pos : String) (after : Array Edge) (q : Pkv) (hx : a.eval x = q.val) (w : World) :
  (execOp a.eval ⟨dst,.build 65 #[(0,x)],ty,pos,after,none⟩).run Tryz.prog w = .ok (.value (.agg (wrc q))) w := by
 unfold execOp
 simp only [List.map_toArray,List.map_cons,List.map_nil,hx]
 kernel_rfl
theorem writer_alloc (ρ : Operand -> Value) (dst : Option Tmp) (ty : TypeId) (pos : String) (after : Array Edge) (w : World) :
  (execOp ρ ⟨dst,.alloc 65,ty,pos,after,none⟩).run Tryz.prog w = .ok (.value (.pointer (some ⟨w.heap.size,0,none⟩))) (w.alloc (.cells (wrc pkz) 65)) := by
 kernel_rfl
theorem writer_size : (Tryz.prog.info? 65).map (·.size) = some 22 := by kernel_rfl
theorem wrc_one (q : Pkv) : (wrc q).all (·.oneCell') = true := by
 unfold wrc
 kernel_rfl
theorem writer_store (a : Act) (dst : Option Tmp) (x y : Operand) (ty : TypeId) (pos : String) (after : Array Edge) (q : Pkv) (w : World) (hx : a.eval x = .pointer (some ⟨w.heap.size,0,none⟩)) (hy : a.eval y = .agg (wrc q)) :
  (execOp a.eval ⟨dst,.store 65 x y,ty,pos,after,none⟩).run Tryz.prog (w.alloc (.cells (wrc pkz) 65)) = .ok .skip (w.alloc (.cells (wrc q) 65)) := by
 show Sem.run Tryz.prog (do Instr.storeAt 65 (a.eval x) (a.eval y); pure Next.skip) _ = _
 rw [hx,hy]
 simp only [Sem.run_bind]
 rw [run_storeAt_new w 65 (wrc pkz) (wrc q) (by rw [writer_size]; rfl) rfl (wrc_one q)]
 rfl
theorem wrc_cell {w : World} {q : Pkv} (j : Nat) (v : Value) (h : (wrc q)[j]? = some v) : (w.alloc (.cells (wrc q) 65)).cell? ⟨w.heap.size,j,none⟩ = some v := by
 have k := heap_alloc_new w (.cells (wrc q) 65)
 unfold World.cell?
 dsimp only
 rw [k]
 simpa using h
theorem wrc_pk (w : World) (q : Pkv) : Pk (w.alloc (.cells (wrc q) 65)) w.heap.size q := fun j hj => by
 refine ⟨wrc_cell j _ ?_,by simp⟩
 rw [<- cells_get q j hj]
 match j,hj with
 | 0,_ => rfl
 | 1,_ => rfl
 | 2,_ => rfl
 | 3,_ => rfl
 | 4,_ => rfl
 | 5,_ => rfl
 | 6,_ => rfl
 | 7,_ => rfl
 | 8,_ => rfl
 | 9,_ => rfl
 | 10,_ => rfl
 | 11,_ => rfl
 | 12,_ => rfl
 | 13,_ => rfl
 | 14,_ => rfl
 | 15,_ => rfl
 | 16,_ => rfl
 | 17,_ => rfl
 | 18,_ => rfl
 | n + 19,h => exact absurd h (by omega)
theorem enc_ping (w : World) : Calls Tryz.prog 8 #[pkp.val] w fun e w' => ∃ v,e = .returned (.tuple #[v,.nilIface]) /\ Hid (Byt w' v [192,0]) /\ Below w.heap.size w w' := by
 have HPN := zh (pk_new w pkp)
 have HBN : Hid (Below w.heap.size w (w.alloc (.cells pkp.cells.toArray 30))) := bal _ _
 have hk : IntKind.i64.wrap (12 * 16) = 192 := by kernel_rfl
 have hz : bits .or .i64 192 0 = 192 := by kernel_rfl
 show Calls Tryz.prog 8 #[.agg #[.int .i64 12,.bool false,.int .i64 0,.bool false,.string ⟨#[]⟩,.int .i64 0,.string ⟨#[]⟩,.slice none 0 0,.string ⟨#[]⟩,.bool false,.int .i64 0,.slice none 0 0,.slice none 0 0,.slice none 0 0,.int .i64 0,.bool false,.slice none 0 0,.slice none 0 0,.slice none 0 0]] w _
 go_enter Tryz.func8,Tryz.ntmps8
 go_upto_region 1 with fail
 go_step
 refine wpList_load_mid rfl 30 _ rfl w.heap.size 0 rfl pkp.cells _ (uh HPN).range Tryz.underlying30 rfl packet_size ?_
 simp only [Act.put,List.setIfInBounds_toArray,List.set_cons_zero,List.set_cons_succ]
 go_wp2_with fail
 have HFF : Calls Tryz.prog 22 #[.agg pkp.cells.toArray] (w.alloc (.cells pkp.cells.toArray 30)) fun e w' => e = .returned (.tuple #[.int .i64 0,.bool true]) /\ Below (w.alloc (.cells pkp.cells.toArray 30)).heap.size (w.alloc (.cells pkp.cells.toArray 30)) w' := flagsOf_other pkp _ (by decide) (by decide) (by decide) (by decide)
 refine HFF.mono ?_
 rintro e w1 ⟨rfl,hb1⟩
 have HP1 := zh ((uh HPN).below hb1)
 have HB1 : Hid (Below w.heap.size w w1) := (uh HBN).trans (hb1.mono (uh HBN).size)
 have c0 : w1.cell? ⟨w.heap.size,0,none⟩ = some (.int .i64 12) := (uh HP1).kind
 have hAl : w.heap.size < w1.heap.size := cell_lt c0
 clear hb1 HPN HBN
 go_upto_region 4 with fail
 go_step
 refine wpList_load_mid rfl 30 _ rfl w.heap.size 0 rfl pkp.cells _ (uh HP1).range Tryz.underlying30 rfl packet_size ?_
 simp only [Act.put,List.setIfInBounds_toArray,List.set_cons_zero,List.set_cons_succ]
 refine Go.Proofs.YtemedclhglkfjaaGreatDoor.wpList_value rfl (writer_build _ _ _ _ _ _ pkp rfl _) ?_
 simp only [Act.put,List.setIfInBounds_toArray,List.set_cons_zero,List.set_cons_succ]
 refine Go.Proofs.YtemedclhglkfjaaGreatDoor.wpList_value rfl (writer_alloc _ _ _ _ _ _) ?_
 simp only [Act.put,List.setIfInBounds_toArray,List.set_cons_zero,List.set_cons_succ]
 refine Go.Proofs.YtemedclhglkfjaaGreatDoor.wpList_skip rfl (writer_store _ _ _ _ _ _ _ pkp w1 rfl rfl) ?_
 simp only [Act.put]
 have HPW := zh (wrc_pk w1 pkp)
 have c19 : (w1.alloc (.cells (wrc pkp) 65)).cell? ⟨w1.heap.size,19,none⟩ = some (.slice none 0 0) := wrc_cell 19 _ rfl
 have c20 : (w1.alloc (.cells (wrc pkp) 65)).cell? ⟨w1.heap.size,20,none⟩ = some (.int .i64 0) := wrc_cell 20 _ rfl
 have c21 : (w1.alloc (.cells (wrc pkp) 65)).cell? ⟨w1.heap.size,21,none⟩ = some .nilIface := wrc_cell 21 _ rfl
 have d0 : (w1.alloc (.cells (wrc pkp) 65)).cell? ⟨w.heap.size,0,none⟩ = some (.int .i64 12) := (World.cell?_alloc_lt _ _ ⟨w.heap.size,0,none⟩ hAl).trans c0
 have HB2 : Hid (Below w.heap.size w (w1.alloc (.cells (wrc pkp) 65))) := (uh HB1).trans ((bal _ _).mono (uh HB1).size)
 have hWl : w1.heap.size < (w1.alloc (.cells (wrc pkp) 65)).heap.size := by simp
 generalize w1.alloc (.cells (wrc pkp) 65) = w2 at HPW c19 c20 c21 d0 HB2 hWl |-
 clear c0 HP1 HB1
 go_wp2_with fail
 refine (wpacket_ping w1.heap.size w2 (uh HPW)).mono ?_
 rintro e w3 ⟨rfl,hb3⟩
 have e19 := (hb3.cell (p := ⟨w1.heap.size,19,none⟩) hWl).trans c19
 have e20 := (hb3.cell (p := ⟨w1.heap.size,20,none⟩) hWl).trans c20
 have e21 := (hb3.cell (p := ⟨w1.heap.size,21,none⟩) hWl).trans c21
 have e0 := (hb3.cell (p := ⟨w.heap.size,0,none⟩) (Nat.lt_trans hAl hWl)).trans d0
 have HB3 : Hid (Below w.heap.size w w3) := (uh HB2).trans (hb3.mono (uh HB2).size)
 have hWl3 : w1.heap.size < w3.heap.size := Nat.lt_of_lt_of_le hWl hb3.size
 clear hb3 c19 c20 c21 d0 HB2 HPW hWl
 go_wp2_with fail
 refine (vput_use 0 w3 (by decide) (by decide)).mono ?_
 rintro e w4 ⟨v,rfl,hO4,hy4,hb4⟩
 have f19 := (hb4.cell (p := ⟨w1.heap.size,19,none⟩) hWl3).trans e19
 have f20 := (hb4.cell (p := ⟨w1.heap.size,20,none⟩) hWl3).trans e20
 have f0 := (hb4.cell (p := ⟨w.heap.size,0,none⟩) (Nat.lt_trans hAl hWl3)).trans e0
 have HB4 : Hid (Below w.heap.size w w4) := (uh HB3).trans (hb4.mono (uh HB3).size)
 have hWl4 : w1.heap.size < w4.heap.size := Nat.lt_of_lt_of_le hWl3 hb4.size
 have HY4 : Hid (Byt w4 v [0]) := uh hy4
 obtain ⟨bo,off,cap,hvf,hc1,hc2⟩ := (uh HY4).form1 (by decide)
 have hvf : v = .slice (some ⟨bo,off,none⟩) 1 cap := hvf
 subst hvf
 clear hb4 e19 e20 e21 e0 HB3 hO4 hy4
 have HO5 : Hid ((w4.alloc (.cells #[.int .u8 192] 5)).ownsRow w4.heap.size 5 1 (.slice (some ⟨w4.heap.size,0,none⟩) 1 1) 1 (([192] : List Int).map (Value.int .u8))) :=
  ⟨rfl,.inr ⟨w4.heap.size,1,_,rfl,Nat.le_refl _,heap_alloc_new _ _,Nat.le_refl _,by unfold maxLen; simp,rfl,rfl⟩⟩
 have HY5 : Hid (Byt (w4.alloc (.cells #[.int .u8 192] 5)) (.slice (some ⟨bo,off,none⟩) 1 cap) [0]) := (uh HY4).below (bal _ _)
 go_wp2_with (first
  | (at_builtin; refine wpList_append_byt _ rfl _ _ rfl w4.heap.size _ 1 [192] rfl (uh HO5) (.slice (some ⟨bo,off,none⟩) 1 cap) [0] rfl (uh HY5) (by decide) (by simp) ?_)
  | go_in)
 intro v6 w6 hown6 hgrow6
 have hrow : ∀ g,(Value.slice (some ⟨w4.heap.size,0,none⟩) 1 1).ownBlock = some g -> g = w4.heap.size := fun g hg => by cases hg; rfl
 have g19 : w6.cell? ⟨w1.heap.size,19,none⟩ = some (.slice none 0 0) := hgrow6.cell ((World.cell?_alloc_lt _ _ ⟨w1.heap.size,19,none⟩ hWl4).trans f19) (fun e => by have := hrow _ e.symm; simp at this; omega)
 have HO6 : Hid (w6.ownsRow w4.heap.size 5 1 v6 2 (([192,0] : List Int).map (Value.int .u8))) := hown6
 have hs6 : w4.heap.size <= w6.heap.size := Nat.le_trans (by simp) hgrow6.size
 have HB6 : Hid (Below w.heap.size w w6) := ((uh HB4).trans ((bal _ _).mono (uh HB4).size)).grown hgrow6 (Nat.le_trans (uh HB4).size (by simp)) (fun g hg => by rw [hrow g hg]; exact (uh HB4).size)
 have HYN : Hid (Byt w6 (.slice none 0 0) []) := ⟨none,0,rfl,⟨by simp,by simp⟩,by intro j; simp,.inl rfl⟩
 clear hown6 hgrow6 hrow f19 f20 f0 HO5 HY5 HY4
 go_wp2_with (first
  | (at_builtin; refine wpList_append_byt _ rfl _ _ rfl w4.heap.size _ 2 [192,0] rfl (uh HO6) (.slice none 0 0) [] rfl (uh HYN) (by decide) hs6 ?_)
  | go_in)
 intro v7 w7 hown7 hgrow7
 have HB7 : Hid (Below w.heap.size w w7) := (uh HB6).grown hgrow7 (uh HB6).size (fun g hg => Nat.le_trans (uh HB4).size ((uh HO6).lt g hg).1)
 have HY7 : Hid (Byt w7 v7 [192,0]) := byt_of_owns hown7 (by intro j; match j with | 0 => simp | 1 => simp | n + 2 => simp)
 clear hown7 hgrow7 g19
 go_wp2
 go_returns
 exact ⟨v7,rfl,HY7,uh HB7⟩
theorem num4 (v : Value) (n : Int) (w : World) (hg : Laid w) (hv : ErrX w v n) : Calls Tryz.prog 10 #[v] w fun e w' => e = .returned (.int .i64 n) /\ Below w.heap.size w w' := by
 have HG := zh hg
 have HV := zh hv
 clear hg hv
 go_enter Tryz.func10,Tryz.ntmps10
 go_wp2_with (go_at_call 31; refine (numx v n _ (uh HG) (uh HV)).mono ?_; rintro e w' ⟨rfl,hb⟩)
 go_ret
 exact ⟨rfl,hb⟩
theorem num4_nil (w : World) : Calls Tryz.prog 10 #[.nilIface] w fun e w' => e = .returned (.int .i64 0) /\ w' = w := by
 go_enter Tryz.func10,Tryz.ntmps10
 go_wp2_with (go_at_call 31; refine (num_nil _).mono ?_; rintro e w' ⟨rfl,rfl⟩)
 go_ret
 exact ⟨rfl,rfl⟩
theorem two_byt (w : World) : Byt (w.alloc (.cells #[.int .u8 192,.int .u8 0] 5)) (.slice (some ⟨w.heap.size,0,none⟩) 2 2) [192,0] := by
 refine ⟨_,2,rfl,⟨by simp,by unfold maxLen; simp⟩,?_,.inr ⟨w.heap.size,0,rfl,?_⟩⟩
 ·intro j; rcases j with _ | _ | j <;> simp
 ·intro j hj; rcases j with _ | _ | j
  ·simp
  ·simp
  ·simp at hj; omega
theorem wakes4 (w : World) : Calls Tryz.prog 13 #[] w fun e w' => e = .returned (.bool true) /\ Below w.heap.size w w' := by
 have HEN : Hid (∀ W : World,Calls Tryz.prog 8 #[.agg #[.int .i64 12,.bool false,.int .i64 0,.bool false,.string ⟨#[]⟩,.int .i64 0,.string ⟨#[]⟩,.slice none 0 0,.string ⟨#[]⟩,.bool false,.int .i64 0,.slice none 0 0,.slice none 0 0,.slice none 0 0,.int .i64 0,.bool false,.slice none 0 0,.slice none 0 0,.slice none 0 0]] W fun e w' => ∃ v,e = .returned (.tuple #[v,.nilIface]) /\ Hid (Byt w' v [192,0]) /\ Below W.heap.size W w') := fun W => enc_ping W
 go_enter Tryz.func13,Tryz.ntmps13
 go_wp2_with fail
 refine ((uh HEN) w).mono ?_
 rintro e w1 ⟨v,rfl,hy,hb1⟩
 have ha : Hid (Byt (w1.alloc (.cells #[.int .u8 192,.int .u8 0] 5)) v [192,0]) := (uh hy).below (bal _ _)
 have hbb := zh (two_byt w1)
 have HB1 := zh hb1
 clear hb1 hy
 go_wp2_with (first | (go_at_call 10; refine (num4_nil _).mono ?_; rintro e w' ⟨rfl,hw⟩; obtain rfl := hw.symm; clear hw) | (go_at_call 11; refine (eq_any _ _ [192,0] [192,0] _ (uh ha) (uh hbb)).mono ?_; rintro e w' ⟨rfl,q,rfl⟩))
 go_ret
 exact ⟨rfl,below_drewN ((uh HB1).alloc (uh HB1).size _) _⟩
end Go.Proofs.YtemedclhglkfjaaGreatDoor.K
