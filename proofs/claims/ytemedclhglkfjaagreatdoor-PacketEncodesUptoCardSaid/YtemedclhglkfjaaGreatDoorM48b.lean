/- Proved here: helpers, one text behind the other. -/
import Derived.Test.YtemedclhglkfjaaGreatDoorM48
import Derived.Test.YtemedclhglkfjaaGreatDoorM45
import Derived.Deep.Cut
import Derived.Test.YtemedclhglkfjaaGreatDoorZKLoad
import Derived.Test.YtemedclhglkfjaaGreatDoorZKTk
import Derived.Deep.CutBlock
set_option maxHeartbeats 20000000
namespace Go.Proofs.YtemedclhglkfjaaGreatDoor.K
open Go.RowKit
set_option maxRecDepth 100000
theorem Pk.grow2 {w w' : World} {B : Nat} {q : Pkv} {row : Option Nat} (h : Pk w B q) (hg : w.grownBy w' row) (hr : some B ≠ row) : Pk w' B q := fun j hj => by
 have hb := hg.block B (cell_lt h.kind) hr
 exact ⟨(World.cell?_of_block hb).trans (h j hj).1,(World.frozen?_of_block hb).trans (h j hj).2⟩
theorem Rwb.more {w w' : World} {B : Nat} {v v' : Value} {l m : List Int} (h : Rwb w B v l) (hm : ∀ j,0 <= m.getD j 0 /\ m.getD j 0 <= 255) (ho : w'.ownsRow B 5 1 v' (l.length + m.length) (l.map (Value.int .u8) ++ m.map (Value.int .u8))) : Rwb w' B v' (l ++ m) := ⟨by rw [List.length_append,List.map_append]; exact ho,range_app h.2 hm⟩
theorem Rwb.off {w : World} {B : Nat} {v : Value} {l : List Int} (h : Rwb w (B + 1) v l) : some B ≠ v.ownBlock := fun e => by have := owns_blk h.1 B e.symm; omega
theorem below_grown {w0 w w' : World} {v : Value} {l : List Int} (h : Below w0.heap.size w0 w) (hr : Rwb w (w0.heap.size + 1) v l) (hg : w.grownBy w' v.ownBlock) : Below w0.heap.size w0 w' := h.grown hg h.size (fun g e => by have := owns_blk hr.1 g e; omega)
theorem gb_pub_pos (q : Pkv) (l : List Pr) (w : World) (hP : Prp w q.props.val l) (hok : okP q.kind l = true) (hto : okT q.topic = true) (hpy : q.payload.size <= 1073741824) (hq : 0 < q.qos) (hk : q.kind = 3) : Calls Tryz.prog 28 #[q.val] w (GPut (((tx q.topic ++ b2 q.id) ++ pbs l) ++ sb q.payload) w) := by
 obtain ⟨hok1,h32⟩ := chkP0 (of_decide_eq_true hok)
 have hple := pbs_le (of_decide_eq_true hok)
 have HPN := zh (pk_new w q)
 have HB0 : Hid (Below w.heap.size w (w.alloc (.cells q.cells.toArray 30))) := bal _ _
 have HBY : Hid (∀ W,Below w.heap.size w W -> Calls Tryz.prog 68 #[.slice q.props.ao l.length q.props.cap] W (PutP (pbs l) W)) := fun W hW => by
  have k := rbytes_any q.props.val l q.kind W (hP.below hW) (by omega) hok1
  rw [show q.props.val = .slice q.props.ao q.props.n q.props.cap from rfl,prp_n hP] at k
  exact k
 have HTL : Hid (∀ W,Below w.heap.size w W -> Calls Tryz.prog 71 #[.agg q.cells.toArray] W (GPut (gtl q.code l) W)) := fun W hW => gtail_any q l q.kind W (hP.below hW) hok
 have HQN := zh (prp_n hP)
 have HKK := zh hk
 clear hP hok hok1 hk
 go_enter Tryz.func28,Tryz.ntmps28
 go_upto_region 1 with fail
 change Code.wp _ _ _ _ (w.alloc (.cells q.cells.toArray 30))
 have hsz : (w.alloc (.cells q.cells.toArray 30)).heap.size = w.heap.size + 1 := by simp
 generalize w.alloc (.cells q.cells.toArray 30) = wa at HPN HB0 hsz |-
 have b0 := (uh HPN).kind
 rw [uh HKK] at b0
 have b4 := (uh HPN).topic
 have hto2 : q.topic.size <= 65535 := by have := chk_0 (of_decide_eq_true hto); rw [sb_length] at this; exact this
 have HTR := zh (tx_range q.topic hto2)
 go_wp2_with fail
 refine (Go.Proofs.YtemedclhglkfjaaGreatDoor.bin_any q.topic _ hto2).mono ?_
 rintro e w1 ⟨v1,rfl,hown1,hb1⟩
 have HB1 : Hid (Below w.heap.size w w1) := bnx2 (uh HB0) hb1
 have HP1 := zh ((uh HPN).below hb1)
 have HR1 : Hid (Rwb w1 (w.heap.size + 1) v1 (tx q.topic)) := ⟨by rw [<- hsz,tx_length]; exact uh hown1,uh HTR⟩
 obtain ⟨va1,vn1,vc1,rfl⟩ := (uh HR1).form
 clear hown1 hb1 b0 b4 HPN
 obtain ⟨L1,HEL1⟩ : ∃ L : List Int,Hid (L = tx q.topic) := ⟨_,rfl⟩
 have nL1 : L1.length <= 65537 := by rw [uh HEL1]; rw [tx_length]; omega
 rw [<- uh HEL1] at HR1
 have c2_1 := (uh HP1).qos
 have c5_1 := (uh HP1).id
 have c6_1 := (uh HP1).payload
 go_wp2_with fail
 refine (gtwo_any q.id _).mono ?_
 rintro e w2 ⟨v2,rfl,hr2,hb2⟩
 have HB2 : Hid (Below w.heap.size w w2) := bnx2 (uh HB1) hb2
 have HP2 := zh ((uh HP1).below hb2)
 have HR2 := zh ((uh HR1).below hb2)
 have HY2 := zh (uh hr2).byt
 have HG2 := zh (uh hr2).2
 obtain ⟨va2,vn2,vc2,rfl⟩ := (uh hr2).form
 clear hr2 hb2 HR1 HB1 HP1 c2_1 c5_1 c6_1
 obtain ⟨M2,HEM2⟩ : ∃ L : List Int,Hid (L = b2 q.id) := ⟨_,rfl⟩
 have nM2 : M2.length <= 2 := by rw [uh HEM2]; simp
 rw [<- uh HEM2] at HY2 HG2
 go_wp2_with (first
  | (at_builtin; refine wpList_append_byt _ rfl _ _ rfl (w.heap.size + 1) (.slice va1 vn1 vc1) L1.length L1 rfl (uh HR2).1 (.slice va2 vn2 vc2) M2 rfl (uh HY2) (by omega) (cell_lt (uh HP2).kind) ?_)
  | go_in)
 intro v3 w3 hown hg
 have HR3 := zh ((uh HR2).more (uh HG2) (by first | exact hown | (rw [<- List.map_append]; exact hown)))
 have HB3 : Hid (Below w.heap.size w w3) := below_grown (uh HB2) (uh HR2) hg
 have HP3 := zh ((uh HP2).grow2 hg (uh HR2).off)
 obtain ⟨va3,vn3,vc3,rfl⟩ := (uh HR3).form
 clear hown hg HR2 HB2 HP2
 obtain ⟨L3,HEL3⟩ : ∃ L : List Int,Hid (L = L1 ++ M2) := ⟨_,rfl⟩
 have nL3 : L3.length <= 65539 := by rw [uh HEL3]; rw [List.length_append]; omega
 rw [<- uh HEL3] at HR3
 have c7_3 := (uh HP3).props
 rw [show q.props.val = .slice q.props.ao q.props.n q.props.cap from rfl,uh HQN] at c7_3
 have c6_3 := (uh HP3).payload
 go_wp2_with fail
 refine ((uh HBY) _ (uh HB3)).mono ?_
 rintro e w4 ⟨v4,rfl,hy4,hb4⟩
 have HB4 : Hid (Below w.heap.size w w4) := bnx2 (uh HB3) hb4
 have HP4 := zh ((uh HP3).below hb4)
 have HR4 := zh ((uh HR3).below hb4)
 have HG4 := zh (uh hy4).range
 obtain ⟨va4,vc4,rfl,-,-⟩ := (uh hy4).form
 clear hb4 HR3 HB3 HP3 c7_3 c6_3
 obtain ⟨M4,HEM4⟩ : ∃ L : List Int,Hid (L = pbs l) := ⟨_,rfl⟩
 have nM4 : M4.length <= 5000000 := by rw [uh HEM4]; exact hple
 rw [<- uh HEM4] at hy4 HG4 |-
 go_wp2_with (first
  | (at_builtin; refine wpList_append_byt _ rfl _ _ rfl (w.heap.size + 1) (.slice va3 vn3 vc3) L3.length L3 rfl (uh HR4).1 (.slice va4 M4.length vc4) M4 rfl (uh hy4) (by omega) (cell_lt (uh HP4).kind) ?_)
  | go_in)
 intro v5 w5 hown hg
 have HR5 := zh ((uh HR4).more (uh HG4) (by first | exact hown | (rw [<- List.map_append]; exact hown)))
 have HB5 : Hid (Below w.heap.size w w5) := below_grown (uh HB4) (uh HR4) hg
 have HP5 := zh ((uh HP4).grow2 hg (uh HR4).off)
 obtain ⟨va5,vn5,vc5,rfl⟩ := (uh HR5).form
 clear hown hg HR4 HB4 HP4
 obtain ⟨L5,HEL5⟩ : ∃ L : List Int,Hid (L = L3 ++ M4) := ⟨_,rfl⟩
 have nL5 : L5.length <= 5065539 := by rw [uh HEL5]; rw [List.length_append]; omega
 rw [<- uh HEL5] at HR5
 have c6_5 := (uh HP5).payload
 obtain ⟨v6,w6,hcv,hy6,hb6⟩ := conv_str q.payload (by unfold maxLen; omega) w5
 have HB6 : Hid (Below w.heap.size w w6) := bnx2 (uh HB5) hb6
 have HP6 := zh ((uh HP5).below hb6)
 have HR6 := zh ((uh HR5).below hb6)
 have HY6 := zh hy6
 have HG6 := zh (sb_range q.payload)
 obtain ⟨va6,vc6,rfl,-,-⟩ := hy6.form
 clear hb6 hy6 HR5 HB5 HP5 hy4
 obtain ⟨M6,HEM6⟩ : ∃ L : List Int,Hid (L = sb q.payload) := ⟨_,rfl⟩
 have nM6 : M6.length <= 1073741824 := by rw [uh HEM6]; rw [sb_length]; exact hpy
 rw [<- uh HEM6] at HY6 HG6 hcv
 go_wp2_with (first
  | (at_builtin; refine wpList_append_byt _ rfl _ _ rfl (w.heap.size + 1) (.slice va5 vn5 vc5) L5.length L5 rfl (uh HR6).1 (.slice va6 M6.length vc6) M6 rfl (uh HY6) (by omega) (cell_lt (uh HP6).kind) ?_)
  | go_in)
 intro v7 w7 hown hg
 have HR7 := zh ((uh HR6).more (uh HG6) (by first | exact hown | (rw [<- List.map_append]; exact hown)))
 have HB7 : Hid (Below w.heap.size w w7) := below_grown (uh HB6) (uh HR6) hg
 have HP7 := zh ((uh HP6).grow2 hg (uh HR6).off)
 obtain ⟨va7,vn7,vc7,rfl⟩ := (uh HR7).form
 clear hown hg HR6 HB6 HP6
 obtain ⟨L7,HEL7⟩ : ∃ L : List Int,Hid (L = L5 ++ M6) := ⟨_,rfl⟩
 have nL7 : L7.length <= 1100000000 := by rw [uh HEL7]; rw [List.length_append]; omega
 rw [<- uh HEL7] at HR7
 clear c6_5
 go_wp2
 go_ret
 exact ⟨_,rfl,by rw [uh HEL7,uh HEM6,uh HEL5,uh HEM4,uh HEL3,uh HEM2,uh HEL1] at HR7; exact (uh HR7).mono (Nat.le_succ _),uh HB7⟩
theorem gb_pub_zero (q : Pkv) (l : List Pr) (w : World) (hP : Prp w q.props.val l) (hok : okP q.kind l = true) (hto : okT q.topic = true) (hpy : q.payload.size <= 1073741824) (hq : ¬ 0 < q.qos) (hk : q.kind = 3) : Calls Tryz.prog 28 #[q.val] w (GPut ((tx q.topic ++ pbs l) ++ sb q.payload) w) := by
 obtain ⟨hok1,h32⟩ := chkP0 (of_decide_eq_true hok)
 have hple := pbs_le (of_decide_eq_true hok)
 have HPN := zh (pk_new w q)
 have HB0 : Hid (Below w.heap.size w (w.alloc (.cells q.cells.toArray 30))) := bal _ _
 have HBY : Hid (∀ W,Below w.heap.size w W -> Calls Tryz.prog 68 #[.slice q.props.ao l.length q.props.cap] W (PutP (pbs l) W)) := fun W hW => by
  have k := rbytes_any q.props.val l q.kind W (hP.below hW) (by omega) hok1
  rw [show q.props.val = .slice q.props.ao q.props.n q.props.cap from rfl,prp_n hP] at k
  exact k
 have HTL : Hid (∀ W,Below w.heap.size w W -> Calls Tryz.prog 71 #[.agg q.cells.toArray] W (GPut (gtl q.code l) W)) := fun W hW => gtail_any q l q.kind W (hP.below hW) hok
 have HQN := zh (prp_n hP)
 have HKK := zh hk
 clear hP hok hok1 hk
 go_enter Tryz.func28,Tryz.ntmps28
 go_upto_region 1 with fail
 change Code.wp _ _ _ _ (w.alloc (.cells q.cells.toArray 30))
 have hsz : (w.alloc (.cells q.cells.toArray 30)).heap.size = w.heap.size + 1 := by simp
 generalize w.alloc (.cells q.cells.toArray 30) = wa at HPN HB0 hsz |-
 have b0 := (uh HPN).kind
 rw [uh HKK] at b0
 have b4 := (uh HPN).topic
 have hto2 : q.topic.size <= 65535 := by have := chk_0 (of_decide_eq_true hto); rw [sb_length] at this; exact this
 have HTR := zh (tx_range q.topic hto2)
 go_wp2_with fail
 refine (Go.Proofs.YtemedclhglkfjaaGreatDoor.bin_any q.topic _ hto2).mono ?_
 rintro e w1 ⟨v1,rfl,hown1,hb1⟩
 have HB1 : Hid (Below w.heap.size w w1) := bnx2 (uh HB0) hb1
 have HP1 := zh ((uh HPN).below hb1)
 have HR1 : Hid (Rwb w1 (w.heap.size + 1) v1 (tx q.topic)) := ⟨by rw [<- hsz,tx_length]; exact uh hown1,uh HTR⟩
 obtain ⟨va1,vn1,vc1,rfl⟩ := (uh HR1).form
 clear hown1 hb1 b0 b4 HPN
 obtain ⟨L1,HEL1⟩ : ∃ L : List Int,Hid (L = tx q.topic) := ⟨_,rfl⟩
 have nL1 : L1.length <= 65537 := by rw [uh HEL1]; rw [tx_length]; omega
 rw [<- uh HEL1] at HR1
 have c2_1 := (uh HP1).qos
 have c5_1 := (uh HP1).id
 have c6_1 := (uh HP1).payload
 have HB3 := HB1
 have HP3 := HP1
 have HR3 := HR1
 obtain ⟨w3,hw3⟩ : ∃ x,x = w1 := ⟨_,rfl⟩
 subst hw3
 clear HB1 HP1 HR1
 have c7_3 := (uh HP3).props
 rw [show q.props.val = .slice q.props.ao q.props.n q.props.cap from rfl,uh HQN] at c7_3
 have c6_3 := (uh HP3).payload
 go_wp2_with fail
 refine ((uh HBY) _ (uh HB3)).mono ?_
 rintro e w4 ⟨v4,rfl,hy4,hb4⟩
 have HB4 : Hid (Below w.heap.size w w4) := bnx2 (uh HB3) hb4
 have HP4 := zh ((uh HP3).below hb4)
 have HR4 := zh ((uh HR3).below hb4)
 have HG4 := zh (uh hy4).range
 obtain ⟨va4,vc4,rfl,-,-⟩ := (uh hy4).form
 clear hb4 HR3 HB3 HP3 c7_3 c6_3 c2_1 c5_1 c6_1
 obtain ⟨M4,HEM4⟩ : ∃ L : List Int,Hid (L = pbs l) := ⟨_,rfl⟩
 have nM4 : M4.length <= 5000000 := by rw [uh HEM4]; exact hple
 rw [<- uh HEM4] at hy4 HG4 |-
 go_wp2_with (first
  | (at_builtin; refine wpList_append_byt _ rfl _ _ rfl (w.heap.size + 1) (.slice va1 vn1 vc1) L1.length L1 rfl (uh HR4).1 (.slice va4 M4.length vc4) M4 rfl (uh hy4) (by omega) (cell_lt (uh HP4).kind) ?_)
  | go_in)
 intro v5 w5 hown hg
 have HR5 := zh ((uh HR4).more (uh HG4) (by first | exact hown | (rw [<- List.map_append]; exact hown)))
 have HB5 : Hid (Below w.heap.size w w5) := below_grown (uh HB4) (uh HR4) hg
 have HP5 := zh ((uh HP4).grow2 hg (uh HR4).off)
 obtain ⟨va5,vn5,vc5,rfl⟩ := (uh HR5).form
 clear hown hg HR4 HB4 HP4
 obtain ⟨L5,HEL5⟩ : ∃ L : List Int,Hid (L = L1 ++ M4) := ⟨_,rfl⟩
 have nL5 : L5.length <= 5065539 := by rw [uh HEL5]; rw [List.length_append]; omega
 rw [<- uh HEL5] at HR5
 have c6_5 := (uh HP5).payload
 obtain ⟨v6,w6,hcv,hy6,hb6⟩ := conv_str q.payload (by unfold maxLen; omega) w5
 have HB6 : Hid (Below w.heap.size w w6) := bnx2 (uh HB5) hb6
 have HP6 := zh ((uh HP5).below hb6)
 have HR6 := zh ((uh HR5).below hb6)
 have HY6 := zh hy6
 have HG6 := zh (sb_range q.payload)
 obtain ⟨va6,vc6,rfl,-,-⟩ := hy6.form
 clear hb6 hy6 HR5 HB5 HP5 hy4
 obtain ⟨M6,HEM6⟩ : ∃ L : List Int,Hid (L = sb q.payload) := ⟨_,rfl⟩
 have nM6 : M6.length <= 1073741824 := by rw [uh HEM6]; rw [sb_length]; exact hpy
 rw [<- uh HEM6] at HY6 HG6 hcv
 go_wp2_with (first
  | (at_builtin; refine wpList_append_byt _ rfl _ _ rfl (w.heap.size + 1) (.slice va5 vn5 vc5) L5.length L5 rfl (uh HR6).1 (.slice va6 M6.length vc6) M6 rfl (uh HY6) (by omega) (cell_lt (uh HP6).kind) ?_)
  | go_in)
 intro v7 w7 hown hg
 have HR7 := zh ((uh HR6).more (uh HG6) (by first | exact hown | (rw [<- List.map_append]; exact hown)))
 have HB7 : Hid (Below w.heap.size w w7) := below_grown (uh HB6) (uh HR6) hg
 have HP7 := zh ((uh HP6).grow2 hg (uh HR6).off)
 obtain ⟨va7,vn7,vc7,rfl⟩ := (uh HR7).form
 clear hown hg HR6 HB6 HP6
 obtain ⟨L7,HEL7⟩ : ∃ L : List Int,Hid (L = L5 ++ M6) := ⟨_,rfl⟩
 have nL7 : L7.length <= 1100000000 := by rw [uh HEL7]; rw [List.length_append]; omega
 rw [<- uh HEL7] at HR7
 clear c6_5
 go_wp2
 go_ret
 exact ⟨_,rfl,by rw [uh HEL7,uh HEM6,uh HEL5,uh HEM4,uh HEL1] at HR7; exact (uh HR7).mono (Nat.le_succ _),uh HB7⟩
def gfl (kind : Int) (dup : Bool) (qos : Int) (retain : Bool) : Int := if kind = 6 \/ kind = 8 \/ kind = 10 then 2 else if kind = 3 then fv dup 8 + 2 * qos + fv retain 1 else 0
theorem bnx3 {w a b : World} (h : Below w.heap.size w a) (h2 : Below a.heap.size a b) : Below w.heap.size w b := h.trans (h2.mono h.size)
theorem fv_range (b : Bool) (n : Int) (h : 0 <= n) : 0 <= fv b n /\ fv b n <= n := by unfold fv; split <;> omega
theorem gflags_any (q : Pkv) (w : World) (hq : 0 <= q.qos /\ q.qos <= 2 \/ q.kind ≠ 3) : Calls Tryz.prog 29 #[q.val] w fun e w' => e = .returned (.int .i64 (gfl q.kind q.dup q.qos q.retain)) /\ Below w.heap.size w w' := by
 have HPN := zh (pk_new w q)
 have HB0 : Hid (Below w.heap.size w (w.alloc (.cells q.cells.toArray 30))) := bal _ _
 by_cases k6 : q.kind = 6 \/ q.kind = 8 \/ q.kind = 10
 ·have HE : Hid (gfl q.kind q.dup q.qos q.retain = 2) := by show _ = _; unfold gfl; rw [if_pos k6]
  clear hq
  go_enter Tryz.func29,Tryz.ntmps29
  go_upto_region 1 with fail
  change Code.wp _ _ _ _ (w.alloc (.cells q.cells.toArray 30))
  generalize w.alloc (.cells q.cells.toArray 30) = wa at HPN HB0 |-
  have b0 := (uh HPN).kind
  rcases k6 with k | k | k <;> rw [k] at b0 <;> clear k
  all_goals (
   go_wp2
   go_ret
   exact ⟨by rw [uh HE]; rfl,uh HB0⟩)
 ·by_cases k3 : q.kind = 3
  ·have hq2 : 0 <= q.qos /\ q.qos <= 2 := by omega
   have HE : Hid (gfl q.kind q.dup q.qos q.retain = fv q.dup 8 + 2 * q.qos + fv q.retain 1) := by show _ = _; unfold gfl; rw [if_neg k6,if_pos k3]
   have r1 := fv_range q.dup 8 (by decide)
   have r2 := fv_range q.retain 1 (by decide)
   have HW : Hid (IntKind.i64.wrap (IntKind.i64.wrap (fv q.dup 8 + IntKind.i64.wrap (2 * q.qos)) + fv q.retain 1) = fv q.dup 8 + 2 * q.qos + fv q.retain 1) := by show _ = _; rw [IntKind.wrap_i64,IntKind.wrap_i64,IntKind.wrap_i64]; omega
   have HK3 := zh k3
   clear k3 k6 hq
   go_enter Tryz.func29,Tryz.ntmps29
   go_upto_region 1 with fail
   change Code.wp _ _ _ _ (w.alloc (.cells q.cells.toArray 30))
   generalize w.alloc (.cells q.cells.toArray 30) = wa at HPN HB0 |-
   have b0 := (uh HPN).kind
   rw [uh HK3] at b0
   go_wp2_with fail
   have HS : Hid (∀ W,Below wa.heap.size wa W -> W.cell? ⟨w.heap.size,1,none⟩ = some (.bool q.dup) /\ W.cell? ⟨w.heap.size,2,none⟩ = some (.int .i64 q.qos) /\ W.cell? ⟨w.heap.size,3,none⟩ = some (.bool q.retain)) := fun W hW => ⟨((uh HPN).below hW).dup,((uh HPN).below hW).qos,((uh HPN).below hW).retain⟩
   refine wp_region_noPanic ?_
   refine wp_region_held_drew (S := (fun w' => w'.cell? ⟨w.heap.size,1,none⟩ = some (.bool q.dup) /\ w'.cell? ⟨w.heap.size,2,none⟩ = some (.int .i64 q.qos) /\ w'.cell? ⟨w.heap.size,3,none⟩ = some (.bool q.retain))) (by kernel_rfl) ((uh HS) _ (below_drewN (Below.refl _ _) 1)) (fun hHeld => ?_)
   have HBd : Hid (Below wa.heap.size wa wa.drew) := below_drewN (Below.refl _ _) 1
   generalize wa.drew = wd at HBd hHeld |-
   clear b0
   refine rtk 0 (h := ?_)
   refine rtk 1 (h := ?_)
   refine rtk 3 (h := ?_)
   refine rtk 4 (h := ?_)
   refine rtk 5 (h := ?_)
   refine rtk 7 (h := ?_)
   refine rtk 8 (h := ?_)
   refine rcl 2 (h := fun K hK => ?_)
   go_simp
   refine (gflag_any q.dup 8 _).mono ?_
   rintro e w1 ⟨rfl,hw1⟩
   obtain rfl := hw1.symm
   clear hw1
   refine hK.out _ _ hHeld (fun hHeld => ?_)
   clear hK K
   refine rtk 6 (h := ?_)
   refine rcl 9 (h := fun K hK => ?_)
   go_simp
   refine (gflag_any q.retain 1 _).mono ?_
   rintro e w2 ⟨rfl,hw2⟩
   obtain rfl := hw2.symm
   clear hw2
   refine hK.out _ _ hHeld (fun hHeld => ?_)
   clear hK K
   refine rtk 10 (h := ?_)
   refine rtk 11 (h := ?_)
   refine wpAnyH_done (by kernel_rfl) ?_ _
   refine NoPanic.normal ?_
   go_wp2
   go_ret
   exact ⟨by rw [uh HE,<- uh HW]; rfl,bnx3 (uh HB0) (uh HBd)⟩
  ·have HE : Hid (gfl q.kind q.dup q.qos q.retain = 0) := by show _ = _; unfold gfl; rw [if_neg k6,if_neg k3]
   have j3 := beq_false_of_ne k3
   have j6 : (q.kind == 6) = false := beq_false_of_ne (fun e => k6 (.inl e))
   have j8 : (q.kind == 8) = false := beq_false_of_ne (fun e => k6 (.inr (.inl e)))
   have j10 : (q.kind == 10) = false := beq_false_of_ne (fun e => k6 (.inr (.inr e)))
   clear k3 k6 hq
   go_enter Tryz.func29,Tryz.ntmps29
   go_upto_region 1 with fail
   change Code.wp _ _ _ _ (w.alloc (.cells q.cells.toArray 30))
   generalize w.alloc (.cells q.cells.toArray 30) = wa at HPN HB0 |-
   have b0 := (uh HPN).kind
   go_wp2
   go_ret
   exact ⟨by rw [uh HE]; rfl,uh HB0⟩
def gopt (s : Sb) : Int := s.qos + fv s.nolocal 4 + fv s.aspub 8 + 16 * s.handling
def gsub (s : Sb) : List Int := tx s.filter ++ [gopt s % 256]
def gcod (c : Int) : List Int := [c % 256]
def sbc (s : Sb) : Array Value := #[.string s.filter,.int .i64 s.qos,.bool s.nolocal,.bool s.aspub,.int .i64 s.handling]
def sbz : Sb := ⟨⟨#[]⟩,0,false,false,0⟩
theorem sub_size : (Tryz.prog.info? 54).map (·.size) = some 5 := by kernel_rfl
theorem gsub_alloc (ρ : Operand -> Value) (dst : Option Tmp) (ty : TypeId) (pos : String) (after : Array Edge) (w : World) :
  (execOp ρ ⟨dst,.alloc 54,ty,pos,after,none⟩).run Tryz.prog w = .ok (.value (.pointer (some ⟨w.heap.size,0,none⟩))) (w.alloc (.cells (sbc sbz) 54)) := by
 kernel_rfl
theorem gsub_store (a : Act) (dst : Option Tmp) (x y : Operand) (ty : TypeId) (pos : String) (after : Array Edge) (s : Sb) (w : World) (hx : a.eval x = .pointer (some ⟨w.heap.size,0,none⟩)) (hy : a.eval y = s.val) :
  (execOp a.eval ⟨dst,.store 54 x y,ty,pos,after,none⟩).run Tryz.prog (w.alloc (.cells (sbc sbz) 54)) = .ok .skip (w.alloc (.cells (sbc s) 54)) := by
 show Sem.run Tryz.prog (do Instr.storeAt 54 (a.eval x) (a.eval y); pure Next.skip) _ = _
 rw [hx,hy,show s.val = .agg (sbc s) from rfl]
 simp only [Sem.run_bind]
 rw [run_storeAt_new w 54 (sbc sbz) (sbc s) (by rw [sub_size]; rfl) rfl (by simp [sbc,Value.oneCell'])]
 rfl
structure SBx (w : World) (g : Nat) (s : Sb) : Prop where
 c0 : w.cell? ⟨g,0,none⟩ = some (.string s.filter)
 c1 : w.cell? ⟨g,1,none⟩ = some (.int .i64 s.qos)
 c2 : w.cell? ⟨g,2,none⟩ = some (.bool s.nolocal)
 c3 : w.cell? ⟨g,3,none⟩ = some (.bool s.aspub)
 c4 : w.cell? ⟨g,4,none⟩ = some (.int .i64 s.handling)
 blk : w.heap[g]? = some (.cells (sbc s) 54)
theorem SBx.of {w : World} {g : Nat} {s : Sb} (h : w.heap[g]? = some (.cells (sbc s) 54)) : SBx w g s := by
 constructor
 all_goals first | exact h | (simp [World.cell?,h,sbc])
theorem sbx_new (w : World) (s : Sb) : SBx (w.alloc (.cells (sbc s) 54)) w.heap.size s := .of (heap_alloc_new _ _)
theorem SBx.lt {w : World} {g : Nat} {s : Sb} (h : SBx w g s) : g < w.heap.size := (Array.getElem?_eq_some_iff.1 h.blk).1
theorem SBx.below {w w' : World} {g : Nat} {s : Sb} (h : SBx w g s) (hb : Below w.heap.size w w') : SBx w' g s := .of ((hb.block g h.lt).trans h.blk)
theorem SBx.grow {w w' : World} {g : Nat} {s : Sb} {row : Option Nat} (h : SBx w g s) (hg : w.grownBy w' row) (hr : some g ≠ row) : SBx w' g s := .of ((hg.block g h.lt hr).trans h.blk)
theorem lst_le {r c k : Nat} (h : r <= c + k * 70000) (hk : k <= 16) : r <= c + 1120000 := by omega
theorem gopt_wrap {s : Sb} (h1 : 0 <= s.qos) (h2 : s.qos <= 3) (h3 : 0 <= s.handling) (h4 : s.handling <= 3) : IntKind.u8.wrap (IntKind.i64.wrap (IntKind.i64.wrap (IntKind.i64.wrap (s.qos + fv s.nolocal 4) + fv s.aspub 8) + IntKind.i64.wrap (16 * s.handling))) = gopt s % 256 := by
 have r1 := fv_range s.nolocal 4 (by omega)
 have r2 := fv_range s.aspub 8 (by omega)
 unfold gopt
 generalize fv s.nolocal 4 = x at r1 |-
 generalize fv s.aspub 8 = y at r2 |-
 simp [IntKind.wrap,IntKind.bits,IntKind.signed]
 omega
theorem flat_snoc {α : Type} (f : α -> List Int) (l : List α) (d : α) (k : Nat) (hk : k < l.length) : (l.take (k + 1)).flatMap f = (l.take k).flatMap f ++ f (l.getD k d) := by
 rw [List.take_add_one,List.getElem?_eq_getElem hk,List.flatMap_append,List.getD_eq_getElem?_getD,List.getElem?_eq_getElem hk]
 simp
theorem box_off {w : World} {B g : Nat} {v : Value} {l : List Int} {c : Array Value} (h : Rwb w B v l) (hb : w.heap[g]? = some (.cells c 54)) : v.ownBlock ≠ some g := fun e => by
 rcases h.1.2 with ⟨rfl,_⟩ | ⟨g',cap,cur,rfl,_,hg,_⟩
 ·cases e
 ·cases e
  rw [hg] at hb
  cases hb
theorem gb_lists (q : Pkv) (l : List Pr) (w : World) (hP : Prp w q.props.val l) (hok : okP q.kind l = true) (ss : List Sb) (fs : List ByteArray) (cs : List Int) (hS : Sbs w q.subs.val ss) (hF : Txs w q.filters.val fs) (hC : Nms w q.codes.val cs) (ns : ss.length <= 16) (nf : fs.length <= 16) (nc : cs.length <= 16) (zs : ∀ k,k < ss.length -> (ss.getD k sb0).filter.size <= 65535 /\ 0 <= (ss.getD k sb0).qos /\ (ss.getD k sb0).qos <= 3 /\ 0 <= (ss.getD k sb0).handling /\ (ss.getD k sb0).handling <= 3) (zf : ∀ k,k < fs.length -> (fs.getD k ⟨#[]⟩).size <= 65535) (hk : q.kind = 8 \/ q.kind = 9 \/ q.kind = 10 \/ q.kind = 11) : Calls Tryz.prog 28 #[q.val] w (GPut ((((b2 q.id ++ pbs l) ++ ss.flatMap gsub) ++ fs.flatMap tx) ++ cs.flatMap gcod) w) := by
 obtain ⟨ao1,cap1,hv,⟨hlc1,hcm1⟩,hx⟩ := hS
 obtain ⟨m1,hm1⟩ : ∃ m,m = ss.length := ⟨_,rfl⟩
 rw [<- hm1] at hv hlc1 ns
 have HV1 := zh hv
 have HS1 := zh hx
 have HN1 := zh hm1.symm
 clear hv hx hm1
 obtain ⟨ao2,cap2,hv,⟨hlc2,hcm2⟩,hx⟩ := hF
 obtain ⟨m2,hm2⟩ : ∃ m,m = fs.length := ⟨_,rfl⟩
 rw [<- hm2] at hv hlc2 nf
 have HV2 := zh hv
 have HS2 := zh hx
 have HN2 := zh hm2.symm
 clear hv hx hm2
 obtain ⟨ao3,cap3,hv,⟨hlc3,hcm3⟩,hx⟩ := hC
 obtain ⟨m3,hm3⟩ : ∃ m,m = cs.length := ⟨_,rfl⟩
 rw [<- hm3] at hv hlc3 nc
 have HV3 := zh hv
 have HS3 := zh hx
 have HN3 := zh hm3.symm
 clear hv hx hm3
 have HZS := zh zs
 have HZF := zh zf
 clear zs zf
 obtain ⟨hok1,h32⟩ := chkP0 (of_decide_eq_true hok)
 have hple := pbs_le (of_decide_eq_true hok)
 have HPN := zh (pk_new w q)
 have HB0 : Hid (Below w.heap.size w (w.alloc (.cells q.cells.toArray 30))) := bal _ _
 have HBY : Hid (∀ W,Below w.heap.size w W -> Calls Tryz.prog 68 #[.slice q.props.ao l.length q.props.cap] W (PutP (pbs l) W)) := fun W hW => by
  have k := rbytes_any q.props.val l q.kind W (hP.below hW) (by omega) hok1
  rw [show q.props.val = .slice q.props.ao q.props.n q.props.cap from rfl,prp_n hP] at k
  exact k
 have HTL : Hid (∀ W,Below w.heap.size w W -> Calls Tryz.prog 71 #[.agg q.cells.toArray] W (GPut (gtl q.code l) W)) := fun W hW => gtail_any q l q.kind W (hP.below hW) hok
 have HQN := zh (prp_n hP)
 have HKK := zh hk
 clear hP hok hok1 hk
 go_enter Tryz.func28,Tryz.ntmps28
 go_upto_region 1 with fail
 change Code.wp _ _ _ _ (w.alloc (.cells q.cells.toArray 30))
 have hsz : (w.alloc (.cells q.cells.toArray 30)).heap.size = w.heap.size + 1 := by simp
 generalize w.alloc (.cells q.cells.toArray 30) = wa at HPN HB0 hsz |-
 have b0 := (uh HPN).kind
 obtain ⟨kd,hkd⟩ : ∃ k,k = q.kind := ⟨_,rfl⟩
 rw [<- hkd] at b0 HKK
 clear hkd
 -- cutA
 go_upto_block 0 with fail
 go_cut [] from 8 (fun wx => wx = wa)
 case first =>
  rcases uh HKK with rfl | rfl | rfl | rfl
  all_goals (
   go_wp2_with fail
   go_meet
   case rel => rfl)
 case rest =>
  obtain rfl := hcut.symm
  clear hcut b0
  -- cutB
  have b7 := (uh HPN).props
  rw [show q.props.val = .slice q.props.ao q.props.n q.props.cap from rfl,uh HQN] at b7
  go_wp2_with fail
  have HS : Hid (∀ W,Below wa.heap.size wa W -> W.cell? ⟨w.heap.size,5,none⟩ = some (.int .i64 q.id) /\ W.cell? ⟨w.heap.size,7,none⟩ = some (.slice q.props.ao l.length q.props.cap)) := fun W hW => ⟨((uh HPN).below hW).id,(hW.cell (cell_lt b7)).trans b7⟩
  refine wp_region_noPanic ?_
  refine wp_region_held_drew (S := (fun w' => w'.cell? ⟨w.heap.size,5,none⟩ = some (.int .i64 q.id) /\ w'.cell? ⟨w.heap.size,7,none⟩ = some (.slice q.props.ao l.length q.props.cap))) (by kernel_rfl) ((uh HS) _ (below_drewN (Below.refl _ _) 1)) (fun hHeld => ?_)
  have HBd : Hid (Below wa.heap.size wa wa.drew) := below_drewN (Below.refl _ _) 1
  have hszd : wa.drew.heap.size = w.heap.size + 1 := hsz
  generalize wa.drew = wd at HBd hHeld hszd |-
  clear b7
  refine rtk 0 (h := ?_)
  refine rtk 1 (h := ?_)
  refine rtk 3 (h := ?_)
  refine rtk 4 (h := ?_)
  refine rcl 2 (h := fun K hK => ?_)
  go_simp
  refine (gtwo_any q.id _).mono ?_
  rintro e w1 ⟨v1,rfl,hr1,hb1⟩
  have HB1 : Hid (Below wa.heap.size wa w1) := bnx2 (uh HBd) hb1
  have HR1 : Hid (Rwb w1 (w.heap.size + 1) v1 (b2 q.id)) := (uh hr1).mono (by omega)
  clear hr1 hb1
  refine hK.out _ _ ((uh HS) _ (uh HB1)) (fun hHeld => ?_)
  clear hK K
  refine rcl 5 (h := fun K hK => ?_)
  go_simp
  refine ((uh HBY) _ (bnx2 (uh HB0) (uh HB1))).mono ?_
  rintro e w2 ⟨v2,rfl,hy2,hb2⟩
  have HB2 : Hid (Below wa.heap.size wa w2) := bnx2 (uh HB1) hb2
  have HR2 := zh ((uh HR1).below hb2)
  clear hb2
  refine hK.out _ _ ((uh HS) _ (uh HB2)) (fun hHeld => ?_)
  clear hK K
  refine rcl 6 (h := fun K hK => ?_)
  refine step_append_byt rfl _ _ rfl (w.heap.size + 1) v1 2 (b2 q.id) rfl (uh HR2).1 v2 (pbs l) rfl (uh hy2) (by omega) (by have := (uh HB2).size; omega) ?_
  intro v3 w3 hown3 hg3
  have HB3 : Hid (Below wa.heap.size wa w3) := (uh HB2).grown hg3 (uh HB2).size (fun g hg => by have := owns_blk (uh HR2).1 g hg; omega)
  have HR3 : Hid (Rwb w3 (w.heap.size + 1) v3 (b2 q.id ++ pbs l)) := ⟨by rw [List.length_append]; exact hown3,range_app (uh HR2).2 (uh hy2).range⟩
  clear hown3 hg3
  refine hK.out _ _ ((uh HS) _ (uh HB3)) (fun hHeld => ?_)
  clear hK K
  simp only [Act.put,List.setIfInBounds_toArray,List.set_cons_zero,List.set_cons_succ]
  refine rtk 7 (h := ?_)
  refine wpAnyH_done (by kernel_rfl) ?_ _
  refine NoPanic.normal ?_
  have HP3 := zh ((uh HPN).below (uh HB3))
  have HB3 := zh (bnx2 (uh HB0) (uh HB3))
  obtain ⟨va3,vn3,vc3,rfl⟩ := (uh HR3).form
  clear hHeld HPN HS HBd HB1 HB2 HR1 HR2 hy2
  obtain ⟨L0,HEL0⟩ : ∃ L : List Int,Hid (L = b2 q.id ++ pbs l) := ⟨_,rfl⟩
  have nL0 : L0.length <= 5000002 := by rw [uh HEL0]; rw [List.length_append]; simp; omega
  rw [<- uh HEL0] at HR3
  -- cutC
  go_wp2_with fail
  go_loopw [3,4,5] (fun s3 s4 s5 wr => ∃ (k : Nat) (R : List Int),k <= m1 /\ s4 = .int .i64 k /\ R.length <= 5000002 + k * 70000 /\ Hid (R = L0 ++ (ss.take k).flatMap gsub) /\ Hid (Rwb wr (w.heap.size + 1) s3 R) /\ Hid (Below w.heap.size w wr) /\ Hid (Pk wr w.heap.size q)) (fun _ s4 _ _ => m1 - (intOf s4).toNat)
  case atStart => exact ⟨0,L0,Nat.zero_le _,rfl,by omega,by show _ = _; simp,HR3,HB3,HP3⟩
  case round =>
   clear HR3 HB3 HP3
   obtain ⟨k,R,hk,rfl,hRl,HER,HR,HB,HP⟩ := hrel
   obtain ⟨bva,bvn,bvc,rfl⟩ := (uh HR).form
   have p16 := (uh HP).subs
   rw [uh HV1] at p16
   by_cases hlt : k < m1
   ·have hkl : k < ss.length := by rw [uh HN1]; exact hlt
    have HSN := zh (flat_snoc gsub ss sb0 k hkl)
    obtain ⟨b,off,hao,hat⟩ : ∃ b off,ao1 = some ⟨b,off,none⟩ /\ SbAt w b off ss := by
     rcases uh HS1 with e | k
     ·rw [e] at hkl; simp at hkl
     ·exact k
    rw [hao] at p16
    have HAO := zh hao
    have hat := hat k hkl
    have hB := (uh HB)
    obtain ⟨d0,d1,d2,d3,d4⟩ := hat
    have hbl : b < w.heap.size := cell_lt d0
    have e0 := (hB.cell hbl).trans d0
    have e1 := (hB.cell hbl).trans d1
    have e2 := (hB.cell hbl).trans d2
    have e3 := (hB.cell hbl).trans d3
    have e4 := (hB.cell hbl).trans d4
    have hzz := (uh HZS) k hkl
    clear d0 d1 d2 d3 d4
    generalize ss.getD k sb0 = sv at e0 e1 e2 e3 e4 hzz HSN
    go_upto_region 28 with fail
    iterate 16 go_step
    refine Go.Proofs.YtemedclhglkfjaaGreatDoor.wpList_value rfl (gsub_alloc _ _ _ _ _ _) ?_
    simp only [Act.put,List.setIfInBounds_toArray,List.set_cons_zero,List.set_cons_succ]
    refine Go.Proofs.YtemedclhglkfjaaGreatDoor.wpList_skip rfl (gsub_store _ _ _ _ _ _ _ sv wr rfl rfl) ?_
    simp only [Act.put]
    have HX := zh (sbx_new wr sv)
    have hbx : Below wr.heap.size wr (wr.alloc (.cells (sbc sv) 54)) := bal _ _
    have HBx := zh (bnx2 (uh HB) hbx)
    have HPx := zh ((uh HP).below hbx)
    have HRx := zh ((uh HR).below hbx)
    have hszr := (uh HB).size
    generalize wr.alloc (.cells (sbc sv) 54) = wx at HX HBx HPx HRx |-
    obtain ⟨G,hG⟩ : ∃ g,g = wr.heap.size := ⟨_,rfl⟩
    rw [<- hG] at HX |-
    clear hbx HB HP HR e0 e1 e2 e3 e4 p16 hG
    have f0 := (uh HX).c0
    obtain ⟨hz0,hz1,hz2,hz3,hz4⟩ := hzz
    obtain ⟨fl,hfl⟩ : ∃ s,s = sv.filter := ⟨_,rfl⟩
    rw [<- hfl] at f0 hz0
    have HFL := zh hfl
    clear hfl
    have HB := HBx
    have HP := HPx
    have HR := HRx
    clear HBx HPx HRx
    go_wp2_with fail
    refine (Go.Proofs.YtemedclhglkfjaaGreatDoor.bin_any fl _ hz0).mono ?_
    rintro e w1 ⟨v1,rfl,hown1,hb1⟩
    have hzz := hz0
    have HX1 := zh ((uh HX).below hb1)
    clear f0 HX
    have HB1 := zh (bnx2 (uh HB) hb1)
    have HP1 := zh ((uh HP).below hb1)
    have HR1 := zh ((uh HR).below hb1)
    have HG1 := zh (tx_range fl hzz)
    have HY1 : Hid (Byt w1 v1 (tx fl)) := Rwb.byt (B := 0) ⟨by rw [tx_length]; exact owns_mono (uh hown1) (Nat.zero_le _),uh HG1⟩
    obtain ⟨va1,vc1,rfl,-,-⟩ := (uh HY1).form
    clear hown1 hb1 HB HP HR
    obtain ⟨M1,HEM1⟩ : ∃ L : List Int,Hid (L = tx fl) := ⟨_,rfl⟩
    have nM1 : M1.length <= 65537 := by rw [uh HEM1]; rw [tx_length]; omega
    rw [<- uh HEM1] at HY1 HG1 |-
    go_wp2_with (first
     | (at_builtin; refine wpList_append_byt _ rfl _ _ rfl (w.heap.size + 1) (.slice bva bvn bvc) R.length R rfl (uh HR1).1 (.slice va1 M1.length vc1) M1 rfl (uh HY1) (by first | omega | (simp; omega)) (cell_lt (uh HP1).kind) ?_)
     | go_in)
    intro v2 w2 hown hg
    have HR2 := zh ((uh HR1).more (uh HG1) (by first | exact hown | (rw [<- List.map_append]; exact hown)))
    have HB2 : Hid (Below w.heap.size w w2) := below_grown (uh HB1) (uh HR1) hg
    have HP2 := zh ((uh HP1).grow2 hg (uh HR1).off)
    have HX2 := zh ((uh HX1).grow hg (fun e => box_off (uh HR1) (uh HX1).blk e.symm))
    obtain ⟨va2,vn2,vc2,rfl⟩ := (uh HR2).form
    clear hown hg HR1 HB1 HP1 HX1 HY1
    obtain ⟨R2,HER2⟩ : ∃ L : List Int,Hid (L = R ++ M1) := ⟨_,rfl⟩
    have nR2 : R2.length <= R.length + 65537 := by rw [uh HER2]; rw [List.length_append]; omega
    rw [<- uh HER2] at HR2
    go_wp2_with fail
    have HS : Hid (∀ W,Below w2.heap.size w2 W -> (fun w' => w'.cell? ⟨G,1,none⟩ = some (.int .i64 sv.qos) /\ w'.cell? ⟨G,2,none⟩ = some (.bool sv.nolocal) /\ w'.cell? ⟨G,3,none⟩ = some (.bool sv.aspub) /\ w'.cell? ⟨G,4,none⟩ = some (.int .i64 sv.handling)) W) := fun W hW => by
     have k := (uh HX2).below hW
     exact ⟨k.c1,k.c2,k.c3,k.c4⟩
    refine wp_region_noPanic ?_
    have hbd : Below w2.heap.size w2 w2.drew := below_drewN (Below.refl _ _) 1
    refine wp_region_held_drew (S := (fun w' => w'.cell? ⟨G,1,none⟩ = some (.int .i64 sv.qos) /\ w'.cell? ⟨G,2,none⟩ = some (.bool sv.nolocal) /\ w'.cell? ⟨G,3,none⟩ = some (.bool sv.aspub) /\ w'.cell? ⟨G,4,none⟩ = some (.int .i64 sv.handling))) (by kernel_rfl) ((uh HS) _ hbd) (fun hHeld => ?_)
    have HBd := zh hbd
    have HRd := zh ((uh HR2).below hbd)
    have HPd := zh ((uh HP2).below hbd)
    have HBB := zh (bnx2 (uh HB2) hbd)
    generalize w2.drew = wd at HBd HRd HPd HBB hHeld |-
    clear hbd HR2 HP2 HB2
    have r1 := fv_range sv.nolocal 4 (by omega)
    have r2 := fv_range sv.aspub 8 (by omega)
    have hz : IntKind.u8.wrap (IntKind.i64.wrap (IntKind.i64.wrap (IntKind.i64.wrap (sv.qos + fv sv.nolocal 4) + fv sv.aspub 8) + IntKind.i64.wrap (16 * sv.handling))) = gopt sv % 256 := gopt_wrap hz1 hz2 hz3 hz4
    have HRNG : ∀ j,0 <= ([gopt sv % 256] : List Int).getD j 0 /\ ([gopt sv % 256] : List Int).getD j 0 <= 255 := rng1 (by omega)
    obtain ⟨z,hzz2⟩ : ∃ z,z = gopt sv % 256 := ⟨_,rfl⟩
    rw [<- hzz2] at hz HRNG
    have HZ2 := zh hzz2
    clear hzz2
    refine rtk 0 (h := ?_)
    refine rtk 1 (h := ?_)
    refine rtk 2 (h := ?_)
    refine rtk 3 (h := ?_)
    refine rtk 4 (h := ?_)
    refine rtk 7 (h := ?_)
    refine rtk 8 (h := ?_)
    refine rtk 11 (h := ?_)
    refine rtk 12 (h := ?_)
    refine rtk 13 (h := ?_)
    refine rcl 5 (h := fun K hK => ?_)
    go_simp
    refine (gflag_any sv.nolocal 4 _).mono ?_
    rintro e w0 ⟨rfl,hw0⟩
    obtain rfl := hw0.symm
    clear hw0
    refine hK.out _ _ hHeld (fun hHeld => ?_)
    clear hK K
    refine rtk 6 (h := ?_)
    refine rcl 9 (h := fun K hK => ?_)
    go_simp
    refine (gflag_any sv.aspub 8 _).mono ?_
    rintro e w0 ⟨rfl,hw0⟩
    obtain rfl := hw0.symm
    clear hw0
    refine hK.out _ _ hHeld (fun hHeld => ?_)
    clear hK K
    refine rtk 10 (h := ?_)
    refine rtk 14 (h := ?_)
    refine rtk 15 (h := ?_)
    refine rcl 16 (h := fun K hK => ?_)
    go_simp
    have hba : Below wd.heap.size wd (wd.alloc (.cells #[.int .u8 z] 5)) := bal _ _
    have HRx : Hid (Rwb (wd.alloc (.cells #[.int .u8 z] 5)) wd.heap.size (.slice (some ⟨wd.heap.size,0,none⟩) 1 1) [z]) := rwb_new wd [z] (by simp) (by simp) HRNG
    have HB3 := zh (bnx2 (uh HBd) hba)
    have HR3 := zh ((uh HRd).below hba)
    have HP3 := zh ((uh HPd).below hba)
    have HBB3 := zh (bnx2 (uh HBB) hba)
    have HY3 := zh (uh HRx).byt
    refine hK.out _ _ ((uh HS) _ (uh HB3)) (fun hHeld => ?_)
    clear hK K hba HRx HBd HRd HPd HBB
    generalize wd.alloc (.cells #[.int .u8 z] 5) = w3 at HB3 HR3 HP3 HBB3 HY3 hHeld |-
    refine rcl 17 (h := fun K hK => ?_)
    refine step_append_byt rfl _ _ rfl (w.heap.size + 1) (.slice va2 vn2 vc2) R2.length R2 rfl (uh HR3).1 (.slice (some ⟨wd.heap.size,0,none⟩) 1 1) [z] rfl (uh HY3) (by simp; omega) (cell_lt (uh HP3).kind) ?_
    intro v4 w4 hown hg
    have HR4 := zh ((uh HR3).more HRNG (by first | exact hown | (rw [<- List.map_append]; exact hown)))
    have HB4 : Hid (Below w.heap.size w w4) := below_grown (uh HBB3) (uh HR3) hg
    have HP4 := zh ((uh HP3).grow2 hg (uh HR3).off)
    have hX3 : SBx w3 G sv := (uh HX2).below (uh HB3)
    have hX4 : SBx w4 G sv := hX3.grow hg (fun e => box_off (uh HR3) hX3.blk e.symm)
    refine hK.out _ _ ⟨hX4.c1,hX4.c2,hX4.c3,hX4.c4⟩ (fun hHeld => ?_)
    obtain ⟨va4,vn4,vc4,rfl⟩ := (uh HR4).form
    clear hK K hown hg HR3 HP3 HBB3 HY3 HB3 hX3 hX4 HX2 HS
    simp only [Act.put,List.setIfInBounds_toArray,List.set_cons_zero,List.set_cons_succ]
    refine rtk 18 (h := ?_)
    refine wpAnyH_done (by kernel_rfl) ?_ _
    refine NoPanic.normal ?_
    clear hHeld
    go_wp2
    go_roundw
    case rel => exact ⟨k + 1,R2 ++ [z],by omega,by go_num,by rw [List.length_append,Nat.succ_mul]; simp; omega,by show _ = _; rw [uh HER2,uh HEM1,uh HZ2,uh HER,uh HSN,uh HFL]; simp [gsub],HR4,HB4,HP4⟩
    case measure => simp [intOf]; omega
   ·obtain rfl : m1 = k := by omega
    have HER2 : Hid (R = L0 ++ ss.flatMap gsub) := by show _ = _; rw [uh HER,List.take_of_length_le (Nat.le_of_eq (uh HN1))]
    have hR2 : R.length <= 6120002 := lst_le hRl ns
    clear HER hRl
    obtain ⟨L1,hL⟩ : ∃ L : List Int,L = R := ⟨_,rfl⟩
    subst hL
    have HEL1 := HER2
    have nL1 := hR2
    clear HER2 hR2
    go_wp2_with fail
    go_loopw [3,6] (fun s3 s6 wr => ∃ (k : Nat) (R : List Int),k <= m2 /\ s6 = .int .i64 k /\ R.length <= 6120002 + k * 70000 /\ Hid (R = L1 ++ (fs.take k).flatMap tx) /\ Hid (Rwb wr (w.heap.size + 1) s3 R) /\ Hid (Below w.heap.size w wr) /\ Hid (Pk wr w.heap.size q)) (fun _ s6 _ => m2 - (intOf s6).toNat)
    case atStart => exact ⟨0,L1,Nat.zero_le _,rfl,by omega,by show _ = _; simp,HR,HB,HP⟩
    case round =>
     clear HR HB HP
     obtain ⟨k,R,hk,rfl,hRl,HER,HR,HB,HP⟩ := hrel
     obtain ⟨bva,bvn,bvc,rfl⟩ := (uh HR).form
     have p17 := (uh HP).filters
     rw [uh HV2] at p17
     by_cases hlt : k < m2
     ·have hkl : k < fs.length := by rw [uh HN2]; exact hlt
      have HSN := zh (flat_snoc tx fs ⟨#[]⟩ k hkl)
      obtain ⟨b,off,hao,hat⟩ : ∃ b off,ao2 = some ⟨b,off,none⟩ /\ ∀ j,j < fs.length -> w.cell? ⟨b,off + j,none⟩ = some (.string (fs.getD j ⟨#[]⟩)) := by
       rcases uh HS2 with e | k
       ·rw [e] at hkl; simp at hkl
       ·exact k
      rw [hao] at p17
      have HAO := zh hao
      have hat := hat k hkl
      have hB := (uh HB)
      have hbl : b < w.heap.size := cell_lt hat
      have e0 := (hB.cell hbl).trans hat
      have hzz := (uh HZF) k hkl
      generalize fs.getD k ⟨#[]⟩ = fl at e0 hzz HSN hat
      clear hat
      go_wp2_with fail
      refine (Go.Proofs.YtemedclhglkfjaaGreatDoor.bin_any fl _ hzz).mono ?_
      rintro e w1 ⟨v1,rfl,hown1,hb1⟩
      have HB1 := zh (bnx2 (uh HB) hb1)
      have HP1 := zh ((uh HP).below hb1)
      have HR1 := zh ((uh HR).below hb1)
      have HG1 := zh (tx_range fl hzz)
      have HY1 : Hid (Byt w1 v1 (tx fl)) := Rwb.byt (B := 0) ⟨by rw [tx_length]; exact owns_mono (uh hown1) (Nat.zero_le _),uh HG1⟩
      obtain ⟨va1,vc1,rfl,-,-⟩ := (uh HY1).form
      clear hown1 hb1 HB HP HR
      obtain ⟨M1,HEM1⟩ : ∃ L : List Int,Hid (L = tx fl) := ⟨_,rfl⟩
      have nM1 : M1.length <= 65537 := by rw [uh HEM1]; rw [tx_length]; omega
      rw [<- uh HEM1] at HY1 HG1 |-
      go_wp2_with (first
       | (at_builtin; refine wpList_append_byt _ rfl _ _ rfl (w.heap.size + 1) (.slice bva bvn bvc) R.length R rfl (uh HR1).1 (.slice va1 M1.length vc1) M1 rfl (uh HY1) (by first | omega | (simp; omega)) (cell_lt (uh HP1).kind) ?_)
       | go_in)
      intro v2 w2 hown hg
      have HR2 := zh ((uh HR1).more (uh HG1) (by first | exact hown | (rw [<- List.map_append]; exact hown)))
      have HB2 : Hid (Below w.heap.size w w2) := below_grown (uh HB1) (uh HR1) hg
      have HP2 := zh ((uh HP1).grow2 hg (uh HR1).off)
      obtain ⟨va2,vn2,vc2,rfl⟩ := (uh HR2).form
      clear hown hg HR1 HB1 HP1 p17 e0
      go_wp2
      go_roundw
      case rel => exact ⟨k + 1,R ++ M1,by omega,by go_num,by rw [List.length_append,Nat.succ_mul]; omega,by show _ = _; rw [uh HEM1,uh HER,uh HSN,List.append_assoc],HR2,HB2,HP2⟩
      case measure => simp [intOf]; omega
     ·obtain rfl : m2 = k := by omega
      have HER2 : Hid (R = L1 ++ fs.flatMap tx) := by show _ = _; rw [uh HER,List.take_of_length_le (Nat.le_of_eq (uh HN2))]
      have hR2 : R.length <= 7240002 := lst_le hRl nf
      clear HER hRl
      obtain ⟨L2,hL⟩ : ∃ L : List Int,L = R := ⟨_,rfl⟩
      subst hL
      have HEL2 := HER2
      have nL2 := hR2
      clear HER2 hR2
      go_wp2_with fail
      go_loopw [3,7] (fun s3 s7 wr => ∃ (k : Nat) (R : List Int),k <= m3 /\ s7 = .int .i64 k /\ R.length <= 7240002 + k * 70000 /\ Hid (R = L2 ++ (cs.take k).flatMap gcod) /\ Hid (Rwb wr (w.heap.size + 1) s3 R) /\ Hid (Below w.heap.size w wr) /\ Hid (Pk wr w.heap.size q)) (fun _ s7 _ => m3 - (intOf s7).toNat)
      case atStart => exact ⟨0,L2,Nat.zero_le _,rfl,by omega,by show _ = _; simp,HR,HB,HP⟩
      case round =>
       clear HR HB HP
       obtain ⟨k,R,hk,rfl,hRl,HER,HR,HB,HP⟩ := hrel
       obtain ⟨bva,bvn,bvc,rfl⟩ := (uh HR).form
       have p18 := (uh HP).codes
       rw [uh HV3] at p18
       by_cases hlt : k < m3
       ·have hkl : k < cs.length := by rw [uh HN3]; exact hlt
        have HSN := zh (flat_snoc gcod cs 0 k hkl)
        obtain ⟨b,off,hao,hat⟩ : ∃ b off,ao3 = some ⟨b,off,none⟩ /\ ∀ j,j < cs.length -> w.cell? ⟨b,off + j,none⟩ = some (.int .i64 (cs.getD j 0)) := by
         rcases uh HS3 with e | k
         ·rw [e] at hkl; simp at hkl
         ·exact k
        rw [hao] at p18
        have HAO := zh hao
        have hat := hat k hkl
        have hB := (uh HB)
        have hbl : b < w.heap.size := cell_lt hat
        have e0 := (hB.cell hbl).trans hat
        generalize cs.getD k 0 = cd at e0 HSN hat
        clear hat
        have hz : IntKind.u8.wrap cd = cd % 256 := by rfl
        have HG1 := zh (rng1 (x := cd % 256) (by omega))
        have HBx : Hid (Below w.heap.size w (wr.alloc (.cells #[.int .u8 (cd % 256)] 5))) := (uh HB).alloc (uh HB).size _
        have HRx : Hid (Rwb (wr.alloc (.cells #[.int .u8 (cd % 256)] 5)) wr.heap.size (.slice (some ⟨wr.heap.size,0,none⟩) 1 1) [cd % 256]) := rwb_new wr [cd % 256] (by simp) (by simp) (uh HG1)
        have HPx := zh ((uh HP).below ((Below.refl _ _).alloc (Nat.le_refl _) (.cells #[.int .u8 (cd % 256)] 5)))
        have HR1 := zh ((uh HR).below ((Below.refl _ _).alloc (Nat.le_refl _) (.cells #[.int .u8 (cd % 256)] 5)))
        have HY1 := zh (uh HRx).byt
        have hszr := (uh HB).size
        go_wp2_with (first
         | (at_builtin; refine wpList_append_byt _ rfl _ _ rfl (w.heap.size + 1) (.slice bva bvn bvc) R.length R rfl (uh HR1).1 (.slice (some ⟨wr.heap.size,0,none⟩) 1 1) [cd % 256] rfl (uh HY1) (by first | omega | (simp; omega)) (cell_lt (uh HPx).kind) ?_)
         | go_in)
        intro v2 w2 hown hg
        have HR2 := zh ((uh HR1).more (uh HG1) (by first | exact hown | (rw [<- List.map_append]; exact hown)))
        have HB2 : Hid (Below w.heap.size w w2) := below_grown (uh HBx) (uh HR1) hg
        have HP2 := zh ((uh HPx).grow2 hg (uh HR1).off)
        obtain ⟨va2,vn2,vc2,rfl⟩ := (uh HR2).form
        clear hown hg HR1 HBx HPx HRx HY1 p18 e0
        go_wp2
        go_roundw
        case rel => exact ⟨k + 1,R ++ [cd % 256],by omega,by go_num,by rw [List.length_append,Nat.succ_mul]; simp; omega,by show _ = _; rw [uh HER,uh HSN,List.append_assoc]; rfl,HR2,HB2,HP2⟩
        case measure => simp [intOf]; omega
       ·obtain rfl : m3 = k := by omega
        have HER2 : Hid (R = L2 ++ cs.flatMap gcod) := by show _ = _; rw [uh HER,List.take_of_length_le (Nat.le_of_eq (uh HN3))]
        have hR2 : R.length <= 8360002 := lst_le hRl nc
        clear HER hRl
        go_wp2
        go_ret
        exact ⟨_,rfl,by rw [uh HER2,uh HEL2,uh HEL1,uh HEL0] at HR; exact (uh HR).mono (Nat.le_succ _),uh HB⟩
def gwl (u : Wl) : List Int := (pbs u.props ++ tx u.topic) ++ tx u.payload
def gwf (us : List Wl) : Int := match us with
 | [] => 0
 | u :: _ => fv u.retain 32 + 8 * u.qos + 4
def gcf (nu np : Nat) (clean : Bool) : Int := fv (decide (0 < nu)) 128 + fv (decide (0 < np)) 64 + fv clean 2
def gmq : ByteArray := ⟨#[77,81,84,84]⟩
theorem gcf_range (nu np : Nat) (clean : Bool) : 0 <= gcf nu np clean /\ gcf nu np clean <= 194 := by
 have r1 := fv_range (decide (0 < nu)) 128 (by omega)
 have r2 := fv_range (decide (0 < np)) 64 (by omega)
 have r3 := fv_range clean 2 (by omega)
 unfold gcf
 omega
theorem gcf_wrap {F x : Int} {b : Bool} (hF : 0 <= F /\ F <= 194) (h1 : 0 <= x) (h2 : x <= 2) : IntKind.i64.wrap (IntKind.i64.wrap (IntKind.i64.wrap (F + fv b 32) + IntKind.i64.wrap (8 * x)) + 4) = F + (fv b 32 + 8 * x + 4) := by
 have r1 := fv_range b 32 (by omega)
 generalize fv b 32 = y at r1 |-
 simp [IntKind.wrap,IntKind.bits,IntKind.signed]
 omega
theorem gwf_one {us : List Wl} (h : us.length = 1) : gwf us = fv (us.getD 0 wl0).retain 32 + 8 * (us.getD 0 wl0).qos + 4 := by
 match us,h with
 | [u],_ => rfl
theorem flat_one {α : Type} (f : α -> List Int) {l : List α} (d : α) (h : l.length = 1) : l.flatMap f = f (l.getD 0 d) := by
 match l,h with
 | [u],_ => simp
theorem flat_nil {α : Type} (f : α -> List Int) {l : List α} (h : l.length = 0) : l.flatMap f = [] := by
 rw [List.length_eq_zero_iff.1 h]; rfl
def wlc (a b : ByteArray) (n : Int) (r : Bool) (v : Value) : Array Value := #[.string a,.string b,.int .i64 n,.bool r,v]
def wlz : Array Value := wlc ⟨#[]⟩ ⟨#[]⟩ 0 false (.slice none 0 0)
theorem will_size : (Tryz.prog.info? 52).map (·.size) = some 5 := by kernel_rfl
theorem gwill_alloc (ρ : Operand -> Value) (dst : Option Tmp) (ty : TypeId) (pos : String) (after : Array Edge) (w : World) :
  (execOp ρ ⟨dst,.alloc 52,ty,pos,after,none⟩).run Tryz.prog w = .ok (.value (.pointer (some ⟨w.heap.size,0,none⟩))) (w.alloc (.cells wlz 52)) := by
 kernel_rfl
theorem gwill_store (a : Act) (dst : Option Tmp) (x y : Operand) (ty : TypeId) (pos : String) (after : Array Edge) (t p : ByteArray) (n : Int) (r : Bool) (ao : Option Addr) (k cap : Nat) (w : World) (hx : a.eval x = .pointer (some ⟨w.heap.size,0,none⟩)) (hy : a.eval y = .agg (wlc t p n r (.slice ao k cap))) :
  (execOp a.eval ⟨dst,.store 52 x y,ty,pos,after,none⟩).run Tryz.prog (w.alloc (.cells wlz 52)) = .ok .skip (w.alloc (.cells (wlc t p n r (.slice ao k cap)) 52)) := by
 show Sem.run Tryz.prog (do Instr.storeAt 52 (a.eval x) (a.eval y); pure Next.skip) _ = _
 rw [hx,hy]
 simp only [Sem.run_bind]
 rw [run_storeAt_new w 52 wlz (wlc t p n r (.slice ao k cap)) (by rw [will_size]; rfl) rfl (by simp [wlc,Value.oneCell'])]
 rfl
structure WBx (w : World) (g : Nat) (t p : ByteArray) (n : Int) (r : Bool) (v : Value) : Prop where
 c0 : w.cell? ⟨g,0,none⟩ = some (.string t)
 c1 : w.cell? ⟨g,1,none⟩ = some (.string p)
 c4 : w.cell? ⟨g,4,none⟩ = some v
 blk : w.heap[g]? = some (.cells (wlc t p n r v) 52)
theorem WBx.of {w : World} {g : Nat} {t p : ByteArray} {n : Int} {r : Bool} {v : Value} (h : w.heap[g]? = some (.cells (wlc t p n r v) 52)) : WBx w g t p n r v := by
 constructor
 all_goals first | exact h | (simp [World.cell?,h,wlc])
theorem wbx_new (w : World) (t p : ByteArray) (n : Int) (r : Bool) (v : Value) : WBx (w.alloc (.cells (wlc t p n r v) 52)) w.heap.size t p n r v := .of (heap_alloc_new _ _)
theorem WBx.lt {w : World} {g : Nat} {t p : ByteArray} {n : Int} {r : Bool} {v : Value} (h : WBx w g t p n r v) : g < w.heap.size := (Array.getElem?_eq_some_iff.1 h.blk).1
theorem WBx.below {w w' : World} {g : Nat} {t p : ByteArray} {n : Int} {r : Bool} {v : Value} (h : WBx w g t p n r v) (hb : Below w.heap.size w w') : WBx w' g t p n r v := .of ((hb.block g h.lt).trans h.blk)
theorem WBx.grow {w w' : World} {g : Nat} {t p : ByteArray} {n : Int} {r : Bool} {v : Value} {row : Option Nat} (h : WBx w g t p n r v) (hg : w.grownBy w' row) (hr : some g ≠ row) : WBx w' g t p n r v := .of ((hg.block g h.lt hr).trans h.blk)
theorem wbox_off {w : World} {B g : Nat} {v : Value} {l : List Int} {c : Array Value} (h : Rwb w B v l) (hb : w.heap[g]? = some (.cells c 52)) : v.ownBlock ≠ some g := fun e => by
 rcases h.1.2 with ⟨rfl,_⟩ | ⟨g',cap,cur,rfl,_,hg,_⟩
 ·cases e
 ·cases e
  rw [hg] at hb
  cases hb
def gcon (q : Pkv) (l : List Pr) (ws : List Wl) (us ps : List ByteArray) : List Int := ((((((((tx gmq ++ [5]) ++ [(gcf us.length ps.length q.clean + gwf ws) % 256]) ++ b2 q.keep) ++ pbs l) ++ tx q.client) ++ ws.flatMap gwl) ++ us.flatMap tx) ++ ps.flatMap tx)
theorem prp_len {w : World} {a : Option Addr} {n c : Nat} {l : List Pr} (h : Prp w (.slice a n c) l) : l.length = n := by
 obtain ⟨ao,cap,h1,_⟩ := h
 cases h1
 rfl
theorem gconn_any (q : Pkv) (l : List Pr) (w : World) (hP : Prp w q.props.val l) (hok : okP q.kind l = true) (ws : List Wl) (us ps : List ByteArray) (hW : Wls w q.wills.val ws) (hU : Txs w q.user.val us) (hA : Txs w q.pass.val ps) (nw : ws.length <= 1) (nu : us.length <= 1) (np : ps.length <= 1) (hcl : q.client.size <= 65535) (zw : ∀ k,k < ws.length -> (ws.getD k wl0).topic.size <= 65535 /\ (ws.getD k wl0).payload.size <= 65535 /\ 0 <= (ws.getD k wl0).qos /\ (ws.getD k wl0).qos <= 2 /\ okP 16 (ws.getD k wl0).props = true) (zu : ∀ k,k < us.length -> (us.getD k ⟨#[]⟩).size <= 65535) (zp : ∀ k,k < ps.length -> (ps.getD k ⟨#[]⟩).size <= 65535) : Calls Tryz.prog 66 #[q.val] w (GPut (gcon q l ws us ps) w) := by
 obtain ⟨ao1,cap1,hv,⟨hlc1,hcm1⟩,hx⟩ := hW
 obtain ⟨m1,hm1⟩ : ∃ m,m = ws.length := ⟨_,rfl⟩
 rw [<- hm1] at hv hlc1 nw
 have HV1 := zh hv
 have HS1 := zh hx
 have HN1 := zh hm1.symm
 clear hv hx hm1
 obtain ⟨ao2,cap2,hv,⟨hlc2,hcm2⟩,hx⟩ := hU
 obtain ⟨m2,hm2⟩ : ∃ m,m = us.length := ⟨_,rfl⟩
 rw [<- hm2] at hv hlc2 nu
 have HV2 := zh hv
 have HS2 := zh hx
 have HN2 := zh hm2.symm
 clear hv hx hm2
 obtain ⟨ao3,cap3,hv,⟨hlc3,hcm3⟩,hx⟩ := hA
 obtain ⟨m3,hm3⟩ : ∃ m,m = ps.length := ⟨_,rfl⟩
 rw [<- hm3] at hv hlc3 np
 have HV3 := zh hv
 have HS3 := zh hx
 have HN3 := zh hm3.symm
 clear hv hx hm3
 have HZW := zh zw
 have HZU := zh zu
 have HZP := zh zp
 clear zw zu zp
 obtain ⟨hok1,h32⟩ := chkP0 (of_decide_eq_true hok)
 have hple := pbs_le (of_decide_eq_true hok)
 have HPN := zh (pk_new w q)
 have HB0 : Hid (Below w.heap.size w (w.alloc (.cells q.cells.toArray 30))) := bal _ _
 have HBY : Hid (∀ W,Below w.heap.size w W -> Calls Tryz.prog 68 #[.slice q.props.ao l.length q.props.cap] W (PutP (pbs l) W)) := fun W hW => by
  have k := rbytes_any q.props.val l q.kind W (hP.below hW) (by omega) hok1
  rw [show q.props.val = .slice q.props.ao q.props.n q.props.cap from rfl,prp_n hP] at k
  exact k
 have HQN := zh (prp_n hP)
 clear hP hok hok1
 go_enter Tryz.func66,Tryz.ntmps66
 go_upto_region 1 with fail
 change Code.wp _ _ _ _ (w.alloc (.cells q.cells.toArray 30))
 have hsz : (w.alloc (.cells q.cells.toArray 30)).heap.size = w.heap.size + 1 := by simp
 generalize w.alloc (.cells q.cells.toArray 30) = wa at HPN HB0 hsz |-
 -- cutA
 go_wp2_with fail
 refine (Go.Proofs.YtemedclhglkfjaaGreatDoor.bin_any gmq _ (by decide)).mono ?_
 rintro e w1 ⟨v1,rfl,hown1,hb1⟩
 have HB1 : Hid (Below w.heap.size w w1) := bnx2 (uh HB0) hb1
 have HP1 := zh ((uh HPN).below hb1)
 have HR1 : Hid (Rwb w1 (w.heap.size + 1) v1 (tx gmq)) := ⟨by rw [<- hsz,tx_length]; exact uh hown1,tx_range _ (by decide)⟩
 obtain ⟨va1,vn1,vc1,rfl⟩ := (uh HR1).form
 clear hown1 hb1 HPN HB0
 obtain ⟨L1,HEL1⟩ : ∃ L : List Int,Hid (L = tx gmq) := ⟨_,rfl⟩
 have nL1 : L1.length <= 6 := by rw [uh HEL1]; rw [tx_length]; decide
 rw [<- uh HEL1] at HR1
 have HG := zh (rng1 (x := (5 : Int)) (by omega))
 have HBx : Hid (Below w.heap.size w (w1.alloc (.cells #[.int .u8 (5 : Int)] 5))) := (uh HB1).alloc (uh HB1).size _
 have HRz : Hid (Rwb (w1.alloc (.cells #[.int .u8 (5 : Int)] 5)) w1.heap.size (.slice (some ⟨w1.heap.size,0,none⟩) 1 1) [(5 : Int)]) := rwb_new w1 [(5 : Int)] (by simp) (by simp) (uh HG)
 have HPx := zh ((uh HP1).below ((Below.refl _ _).alloc (Nat.le_refl _) (.cells #[.int .u8 (5 : Int)] 5)))
 have HRx := zh ((uh HR1).below ((Below.refl _ _).alloc (Nat.le_refl _) (.cells #[.int .u8 (5 : Int)] 5)))
 have HYx := zh (uh HRz).byt
 have hszr := (uh HB1).size
 clear HRz HB1 HP1 HR1
 go_wp2_with (first
  | (at_builtin; refine wpList_append_byt _ rfl _ _ rfl (w.heap.size + 1) (.slice va1 vn1 vc1) L1.length L1 rfl (uh HRx).1 (.slice (some ⟨w1.heap.size,0,none⟩) 1 1) [(5 : Int)] rfl (uh HYx) (by first | omega | (simp; omega)) (cell_lt (uh HPx).kind) ?_)
  | go_in)
 intro v2 w2 hown hg
 have HR2 := zh ((uh HRx).more (uh HG) (by first | exact hown | (rw [<- List.map_append]; exact hown)))
 have HB2 : Hid (Below w.heap.size w w2) := below_grown (uh HBx) (uh HRx) hg
 have HP2 := zh ((uh HPx).grow2 hg (uh HRx).off)
 obtain ⟨va2,vn2,vc2,rfl⟩ := (uh HR2).form
 clear hown hg HRx HBx HPx
 obtain ⟨L2,HEL2⟩ : ∃ L : List Int,Hid (L = L1 ++ [(5 : Int)]) := ⟨_,rfl⟩
 have nL2 : L2.length <= 7 := by rw [uh HEL2]; rw [List.length_append]; first | omega | (simp; omega)
 rw [<- uh HEL2] at HR2
 clear HYx HG hszr
 -- cutB
 obtain ⟨F,HF⟩ : ∃ F,Hid (F = gcf m2 m3 q.clean) := ⟨_,rfl⟩
 have hFr : 0 <= F /\ F <= 194 := by rw [uh HF]; exact gcf_range _ _ _
 have b12 := (uh HP2).user
 have b13 := (uh HP2).pass
 rw [uh HV2] at b12
 rw [uh HV3] at b13
 go_upto_region 2 with fail
 go_cut [4] from 6 (fun s4 wx => s4 = .int .i64 F /\ Hid (Rwb wx (w.heap.size + 1) (.slice va2 vn2 vc2) L2) /\ Hid (Below w.heap.size w wx) /\ Hid (Pk wx w.heap.size q))
 case first =>
  obtain rfl | rfl : m2 = 0 \/ m2 = 1 := by omega
  ·obtain rfl | rfl : m3 = 0 \/ m3 = 1 := by omega
   ·have HS : Hid (∀ W,Below w2.heap.size w2 W -> (fun w' => w'.cell? ⟨w.heap.size,12,none⟩ = some (.slice ao2 0 cap2) /\ w'.cell? ⟨w.heap.size,13,none⟩ = some (.slice ao3 0 cap3) /\ w'.cell? ⟨w.heap.size,9,none⟩ = some (.bool q.clean)) W) := fun W hW => ⟨(hW.cell (cell_lt b12)).trans b12,(hW.cell (cell_lt b13)).trans b13,((uh HP2).below hW).clean⟩
    refine wp_region_noPanic ?_
    have hbd : Below w2.heap.size w2 w2.drew := below_drewN (Below.refl _ _) 1
    refine wp_region_held_drew (S := (fun w' => w'.cell? ⟨w.heap.size,12,none⟩ = some (.slice ao2 0 cap2) /\ w'.cell? ⟨w.heap.size,13,none⟩ = some (.slice ao3 0 cap3) /\ w'.cell? ⟨w.heap.size,9,none⟩ = some (.bool q.clean))) (by kernel_rfl) ((uh HS) _ hbd) (fun hHeld => ?_)
    have HRd := zh ((uh HR2).below hbd)
    have HPd := zh ((uh HP2).below hbd)
    have HBB := zh (bnx2 (uh HB2) hbd)
    generalize w2.drew = wd at HRd HPd HBB hHeld |-
    clear hbd HR2 HP2 HB2 HS b12 b13
    refine rtk 0 (h := ?_)
    refine rtk 1 (h := ?_)
    refine rtk 2 (h := ?_)
    refine rtk 3 (h := ?_)
    refine rtk 5 (h := ?_)
    refine rtk 6 (h := ?_)
    refine rtk 7 (h := ?_)
    refine rtk 8 (h := ?_)
    refine rtk 11 (h := ?_)
    refine rtk 12 (h := ?_)
    refine rcl 4 (h := fun K hK => ?_)
    go_simp
    refine (gflag_any false 128 _).mono ?_
    rintro e w0 ⟨rfl,hw0⟩
    obtain rfl := hw0.symm
    clear hw0
    refine hK.out _ _ hHeld (fun hHeld => ?_)
    clear hK K
    refine rcl 9 (h := fun K hK => ?_)
    go_simp
    refine (gflag_any false 64 _).mono ?_
    rintro e w0 ⟨rfl,hw0⟩
    obtain rfl := hw0.symm
    clear hw0
    refine hK.out _ _ hHeld (fun hHeld => ?_)
    clear hK K
    refine rtk 10 (h := ?_)
    refine rcl 13 (h := fun K hK => ?_)
    go_simp
    refine (gflag_any q.clean 2 _).mono ?_
    rintro e w0 ⟨rfl,hw0⟩
    obtain rfl := hw0.symm
    clear hw0
    refine hK.out _ _ hHeld (fun hHeld => ?_)
    clear hK K
    refine rtk 14 (h := ?_)
    refine rtk 15 (h := ?_)
    refine wpAnyH_done (by kernel_rfl) ?_ _
    refine NoPanic.normal ?_
    go_wp2
    go_meet
    case rel => exact ⟨by rw [uh HF]; unfold gcf; generalize q.clean = cb; cases cb <;> rfl,HRd,HBB,HPd⟩
   ·have HS : Hid (∀ W,Below w2.heap.size w2 W -> (fun w' => w'.cell? ⟨w.heap.size,12,none⟩ = some (.slice ao2 0 cap2) /\ w'.cell? ⟨w.heap.size,13,none⟩ = some (.slice ao3 1 cap3) /\ w'.cell? ⟨w.heap.size,9,none⟩ = some (.bool q.clean)) W) := fun W hW => ⟨(hW.cell (cell_lt b12)).trans b12,(hW.cell (cell_lt b13)).trans b13,((uh HP2).below hW).clean⟩
    refine wp_region_noPanic ?_
    have hbd : Below w2.heap.size w2 w2.drew := below_drewN (Below.refl _ _) 1
    refine wp_region_held_drew (S := (fun w' => w'.cell? ⟨w.heap.size,12,none⟩ = some (.slice ao2 0 cap2) /\ w'.cell? ⟨w.heap.size,13,none⟩ = some (.slice ao3 1 cap3) /\ w'.cell? ⟨w.heap.size,9,none⟩ = some (.bool q.clean))) (by kernel_rfl) ((uh HS) _ hbd) (fun hHeld => ?_)
    have HRd := zh ((uh HR2).below hbd)
    have HPd := zh ((uh HP2).below hbd)
    have HBB := zh (bnx2 (uh HB2) hbd)
    generalize w2.drew = wd at HRd HPd HBB hHeld |-
    clear hbd HR2 HP2 HB2 HS b12 b13
    refine rtk 0 (h := ?_)
    refine rtk 1 (h := ?_)
    refine rtk 2 (h := ?_)
    refine rtk 3 (h := ?_)
    refine rtk 5 (h := ?_)
    refine rtk 6 (h := ?_)
    refine rtk 7 (h := ?_)
    refine rtk 8 (h := ?_)
    refine rtk 11 (h := ?_)
    refine rtk 12 (h := ?_)
    refine rcl 4 (h := fun K hK => ?_)
    go_simp
    refine (gflag_any false 128 _).mono ?_
    rintro e w0 ⟨rfl,hw0⟩
    obtain rfl := hw0.symm
    clear hw0
    refine hK.out _ _ hHeld (fun hHeld => ?_)
    clear hK K
    refine rcl 9 (h := fun K hK => ?_)
    go_simp
    refine (gflag_any true 64 _).mono ?_
    rintro e w0 ⟨rfl,hw0⟩
    obtain rfl := hw0.symm
    clear hw0
    refine hK.out _ _ hHeld (fun hHeld => ?_)
    clear hK K
    refine rtk 10 (h := ?_)
    refine rcl 13 (h := fun K hK => ?_)
    go_simp
    refine (gflag_any q.clean 2 _).mono ?_
    rintro e w0 ⟨rfl,hw0⟩
    obtain rfl := hw0.symm
    clear hw0
    refine hK.out _ _ hHeld (fun hHeld => ?_)
    clear hK K
    refine rtk 14 (h := ?_)
    refine rtk 15 (h := ?_)
    refine wpAnyH_done (by kernel_rfl) ?_ _
    refine NoPanic.normal ?_
    go_wp2
    go_meet
    case rel => exact ⟨by rw [uh HF]; unfold gcf; generalize q.clean = cb; cases cb <;> rfl,HRd,HBB,HPd⟩
  ·obtain rfl | rfl : m3 = 0 \/ m3 = 1 := by omega
   ·have HS : Hid (∀ W,Below w2.heap.size w2 W -> (fun w' => w'.cell? ⟨w.heap.size,12,none⟩ = some (.slice ao2 1 cap2) /\ w'.cell? ⟨w.heap.size,13,none⟩ = some (.slice ao3 0 cap3) /\ w'.cell? ⟨w.heap.size,9,none⟩ = some (.bool q.clean)) W) := fun W hW => ⟨(hW.cell (cell_lt b12)).trans b12,(hW.cell (cell_lt b13)).trans b13,((uh HP2).below hW).clean⟩
    refine wp_region_noPanic ?_
    have hbd : Below w2.heap.size w2 w2.drew := below_drewN (Below.refl _ _) 1
    refine wp_region_held_drew (S := (fun w' => w'.cell? ⟨w.heap.size,12,none⟩ = some (.slice ao2 1 cap2) /\ w'.cell? ⟨w.heap.size,13,none⟩ = some (.slice ao3 0 cap3) /\ w'.cell? ⟨w.heap.size,9,none⟩ = some (.bool q.clean))) (by kernel_rfl) ((uh HS) _ hbd) (fun hHeld => ?_)
    have HRd := zh ((uh HR2).below hbd)
    have HPd := zh ((uh HP2).below hbd)
    have HBB := zh (bnx2 (uh HB2) hbd)
    generalize w2.drew = wd at HRd HPd HBB hHeld |-
    clear hbd HR2 HP2 HB2 HS b12 b13
    refine rtk 0 (h := ?_)
    refine rtk 1 (h := ?_)
    refine rtk 2 (h := ?_)
    refine rtk 3 (h := ?_)
    refine rtk 5 (h := ?_)
    refine rtk 6 (h := ?_)
    refine rtk 7 (h := ?_)
    refine rtk 8 (h := ?_)
    refine rtk 11 (h := ?_)
    refine rtk 12 (h := ?_)
    refine rcl 4 (h := fun K hK => ?_)
    go_simp
    refine (gflag_any true 128 _).mono ?_
    rintro e w0 ⟨rfl,hw0⟩
    obtain rfl := hw0.symm
    clear hw0
    refine hK.out _ _ hHeld (fun hHeld => ?_)
    clear hK K
    refine rcl 9 (h := fun K hK => ?_)
    go_simp
    refine (gflag_any false 64 _).mono ?_
    rintro e w0 ⟨rfl,hw0⟩
    obtain rfl := hw0.symm
    clear hw0
    refine hK.out _ _ hHeld (fun hHeld => ?_)
    clear hK K
    refine rtk 10 (h := ?_)
    refine rcl 13 (h := fun K hK => ?_)
    go_simp
    refine (gflag_any q.clean 2 _).mono ?_
    rintro e w0 ⟨rfl,hw0⟩
    obtain rfl := hw0.symm
    clear hw0
    refine hK.out _ _ hHeld (fun hHeld => ?_)
    clear hK K
    refine rtk 14 (h := ?_)
    refine rtk 15 (h := ?_)
    refine wpAnyH_done (by kernel_rfl) ?_ _
    refine NoPanic.normal ?_
    go_wp2
    go_meet
    case rel => exact ⟨by rw [uh HF]; unfold gcf; generalize q.clean = cb; cases cb <;> rfl,HRd,HBB,HPd⟩
   ·have HS : Hid (∀ W,Below w2.heap.size w2 W -> (fun w' => w'.cell? ⟨w.heap.size,12,none⟩ = some (.slice ao2 1 cap2) /\ w'.cell? ⟨w.heap.size,13,none⟩ = some (.slice ao3 1 cap3) /\ w'.cell? ⟨w.heap.size,9,none⟩ = some (.bool q.clean)) W) := fun W hW => ⟨(hW.cell (cell_lt b12)).trans b12,(hW.cell (cell_lt b13)).trans b13,((uh HP2).below hW).clean⟩
    refine wp_region_noPanic ?_
    have hbd : Below w2.heap.size w2 w2.drew := below_drewN (Below.refl _ _) 1
    refine wp_region_held_drew (S := (fun w' => w'.cell? ⟨w.heap.size,12,none⟩ = some (.slice ao2 1 cap2) /\ w'.cell? ⟨w.heap.size,13,none⟩ = some (.slice ao3 1 cap3) /\ w'.cell? ⟨w.heap.size,9,none⟩ = some (.bool q.clean))) (by kernel_rfl) ((uh HS) _ hbd) (fun hHeld => ?_)
    have HRd := zh ((uh HR2).below hbd)
    have HPd := zh ((uh HP2).below hbd)
    have HBB := zh (bnx2 (uh HB2) hbd)
    generalize w2.drew = wd at HRd HPd HBB hHeld |-
    clear hbd HR2 HP2 HB2 HS b12 b13
    refine rtk 0 (h := ?_)
    refine rtk 1 (h := ?_)
    refine rtk 2 (h := ?_)
    refine rtk 3 (h := ?_)
    refine rtk 5 (h := ?_)
    refine rtk 6 (h := ?_)
    refine rtk 7 (h := ?_)
    refine rtk 8 (h := ?_)
    refine rtk 11 (h := ?_)
    refine rtk 12 (h := ?_)
    refine rcl 4 (h := fun K hK => ?_)
    go_simp
    refine (gflag_any true 128 _).mono ?_
    rintro e w0 ⟨rfl,hw0⟩
    obtain rfl := hw0.symm
    clear hw0
    refine hK.out _ _ hHeld (fun hHeld => ?_)
    clear hK K
    refine rcl 9 (h := fun K hK => ?_)
    go_simp
    refine (gflag_any true 64 _).mono ?_
    rintro e w0 ⟨rfl,hw0⟩
    obtain rfl := hw0.symm
    clear hw0
    refine hK.out _ _ hHeld (fun hHeld => ?_)
    clear hK K
    refine rtk 10 (h := ?_)
    refine rcl 13 (h := fun K hK => ?_)
    go_simp
    refine (gflag_any q.clean 2 _).mono ?_
    rintro e w0 ⟨rfl,hw0⟩
    obtain rfl := hw0.symm
    clear hw0
    refine hK.out _ _ hHeld (fun hHeld => ?_)
    clear hK K
    refine rtk 14 (h := ?_)
    refine rtk 15 (h := ?_)
    refine wpAnyH_done (by kernel_rfl) ?_ _
    refine NoPanic.normal ?_
    go_wp2
    go_meet
    case rel => exact ⟨by rw [uh HF]; unfold gcf; generalize q.clean = cb; cases cb <;> rfl,HRd,HBB,HPd⟩
 case rest =>
 clear HR2 HB2 HP2 b12 b13
 obtain ⟨rfl,HR3,HB3,HP3⟩ := hcut
 obtain ⟨w3,hw3⟩ : ∃ x,x = wc := ⟨_,rfl⟩
 subst hw3
 -- cutC
 obtain ⟨F2,HF2⟩ : ∃ G,Hid (G = F + gwf ws) := ⟨_,rfl⟩
 have b11 := (uh HP3).wills
 rw [uh HV1] at b11
 go_upto_if 27 with fail
 go_cut [4] from 6 (fun s4 wx => s4 = .int .i64 F2 /\ Hid (Rwb wx (w.heap.size + 1) (.slice va2 vn2 vc2) L2) /\ Hid (Below w.heap.size w wx) /\ Hid (Pk wx w.heap.size q))
 case first =>
  obtain rfl | rfl : m1 = 0 \/ m1 = 1 := by omega
  ·have HE0 : Hid (gwf ws = 0) := by show _ = _; rw [List.length_eq_zero_iff.1 (uh HN1)]; rfl
   go_wp2
   go_meet
   case rel => exact ⟨by rw [uh HF2,uh HE0,Int.add_zero],HR3,HB3,HP3⟩
  ·have h0l : 0 < ws.length := by rw [uh HN1]; omega
   obtain ⟨b,off,hao,hat⟩ : ∃ b off,ao1 = some ⟨b,off,none⟩ /\ WlAt w b off ws := by
    rcases uh HS1 with e | k
    ·rw [e] at h0l; simp at h0l
    ·exact k
   rw [hao] at b11
   have hat := hat 0 h0l
   have hzz := (uh HZW) 0 h0l
   have HAO := zh hao
   obtain ⟨po,pn,pc,⟨d0,d1,d2,d3,d4⟩,hpr,hpn⟩ := hat
   simp only [Nat.zero_mul,Nat.add_zero] at d0 d1 d2 d3 d4
   have hbl : b < w.heap.size := cell_lt d0
   have HE1 := zh (gwf_one (uh HN1))
   obtain ⟨-,-,hq0,hq2,-⟩ := hzz
   generalize (ws.getD 0 wl0).retain = rt at d3 HE1
   generalize (ws.getD 0 wl0).qos = qs at d2 HE1 hq0 hq2
   have HS : Hid (∀ W,Below w3.heap.size w3 W -> (fun w' => w'.cell? ⟨w.heap.size,11,none⟩ = some (.slice (some ⟨b,off,none⟩) 1 cap1) /\ w'.cell? ⟨b,off + 3,none⟩ = some (.bool rt) /\ w'.cell? ⟨b,off + 2,none⟩ = some (.int .i64 qs)) W) := fun W hW => ⟨(hW.cell (cell_lt b11)).trans b11,((bnx2 (uh HB3) hW).cell hbl).trans d3,((bnx2 (uh HB3) hW).cell hbl).trans d2⟩
   clear d0 d1 d2 d3 d4 hpr hpn h0l
   go_wp2_with fail
   refine wp_region_noPanic ?_
   have hbd : Below w3.heap.size w3 w3.drew := below_drewN (Below.refl _ _) 1
   refine wp_region_held_drew (S := (fun w' => w'.cell? ⟨w.heap.size,11,none⟩ = some (.slice (some ⟨b,off,none⟩) 1 cap1) /\ w'.cell? ⟨b,off + 3,none⟩ = some (.bool rt) /\ w'.cell? ⟨b,off + 2,none⟩ = some (.int .i64 qs))) (by kernel_rfl) ((uh HS) _ hbd) (fun hHeld => ?_)
   have HRd := zh ((uh HR3).below hbd)
   have HPd := zh ((uh HP3).below hbd)
   have HBB := zh (bnx2 (uh HB3) hbd)
   generalize w3.drew = wd at HRd HPd HBB hHeld |-
   clear hbd HR3 HP3 HB3 HS b11
   refine rtk 0 (h := ?_)
   refine rtk 1 (h := ?_)
   refine rtk 2 (h := ?_)
   refine rtk 3 (h := ?_)
   refine rtk 4 (h := ?_)
   refine rtk 5 (h := ?_)
   refine rtk 8 (h := ?_)
   refine rtk 9 (h := ?_)
   refine rtk 10 (h := ?_)
   refine rtk 11 (h := ?_)
   refine rtk 12 (h := ?_)
   refine rtk 13 (h := ?_)
   refine rcl 6 (h := fun K hK => ?_)
   go_simp
   refine (gflag_any rt 32 _).mono ?_
   rintro e w0 ⟨rfl,hw0⟩
   obtain rfl := hw0.symm
   clear hw0
   refine hK.out _ _ hHeld (fun hHeld => ?_)
   clear hK K
   refine rtk 7 (h := ?_)
   refine rtk 14 (h := ?_)
   refine rtk 15 (h := ?_)
   refine rtk 16 (h := ?_)
   refine wpAnyH_done (by kernel_rfl) ?_ _
   refine NoPanic.normal ?_
   go_wp2
   go_meet
   case rel => exact ⟨by rw [uh HF2,uh HE1,<- gcf_wrap hFr hq0 hq2],HRd,HBB,HPd⟩
 case rest =>
 clear HR3 HB3 HP3 b11
 obtain ⟨rfl,HR4,HB4,HP4⟩ := hcut
 obtain ⟨w4,hw4⟩ : ∃ x,x = wc := ⟨_,rfl⟩
 subst hw4
 -- cutD
 have hz : IntKind.u8.wrap F2 = F2 % 256 := by rfl
 obtain ⟨z,hzz⟩ : ∃ z,z = F2 % 256 := ⟨_,rfl⟩
 have hzr : 0 <= z /\ z <= 255 := by omega
 rw [<- hzz] at hz
 have HZ := zh hzz
 clear hzz
 have HG := zh (rng1 (x := z) (by omega))
 have HBx : Hid (Below w.heap.size w (w4.alloc (.cells #[.int .u8 z] 5))) := (uh HB4).alloc (uh HB4).size _
 have HRz : Hid (Rwb (w4.alloc (.cells #[.int .u8 z] 5)) w4.heap.size (.slice (some ⟨w4.heap.size,0,none⟩) 1 1) [z]) := rwb_new w4 [z] (by simp) (by simp) (uh HG)
 have HPx := zh ((uh HP4).below ((Below.refl _ _).alloc (Nat.le_refl _) (.cells #[.int .u8 z] 5)))
 have HRx := zh ((uh HR4).below ((Below.refl _ _).alloc (Nat.le_refl _) (.cells #[.int .u8 z] 5)))
 have HYx := zh (uh HRz).byt
 have hszr := (uh HB4).size
 clear HRz HB4 HP4 HR4
 go_wp2_with (first
  | (at_builtin; refine wpList_append_byt _ rfl _ _ rfl (w.heap.size + 1) (.slice va2 vn2 vc2) L2.length L2 rfl (uh HRx).1 (.slice (some ⟨w4.heap.size,0,none⟩) 1 1) [z] rfl (uh HYx) (by first | omega | (simp; omega)) (cell_lt (uh HPx).kind) ?_)
  | go_in)
 intro v5 w5 hown hg
 have HR5 := zh ((uh HRx).more (uh HG) (by first | exact hown | (rw [<- List.map_append]; exact hown)))
 have HB5 : Hid (Below w.heap.size w w5) := below_grown (uh HBx) (uh HRx) hg
 have HP5 := zh ((uh HPx).grow2 hg (uh HRx).off)
 obtain ⟨va5,vn5,vc5,rfl⟩ := (uh HR5).form
 clear hown hg HRx HBx HPx
 obtain ⟨L5,HEL5⟩ : ∃ L : List Int,Hid (L = L2 ++ [z]) := ⟨_,rfl⟩
 have nL5 : L5.length <= 8 := by rw [uh HEL5]; rw [List.length_append]; first | omega | (simp; omega)
 rw [<- uh HEL5] at HR5
 clear HYx HG hszr
 clear hz
 -- cutE
 have b10 := (uh HP5).keep
 go_wp2_with fail
 refine (gtwo_any q.keep _).mono ?_
 rintro e w6 ⟨v6,rfl,hr2,hb2⟩
 have HB6 : Hid (Below w.heap.size w w6) := bnx2 (uh HB5) hb2
 have HP6 := zh ((uh HP5).below hb2)
 have HR6 := zh ((uh HR5).below hb2)
 have HY := zh (uh hr2).byt
 have HG := zh (uh hr2).2
 obtain ⟨va6,vc6,rfl,-,-⟩ := (uh HY).form
 clear hr2 hb2 HR5 HB5 HP5 b10
 obtain ⟨M6,HEM6⟩ : ∃ L : List Int,Hid (L = b2 q.keep) := ⟨_,rfl⟩
 have nM6 : M6.length <= 2 := by rw [uh HEM6]; simp
 rw [<- uh HEM6] at HY HG |-
 go_wp2_with (first
  | (at_builtin; refine wpList_append_byt _ rfl _ _ rfl (w.heap.size + 1) (.slice va5 vn5 vc5) L5.length L5 rfl (uh HR6).1 (.slice va6 M6.length vc6) M6 rfl (uh HY) (by first | omega | (simp; omega)) (cell_lt (uh HP6).kind) ?_)
  | go_in)
 intro v7 w7 hown hg
 have HR7 := zh ((uh HR6).more (uh HG) (by first | exact hown | (rw [<- List.map_append]; exact hown)))
 have HB7 : Hid (Below w.heap.size w w7) := below_grown (uh HB6) (uh HR6) hg
 have HP7 := zh ((uh HP6).grow2 hg (uh HR6).off)
 obtain ⟨va7,vn7,vc7,rfl⟩ := (uh HR7).form
 clear hown hg HR6 HB6 HP6
 obtain ⟨L7,HEL7⟩ : ∃ L : List Int,Hid (L = L5 ++ M6) := ⟨_,rfl⟩
 have nL7 : L7.length <= 10 := by rw [uh HEL7]; rw [List.length_append]; first | omega | (simp; omega)
 rw [<- uh HEL7] at HR7
 clear HY HG
 -- cutF
 have b7 := (uh HP7).props
 rw [show q.props.val = .slice q.props.ao q.props.n q.props.cap from rfl,uh HQN] at b7
 go_wp2_with fail
 refine ((uh HBY) _ (uh HB7)).mono ?_
 rintro e w8 ⟨v8,rfl,HY,hb4⟩
 have HB8 : Hid (Below w.heap.size w w8) := bnx2 (uh HB7) hb4
 have HP8 := zh ((uh HP7).below hb4)
 have HR8 := zh ((uh HR7).below hb4)
 have HG := zh (uh HY).range
 obtain ⟨va8,vc8,rfl,-,-⟩ := (uh HY).form
 clear hb4 HR7 HB7 HP7
 obtain ⟨M8,HEM8⟩ : ∃ L : List Int,Hid (L = pbs l) := ⟨_,rfl⟩
 have nM8 : M8.length <= 5000000 := by rw [uh HEM8]; exact hple
 rw [<- uh HEM8] at HY HG |-
 clear b7
 go_wp2_with (first
  | (at_builtin; refine wpList_append_byt _ rfl _ _ rfl (w.heap.size + 1) (.slice va7 vn7 vc7) L7.length L7 rfl (uh HR8).1 (.slice va8 M8.length vc8) M8 rfl (uh HY) (by first | omega | (simp; omega)) (cell_lt (uh HP8).kind) ?_)
  | go_in)
 intro v9 w9 hown hg
 have HR9 := zh ((uh HR8).more (uh HG) (by first | exact hown | (rw [<- List.map_append]; exact hown)))
 have HB9 : Hid (Below w.heap.size w w9) := below_grown (uh HB8) (uh HR8) hg
 have HP9 := zh ((uh HP8).grow2 hg (uh HR8).off)
 obtain ⟨va9,vn9,vc9,rfl⟩ := (uh HR9).form
 clear hown hg HR8 HB8 HP8
 obtain ⟨L9,HEL9⟩ : ∃ L : List Int,Hid (L = L7 ++ M8) := ⟨_,rfl⟩
 have nL9 : L9.length <= 5000010 := by rw [uh HEL9]; rw [List.length_append]; first | omega | (simp; omega)
 rw [<- uh HEL9] at HR9
 clear HY HG
 -- cutG
 have b8 := (uh HP9).client
 go_wp2_with fail
 refine (Go.Proofs.YtemedclhglkfjaaGreatDoor.bin_any q.client _ hcl).mono ?_
 rintro e w10 ⟨v10,rfl,hown1,hb1⟩
 have HB10 := zh (bnx2 (uh HB9) hb1)
 have HP10 := zh ((uh HP9).below hb1)
 have HR10 := zh ((uh HR9).below hb1)
 have HG := zh (tx_range q.client hcl)
 have HY : Hid (Byt w10 v10 (tx q.client)) := Rwb.byt (B := 0) ⟨by rw [tx_length]; exact owns_mono (uh hown1) (Nat.zero_le _),uh HG⟩
 obtain ⟨va10,vc10,rfl,-,-⟩ := (uh HY).form
 clear hown1 hb1 HB9 HP9 HR9
 obtain ⟨M10,HEM10⟩ : ∃ L : List Int,Hid (L = tx q.client) := ⟨_,rfl⟩
 have nM10 : M10.length <= 65537 := by rw [uh HEM10]; rw [tx_length]; omega
 rw [<- uh HEM10] at HY HG |-
 clear b8
 go_wp2_with (first
  | (at_builtin; refine wpList_append_byt _ rfl _ _ rfl (w.heap.size + 1) (.slice va9 vn9 vc9) L9.length L9 rfl (uh HR10).1 (.slice va10 M10.length vc10) M10 rfl (uh HY) (by first | omega | (simp; omega)) (cell_lt (uh HP10).kind) ?_)
  | go_in)
 intro v11 w11 hown hg
 have HR11 := zh ((uh HR10).more (uh HG) (by first | exact hown | (rw [<- List.map_append]; exact hown)))
 have HB11 : Hid (Below w.heap.size w w11) := below_grown (uh HB10) (uh HR10) hg
 have HP11 := zh ((uh HP10).grow2 hg (uh HR10).off)
 obtain ⟨va11,vn11,vc11,rfl⟩ := (uh HR11).form
 clear hown hg HR10 HB10 HP10
 obtain ⟨L11,HEL11⟩ : ∃ L : List Int,Hid (L = L9 ++ M10) := ⟨_,rfl⟩
 have nL11 : L11.length <= 5065547 := by rw [uh HEL11]; rw [List.length_append]; first | omega | (simp; omega)
 rw [<- uh HEL11] at HR11
 clear HY HG
 -- cutH
 have b11 := (uh HP11).wills
 rw [uh HV1] at b11
 go_upto_if 67 with fail
 go_cut [3,5] from 6 (fun s3 s5 wx => ∃ R,R.length <= 10196621 /\ Hid (R = L11 ++ ws.flatMap gwl) /\ Hid (Rwb wx (w.heap.size + 1) s3 R) /\ Hid (Below w.heap.size w wx) /\ Hid (Pk wx w.heap.size q))
 case first =>
  obtain rfl | rfl : m1 = 0 \/ m1 = 1 := by omega
  ·have HE0 := zh (flat_nil gwl (uh HN1))
   go_wp2
   go_meet
   case rel => exact ⟨L11,by omega,by show _ = _; rw [uh HE0,List.append_nil],HR11,HB11,HP11⟩
  ·have h0l : 0 < ws.length := by rw [uh HN1]; omega
   obtain ⟨b,off,hao,hat⟩ : ∃ b off,ao1 = some ⟨b,off,none⟩ /\ WlAt w b off ws := by
    rcases uh HS1 with e | k
    ·rw [e] at h0l; simp at h0l
    ·exact k
   rw [hao] at b11
   have hat := hat 0 h0l
   have hzz := (uh HZW) 0 h0l
   have HAO := zh hao
   obtain ⟨po,pn,pc,⟨d0,d1,d2,d3,d4⟩,hpr,hpn⟩ := hat
   simp only [Nat.zero_mul,Nat.add_zero] at d0 d1 d2 d3 d4
   have hbl : b < w.heap.size := cell_lt d0
   obtain ⟨ht,hp,-,-,hok⟩ := hzz
   have HE1 := zh (flat_one gwl wl0 (uh HN1))
   obtain ⟨hok1,h32w⟩ := chkP0 (of_decide_eq_true hok)
   have hplw := pbs_le (of_decide_eq_true hok)
   have hpl := prp_len hpr
   have e0 := ((uh HB11).cell hbl).trans d0
   have e1 := ((uh HB11).cell hbl).trans d1
   have e2 := ((uh HB11).cell hbl).trans d2
   have e3 := ((uh HB11).cell hbl).trans d3
   have e4 := ((uh HB11).cell hbl).trans d4
   generalize ws.getD 0 wl0 = u at e0 e1 e2 e3 e4 ht hp hok1 h32w hplw hpl HE1 hpr
   obtain rfl := hpl
   have HBW : Hid (∀ W,Below w.heap.size w W -> Calls Tryz.prog 68 #[.slice po u.props.length pc] W (PutP (pbs u.props) W)) := fun W hW => rbytes_any _ u.props 16 W (hpr.below hW) (by omega) hok1
   clear d0 d1 d2 d3 d4 hpr hpn h0l hok hok1
   obtain ⟨ut,hut⟩ : ∃ s,s = u.topic := ⟨_,rfl⟩
   obtain ⟨up,hup⟩ : ∃ s,s = u.payload := ⟨_,rfl⟩
   have HGW : Hid (gwl u = (pbs u.props ++ tx ut) ++ tx up) := by rw [hut,hup]; rfl
   rw [<- hut] at e0 ht
   rw [<- hup] at e1 hp
   clear hut hup
   -- cutI
   go_upto_region 10 with fail
   iterate 13 go_step
   refine Go.Proofs.YtemedclhglkfjaaGreatDoor.wpList_value rfl (gwill_alloc _ _ _ _ _ _) ?_
   simp only [Act.put,List.setIfInBounds_toArray,List.set_cons_zero,List.set_cons_succ]
   refine Go.Proofs.YtemedclhglkfjaaGreatDoor.wpList_skip rfl (gwill_store _ _ _ _ _ _ _ ut up u.qos u.retain po u.props.length pc w11 rfl rfl) ?_
   simp only [Act.put]
   have HX12 := zh (wbx_new w11 ut up u.qos u.retain (.slice po u.props.length pc))
   have hbx : Below w11.heap.size w11 (w11.alloc (.cells (wlc ut up u.qos u.retain (.slice po u.props.length pc)) 52)) := bal _ _
   have HB12 := zh (bnx2 (uh HB11) hbx)
   have HP12 := zh ((uh HP11).below hbx)
   have HR12 := zh ((uh HR11).below hbx)
   generalize w11.alloc (.cells (wlc ut up u.qos u.retain (.slice po u.props.length pc)) 52) = w12 at HX12 HB12 HP12 HR12 |-
   obtain ⟨G,hG⟩ : ∃ g,g = w11.heap.size := ⟨_,rfl⟩
   rw [<- hG] at HX12 |-
   clear hbx HB11 HP11 HR11 e0 e1 e2 e3 e4 b11 hG
   -- cutJ
   have f4 := (uh HX12).c4
   go_wp2_with fail
   refine ((uh HBW) _ (uh HB12)).mono ?_
   rintro e w13 ⟨v13,rfl,HY,hb4⟩
   have HB13 : Hid (Below w.heap.size w w13) := bnx2 (uh HB12) hb4
   have HP13 := zh ((uh HP12).below hb4)
   have HR13 := zh ((uh HR12).below hb4)
   have HG := zh (uh HY).range
   obtain ⟨va13,vc13,rfl,-,-⟩ := (uh HY).form
   have HX13 := zh ((uh HX12).below hb4)
   clear HX12
   clear hb4 HR12 HB12 HP12
   obtain ⟨M13,HEM13⟩ : ∃ L : List Int,Hid (L = pbs u.props) := ⟨_,rfl⟩
   have nM13 : M13.length <= 5000000 := by rw [uh HEM13]; exact hplw
   rw [<- uh HEM13] at HY HG |-
   clear f4
   go_wp2_with (first
    | (at_builtin; refine wpList_append_byt _ rfl _ _ rfl (w.heap.size + 1) (.slice va11 vn11 vc11) L11.length L11 rfl (uh HR13).1 (.slice va13 M13.length vc13) M13 rfl (uh HY) (by first | omega | (simp; omega)) (cell_lt (uh HP13).kind) ?_)
    | go_in)
   intro v14 w14 hown hg
   have HR14 := zh ((uh HR13).more (uh HG) (by first | exact hown | (rw [<- List.map_append]; exact hown)))
   have HB14 : Hid (Below w.heap.size w w14) := below_grown (uh HB13) (uh HR13) hg
   have HP14 := zh ((uh HP13).grow2 hg (uh HR13).off)
   have HX14 := zh ((uh HX13).grow hg (fun e => wbox_off (uh HR13) (uh HX13).blk e.symm))
   clear HX13
   obtain ⟨va14,vn14,vc14,rfl⟩ := (uh HR14).form
   clear hown hg HR13 HB13 HP13
   obtain ⟨L14,HEL14⟩ : ∃ L : List Int,Hid (L = L11 ++ M13) := ⟨_,rfl⟩
   have nL14 : L14.length <= 10065547 := by rw [uh HEL14]; rw [List.length_append]; first | omega | (simp; omega)
   rw [<- uh HEL14] at HR14
   clear HY HG
   -- cutK
   have f0 := (uh HX14).c0
   go_wp2_with fail
   refine (Go.Proofs.YtemedclhglkfjaaGreatDoor.bin_any ut _ ht).mono ?_
   rintro e w15 ⟨v15,rfl,hown1,hb1⟩
   have HB15 := zh (bnx2 (uh HB14) hb1)
   have HP15 := zh ((uh HP14).below hb1)
   have HR15 := zh ((uh HR14).below hb1)
   have HG := zh (tx_range ut ht)
   have HY : Hid (Byt w15 v15 (tx ut)) := Rwb.byt (B := 0) ⟨by rw [tx_length]; exact owns_mono (uh hown1) (Nat.zero_le _),uh HG⟩
   obtain ⟨va15,vc15,rfl,-,-⟩ := (uh HY).form
   have HX15 := zh ((uh HX14).below hb1)
   clear HX14
   clear hown1 hb1 HB14 HP14 HR14
   obtain ⟨M15,HEM15⟩ : ∃ L : List Int,Hid (L = tx ut) := ⟨_,rfl⟩
   have nM15 : M15.length <= 65537 := by rw [uh HEM15]; rw [tx_length]; omega
   rw [<- uh HEM15] at HY HG |-
   clear f0
   go_wp2_with (first
    | (at_builtin; refine wpList_append_byt _ rfl _ _ rfl (w.heap.size + 1) (.slice va14 vn14 vc14) L14.length L14 rfl (uh HR15).1 (.slice va15 M15.length vc15) M15 rfl (uh HY) (by first | omega | (simp; omega)) (cell_lt (uh HP15).kind) ?_)
    | go_in)
   intro v16 w16 hown hg
   have HR16 := zh ((uh HR15).more (uh HG) (by first | exact hown | (rw [<- List.map_append]; exact hown)))
   have HB16 : Hid (Below w.heap.size w w16) := below_grown (uh HB15) (uh HR15) hg
   have HP16 := zh ((uh HP15).grow2 hg (uh HR15).off)
   have HX16 := zh ((uh HX15).grow hg (fun e => wbox_off (uh HR15) (uh HX15).blk e.symm))
   clear HX15
   obtain ⟨va16,vn16,vc16,rfl⟩ := (uh HR16).form
   clear hown hg HR15 HB15 HP15
   obtain ⟨L16,HEL16⟩ : ∃ L : List Int,Hid (L = L14 ++ M15) := ⟨_,rfl⟩
   have nL16 : L16.length <= 10131084 := by rw [uh HEL16]; rw [List.length_append]; first | omega | (simp; omega)
   rw [<- uh HEL16] at HR16
   clear HY HG
   have f1 := (uh HX16).c1
   go_wp2_with fail
   refine (Go.Proofs.YtemedclhglkfjaaGreatDoor.bin_any up _ hp).mono ?_
   rintro e w17 ⟨v17,rfl,hown1,hb1⟩
   have HB17 := zh (bnx2 (uh HB16) hb1)
   have HP17 := zh ((uh HP16).below hb1)
   have HR17 := zh ((uh HR16).below hb1)
   have HG := zh (tx_range up hp)
   have HY : Hid (Byt w17 v17 (tx up)) := Rwb.byt (B := 0) ⟨by rw [tx_length]; exact owns_mono (uh hown1) (Nat.zero_le _),uh HG⟩
   obtain ⟨va17,vc17,rfl,-,-⟩ := (uh HY).form
   have HX17 := zh ((uh HX16).below hb1)
   clear HX16
   clear hown1 hb1 HB16 HP16 HR16
   obtain ⟨M17,HEM17⟩ : ∃ L : List Int,Hid (L = tx up) := ⟨_,rfl⟩
   have nM17 : M17.length <= 65537 := by rw [uh HEM17]; rw [tx_length]; omega
   rw [<- uh HEM17] at HY HG |-
   clear f1
   go_wp2_with (first
    | (at_builtin; refine wpList_append_byt _ rfl _ _ rfl (w.heap.size + 1) (.slice va16 vn16 vc16) L16.length L16 rfl (uh HR17).1 (.slice va17 M17.length vc17) M17 rfl (uh HY) (by first | omega | (simp; omega)) (cell_lt (uh HP17).kind) ?_)
    | go_in)
   intro v18 w18 hown hg
   have HR18 := zh ((uh HR17).more (uh HG) (by first | exact hown | (rw [<- List.map_append]; exact hown)))
   have HB18 : Hid (Below w.heap.size w w18) := below_grown (uh HB17) (uh HR17) hg
   have HP18 := zh ((uh HP17).grow2 hg (uh HR17).off)
   have HX18 := zh ((uh HX17).grow hg (fun e => wbox_off (uh HR17) (uh HX17).blk e.symm))
   clear HX17
   obtain ⟨va18,vn18,vc18,rfl⟩ := (uh HR18).form
   clear hown hg HR17 HB17 HP17
   obtain ⟨L18,HEL18⟩ : ∃ L : List Int,Hid (L = L16 ++ M17) := ⟨_,rfl⟩
   have nL18 : L18.length <= 10196621 := by rw [uh HEL18]; rw [List.length_append]; first | omega | (simp; omega)
   rw [<- uh HEL18] at HR18
   clear HY HG
   go_wp2
   go_meet
   case rel => exact ⟨L18,nL18,by show _ = _; rw [uh HE1,uh HGW,uh HEL18,uh HEL16,uh HEL14,uh HEM13,uh HEM15,uh HEM17]; simp,HR18,HB18,HP18⟩
 case rest =>
 clear HR11 HB11 HP11 b11
 obtain ⟨L19,nL19,HEL19,HR19,HB19,HP19⟩ := hcut
 obtain ⟨w19,hw19⟩ : ∃ x,x = wc := ⟨_,rfl⟩
 subst hw19
 obtain ⟨va19,vn19,vc19,rfl⟩ := (uh HR19).form
 -- cutL
 have b12 := (uh HP19).user
 rw [uh HV2] at b12
 go_upto_if 90 with fail
 go_cut [3] from 6 (fun s3 wx => ∃ R,R.length <= 10262158 /\ Hid (R = L19 ++ us.flatMap tx) /\ Hid (Rwb wx (w.heap.size + 1) s3 R) /\ Hid (Below w.heap.size w wx) /\ Hid (Pk wx w.heap.size q))
 case first =>
  obtain rfl | rfl : m2 = 0 \/ m2 = 1 := by omega
  ·have HE0 := zh (flat_nil tx (uh HN2))
   go_wp2
   go_meet
   case rel => exact ⟨L19,by omega,by show _ = _; rw [uh HE0,List.append_nil],HR19,HB19,HP19⟩
  ·have h0l : 0 < us.length := by rw [uh HN2]; omega
   obtain ⟨b,off,hao,hat⟩ : ∃ b off,ao2 = some ⟨b,off,none⟩ /\ ∀ j,j < us.length -> w.cell? ⟨b,off + j,none⟩ = some (.string (us.getD j ⟨#[]⟩)) := by
    rcases uh HS2 with e | k
    ·rw [e] at h0l; simp at h0l
    ·exact k
   rw [hao] at b12
   have hat := hat 0 h0l
   have hzz := (uh HZU) 0 h0l
   have HAO := zh hao
   rw [Nat.add_zero] at hat
   have e0 := ((uh HB19).cell (cell_lt hat)).trans hat
   have HE1 := zh (flat_one tx ⟨#[]⟩ (uh HN2))
   generalize us.getD 0 ⟨#[]⟩ = fl at e0 hat hzz HE1
   clear hat h0l
   go_wp2_with fail
   refine (Go.Proofs.YtemedclhglkfjaaGreatDoor.bin_any fl _ hzz).mono ?_
   rintro e w19a ⟨v19a,rfl,hown1,hb1⟩
   have HB19a := zh (bnx2 (uh HB19) hb1)
   have HP19a := zh ((uh HP19).below hb1)
   have HR19a := zh ((uh HR19).below hb1)
   have HG := zh (tx_range fl hzz)
   have HY : Hid (Byt w19a v19a (tx fl)) := Rwb.byt (B := 0) ⟨by rw [tx_length]; exact owns_mono (uh hown1) (Nat.zero_le _),uh HG⟩
   obtain ⟨va19a,vc19a,rfl,-,-⟩ := (uh HY).form
   clear hown1 hb1 HB19 HP19 HR19
   obtain ⟨M19,HEM19⟩ : ∃ L : List Int,Hid (L = tx fl) := ⟨_,rfl⟩
   have nM19 : M19.length <= 65537 := by rw [uh HEM19]; rw [tx_length]; omega
   rw [<- uh HEM19] at HY HG |-
   clear e0 b12
   go_wp2_with (first
    | (at_builtin; refine wpList_append_byt _ rfl _ _ rfl (w.heap.size + 1) (.slice va19 vn19 vc19) L19.length L19 rfl (uh HR19a).1 (.slice va19a M19.length vc19a) M19 rfl (uh HY) (by first | omega | (simp; omega)) (cell_lt (uh HP19a).kind) ?_)
    | go_in)
   intro v19b w19b hown hg
   have HR19b := zh ((uh HR19a).more (uh HG) (by first | exact hown | (rw [<- List.map_append]; exact hown)))
   have HB19b : Hid (Below w.heap.size w w19b) := below_grown (uh HB19a) (uh HR19a) hg
   have HP19b := zh ((uh HP19a).grow2 hg (uh HR19a).off)
   obtain ⟨va19b,vn19b,vc19b,rfl⟩ := (uh HR19b).form
   clear hown hg HR19a HB19a HP19a
   obtain ⟨N19,HEN19⟩ : ∃ L : List Int,Hid (L = L19 ++ M19) := ⟨_,rfl⟩
   have nN19 : N19.length <= 10262158 := by rw [uh HEN19]; rw [List.length_append]; first | omega | (simp; omega)
   rw [<- uh HEN19] at HR19b
   clear HY HG
   go_wp2
   go_meet
   case rel => exact ⟨N19,nN19,by show _ = _; rw [uh HE1,uh HEN19,uh HEM19],HR19b,HB19b,HP19b⟩
 case rest =>
 clear HR19 HB19 HP19 b12
 obtain ⟨L20,nL20,HEL20,HR20,HB20,HP20⟩ := hcut
 obtain ⟨w20,hw20⟩ : ∃ x,x = wc := ⟨_,rfl⟩
 subst hw20
 obtain ⟨va20,vn20,vc20,rfl⟩ := (uh HR20).form
 -- cutM
 have b13 := (uh HP20).pass
 rw [uh HV3] at b13
 go_upto_if 101 with fail
 go_cut [3] from 6 (fun s3 wx => ∃ R,R.length <= 10327695 /\ Hid (R = L20 ++ ps.flatMap tx) /\ Hid (Rwb wx (w.heap.size + 1) s3 R) /\ Hid (Below w.heap.size w wx) /\ Hid (Pk wx w.heap.size q))
 case first =>
  obtain rfl | rfl : m3 = 0 \/ m3 = 1 := by omega
  ·have HE0 := zh (flat_nil tx (uh HN3))
   go_wp2
   go_meet
   case rel => exact ⟨L20,by omega,by show _ = _; rw [uh HE0,List.append_nil],HR20,HB20,HP20⟩
  ·have h0l : 0 < ps.length := by rw [uh HN3]; omega
   obtain ⟨b,off,hao,hat⟩ : ∃ b off,ao3 = some ⟨b,off,none⟩ /\ ∀ j,j < ps.length -> w.cell? ⟨b,off + j,none⟩ = some (.string (ps.getD j ⟨#[]⟩)) := by
    rcases uh HS3 with e | k
    ·rw [e] at h0l; simp at h0l
    ·exact k
   rw [hao] at b13
   have hat := hat 0 h0l
   have hzz := (uh HZP) 0 h0l
   have HAO := zh hao
   rw [Nat.add_zero] at hat
   have e0 := ((uh HB20).cell (cell_lt hat)).trans hat
   have HE1 := zh (flat_one tx ⟨#[]⟩ (uh HN3))
   generalize ps.getD 0 ⟨#[]⟩ = fl at e0 hat hzz HE1
   clear hat h0l
   go_wp2_with fail
   refine (Go.Proofs.YtemedclhglkfjaaGreatDoor.bin_any fl _ hzz).mono ?_
   rintro e w20a ⟨v20a,rfl,hown1,hb1⟩
   have HB20a := zh (bnx2 (uh HB20) hb1)
   have HP20a := zh ((uh HP20).below hb1)
   have HR20a := zh ((uh HR20).below hb1)
   have HG := zh (tx_range fl hzz)
   have HY : Hid (Byt w20a v20a (tx fl)) := Rwb.byt (B := 0) ⟨by rw [tx_length]; exact owns_mono (uh hown1) (Nat.zero_le _),uh HG⟩
   obtain ⟨va20a,vc20a,rfl,-,-⟩ := (uh HY).form
   clear hown1 hb1 HB20 HP20 HR20
   obtain ⟨M20,HEM20⟩ : ∃ L : List Int,Hid (L = tx fl) := ⟨_,rfl⟩
   have nM20 : M20.length <= 65537 := by rw [uh HEM20]; rw [tx_length]; omega
   rw [<- uh HEM20] at HY HG |-
   clear e0 b13
   go_wp2_with (first
    | (at_builtin; refine wpList_append_byt _ rfl _ _ rfl (w.heap.size + 1) (.slice va20 vn20 vc20) L20.length L20 rfl (uh HR20a).1 (.slice va20a M20.length vc20a) M20 rfl (uh HY) (by first | omega | (simp; omega)) (cell_lt (uh HP20a).kind) ?_)
    | go_in)
   intro v20b w20b hown hg
   have HR20b := zh ((uh HR20a).more (uh HG) (by first | exact hown | (rw [<- List.map_append]; exact hown)))
   have HB20b : Hid (Below w.heap.size w w20b) := below_grown (uh HB20a) (uh HR20a) hg
   have HP20b := zh ((uh HP20a).grow2 hg (uh HR20a).off)
   obtain ⟨va20b,vn20b,vc20b,rfl⟩ := (uh HR20b).form
   clear hown hg HR20a HB20a HP20a
   obtain ⟨N20,HEN20⟩ : ∃ L : List Int,Hid (L = L20 ++ M20) := ⟨_,rfl⟩
   have nN20 : N20.length <= 10327695 := by rw [uh HEN20]; rw [List.length_append]; first | omega | (simp; omega)
   rw [<- uh HEN20] at HR20b
   clear HY HG
   go_wp2
   go_meet
   case rel => exact ⟨N20,nN20,by show _ = _; rw [uh HE1,uh HEN20,uh HEM20],HR20b,HB20b,HP20b⟩
 case rest =>
 clear HR20 HB20 HP20 b13
 obtain ⟨L21,nL21,HEL21,HR21,HB21,HP21⟩ := hcut
 obtain ⟨w21,hw21⟩ : ∃ x,x = wc := ⟨_,rfl⟩
 subst hw21
 obtain ⟨va21,vn21,vc21,rfl⟩ := (uh HR21).form
 -- cutN
 go_wp2
 go_ret
 exact ⟨_,rfl,by rw [uh HEL21,uh HEL20,uh HEL19,uh HEL11,uh HEM10,uh HEL9,uh HEM8,uh HEL7,uh HEM6,uh HEL5,uh HEL2,uh HEL1,uh HZ,uh HF2,uh HF,<- uh HN2,<- uh HN3] at HR21; exact (uh HR21).mono (Nat.le_succ _),uh HB21⟩
end Go.Proofs.YtemedclhglkfjaaGreatDoor.K
