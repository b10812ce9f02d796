/- Proved here: helpers, one text behind the other. -/
import Derived.Test.YtemedclhglkfjaaGreatDoorZPPlain
import Derived.Test.YtemedclhglkfjaaGreatDoorM29
import Derived.Handy
import Derived.Test.YtemedclhglkfjaaGreatDoorM13
set_option maxHeartbeats 20000000
namespace Go.Proofs.YtemedclhglkfjaaGreatDoor
open Go.RowKit
set_option maxRecDepth 100000
theorem kind_any (id : Int) (w : World) : Calls Tryz.prog 129 #[.int .i64 id] w fun e w' => e = .returned (.int .i64 (kd id)) /\ w' = w := by
 refine id_cases (P := fun id => Calls Tryz.prog 129 #[.int .i64 id] w fun e w' => e = .returned (.int .i64 (kd id)) /\ w' = w) id ?_ ?_ ?_ ?_ ?_ ?_ ?_ ?_ ?_ ?_ ?_ ?_ ?_ ?_ ?_ ?_ ?_ ?_ ?_ ?_ ?_ ?_ ?_ ?_ ?_ ?_ ?_ ?none
 case none =>
  intro n1 n2 n3 n8 n9 n11 n17 n18 n19 n21 n22 n23 n24 n25 n26 n28 n31 n33 n34 n35 n36 n37 n38 n39 n40 n41 n42
  rw [kd_none id n1 n2 n3 n8 n9 n11 n17 n18 n19 n21 n22 n23 n24 n25 n26 n28 n31 n33 n34 n35 n36 n37 n38 n39 n40 n41 n42]
  have b1 : (id == 1) = false := beq_eq_false_iff_ne.2 n1
  have b2 : (id == 2) = false := beq_eq_false_iff_ne.2 n2
  have b3 : (id == 3) = false := beq_eq_false_iff_ne.2 n3
  have b8 : (id == 8) = false := beq_eq_false_iff_ne.2 n8
  have b9 : (id == 9) = false := beq_eq_false_iff_ne.2 n9
  have b11 : (id == 11) = false := beq_eq_false_iff_ne.2 n11
  have b17 : (id == 17) = false := beq_eq_false_iff_ne.2 n17
  have b18 : (id == 18) = false := beq_eq_false_iff_ne.2 n18
  have b19 : (id == 19) = false := beq_eq_false_iff_ne.2 n19
  have b21 : (id == 21) = false := beq_eq_false_iff_ne.2 n21
  have b22 : (id == 22) = false := beq_eq_false_iff_ne.2 n22
  have b23 : (id == 23) = false := beq_eq_false_iff_ne.2 n23
  have b24 : (id == 24) = false := beq_eq_false_iff_ne.2 n24
  have b25 : (id == 25) = false := beq_eq_false_iff_ne.2 n25
  have b26 : (id == 26) = false := beq_eq_false_iff_ne.2 n26
  have b28 : (id == 28) = false := beq_eq_false_iff_ne.2 n28
  have b31 : (id == 31) = false := beq_eq_false_iff_ne.2 n31
  have b33 : (id == 33) = false := beq_eq_false_iff_ne.2 n33
  have b34 : (id == 34) = false := beq_eq_false_iff_ne.2 n34
  have b35 : (id == 35) = false := beq_eq_false_iff_ne.2 n35
  have b36 : (id == 36) = false := beq_eq_false_iff_ne.2 n36
  have b37 : (id == 37) = false := beq_eq_false_iff_ne.2 n37
  have b38 : (id == 38) = false := beq_eq_false_iff_ne.2 n38
  have b39 : (id == 39) = false := beq_eq_false_iff_ne.2 n39
  have b40 : (id == 40) = false := beq_eq_false_iff_ne.2 n40
  have b41 : (id == 41) = false := beq_eq_false_iff_ne.2 n41
  have b42 : (id == 42) = false := beq_eq_false_iff_ne.2 n42
  clear n1 n2 n3 n8 n9 n11 n17 n18 n19 n21 n22 n23 n24 n25 n26 n28 n31 n33 n34 n35 n36 n37 n38 n39 n40 n41 n42
  go_enter Tryz.func129,Tryz.ntmps129
  go_wp2
  go_ret
  exact ⟨rfl,rfl⟩
 all_goals
  go_enter Tryz.func129,Tryz.ntmps129
  go_wp2
  go_ret
  exact ⟨by kernel_rfl,rfl⟩
def PlacesPost (id : Int) (w : World) (e : Ending) (w' : World) : Prop := ∃ v,e = .returned v /\ Hid (Ints w' v (plc id)) /\ Below w.heap.size w w'
theorem places_1 (w : World) : Calls Tryz.prog 128 #[.int .i64 1] w (PlacesPost 1 w) := by
 unfold PlacesPost
 go_enter Tryz.func128,Tryz.ntmps128
 go_wp2
 go_ret
 exact ⟨_,rfl,ints_lit _ [3,16] 2 rfl (by omega) 3,by go_grown⟩
theorem places_2 (w : World) : Calls Tryz.prog 128 #[.int .i64 2] w (PlacesPost 2 w) := by
 unfold PlacesPost
 go_enter Tryz.func128,Tryz.ntmps128
 go_wp2
 go_ret
 exact ⟨_,rfl,ints_lit _ [3,16] 2 rfl (by omega) 3,by go_grown⟩
theorem places_3 (w : World) : Calls Tryz.prog 128 #[.int .i64 3] w (PlacesPost 3 w) := by
 unfold PlacesPost
 go_enter Tryz.func128,Tryz.ntmps128
 go_wp2
 go_ret
 exact ⟨_,rfl,ints_lit _ [3,16] 2 rfl (by omega) 3,by go_grown⟩
theorem places_8 (w : World) : Calls Tryz.prog 128 #[.int .i64 8] w (PlacesPost 8 w) := by
 unfold PlacesPost
 go_enter Tryz.func128,Tryz.ntmps128
 go_wp2
 go_ret
 exact ⟨_,rfl,ints_lit _ [3,16] 2 rfl (by omega) 3,by go_grown⟩
theorem places_9 (w : World) : Calls Tryz.prog 128 #[.int .i64 9] w (PlacesPost 9 w) := by
 unfold PlacesPost
 go_enter Tryz.func128,Tryz.ntmps128
 go_wp2
 go_ret
 exact ⟨_,rfl,ints_lit _ [3,16] 2 rfl (by omega) 3,by go_grown⟩
theorem places_11 (w : World) : Calls Tryz.prog 128 #[.int .i64 11] w (PlacesPost 11 w) := by
 unfold PlacesPost
 go_enter Tryz.func128,Tryz.ntmps128
 go_wp2
 go_ret
 exact ⟨_,rfl,ints_lit _ [3,8] 2 rfl (by omega) 3,by go_grown⟩
theorem places_17 (w : World) : Calls Tryz.prog 128 #[.int .i64 17] w (PlacesPost 17 w) := by
 unfold PlacesPost
 go_enter Tryz.func128,Tryz.ntmps128
 go_wp2
 go_ret
 exact ⟨_,rfl,ints_lit _ [1,2,14] 3 rfl (by omega) 3,by go_grown⟩
theorem places_18 (w : World) : Calls Tryz.prog 128 #[.int .i64 18] w (PlacesPost 18 w) := by
 unfold PlacesPost
 go_enter Tryz.func128,Tryz.ntmps128
 go_wp2
 go_ret
 exact ⟨_,rfl,ints_lit _ [2] 1 rfl (by omega) 3,by go_grown⟩
theorem places_19 (w : World) : Calls Tryz.prog 128 #[.int .i64 19] w (PlacesPost 19 w) := by
 unfold PlacesPost
 go_enter Tryz.func128,Tryz.ntmps128
 go_wp2
 go_ret
 exact ⟨_,rfl,ints_lit _ [2] 1 rfl (by omega) 3,by go_grown⟩
theorem places_21 (w : World) : Calls Tryz.prog 128 #[.int .i64 21] w (PlacesPost 21 w) := by
 unfold PlacesPost
 go_enter Tryz.func128,Tryz.ntmps128
 go_wp2
 go_ret
 exact ⟨_,rfl,ints_lit _ [1,2,15] 3 rfl (by omega) 3,by go_grown⟩
theorem places_22 (w : World) : Calls Tryz.prog 128 #[.int .i64 22] w (PlacesPost 22 w) := by
 unfold PlacesPost
 go_enter Tryz.func128,Tryz.ntmps128
 go_wp2
 go_ret
 exact ⟨_,rfl,ints_lit _ [1,2,15] 3 rfl (by omega) 3,by go_grown⟩
theorem places_23 (w : World) : Calls Tryz.prog 128 #[.int .i64 23] w (PlacesPost 23 w) := by
 unfold PlacesPost
 go_enter Tryz.func128,Tryz.ntmps128
 go_wp2
 go_ret
 exact ⟨_,rfl,ints_lit _ [1] 1 rfl (by omega) 3,by go_grown⟩
theorem places_24 (w : World) : Calls Tryz.prog 128 #[.int .i64 24] w (PlacesPost 24 w) := by
 unfold PlacesPost
 go_enter Tryz.func128,Tryz.ntmps128
 go_wp2
 go_ret
 exact ⟨_,rfl,ints_lit _ [16] 1 rfl (by omega) 3,by go_grown⟩
theorem places_25 (w : World) : Calls Tryz.prog 128 #[.int .i64 25] w (PlacesPost 25 w) := by
 unfold PlacesPost
 go_enter Tryz.func128,Tryz.ntmps128
 go_wp2
 go_ret
 exact ⟨_,rfl,ints_lit _ [1] 1 rfl (by omega) 3,by go_grown⟩
theorem places_26 (w : World) : Calls Tryz.prog 128 #[.int .i64 26] w (PlacesPost 26 w) := by
 unfold PlacesPost
 go_enter Tryz.func128,Tryz.ntmps128
 go_wp2
 go_ret
 exact ⟨_,rfl,ints_lit _ [2] 1 rfl (by omega) 3,by go_grown⟩
theorem places_28 (w : World) : Calls Tryz.prog 128 #[.int .i64 28] w (PlacesPost 28 w) := by
 unfold PlacesPost
 go_enter Tryz.func128,Tryz.ntmps128
 go_wp2
 go_ret
 exact ⟨_,rfl,ints_lit _ [2,14] 2 rfl (by omega) 3,by go_grown⟩
theorem places_31 (w : World) : Calls Tryz.prog 128 #[.int .i64 31] w (PlacesPost 31 w) := by
 unfold PlacesPost
 go_enter Tryz.func128,Tryz.ntmps128
 go_wp2
 go_ret
 exact ⟨_,rfl,ints_lit _ [2,4,5,6,7,9,11,14,15] 9 rfl (by omega) 3,by go_grown⟩
theorem places_33 (w : World) : Calls Tryz.prog 128 #[.int .i64 33] w (PlacesPost 33 w) := by
 unfold PlacesPost
 go_enter Tryz.func128,Tryz.ntmps128
 go_wp2
 go_ret
 exact ⟨_,rfl,ints_lit _ [1,2] 2 rfl (by omega) 3,by go_grown⟩
theorem places_34 (w : World) : Calls Tryz.prog 128 #[.int .i64 34] w (PlacesPost 34 w) := by
 unfold PlacesPost
 go_enter Tryz.func128,Tryz.ntmps128
 go_wp2
 go_ret
 exact ⟨_,rfl,ints_lit _ [1,2] 2 rfl (by omega) 3,by go_grown⟩
theorem places_35 (w : World) : Calls Tryz.prog 128 #[.int .i64 35] w (PlacesPost 35 w) := by
 unfold PlacesPost
 go_enter Tryz.func128,Tryz.ntmps128
 go_wp2
 go_ret
 exact ⟨_,rfl,ints_lit _ [3] 1 rfl (by omega) 3,by go_grown⟩
theorem places_36 (w : World) : Calls Tryz.prog 128 #[.int .i64 36] w (PlacesPost 36 w) := by
 unfold PlacesPost
 go_enter Tryz.func128,Tryz.ntmps128
 go_wp2
 go_ret
 exact ⟨_,rfl,ints_lit _ [2] 1 rfl (by omega) 3,by go_grown⟩
theorem places_37 (w : World) : Calls Tryz.prog 128 #[.int .i64 37] w (PlacesPost 37 w) := by
 unfold PlacesPost
 go_enter Tryz.func128,Tryz.ntmps128
 go_wp2
 go_ret
 exact ⟨_,rfl,ints_lit _ [2] 1 rfl (by omega) 3,by go_grown⟩
theorem places_38 (w : World) : Calls Tryz.prog 128 #[.int .i64 38] w (PlacesPost 38 w) := by
 unfold PlacesPost
 go_enter Tryz.func128,Tryz.ntmps128
 go_wp2
 go_ret
 exact ⟨_,rfl,ints_lit _ [1,2,3,4,5,6,7,8,9,10,11,14,15,16] 14 rfl (by omega) 3,by go_grown⟩
theorem places_39 (w : World) : Calls Tryz.prog 128 #[.int .i64 39] w (PlacesPost 39 w) := by
 unfold PlacesPost
 go_enter Tryz.func128,Tryz.ntmps128
 go_wp2
 go_ret
 exact ⟨_,rfl,ints_lit _ [1,2] 2 rfl (by omega) 3,by go_grown⟩
theorem places_40 (w : World) : Calls Tryz.prog 128 #[.int .i64 40] w (PlacesPost 40 w) := by
 unfold PlacesPost
 go_enter Tryz.func128,Tryz.ntmps128
 go_wp2
 go_ret
 exact ⟨_,rfl,ints_lit _ [2] 1 rfl (by omega) 3,by go_grown⟩
theorem places_41 (w : World) : Calls Tryz.prog 128 #[.int .i64 41] w (PlacesPost 41 w) := by
 unfold PlacesPost
 go_enter Tryz.func128,Tryz.ntmps128
 go_wp2
 go_ret
 exact ⟨_,rfl,ints_lit _ [2] 1 rfl (by omega) 3,by go_grown⟩
theorem places_42 (w : World) : Calls Tryz.prog 128 #[.int .i64 42] w (PlacesPost 42 w) := by
 unfold PlacesPost
 go_enter Tryz.func128,Tryz.ntmps128
 go_wp2
 go_ret
 exact ⟨_,rfl,ints_lit _ [2] 1 rfl (by omega) 3,by go_grown⟩
theorem places_none (id : Int) (w : World) (hp : plc id = []) (b1 : (id == 1) = false) (b2 : (id == 2) = false) (b3 : (id == 3) = false) (b8 : (id == 8) = false) (b9 : (id == 9) = false) (b11 : (id == 11) = false) (b17 : (id == 17) = false) (b18 : (id == 18) = false) (b19 : (id == 19) = false) (b21 : (id == 21) = false) (b22 : (id == 22) = false) (b23 : (id == 23) = false) (b24 : (id == 24) = false) (b25 : (id == 25) = false) (b26 : (id == 26) = false) (b28 : (id == 28) = false) (b31 : (id == 31) = false) (b33 : (id == 33) = false) (b34 : (id == 34) = false) (b35 : (id == 35) = false) (b36 : (id == 36) = false) (b37 : (id == 37) = false) (b38 : (id == 38) = false) (b39 : (id == 39) = false) (b40 : (id == 40) = false) (b41 : (id == 41) = false) (b42 : (id == 42) = false) : Calls Tryz.prog 128 #[.int .i64 id] w (PlacesPost id w) := by
 have hm : Hid (plc id = []) := hp
 clear hp
 unfold PlacesPost
 go_enter Tryz.func128,Tryz.ntmps128
 go_wp2
 go_ret
 exact ⟨_,rfl,by rw [uh hm]; exact ⟨none,0,rfl,by simp,.inl rfl⟩,Below.refl _ _⟩
theorem places_any (id : Int) (w : World) : Calls Tryz.prog 128 #[.int .i64 id] w (PlacesPost id w) := by
 refine id_cases (P := fun id => Calls Tryz.prog 128 #[.int .i64 id] w (PlacesPost id w)) id (places_1 w) (places_2 w) (places_3 w) (places_8 w) (places_9 w) (places_11 w) (places_17 w) (places_18 w) (places_19 w) (places_21 w) (places_22 w) (places_23 w) (places_24 w) (places_25 w) (places_26 w) (places_28 w) (places_31 w) (places_33 w) (places_34 w) (places_35 w) (places_36 w) (places_37 w) (places_38 w) (places_39 w) (places_40 w) (places_41 w) (places_42 w) ?_
 intro n1 n2 n3 n8 n9 n11 n17 n18 n19 n21 n22 n23 n24 n25 n26 n28 n31 n33 n34 n35 n36 n37 n38 n39 n40 n41 n42
 exact places_none id w (plc_none id n1 n2 n3 n8 n9 n11 n17 n18 n19 n21 n22 n23 n24 n25 n26 n28 n31 n33 n34 n35 n36 n37 n38 n39 n40 n41 n42) (beq_eq_false_iff_ne.2 n1) (beq_eq_false_iff_ne.2 n2) (beq_eq_false_iff_ne.2 n3) (beq_eq_false_iff_ne.2 n8) (beq_eq_false_iff_ne.2 n9) (beq_eq_false_iff_ne.2 n11) (beq_eq_false_iff_ne.2 n17) (beq_eq_false_iff_ne.2 n18) (beq_eq_false_iff_ne.2 n19) (beq_eq_false_iff_ne.2 n21) (beq_eq_false_iff_ne.2 n22) (beq_eq_false_iff_ne.2 n23) (beq_eq_false_iff_ne.2 n24) (beq_eq_false_iff_ne.2 n25) (beq_eq_false_iff_ne.2 n26) (beq_eq_false_iff_ne.2 n28) (beq_eq_false_iff_ne.2 n31) (beq_eq_false_iff_ne.2 n33) (beq_eq_false_iff_ne.2 n34) (beq_eq_false_iff_ne.2 n35) (beq_eq_false_iff_ne.2 n36) (beq_eq_false_iff_ne.2 n37) (beq_eq_false_iff_ne.2 n38) (beq_eq_false_iff_ne.2 n39) (beq_eq_false_iff_ne.2 n40) (beq_eq_false_iff_ne.2 n41) (beq_eq_false_iff_ne.2 n42)
end Go.Proofs.YtemedclhglkfjaaGreatDoor
