/- Proved here: prop.mayStand tells whether an ID may stand at a place, for any of both. Helper contracts. -/
import Derived.Test.YtpfpollejhdbgaaDoorPIdx
namespace Go.Proofs.YtpfpollejhdbgaaDoor
open Go.RowKit
set_option maxRecDepth 100000

/-- mayStand's answer at one ID -/
def StandPost (id place : Int) (w : World) (e : Ending) (w' : World) : Prop := e = .returned (.bool (mst id place)) ∧ Below w.heap.size w w'
set_option maxHeartbeats 4000000 in
theorem stand_1 (place : Int) (w : World) : Calls Tryd.prog 54 #[.int .i64 1, .int .i64 place] w (StandPost 1 place w) := by
  unfold StandPost
  go_enter Tryd.func54, Tryd.ntmps54
  go_wp2_with (go_at_call 67; refine (oneOf_use _ [3, 16] place _ (ints_lit _ [3, 16] 2 rfl (by omega) 3)).mono ?_; rintro e w' ⟨⟨b, rfl, hb⟩, rfl⟩)
  go_ret
  exact ⟨ret_bool (unhide hb), by go_grown⟩
set_option maxHeartbeats 4000000 in
theorem stand_2 (place : Int) (w : World) : Calls Tryd.prog 54 #[.int .i64 2, .int .i64 place] w (StandPost 2 place w) := by
  unfold StandPost
  go_enter Tryd.func54, Tryd.ntmps54
  go_wp2_with (go_at_call 67; refine (oneOf_use _ [3, 16] place _ (ints_lit _ [3, 16] 2 rfl (by omega) 3)).mono ?_; rintro e w' ⟨⟨b, rfl, hb⟩, rfl⟩)
  go_ret
  exact ⟨ret_bool (unhide hb), by go_grown⟩
set_option maxHeartbeats 4000000 in
theorem stand_3 (place : Int) (w : World) : Calls Tryd.prog 54 #[.int .i64 3, .int .i64 place] w (StandPost 3 place w) := by
  unfold StandPost
  go_enter Tryd.func54, Tryd.ntmps54
  go_wp2_with (go_at_call 67; refine (oneOf_use _ [3, 16] place _ (ints_lit _ [3, 16] 2 rfl (by omega) 3)).mono ?_; rintro e w' ⟨⟨b, rfl, hb⟩, rfl⟩)
  go_ret
  exact ⟨ret_bool (unhide hb), by go_grown⟩
set_option maxHeartbeats 4000000 in
theorem stand_8 (place : Int) (w : World) : Calls Tryd.prog 54 #[.int .i64 8, .int .i64 place] w (StandPost 8 place w) := by
  unfold StandPost
  go_enter Tryd.func54, Tryd.ntmps54
  go_wp2_with (go_at_call 67; refine (oneOf_use _ [3, 16] place _ (ints_lit _ [3, 16] 2 rfl (by omega) 3)).mono ?_; rintro e w' ⟨⟨b, rfl, hb⟩, rfl⟩)
  go_ret
  exact ⟨ret_bool (unhide hb), by go_grown⟩
set_option maxHeartbeats 4000000 in
theorem stand_9 (place : Int) (w : World) : Calls Tryd.prog 54 #[.int .i64 9, .int .i64 place] w (StandPost 9 place w) := by
  unfold StandPost
  go_enter Tryd.func54, Tryd.ntmps54
  go_wp2_with (go_at_call 67; refine (oneOf_use _ [3, 16] place _ (ints_lit _ [3, 16] 2 rfl (by omega) 3)).mono ?_; rintro e w' ⟨⟨b, rfl, hb⟩, rfl⟩)
  go_ret
  exact ⟨ret_bool (unhide hb), by go_grown⟩
set_option maxHeartbeats 4000000 in
theorem stand_11 (place : Int) (w : World) : Calls Tryd.prog 54 #[.int .i64 11, .int .i64 place] w (StandPost 11 place w) := by
  unfold StandPost
  go_enter Tryd.func54, Tryd.ntmps54
  go_wp2_with (go_at_call 67; refine (oneOf_use _ [3, 8] place _ (ints_lit _ [3, 8] 2 rfl (by omega) 3)).mono ?_; rintro e w' ⟨⟨b, rfl, hb⟩, rfl⟩)
  go_ret
  exact ⟨ret_bool (unhide hb), by go_grown⟩
set_option maxHeartbeats 4000000 in
theorem stand_17 (place : Int) (w : World) : Calls Tryd.prog 54 #[.int .i64 17, .int .i64 place] w (StandPost 17 place w) := by
  unfold StandPost
  go_enter Tryd.func54, Tryd.ntmps54
  go_wp2_with (go_at_call 67; refine (oneOf_use _ [1, 2, 14] place _ (ints_lit _ [1, 2, 14] 3 rfl (by omega) 3)).mono ?_; rintro e w' ⟨⟨b, rfl, hb⟩, rfl⟩)
  go_ret
  exact ⟨ret_bool (unhide hb), by go_grown⟩
set_option maxHeartbeats 4000000 in
theorem stand_18 (place : Int) (w : World) : Calls Tryd.prog 54 #[.int .i64 18, .int .i64 place] w (StandPost 18 place w) := by
  unfold StandPost
  have hm : Hid (mst 18 place = (place == 2)) := by
    show mst 18 place = (place == 2)
    unfold mst
    rw [show plc 18 = [2] from rfl]
    simp only [List.mem_singleton]
    rfl
  go_enter Tryd.func54, Tryd.ntmps54
  go_wp2
  go_ret
  exact ⟨ret_bool (unhide hm).symm, by go_grown⟩
set_option maxHeartbeats 4000000 in
theorem stand_19 (place : Int) (w : World) : Calls Tryd.prog 54 #[.int .i64 19, .int .i64 place] w (StandPost 19 place w) := by
  unfold StandPost
  have hm : Hid (mst 19 place = (place == 2)) := by
    show mst 19 place = (place == 2)
    unfold mst
    rw [show plc 19 = [2] from rfl]
    simp only [List.mem_singleton]
    rfl
  go_enter Tryd.func54, Tryd.ntmps54
  go_wp2
  go_ret
  exact ⟨ret_bool (unhide hm).symm, by go_grown⟩
set_option maxHeartbeats 4000000 in
theorem stand_21 (place : Int) (w : World) : Calls Tryd.prog 54 #[.int .i64 21, .int .i64 place] w (StandPost 21 place w) := by
  unfold StandPost
  go_enter Tryd.func54, Tryd.ntmps54
  go_wp2_with (go_at_call 67; refine (oneOf_use _ [1, 2, 15] place _ (ints_lit _ [1, 2, 15] 3 rfl (by omega) 3)).mono ?_; rintro e w' ⟨⟨b, rfl, hb⟩, rfl⟩)
  go_ret
  exact ⟨ret_bool (unhide hb), by go_grown⟩
set_option maxHeartbeats 4000000 in
theorem stand_22 (place : Int) (w : World) : Calls Tryd.prog 54 #[.int .i64 22, .int .i64 place] w (StandPost 22 place w) := by
  unfold StandPost
  go_enter Tryd.func54, Tryd.ntmps54
  go_wp2_with (go_at_call 67; refine (oneOf_use _ [1, 2, 15] place _ (ints_lit _ [1, 2, 15] 3 rfl (by omega) 3)).mono ?_; rintro e w' ⟨⟨b, rfl, hb⟩, rfl⟩)
  go_ret
  exact ⟨ret_bool (unhide hb), by go_grown⟩
set_option maxHeartbeats 4000000 in
theorem stand_23 (place : Int) (w : World) : Calls Tryd.prog 54 #[.int .i64 23, .int .i64 place] w (StandPost 23 place w) := by
  unfold StandPost
  have hm : Hid (mst 23 place = (place == 1)) := by
    show mst 23 place = (place == 1)
    unfold mst
    rw [show plc 23 = [1] from rfl]
    simp only [List.mem_singleton]
    rfl
  go_enter Tryd.func54, Tryd.ntmps54
  go_wp2
  go_ret
  exact ⟨ret_bool (unhide hm).symm, by go_grown⟩
set_option maxHeartbeats 4000000 in
theorem stand_24 (place : Int) (w : World) : Calls Tryd.prog 54 #[.int .i64 24, .int .i64 place] w (StandPost 24 place w) := by
  unfold StandPost
  have hm : Hid (mst 24 place = (place == 16)) := by
    show mst 24 place = (place == 16)
    unfold mst
    rw [show plc 24 = [16] from rfl]
    simp only [List.mem_singleton]
    rfl
  go_enter Tryd.func54, Tryd.ntmps54
  go_wp2
  go_ret
  exact ⟨ret_bool (unhide hm).symm, by go_grown⟩
set_option maxHeartbeats 4000000 in
theorem stand_25 (place : Int) (w : World) : Calls Tryd.prog 54 #[.int .i64 25, .int .i64 place] w (StandPost 25 place w) := by
  unfold StandPost
  have hm : Hid (mst 25 place = (place == 1)) := by
    show mst 25 place = (place == 1)
    unfold mst
    rw [show plc 25 = [1] from rfl]
    simp only [List.mem_singleton]
    rfl
  go_enter Tryd.func54, Tryd.ntmps54
  go_wp2
  go_ret
  exact ⟨ret_bool (unhide hm).symm, by go_grown⟩
set_option maxHeartbeats 4000000 in
theorem stand_26 (place : Int) (w : World) : Calls Tryd.prog 54 #[.int .i64 26, .int .i64 place] w (StandPost 26 place w) := by
  unfold StandPost
  have hm : Hid (mst 26 place = (place == 2)) := by
    show mst 26 place = (place == 2)
    unfold mst
    rw [show plc 26 = [2] from rfl]
    simp only [List.mem_singleton]
    rfl
  go_enter Tryd.func54, Tryd.ntmps54
  go_wp2
  go_ret
  exact ⟨ret_bool (unhide hm).symm, by go_grown⟩
set_option maxHeartbeats 4000000 in
theorem stand_28 (place : Int) (w : World) : Calls Tryd.prog 54 #[.int .i64 28, .int .i64 place] w (StandPost 28 place w) := by
  unfold StandPost
  go_enter Tryd.func54, Tryd.ntmps54
  go_wp2_with (go_at_call 67; refine (oneOf_use _ [2, 14] place _ (ints_lit _ [2, 14] 2 rfl (by omega) 3)).mono ?_; rintro e w' ⟨⟨b, rfl, hb⟩, rfl⟩)
  go_ret
  exact ⟨ret_bool (unhide hb), by go_grown⟩
set_option maxHeartbeats 4000000 in
theorem stand_31 (place : Int) (w : World) : Calls Tryd.prog 54 #[.int .i64 31, .int .i64 place] w (StandPost 31 place w) := by
  unfold StandPost
  go_enter Tryd.func54, Tryd.ntmps54
  go_wp2_with (go_at_call 67; refine (oneOf_use _ [2, 4, 5, 6, 7, 9, 11, 14, 15] place _ (ints_lit _ [2, 4, 5, 6, 7, 9, 11, 14, 15] 9 rfl (by omega) 3)).mono ?_; rintro e w' ⟨⟨b, rfl, hb⟩, rfl⟩)
  go_ret
  exact ⟨ret_bool (unhide hb), by go_grown⟩
set_option maxHeartbeats 4000000 in
theorem stand_33 (place : Int) (w : World) : Calls Tryd.prog 54 #[.int .i64 33, .int .i64 place] w (StandPost 33 place w) := by
  unfold StandPost
  go_enter Tryd.func54, Tryd.ntmps54
  go_wp2_with (go_at_call 67; refine (oneOf_use _ [1, 2] place _ (ints_lit _ [1, 2] 2 rfl (by omega) 3)).mono ?_; rintro e w' ⟨⟨b, rfl, hb⟩, rfl⟩)
  go_ret
  exact ⟨ret_bool (unhide hb), by go_grown⟩
set_option maxHeartbeats 4000000 in
theorem stand_34 (place : Int) (w : World) : Calls Tryd.prog 54 #[.int .i64 34, .int .i64 place] w (StandPost 34 place w) := by
  unfold StandPost
  go_enter Tryd.func54, Tryd.ntmps54
  go_wp2_with (go_at_call 67; refine (oneOf_use _ [1, 2] place _ (ints_lit _ [1, 2] 2 rfl (by omega) 3)).mono ?_; rintro e w' ⟨⟨b, rfl, hb⟩, rfl⟩)
  go_ret
  exact ⟨ret_bool (unhide hb), by go_grown⟩
set_option maxHeartbeats 4000000 in
theorem stand_35 (place : Int) (w : World) : Calls Tryd.prog 54 #[.int .i64 35, .int .i64 place] w (StandPost 35 place w) := by
  unfold StandPost
  have hm : Hid (mst 35 place = (place == 3)) := by
    show mst 35 place = (place == 3)
    unfold mst
    rw [show plc 35 = [3] from rfl]
    simp only [List.mem_singleton]
    rfl
  go_enter Tryd.func54, Tryd.ntmps54
  go_wp2
  go_ret
  exact ⟨ret_bool (unhide hm).symm, by go_grown⟩
set_option maxHeartbeats 4000000 in
theorem stand_36 (place : Int) (w : World) : Calls Tryd.prog 54 #[.int .i64 36, .int .i64 place] w (StandPost 36 place w) := by
  unfold StandPost
  have hm : Hid (mst 36 place = (place == 2)) := by
    show mst 36 place = (place == 2)
    unfold mst
    rw [show plc 36 = [2] from rfl]
    simp only [List.mem_singleton]
    rfl
  go_enter Tryd.func54, Tryd.ntmps54
  go_wp2
  go_ret
  exact ⟨ret_bool (unhide hm).symm, by go_grown⟩
set_option maxHeartbeats 4000000 in
theorem stand_37 (place : Int) (w : World) : Calls Tryd.prog 54 #[.int .i64 37, .int .i64 place] w (StandPost 37 place w) := by
  unfold StandPost
  have hm : Hid (mst 37 place = (place == 2)) := by
    show mst 37 place = (place == 2)
    unfold mst
    rw [show plc 37 = [2] from rfl]
    simp only [List.mem_singleton]
    rfl
  go_enter Tryd.func54, Tryd.ntmps54
  go_wp2
  go_ret
  exact ⟨ret_bool (unhide hm).symm, by go_grown⟩
set_option maxHeartbeats 4000000 in
theorem stand_38 (place : Int) (w : World) : Calls Tryd.prog 54 #[.int .i64 38, .int .i64 place] w (StandPost 38 place w) := by
  unfold StandPost
  by_cases h : 1 ≤ place ∧ place ≤ 11
  · obtain ⟨h1, h2⟩ := h
    have hm : Hid (mst 38 place = true) := by
      show mst 38 place = true
      unfold mst
      rw [decide_eq_true_eq, show plc 38 = [1, 2, 3, 4, 5, 6, 7, 8, 9, 10, 11, 14, 15, 16] from rfl]
      simp only [List.mem_cons]
      omega
    go_enter Tryd.func54, Tryd.ntmps54
    go_wp2
    go_ret
    exact ⟨ret_bool (unhide hm).symm, by go_grown⟩
  · have hm : Hid (mst 38 place = decide (place ∈ [14, 15, 16])) := by
      show mst 38 place = decide (place ∈ [14, 15, 16])
      unfold mst
      rw [decide_eq_decide, show plc 38 = [1, 2, 3, 4, 5, 6, 7, 8, 9, 10, 11, 14, 15, 16] from rfl]
      simp only [List.mem_cons, List.not_mem_nil, or_false]
      constructor <;> intro a <;> omega
    by_cases h1 : 1 ≤ place
    · have h2 : ¬ place ≤ 11 := fun a => h ⟨h1, a⟩
      clear h
      go_enter Tryd.func54, Tryd.ntmps54
      go_wp2_with (go_at_call 67; refine (oneOf_use _ [14, 15, 16] place _ (ints_lit _ [14, 15, 16] 3 rfl (by omega) 3)).mono ?_; rintro e w' ⟨⟨b, rfl, hb⟩, rfl⟩)
      go_ret
      exact ⟨ret_bool ((unhide hb).trans (unhide hm).symm), by go_grown⟩
    · clear h
      go_enter Tryd.func54, Tryd.ntmps54
      go_wp2_with (go_at_call 67; refine (oneOf_use _ [14, 15, 16] place _ (ints_lit _ [14, 15, 16] 3 rfl (by omega) 3)).mono ?_; rintro e w' ⟨⟨b, rfl, hb⟩, rfl⟩)
      go_ret
      exact ⟨ret_bool ((unhide hb).trans (unhide hm).symm), by go_grown⟩
set_option maxHeartbeats 4000000 in
theorem stand_39 (place : Int) (w : World) : Calls Tryd.prog 54 #[.int .i64 39, .int .i64 place] w (StandPost 39 place w) := by
  unfold StandPost
  go_enter Tryd.func54, Tryd.ntmps54
  go_wp2_with (go_at_call 67; refine (oneOf_use _ [1, 2] place _ (ints_lit _ [1, 2] 2 rfl (by omega) 3)).mono ?_; rintro e w' ⟨⟨b, rfl, hb⟩, rfl⟩)
  go_ret
  exact ⟨ret_bool (unhide hb), by go_grown⟩
set_option maxHeartbeats 4000000 in
theorem stand_40 (place : Int) (w : World) : Calls Tryd.prog 54 #[.int .i64 40, .int .i64 place] w (StandPost 40 place w) := by
  unfold StandPost
  have hm : Hid (mst 40 place = (place == 2)) := by
    show mst 40 place = (place == 2)
    unfold mst
    rw [show plc 40 = [2] from rfl]
    simp only [List.mem_singleton]
    rfl
  go_enter Tryd.func54, Tryd.ntmps54
  go_wp2
  go_ret
  exact ⟨ret_bool (unhide hm).symm, by go_grown⟩
set_option maxHeartbeats 4000000 in
theorem stand_41 (place : Int) (w : World) : Calls Tryd.prog 54 #[.int .i64 41, .int .i64 place] w (StandPost 41 place w) := by
  unfold StandPost
  have hm : Hid (mst 41 place = (place == 2)) := by
    show mst 41 place = (place == 2)
    unfold mst
    rw [show plc 41 = [2] from rfl]
    simp only [List.mem_singleton]
    rfl
  go_enter Tryd.func54, Tryd.ntmps54
  go_wp2
  go_ret
  exact ⟨ret_bool (unhide hm).symm, by go_grown⟩
set_option maxHeartbeats 4000000 in
theorem stand_42 (place : Int) (w : World) : Calls Tryd.prog 54 #[.int .i64 42, .int .i64 place] w (StandPost 42 place w) := by
  unfold StandPost
  have hm : Hid (mst 42 place = (place == 2)) := by
    show mst 42 place = (place == 2)
    unfold mst
    rw [show plc 42 = [2] from rfl]
    simp only [List.mem_singleton]
    rfl
  go_enter Tryd.func54, Tryd.ntmps54
  go_wp2
  go_ret
  exact ⟨ret_bool (unhide hm).symm, by go_grown⟩
set_option maxHeartbeats 4000000 in
theorem stand_none (id place : Int) (w : World) (hp : plc id = []) (b1 : (id == 1) = false) (b2 : (id == 2) = false) (b3 : (id == 3) = false) (b8 : (id == 8) = false) (b9 : (id == 9) = false) (b11 : (id == 11) = false) (b17 : (id == 17) = false) (b18 : (id == 18) = false) (b19 : (id == 19) = false) (b21 : (id == 21) = false) (b22 : (id == 22) = false) (b23 : (id == 23) = false) (b24 : (id == 24) = false) (b25 : (id == 25) = false) (b26 : (id == 26) = false) (b28 : (id == 28) = false) (b31 : (id == 31) = false) (b33 : (id == 33) = false) (b34 : (id == 34) = false) (b35 : (id == 35) = false) (b36 : (id == 36) = false) (b37 : (id == 37) = false) (b38 : (id == 38) = false) (b39 : (id == 39) = false) (b40 : (id == 40) = false) (b41 : (id == 41) = false) (b42 : (id == 42) = false) : Calls Tryd.prog 54 #[.int .i64 id, .int .i64 place] w (StandPost id place w) := by
  have hm : Hid (mst id place = false) := by show mst id place = false; unfold mst; rw [hp]; simp
  clear hp
  unfold StandPost
  go_enter Tryd.func54, Tryd.ntmps54
  go_wp2
  go_ret
  exact ⟨ret_bool (unhide hm).symm, by go_grown⟩
theorem stand_any (id place : Int) (w : World) : Calls Tryd.prog 54 #[.int .i64 id, .int .i64 place] w (StandPost id place w) := by
  refine id_cases (P := fun id => Calls Tryd.prog 54 #[.int .i64 id, .int .i64 place] w (StandPost id place w)) id (stand_1 place w) (stand_2 place w) (stand_3 place w) (stand_8 place w) (stand_9 place w) (stand_11 place w) (stand_17 place w) (stand_18 place w) (stand_19 place w) (stand_21 place w) (stand_22 place w) (stand_23 place w) (stand_24 place w) (stand_25 place w) (stand_26 place w) (stand_28 place w) (stand_31 place w) (stand_33 place w) (stand_34 place w) (stand_35 place w) (stand_36 place w) (stand_37 place w) (stand_38 place w) (stand_39 place w) (stand_40 place w) (stand_41 place w) (stand_42 place w) ?_
  intro n1 n2 n3 n8 n9 n11 n17 n18 n19 n21 n22 n23 n24 n25 n26 n28 n31 n33 n34 n35 n36 n37 n38 n39 n40 n41 n42
  exact stand_none id place w (plc_none id n1 n2 n3 n8 n9 n11 n17 n18 n19 n21 n22 n23 n24 n25 n26 n28 n31 n33 n34 n35 n36 n37 n38 n39 n40 n41 n42) (beq_eq_false_iff_ne.2 n1) (beq_eq_false_iff_ne.2 n2) (beq_eq_false_iff_ne.2 n3) (beq_eq_false_iff_ne.2 n8) (beq_eq_false_iff_ne.2 n9) (beq_eq_false_iff_ne.2 n11) (beq_eq_false_iff_ne.2 n17) (beq_eq_false_iff_ne.2 n18) (beq_eq_false_iff_ne.2 n19) (beq_eq_false_iff_ne.2 n21) (beq_eq_false_iff_ne.2 n22) (beq_eq_false_iff_ne.2 n23) (beq_eq_false_iff_ne.2 n24) (beq_eq_false_iff_ne.2 n25) (beq_eq_false_iff_ne.2 n26) (beq_eq_false_iff_ne.2 n28) (beq_eq_false_iff_ne.2 n31) (beq_eq_false_iff_ne.2 n33) (beq_eq_false_iff_ne.2 n34) (beq_eq_false_iff_ne.2 n35) (beq_eq_false_iff_ne.2 n36) (beq_eq_false_iff_ne.2 n37) (beq_eq_false_iff_ne.2 n38) (beq_eq_false_iff_ne.2 n39) (beq_eq_false_iff_ne.2 n40) (beq_eq_false_iff_ne.2 n41) (beq_eq_false_iff_ne.2 n42)
end Go.Proofs.YtpfpollejhdbgaaDoor
