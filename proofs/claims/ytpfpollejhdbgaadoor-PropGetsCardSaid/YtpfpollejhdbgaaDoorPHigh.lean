/- Proved here: dovecoteref3.high tells a number's bytes, the highest first. Helper contracts. -/
import Derived.Test.YtpfpollejhdbgaaDoorPPutNum
import Derived.Test.YtpfpollejhdbgaaDoorTRefText
namespace Go.Proofs.YtpfpollejhdbgaaDoor
open Go.RowKit
set_option maxRecDepth 100000

set_option maxHeartbeats 4000000 in
theorem high_2 (n : Int) (w : World) (h0 : 0 ≤ n) (h1 : n ≤ 65535) : Calls Tryd.prog 41 #[.int .i64 n, .int .i64 2] w (NumPost 2 n w) := by
  unfold NumPost
  obtain ⟨i0, hi, hz0, hz1, hz2⟩ := info_parts Tryd.infoU8
  have HO0 : Hid (w.ownsRow w.heap.size 5 1 (.slice none 0 0) 0 (([] : List Int).map (Value.int .u8))) := World.ownsRow_nil _ _ _ _
  have HB0 : Hid (Below w.heap.size w w) := Below.refl _ _
  go_enter Tryd.func41, Tryd.ntmps41
  go_wp2
  refine wp_loop_rounds 3 ?_
  rw [rounds_succ]
  go_wp2_with (first
    | (at_builtin; refine wpList_append_own _ rfl _ _ 24 rfl w.heap.size 5 i0 (.int .u8 0) 1 1 Tryd.underlying24 hi hz0 hz1 hz2 rfl (by decide) _ _ _ rfl ((unhide HO0).alloc _) ⟨w.heap.size, 0, none⟩ 1 1 [.int .u8 (n / 256)] rfl rfl (one_cell _ _ _) (one_one _ _) (by unfold maxLen; omega) (by omega) (by have := (unhide HB0).size; simp <;> omega) ?_)
    | go_in)
  intro v1 w1 hown1 hgrow1 _
  have HB1 : Hid (Below w.heap.size w w1) := ((unhide HB0).alloc (unhide HB0).size _).grown hgrow1 (by have := (unhide HB0).size; simp <;> omega) (fun k hk => ((unhide HO0).lt k hk).1)
  have HO1 : Hid (w1.ownsRow w.heap.size 5 1 v1 1 (([n / 256] : List Int).map (Value.int .u8))) := by show World.ownsRow _ _ _ _ _ _ _; simpa using hown1
  clear hgrow1 hown1
  go_wp2
  rw [rounds_succ]
  go_wp2_with (first
    | (at_builtin; refine wpList_append_own _ rfl _ _ 24 rfl w.heap.size 5 i0 (.int .u8 0) 1 1 Tryd.underlying24 hi hz0 hz1 hz2 rfl (by decide) _ _ _ rfl ((unhide HO1).alloc _) ⟨w1.heap.size, 0, none⟩ 1 1 [.int .u8 (n % 256)] rfl rfl (one_cell _ _ _) (one_one _ _) (by unfold maxLen; omega) (by omega) (by have := (unhide HB1).size; simp <;> omega) ?_)
    | go_in)
  intro v2 w2 hown2 hgrow2 _
  have HB2 : Hid (Below w.heap.size w w2) := ((unhide HB1).alloc (unhide HB1).size _).grown hgrow2 (by have := (unhide HB1).size; simp <;> omega) (fun k hk => ((unhide HO1).lt k hk).1)
  have HO2 : Hid (w2.ownsRow w.heap.size 5 1 v2 2 (([n / 256, n % 256] : List Int).map (Value.int .u8))) := by show World.ownsRow _ _ _ _ _ _ _; simpa using hown2
  clear hgrow2 hown2
  go_wp2
  rw [rounds_succ]
  go_wp2
  go_ret
  exact ⟨_, rfl, by exact unhide HO2, unhide HB2⟩
set_option maxHeartbeats 4000000 in
theorem high_4 (n : Int) (w : World) (h0 : 0 ≤ n) (h1 : n ≤ 4294967295) : Calls Tryd.prog 41 #[.int .i64 n, .int .i64 4] w (NumPost 4 n w) := by
  unfold NumPost
  obtain ⟨i0, hi, hz0, hz1, hz2⟩ := info_parts Tryd.infoU8
  have HO0 : Hid (w.ownsRow w.heap.size 5 1 (.slice none 0 0) 0 (([] : List Int).map (Value.int .u8))) := World.ownsRow_nil _ _ _ _
  have HB0 : Hid (Below w.heap.size w w) := Below.refl _ _
  go_enter Tryd.func41, Tryd.ntmps41
  go_wp2
  refine wp_loop_rounds 5 ?_
  rw [rounds_succ]
  go_wp2_with (first
    | (at_builtin; refine wpList_append_own _ rfl _ _ 24 rfl w.heap.size 5 i0 (.int .u8 0) 1 1 Tryd.underlying24 hi hz0 hz1 hz2 rfl (by decide) _ _ _ rfl ((unhide HO0).alloc _) ⟨w.heap.size, 0, none⟩ 1 1 [.int .u8 (n / 16777216)] rfl rfl (one_cell _ _ _) (one_one _ _) (by unfold maxLen; omega) (by omega) (by have := (unhide HB0).size; simp <;> omega) ?_)
    | go_in)
  intro v1 w1 hown1 hgrow1 _
  have HB1 : Hid (Below w.heap.size w w1) := ((unhide HB0).alloc (unhide HB0).size _).grown hgrow1 (by have := (unhide HB0).size; simp <;> omega) (fun k hk => ((unhide HO0).lt k hk).1)
  have HO1 : Hid (w1.ownsRow w.heap.size 5 1 v1 1 (([n / 16777216] : List Int).map (Value.int .u8))) := by show World.ownsRow _ _ _ _ _ _ _; simpa using hown1
  clear hgrow1 hown1
  go_wp2
  rw [rounds_succ]
  go_wp2_with (first
    | (at_builtin; refine wpList_append_own _ rfl _ _ 24 rfl w.heap.size 5 i0 (.int .u8 0) 1 1 Tryd.underlying24 hi hz0 hz1 hz2 rfl (by decide) _ _ _ rfl ((unhide HO1).alloc _) ⟨w1.heap.size, 0, none⟩ 1 1 [.int .u8 (n / 65536 % 256)] rfl rfl (one_cell _ _ _) (one_one _ _) (by unfold maxLen; omega) (by omega) (by have := (unhide HB1).size; simp <;> omega) ?_)
    | go_in)
  intro v2 w2 hown2 hgrow2 _
  have HB2 : Hid (Below w.heap.size w w2) := ((unhide HB1).alloc (unhide HB1).size _).grown hgrow2 (by have := (unhide HB1).size; simp <;> omega) (fun k hk => ((unhide HO1).lt k hk).1)
  have HO2 : Hid (w2.ownsRow w.heap.size 5 1 v2 2 (([n / 16777216, n / 65536 % 256] : List Int).map (Value.int .u8))) := by show World.ownsRow _ _ _ _ _ _ _; simpa using hown2
  clear hgrow2 hown2
  go_wp2
  rw [rounds_succ]
  go_wp2_with (first
    | (at_builtin; refine wpList_append_own _ rfl _ _ 24 rfl w.heap.size 5 i0 (.int .u8 0) 1 1 Tryd.underlying24 hi hz0 hz1 hz2 rfl (by decide) _ _ _ rfl ((unhide HO2).alloc _) ⟨w2.heap.size, 0, none⟩ 1 1 [.int .u8 (n / 256 % 256)] rfl rfl (one_cell _ _ _) (one_one _ _) (by unfold maxLen; omega) (by omega) (by have := (unhide HB2).size; simp <;> omega) ?_)
    | go_in)
  intro v3 w3 hown3 hgrow3 _
  have HB3 : Hid (Below w.heap.size w w3) := ((unhide HB2).alloc (unhide HB2).size _).grown hgrow3 (by have := (unhide HB2).size; simp <;> omega) (fun k hk => ((unhide HO2).lt k hk).1)
  have HO3 : Hid (w3.ownsRow w.heap.size 5 1 v3 3 (([n / 16777216, n / 65536 % 256, n / 256 % 256] : List Int).map (Value.int .u8))) := by show World.ownsRow _ _ _ _ _ _ _; simpa using hown3
  clear hgrow3 hown3
  go_wp2
  rw [rounds_succ]
  go_wp2_with (first
    | (at_builtin; refine wpList_append_own _ rfl _ _ 24 rfl w.heap.size 5 i0 (.int .u8 0) 1 1 Tryd.underlying24 hi hz0 hz1 hz2 rfl (by decide) _ _ _ rfl ((unhide HO3).alloc _) ⟨w3.heap.size, 0, none⟩ 1 1 [.int .u8 (n % 256)] rfl rfl (one_cell _ _ _) (one_one _ _) (by unfold maxLen; omega) (by omega) (by have := (unhide HB3).size; simp <;> omega) ?_)
    | go_in)
  intro v4 w4 hown4 hgrow4 _
  have HB4 : Hid (Below w.heap.size w w4) := ((unhide HB3).alloc (unhide HB3).size _).grown hgrow4 (by have := (unhide HB3).size; simp <;> omega) (fun k hk => ((unhide HO3).lt k hk).1)
  have HO4 : Hid (w4.ownsRow w.heap.size 5 1 v4 4 (([n / 16777216, n / 65536 % 256, n / 256 % 256, n % 256] : List Int).map (Value.int .u8))) := by show World.ownsRow _ _ _ _ _ _ _; simpa using hown4
  clear hgrow4 hown4
  go_wp2
  rw [rounds_succ]
  go_wp2
  go_ret
  exact ⟨_, rfl, by exact unhide HO4, unhide HB4⟩
end Go.Proofs.YtpfpollejhdbgaaDoor
