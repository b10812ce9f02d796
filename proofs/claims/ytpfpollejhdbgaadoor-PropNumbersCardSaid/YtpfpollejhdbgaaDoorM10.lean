/- Proved here: helpers, one text behind the other. -/
import Derived.Test.YtpfpollejhdbgaaDoorM4
import Derived.Test.YtpfpollejhdbgaaDoorM9
import Derived.Test.YtpfpollejhdbgaaDoorM5
import Derived.Test.YtpfpollejhdbgaaDoorM6
import Derived.Deep.RegionHeld3
import Derived.Test.YtpfpollejhdbgaaDoorM3
import Derived.Test.YtpfpollejhdbgaaDoorM1
/- Proved here: dovecoteref3.high tells a number's bytes, the highest first. Helper contracts. -/
namespace Go.Proofs.YtpfpollejhdbgaaDoor
open Go.RowKit
set_option maxRecDepth 100000

set_option maxHeartbeats 4000000 in
theorem high_2 (n : Int) (w : World) (h0 : 0 ≤ n) (h1 : n ≤ 65535) : Calls Tryd.prog 41 #[.int .i64 n, .int .i64 2] w (NumPost 2 n w) := by
  unfold NumPost
  obtain ⟨i0, hi, hz0, hz1, hz2⟩ := info_parts Tryd.infoU8
  have HO0 : Hid (w.ownsRow w.heap.size 5 1 (.slice none 0 0) 0 (([] : List Int).map (Value.int .u8))) := World.ownsRow_nil _ _ _ _
  have HB0 : Hid (Below w.heap.size w w) := Below.refl _ _
  go_enter Tryd.func41, Tryd.ntmps41
  go_wp2
  refine wp_loop_rounds 3 ?_
  rw [rounds_succ]
  go_wp2_with (first
    | (at_builtin; refine wpList_append_own _ rfl _ _ 24 rfl w.heap.size 5 i0 (.int .u8 0) 1 1 Tryd.underlying24 hi hz0 hz1 hz2 rfl (by decide) _ _ _ rfl ((unhide HO0).alloc _) ⟨w.heap.size, 0, none⟩ 1 1 [.int .u8 (n / 256)] rfl rfl (one_cell _ _ _) (one_one _ _) (by unfold maxLen; omega) (by omega) (by have := (unhide HB0).size; simp <;> omega) ?_)
    | go_in)
  intro v1 w1 hown1 hgrow1 _
  have HB1 : Hid (Below w.heap.size w w1) := ((unhide HB0).alloc (unhide HB0).size _).grown hgrow1 (by have := (unhide HB0).size; simp <;> omega) (fun k hk => ((unhide HO0).lt k hk).1)
  have HO1 : Hid (w1.ownsRow w.heap.size 5 1 v1 1 (([n / 256] : List Int).map (Value.int .u8))) := by show World.ownsRow _ _ _ _ _ _ _; simpa using hown1
  clear hgrow1 hown1
  go_wp2
  rw [rounds_succ]
  go_wp2_with (first
    | (at_builtin; refine wpList_append_own _ rfl _ _ 24 rfl w.heap.size 5 i0 (.int .u8 0) 1 1 Tryd.underlying24 hi hz0 hz1 hz2 rfl (by decide) _ _ _ rfl ((unhide HO1).alloc _) ⟨w1.heap.size, 0, none⟩ 1 1 [.int .u8 (n % 256)] rfl rfl (one_cell _ _ _) (one_one _ _) (by unfold maxLen; omega) (by omega) (by have := (unhide HB1).size; simp <;> omega) ?_)
    | go_in)
  intro v2 w2 hown2 hgrow2 _
  have HB2 : Hid (Below w.heap.size w w2) := ((unhide HB1).alloc (unhide HB1).size _).grown hgrow2 (by have := (unhide HB1).size; simp <;> omega) (fun k hk => ((unhide HO1).lt k hk).1)
  have HO2 : Hid (w2.ownsRow w.heap.size 5 1 v2 2 (([n / 256, n % 256] : List Int).map (Value.int .u8))) := by show World.ownsRow _ _ _ _ _ _ _; simpa using hown2
  clear hgrow2 hown2
  go_wp2
  rw [rounds_succ]
  go_wp2
  go_ret
  exact ⟨_, rfl, by exact unhide HO2, unhide HB2⟩
set_option maxHeartbeats 4000000 in
theorem high_4 (n : Int) (w : World) (h0 : 0 ≤ n) (h1 : n ≤ 4294967295) : Calls Tryd.prog 41 #[.int .i64 n, .int .i64 4] w (NumPost 4 n w) := by
  unfold NumPost
  obtain ⟨i0, hi, hz0, hz1, hz2⟩ := info_parts Tryd.infoU8
  have HO0 : Hid (w.ownsRow w.heap.size 5 1 (.slice none 0 0) 0 (([] : List Int).map (Value.int .u8))) := World.ownsRow_nil _ _ _ _
  have HB0 : Hid (Below w.heap.size w w) := Below.refl _ _
  go_enter Tryd.func41, Tryd.ntmps41
  go_wp2
  refine wp_loop_rounds 5 ?_
  rw [rounds_succ]
  go_wp2_with (first
    | (at_builtin; refine wpList_append_own _ rfl _ _ 24 rfl w.heap.size 5 i0 (.int .u8 0) 1 1 Tryd.underlying24 hi hz0 hz1 hz2 rfl (by decide) _ _ _ rfl ((unhide HO0).alloc _) ⟨w.heap.size, 0, none⟩ 1 1 [.int .u8 (n / 16777216)] rfl rfl (one_cell _ _ _) (one_one _ _) (by unfold maxLen; omega) (by omega) (by have := (unhide HB0).size; simp <;> omega) ?_)
    | go_in)
  intro v1 w1 hown1 hgrow1 _
  have HB1 : Hid (Below w.heap.size w w1) := ((unhide HB0).alloc (unhide HB0).size _).grown hgrow1 (by have := (unhide HB0).size; simp <;> omega) (fun k hk => ((unhide HO0).lt k hk).1)
  have HO1 : Hid (w1.ownsRow w.heap.size 5 1 v1 1 (([n / 16777216] : List Int).map (Value.int .u8))) := by show World.ownsRow _ _ _ _ _ _ _; simpa using hown1
  clear hgrow1 hown1
  go_wp2
  rw [rounds_succ]
  go_wp2_with (first
    | (at_builtin; refine wpList_append_own _ rfl _ _ 24 rfl w.heap.size 5 i0 (.int .u8 0) 1 1 Tryd.underlying24 hi hz0 hz1 hz2 rfl (by decide) _ _ _ rfl ((unhide HO1).alloc _) ⟨w1.heap.size, 0, none⟩ 1 1 [.int .u8 (n / 65536 % 256)] rfl rfl (one_cell _ _ _) (one_one _ _) (by unfold maxLen; omega) (by omega) (by have := (unhide HB1).size; simp <;> omega) ?_)
    | go_in)
  intro v2 w2 hown2 hgrow2 _
  have HB2 : Hid (Below w.heap.size w w2) := ((unhide HB1).alloc (unhide HB1).size _).grown hgrow2 (by have := (unhide HB1).size; simp <;> omega) (fun k hk => ((unhide HO1).lt k hk).1)
  have HO2 : Hid (w2.ownsRow w.heap.size 5 1 v2 2 (([n / 16777216, n / 65536 % 256] : List Int).map (Value.int .u8))) := by show World.ownsRow _ _ _ _ _ _ _; simpa using hown2
  clear hgrow2 hown2
  go_wp2
  rw [rounds_succ]
  go_wp2_with (first
    | (at_builtin; refine wpList_append_own _ rfl _ _ 24 rfl w.heap.size 5 i0 (.int .u8 0) 1 1 Tryd.underlying24 hi hz0 hz1 hz2 rfl (by decide) _ _ _ rfl ((unhide HO2).alloc _) ⟨w2.heap.size, 0, none⟩ 1 1 [.int .u8 (n / 256 % 256)] rfl rfl (one_cell _ _ _) (one_one _ _) (by unfold maxLen; omega) (by omega) (by have := (unhide HB2).size; simp <;> omega) ?_)
    | go_in)
  intro v3 w3 hown3 hgrow3 _
  have HB3 : Hid (Below w.heap.size w w3) := ((unhide HB2).alloc (unhide HB2).size _).grown hgrow3 (by have := (unhide HB2).size; simp <;> omega) (fun k hk => ((unhide HO2).lt k hk).1)
  have HO3 : Hid (w3.ownsRow w.heap.size 5 1 v3 3 (([n / 16777216, n / 65536 % 256, n / 256 % 256] : List Int).map (Value.int .u8))) := by show World.ownsRow _ _ _ _ _ _ _; simpa using hown3
  clear hgrow3 hown3
  go_wp2
  rw [rounds_succ]
  go_wp2_with (first
    | (at_builtin; refine wpList_append_own _ rfl _ _ 24 rfl w.heap.size 5 i0 (.int .u8 0) 1 1 Tryd.underlying24 hi hz0 hz1 hz2 rfl (by decide) _ _ _ rfl ((unhide HO3).alloc _) ⟨w3.heap.size, 0, none⟩ 1 1 [.int .u8 (n % 256)] rfl rfl (one_cell _ _ _) (one_one _ _) (by unfold maxLen; omega) (by omega) (by have := (unhide HB3).size; simp <;> omega) ?_)
    | go_in)
  intro v4 w4 hown4 hgrow4 _
  have HB4 : Hid (Below w.heap.size w w4) := ((unhide HB3).alloc (unhide HB3).size _).grown hgrow4 (by have := (unhide HB3).size; simp <;> omega) (fun k hk => ((unhide HO3).lt k hk).1)
  have HO4 : Hid (w4.ownsRow w.heap.size 5 1 v4 4 (([n / 16777216, n / 65536 % 256, n / 256 % 256, n % 256] : List Int).map (Value.int .u8))) := by show World.ownsRow _ _ _ _ _ _ _; simpa using hown4
  clear hgrow4 hown4
  go_wp2
  rw [rounds_succ]
  go_wp2
  go_ret
  exact ⟨_, rfl, by exact unhide HO4, unhide HB4⟩
end Go.Proofs.YtpfpollejhdbgaaDoor
/- Proved here: dovecoteref3.put and Bytes tell the bytes of properties that may be (pb, pbs). Helper contracts. -/
namespace Go.Proofs.YtpfpollejhdbgaaDoor
open Go.RowKit
set_option maxRecDepth 100000

theorem rput_use (n : Int) (w : World) (h0 : 0 ≤ n) (h1 : n ≤ 268435455) : Calls Tryd.prog 28 #[.int .i64 n] w (fun e w' => ∃ v, e = .returned v ∧ Hid (w'.ownsRow w.heap.size 5 1 v (V.put n).length ((V.put n).map (Value.int .u8))) ∧ Hid (Byt w' v (V.put n)) ∧ Below w.heap.size w w') := by
  refine (V.rput_any n w h0 h1).mono ?_
  rintro e w' ⟨v, rfl, hown, hb⟩
  exact ⟨v, rfl, hown, byt_of_owns hown (V.put_range n h0 h1), hb⟩
theorem bin_use (s : ByteArray) (w : World) (hs : s.size ≤ 65535) : Calls Tryd.prog 42 #[.string s] w (fun e w' => ∃ v, e = .returned v ∧ Hid (Byt w' v (tx s)) ∧ Below w.heap.size w w') := by
  refine (bin_any s w hs).mono ?_
  rintro e w' ⟨v, rfl, hown, hb⟩
  exact ⟨v, rfl, byt_of_owns (unhide hown) (tx_range s hs), hb⟩
theorem high_use (k n : Int) (w : World) (hk : k = 2 ∧ n ≤ 65535 ∨ k = 4 ∧ n ≤ 4294967295) (h0 : 0 ≤ n) : Calls Tryd.prog 41 #[.int .i64 n, .int .i64 k] w (fun e w' => ∃ v, e = .returned v ∧ Hid (Byt w' v (nbs k n)) ∧ Below w.heap.size w w') := by
  have hr := nbs_range k n (by omega) h0
  have key : ∀ e w', NumPost k n w e w' → ∃ v, e = .returned v ∧ Hid (Byt w' v (nbs k n)) ∧ Below w.heap.size w w' := by
    rintro e w' ⟨v, rfl, hown, hb⟩
    exact ⟨v, rfl, byt_of_owns (unhide hown) hr, hb⟩
  rcases hk with ⟨rfl, h⟩ | ⟨rfl, h⟩
  · exact (high_2 n w h0 h).mono key
  · exact (high_4 n w h0 h).mono key
/-- put's answer -/
def PutP (l : List Int) (w : World) (e : Ending) (w' : World) : Prop := ∃ v, e = .returned v ∧ Hid (Byt w' v l) ∧ Below w.heap.size w w'
set_option maxHeartbeats 2000000 in
theorem rpp_2 (id n : Int) (s t : ByteArray) (w : World) (hi : 1 ≤ id ∧ id ≤ 42) (hk : kd id = 2) (h0 : 0 ≤ n) (h1 : n ≤ 65535) : Calls Tryd.prog 27 #[.agg #[.int .i64 id, .int .i64 n, .string s, .string t]] w (PutP (V.put id ++ (nbs 2 n)) w) := by
  have HK := hide hk
  clear hk
  have HL := hide (V.put_len id)
  go_enter Tryd.func27, Tryd.ntmps27
  go_wp2_with fail
  refine (rput_use id _ (by omega) (by omega)).mono ?_
  rintro e w1 ⟨v1, rfl, hown1, hy1, hb1⟩
  have HR := hide (unhide hy1).range
  have HB1 : Hid (Below w.heap.size w w1) := ((Below.refl _ _).alloc (Nat.le_refl _) _).trans (hb1.mono (by simp))
  have c0 : w1.cell? ⟨w.heap.size, 0, none⟩ = some (.int .i64 id) := (hb1.cell (p := ⟨w.heap.size, 0, none⟩) (by simp)).trans (by simp)
  have c1 : w1.cell? ⟨w.heap.size, 1, none⟩ = some (.int .i64 n) := (hb1.cell (p := ⟨w.heap.size, 1, none⟩) (by simp)).trans (by simp)
  have c2 : w1.cell? ⟨w.heap.size, 2, none⟩ = some (.string s) := (hb1.cell (p := ⟨w.heap.size, 2, none⟩) (by simp)).trans (by simp)
  have c3 : w1.cell? ⟨w.heap.size, 3, none⟩ = some (.string t) := (hb1.cell (p := ⟨w.heap.size, 3, none⟩) (by simp)).trans (by simp)
  have hlw : w.heap.size < w1.heap.size := cell_lt c0
  have HO1 : Hid (w1.ownsRow w.heap.size 5 1 v1 (V.put id).length ((V.put id).map (Value.int .u8))) := owns_mono (unhide hown1) (by simp)
  clear hb1 hown1 hy1
  go_wp2_with fail
  refine (kind_use _ 2 (unhide HK) _).mono ?_
  rintro e w' ⟨rfl, hw⟩
  obtain rfl := hw.symm
  clear hw
  have HLE : Hid (((nbs 2 n)).length ≤ 65537) := (by show List.length _ ≤ _; unfold nbs; simp)
  go_wp2_with fail
  refine (high_use 2 n _ (.inl ⟨rfl, h1⟩) h0).mono ?_
  rintro e w2 ⟨v2, rfl, hy2, hb2⟩
  have HO2 : Hid (w2.ownsRow w.heap.size 5 1 v1 (V.put id).length ((V.put id).map (Value.int .u8))) := owns_below (unhide HO1) hb2
  have HB2 : Hid (Below w.heap.size w w2) := (unhide HB1).trans (hb2.mono (unhide HB1).size)
  clear hb2 HB1 HO1 c0 c1 c2 c3
  go_wp2_with (first
    | (at_builtin; refine wpList_append_byt _ rfl _ _ rfl w.heap.size _ (V.put id).length (V.put id) rfl (unhide HO2) v2 (nbs 2 n) rfl (unhide hy2) (by have := unhide HL; have := unhide HLE; omega) (unhide HB2).size ?_)
    | go_in)
  intro v3 w3 hown3 hgrow3
  have hb3 : Below w.heap.size w w3 := (unhide HB2).grown hgrow3 (unhide HB2).size (fun k hk => ((unhide HO2).lt k hk).1)
  have HY3 : Hid (Byt w3 v3 (V.put id ++ (nbs 2 n))) := byt_of_owns (by rw [List.map_append]; exact hown3) (range_app (unhide HR) (unhide hy2).range)
  clear hown3 hgrow3
  go_wp2
  go_ret
  exact ⟨_, rfl, HY3, hb3⟩
set_option maxHeartbeats 2000000 in
theorem rpp_4 (id n : Int) (s t : ByteArray) (w : World) (hi : 1 ≤ id ∧ id ≤ 42) (hk : kd id = 4) (h0 : 0 ≤ n) (h1 : n ≤ 4294967295) : Calls Tryd.prog 27 #[.agg #[.int .i64 id, .int .i64 n, .string s, .string t]] w (PutP (V.put id ++ (nbs 4 n)) w) := by
  have HK := hide hk
  clear hk
  have HL := hide (V.put_len id)
  go_enter Tryd.func27, Tryd.ntmps27
  go_wp2_with fail
  refine (rput_use id _ (by omega) (by omega)).mono ?_
  rintro e w1 ⟨v1, rfl, hown1, hy1, hb1⟩
  have HR := hide (unhide hy1).range
  have HB1 : Hid (Below w.heap.size w w1) := ((Below.refl _ _).alloc (Nat.le_refl _) _).trans (hb1.mono (by simp))
  have c0 : w1.cell? ⟨w.heap.size, 0, none⟩ = some (.int .i64 id) := (hb1.cell (p := ⟨w.heap.size, 0, none⟩) (by simp)).trans (by simp)
  have c1 : w1.cell? ⟨w.heap.size, 1, none⟩ = some (.int .i64 n) := (hb1.cell (p := ⟨w.heap.size, 1, none⟩) (by simp)).trans (by simp)
  have c2 : w1.cell? ⟨w.heap.size, 2, none⟩ = some (.string s) := (hb1.cell (p := ⟨w.heap.size, 2, none⟩) (by simp)).trans (by simp)
  have c3 : w1.cell? ⟨w.heap.size, 3, none⟩ = some (.string t) := (hb1.cell (p := ⟨w.heap.size, 3, none⟩) (by simp)).trans (by simp)
  have hlw : w.heap.size < w1.heap.size := cell_lt c0
  have HO1 : Hid (w1.ownsRow w.heap.size 5 1 v1 (V.put id).length ((V.put id).map (Value.int .u8))) := owns_mono (unhide hown1) (by simp)
  clear hb1 hown1 hy1
  go_wp2_with fail
  refine (kind_use _ 4 (unhide HK) _).mono ?_
  rintro e w' ⟨rfl, hw⟩
  obtain rfl := hw.symm
  clear hw
  have HLE : Hid (((nbs 4 n)).length ≤ 65537) := (by show List.length _ ≤ _; unfold nbs; simp)
  go_wp2_with fail
  refine (high_use 4 n _ (.inr ⟨rfl, h1⟩) h0).mono ?_
  rintro e w2 ⟨v2, rfl, hy2, hb2⟩
  have HO2 : Hid (w2.ownsRow w.heap.size 5 1 v1 (V.put id).length ((V.put id).map (Value.int .u8))) := owns_below (unhide HO1) hb2
  have HB2 : Hid (Below w.heap.size w w2) := (unhide HB1).trans (hb2.mono (unhide HB1).size)
  clear hb2 HB1 HO1 c0 c1 c2 c3
  go_wp2_with (first
    | (at_builtin; refine wpList_append_byt _ rfl _ _ rfl w.heap.size _ (V.put id).length (V.put id) rfl (unhide HO2) v2 (nbs 4 n) rfl (unhide hy2) (by have := unhide HL; have := unhide HLE; omega) (unhide HB2).size ?_)
    | go_in)
  intro v3 w3 hown3 hgrow3
  have hb3 : Below w.heap.size w w3 := (unhide HB2).grown hgrow3 (unhide HB2).size (fun k hk => ((unhide HO2).lt k hk).1)
  have HY3 : Hid (Byt w3 v3 (V.put id ++ (nbs 4 n))) := byt_of_owns (by rw [List.map_append]; exact hown3) (range_app (unhide HR) (unhide hy2).range)
  clear hown3 hgrow3
  go_wp2
  go_ret
  exact ⟨_, rfl, HY3, hb3⟩
set_option maxHeartbeats 2000000 in
theorem rpp_5 (id n : Int) (s t : ByteArray) (w : World) (hi : 1 ≤ id ∧ id ≤ 42) (hk : kd id = 5) (h0 : 0 ≤ n) (h1 : n ≤ 268435455) : Calls Tryd.prog 27 #[.agg #[.int .i64 id, .int .i64 n, .string s, .string t]] w (PutP (V.put id ++ (V.put n)) w) := by
  have HK := hide hk
  clear hk
  have HL := hide (V.put_len id)
  go_enter Tryd.func27, Tryd.ntmps27
  go_wp2_with fail
  refine (rput_use id _ (by omega) (by omega)).mono ?_
  rintro e w1 ⟨v1, rfl, hown1, hy1, hb1⟩
  have HR := hide (unhide hy1).range
  have HB1 : Hid (Below w.heap.size w w1) := ((Below.refl _ _).alloc (Nat.le_refl _) _).trans (hb1.mono (by simp))
  have c0 : w1.cell? ⟨w.heap.size, 0, none⟩ = some (.int .i64 id) := (hb1.cell (p := ⟨w.heap.size, 0, none⟩) (by simp)).trans (by simp)
  have c1 : w1.cell? ⟨w.heap.size, 1, none⟩ = some (.int .i64 n) := (hb1.cell (p := ⟨w.heap.size, 1, none⟩) (by simp)).trans (by simp)
  have c2 : w1.cell? ⟨w.heap.size, 2, none⟩ = some (.string s) := (hb1.cell (p := ⟨w.heap.size, 2, none⟩) (by simp)).trans (by simp)
  have c3 : w1.cell? ⟨w.heap.size, 3, none⟩ = some (.string t) := (hb1.cell (p := ⟨w.heap.size, 3, none⟩) (by simp)).trans (by simp)
  have hlw : w.heap.size < w1.heap.size := cell_lt c0
  have HO1 : Hid (w1.ownsRow w.heap.size 5 1 v1 (V.put id).length ((V.put id).map (Value.int .u8))) := owns_mono (unhide hown1) (by simp)
  clear hb1 hown1 hy1
  go_wp2_with fail
  refine (kind_use _ 5 (unhide HK) _).mono ?_
  rintro e w' ⟨rfl, hw⟩
  obtain rfl := hw.symm
  clear hw
  have HLE : Hid ((V.put n).length ≤ 65537) := (by have := V.put_len n; show List.length _ ≤ _; omega)
  go_wp2_with fail
  refine (rput_use n _ h0 h1).mono ?_
  rintro e w2 ⟨v2, rfl, -, hy2, hb2⟩
  have HO2 : Hid (w2.ownsRow w.heap.size 5 1 v1 (V.put id).length ((V.put id).map (Value.int .u8))) := owns_below (unhide HO1) hb2
  have HB2 : Hid (Below w.heap.size w w2) := (unhide HB1).trans (hb2.mono (unhide HB1).size)
  clear hb2 HB1 HO1 c0 c1 c2 c3
  go_wp2_with (first
    | (at_builtin; refine wpList_append_byt _ rfl _ _ rfl w.heap.size _ (V.put id).length (V.put id) rfl (unhide HO2) v2 (V.put n) rfl (unhide hy2) (by have := unhide HL; have := unhide HLE; omega) (unhide HB2).size ?_)
    | go_in)
  intro v3 w3 hown3 hgrow3
  have hb3 : Below w.heap.size w w3 := (unhide HB2).grown hgrow3 (unhide HB2).size (fun k hk => ((unhide HO2).lt k hk).1)
  have HY3 : Hid (Byt w3 v3 (V.put id ++ (V.put n))) := byt_of_owns (by rw [List.map_append]; exact hown3) (range_app (unhide HR) (unhide hy2).range)
  clear hown3 hgrow3
  go_wp2
  go_ret
  exact ⟨_, rfl, HY3, hb3⟩
set_option maxHeartbeats 2000000 in
theorem rpp_6 (id n : Int) (s t : ByteArray) (w : World) (hi : 1 ≤ id ∧ id ≤ 42) (hk : kd id = 6) (hs : s.size ≤ 65535) : Calls Tryd.prog 27 #[.agg #[.int .i64 id, .int .i64 n, .string s, .string t]] w (PutP (V.put id ++ (tx s)) w) := by
  have HK := hide hk
  clear hk
  have HL := hide (V.put_len id)
  go_enter Tryd.func27, Tryd.ntmps27
  go_wp2_with fail
  refine (rput_use id _ (by omega) (by omega)).mono ?_
  rintro e w1 ⟨v1, rfl, hown1, hy1, hb1⟩
  have HR := hide (unhide hy1).range
  have HB1 : Hid (Below w.heap.size w w1) := ((Below.refl _ _).alloc (Nat.le_refl _) _).trans (hb1.mono (by simp))
  have c0 : w1.cell? ⟨w.heap.size, 0, none⟩ = some (.int .i64 id) := (hb1.cell (p := ⟨w.heap.size, 0, none⟩) (by simp)).trans (by simp)
  have c1 : w1.cell? ⟨w.heap.size, 1, none⟩ = some (.int .i64 n) := (hb1.cell (p := ⟨w.heap.size, 1, none⟩) (by simp)).trans (by simp)
  have c2 : w1.cell? ⟨w.heap.size, 2, none⟩ = some (.string s) := (hb1.cell (p := ⟨w.heap.size, 2, none⟩) (by simp)).trans (by simp)
  have c3 : w1.cell? ⟨w.heap.size, 3, none⟩ = some (.string t) := (hb1.cell (p := ⟨w.heap.size, 3, none⟩) (by simp)).trans (by simp)
  have hlw : w.heap.size < w1.heap.size := cell_lt c0
  have HO1 : Hid (w1.ownsRow w.heap.size 5 1 v1 (V.put id).length ((V.put id).map (Value.int .u8))) := owns_mono (unhide hown1) (by simp)
  clear hb1 hown1 hy1
  go_wp2_with fail
  refine (kind_use _ 6 (unhide HK) _).mono ?_
  rintro e w' ⟨rfl, hw⟩
  obtain rfl := hw.symm
  clear hw
  have HLE : Hid (((tx s)).length ≤ 65537) := (tx_len_le s hs)
  go_wp2_with fail
  refine (bin_use s _ hs).mono ?_
  rintro e w2 ⟨v2, rfl, hy2, hb2⟩
  have HO2 : Hid (w2.ownsRow w.heap.size 5 1 v1 (V.put id).length ((V.put id).map (Value.int .u8))) := owns_below (unhide HO1) hb2
  have HB2 : Hid (Below w.heap.size w w2) := (unhide HB1).trans (hb2.mono (unhide HB1).size)
  clear hb2 HB1 HO1 c0 c1 c2 c3
  go_wp2_with (first
    | (at_builtin; refine wpList_append_byt _ rfl _ _ rfl w.heap.size _ (V.put id).length (V.put id) rfl (unhide HO2) v2 (tx s) rfl (unhide hy2) (by have := unhide HL; have := unhide HLE; omega) (unhide HB2).size ?_)
    | go_in)
  intro v3 w3 hown3 hgrow3
  have hb3 : Below w.heap.size w w3 := (unhide HB2).grown hgrow3 (unhide HB2).size (fun k hk => ((unhide HO2).lt k hk).1)
  have HY3 : Hid (Byt w3 v3 (V.put id ++ (tx s))) := byt_of_owns (by rw [List.map_append]; exact hown3) (range_app (unhide HR) (unhide hy2).range)
  clear hown3 hgrow3
  go_wp2
  go_ret
  exact ⟨_, rfl, HY3, hb3⟩
set_option maxHeartbeats 2000000 in
theorem rpp_7 (id n : Int) (s t : ByteArray) (w : World) (hi : 1 ≤ id ∧ id ≤ 42) (hk : kd id = 7) (hs : s.size ≤ 65535) : Calls Tryd.prog 27 #[.agg #[.int .i64 id, .int .i64 n, .string s, .string t]] w (PutP (V.put id ++ (tx s)) w) := by
  have HK := hide hk
  clear hk
  have HL := hide (V.put_len id)
  go_enter Tryd.func27, Tryd.ntmps27
  go_wp2_with fail
  refine (rput_use id _ (by omega) (by omega)).mono ?_
  rintro e w1 ⟨v1, rfl, hown1, hy1, hb1⟩
  have HR := hide (unhide hy1).range
  have HB1 : Hid (Below w.heap.size w w1) := ((Below.refl _ _).alloc (Nat.le_refl _) _).trans (hb1.mono (by simp))
  have c0 : w1.cell? ⟨w.heap.size, 0, none⟩ = some (.int .i64 id) := (hb1.cell (p := ⟨w.heap.size, 0, none⟩) (by simp)).trans (by simp)
  have c1 : w1.cell? ⟨w.heap.size, 1, none⟩ = some (.int .i64 n) := (hb1.cell (p := ⟨w.heap.size, 1, none⟩) (by simp)).trans (by simp)
  have c2 : w1.cell? ⟨w.heap.size, 2, none⟩ = some (.string s) := (hb1.cell (p := ⟨w.heap.size, 2, none⟩) (by simp)).trans (by simp)
  have c3 : w1.cell? ⟨w.heap.size, 3, none⟩ = some (.string t) := (hb1.cell (p := ⟨w.heap.size, 3, none⟩) (by simp)).trans (by simp)
  have hlw : w.heap.size < w1.heap.size := cell_lt c0
  have HO1 : Hid (w1.ownsRow w.heap.size 5 1 v1 (V.put id).length ((V.put id).map (Value.int .u8))) := owns_mono (unhide hown1) (by simp)
  clear hb1 hown1 hy1
  go_wp2_with fail
  refine (kind_use _ 7 (unhide HK) _).mono ?_
  rintro e w' ⟨rfl, hw⟩
  obtain rfl := hw.symm
  clear hw
  have HLE : Hid (((tx s)).length ≤ 65537) := (tx_len_le s hs)
  go_wp2_with fail
  refine (bin_use s _ hs).mono ?_
  rintro e w2 ⟨v2, rfl, hy2, hb2⟩
  have HO2 : Hid (w2.ownsRow w.heap.size 5 1 v1 (V.put id).length ((V.put id).map (Value.int .u8))) := owns_below (unhide HO1) hb2
  have HB2 : Hid (Below w.heap.size w w2) := (unhide HB1).trans (hb2.mono (unhide HB1).size)
  clear hb2 HB1 HO1 c0 c1 c2 c3
  go_wp2_with (first
    | (at_builtin; refine wpList_append_byt _ rfl _ _ rfl w.heap.size _ (V.put id).length (V.put id) rfl (unhide HO2) v2 (tx s) rfl (unhide hy2) (by have := unhide HL; have := unhide HLE; omega) (unhide HB2).size ?_)
    | go_in)
  intro v3 w3 hown3 hgrow3
  have hb3 : Below w.heap.size w w3 := (unhide HB2).grown hgrow3 (unhide HB2).size (fun k hk => ((unhide HO2).lt k hk).1)
  have HY3 : Hid (Byt w3 v3 (V.put id ++ (tx s))) := byt_of_owns (by rw [List.map_append]; exact hown3) (range_app (unhide HR) (unhide hy2).range)
  clear hown3 hgrow3
  go_wp2
  go_ret
  exact ⟨_, rfl, HY3, hb3⟩
set_option maxHeartbeats 2000000 in
theorem rpp_1 (id n : Int) (s t : ByteArray) (w : World) (hi : 1 ≤ id ∧ id ≤ 42) (hk : kd id = 1) (h0 : 0 ≤ n) (h1 : n ≤ 1) : Calls Tryd.prog 27 #[.agg #[.int .i64 id, .int .i64 n, .string s, .string t]] w (PutP (V.put id ++ [n]) w) := by
  have HK := hide hk
  clear hk
  have HL := hide (V.put_len id)
  go_enter Tryd.func27, Tryd.ntmps27
  go_wp2_with fail
  refine (rput_use id _ (by omega) (by omega)).mono ?_
  rintro e w1 ⟨v1, rfl, hown1, hy1, hb1⟩
  have HR := hide (unhide hy1).range
  have HB1 : Hid (Below w.heap.size w w1) := ((Below.refl _ _).alloc (Nat.le_refl _) _).trans (hb1.mono (by simp))
  have c0 : w1.cell? ⟨w.heap.size, 0, none⟩ = some (.int .i64 id) := (hb1.cell (p := ⟨w.heap.size, 0, none⟩) (by simp)).trans (by simp)
  have c1 : w1.cell? ⟨w.heap.size, 1, none⟩ = some (.int .i64 n) := (hb1.cell (p := ⟨w.heap.size, 1, none⟩) (by simp)).trans (by simp)
  have c2 : w1.cell? ⟨w.heap.size, 2, none⟩ = some (.string s) := (hb1.cell (p := ⟨w.heap.size, 2, none⟩) (by simp)).trans (by simp)
  have c3 : w1.cell? ⟨w.heap.size, 3, none⟩ = some (.string t) := (hb1.cell (p := ⟨w.heap.size, 3, none⟩) (by simp)).trans (by simp)
  have hlw : w.heap.size < w1.heap.size := cell_lt c0
  have HO1 : Hid (w1.ownsRow w.heap.size 5 1 v1 (V.put id).length ((V.put id).map (Value.int .u8))) := owns_mono (unhide hown1) (by simp)
  clear hb1 hown1 hy1
  go_wp2_with fail
  refine (kind_use _ 1 (unhide HK) _).mono ?_
  rintro e w' ⟨rfl, hw⟩
  obtain rfl := hw.symm
  clear hw
  obtain ⟨i0, hi0, hz0, hz1, hz2⟩ := info_parts Tryd.infoU8
  go_wp2_with (first
    | (at_builtin; refine wpList_append_own _ rfl _ _ 24 rfl w.heap.size 5 i0 (.int .u8 0) 1 1 Tryd.underlying24 hi0 hz0 hz1 hz2 rfl (by decide) _ _ _ rfl ((unhide HO1).alloc _) ⟨w1.heap.size, 0, none⟩ 1 1 [.int .u8 n] rfl rfl (one_cell _ _ _) (one_one _ _) (by have := unhide HL; unfold maxLen; omega) (by have := unhide HL; omega) (by have := (unhide HB1).size; simp <;> omega) ?_)
    | go_in)
  intro v3 w3 hown3 hgrow3 _
  have hb3 : Below w.heap.size w w3 := ((unhide HB1).alloc (unhide HB1).size _).grown hgrow3 (by have := (unhide HB1).size; simp <;> omega) (fun k hk => ((unhide HO1).lt k hk).1)
  have HY3 : Hid (Byt w3 v3 (V.put id ++ [n])) := byt_of_owns (by rw [List.map_append]; exact hown3) (range_app (unhide HR) (fun j => by rcases j with _ | j <;> simp <;> omega))
  clear hown3 hgrow3
  go_wp2
  go_ret
  exact ⟨_, rfl, HY3, hb3⟩
theorem own_ne {w : World} {B e : Nat} {q : Nat} {v : Value} {n : Nat} {xs : List Value} (h : w.ownsRow (B + 1) e q v n xs) {i : Nat} : some (⟨B, i, none⟩ : Addr).block ≠ v.ownBlock := fun he => by
  have := (h.lt B he.symm).1
  omega
set_option maxHeartbeats 2000000 in
theorem rpp_8 (id n : Int) (s t : ByteArray) (w : World) (hi : 1 ≤ id ∧ id ≤ 42) (hk : kd id = 8) (hs : s.size ≤ 65535) (ht : t.size ≤ 65535) : Calls Tryd.prog 27 #[.agg #[.int .i64 id, .int .i64 n, .string s, .string t]] w (PutP (V.put id ++ (tx s ++ tx t)) w) := by
  have HK := hide hk
  clear hk
  have HL := hide (V.put_len id)
  go_enter Tryd.func27, Tryd.ntmps27
  go_wp2_with fail
  refine (rput_use id _ (by omega) (by omega)).mono ?_
  rintro e w1 ⟨v1, rfl, hown1, hy1, hb1⟩
  have HR := hide (unhide hy1).range
  have HB1 : Hid (Below w.heap.size w w1) := ((Below.refl _ _).alloc (Nat.le_refl _) _).trans (hb1.mono (by simp))
  have c0 : w1.cell? ⟨w.heap.size, 0, none⟩ = some (.int .i64 id) := (hb1.cell (p := ⟨w.heap.size, 0, none⟩) (by simp)).trans (by simp)
  have c1 : w1.cell? ⟨w.heap.size, 1, none⟩ = some (.int .i64 n) := (hb1.cell (p := ⟨w.heap.size, 1, none⟩) (by simp)).trans (by simp)
  have c2 : w1.cell? ⟨w.heap.size, 2, none⟩ = some (.string s) := (hb1.cell (p := ⟨w.heap.size, 2, none⟩) (by simp)).trans (by simp)
  have c3 : w1.cell? ⟨w.heap.size, 3, none⟩ = some (.string t) := (hb1.cell (p := ⟨w.heap.size, 3, none⟩) (by simp)).trans (by simp)
  have hlw : w.heap.size < w1.heap.size := cell_lt c0
  have HO1 : Hid (w1.ownsRow (w.heap.size + 1) 5 1 v1 (V.put id).length ((V.put id).map (Value.int .u8))) := owns_mono (unhide hown1) (by simp)
  clear hb1 hown1 hy1
  go_wp2_with fail
  refine (kind_use _ 8 (unhide HK) _).mono ?_
  rintro e w' ⟨rfl, hw⟩
  obtain rfl := hw.symm
  clear hw
  have HC : Hid (∀ W, Below w1.heap.size w1 W → W.cell? ⟨w.heap.size, 2, none⟩ = some (.string s) ∧ W.cell? ⟨w.heap.size, 3, none⟩ = some (.string t)) := fun W h => ⟨(h.cell (p := ⟨w.heap.size, 2, none⟩) hlw).trans c2, (h.cell (p := ⟨w.heap.size, 3, none⟩) hlw).trans c3⟩
  go_wp2_with fail
  refine wp_region_noPanic ?_
  refine wp_region_held_drew (S := (fun w' => w'.cell? ⟨w.heap.size, 2, none⟩ = some (.string s) ∧ w'.cell? ⟨w.heap.size, 3, none⟩ = some (.string t))) (by kernel_rfl) ((unhide HC) _ (below_drewN (Below.refl _ _) 1)) (fun hHeld => ?_)
  refine wpAnyH_take (i := 0) (oi := { dst := some 41, op := Op.move (Operand.tmp 3), type := 24, pos := "dovecoteref3.go:149", after := #[], guard := none }) (v := ?v1) rfl (by kernel_rfl) (by kernel_rfl) (by kernel_rfl) (fun _ _ _ h => h) (Or.inl ⟨by rfl, ?hy1⟩) (by assumption) ?rest1
  case hy1 => (intro w hSw; (try dsimp only at hSw); go_simp; (try rw [if_pos (by omega)]); (try with_reducible rfl))
  simp only [Act.put, List.setIfInBounds_toArray, List.set_cons_zero, List.set_cons_succ]
  refine wpAnyH_take (i := 1) (oi := { dst := some 42, op := Op.fieldAddr 49 (Operand.tmp 1) 2, type := 0, pos := "dovecoteref3.go:149", after := #[], guard := none }) (v := ?v2) rfl (by kernel_rfl) (by kernel_rfl) (by kernel_rfl) (fun _ _ _ h => h) (Or.inl ⟨by rfl, ?hy2⟩) (by assumption) ?rest2
  case hy2 => (intro w hSw; (try dsimp only at hSw); go_simp; (try rw [if_pos (by omega)]); (try with_reducible rfl))
  simp only [Act.put, List.setIfInBounds_toArray, List.set_cons_zero, List.set_cons_succ]
  refine wpAnyH_take (i := 2) (oi := { dst := some 43, op := Op.load 9 (Operand.tmp 42), type := 9, pos := "dovecoteref3.go:149", after := #[{ on := 1, ground := Ground.data }], guard := none }) (v := ?v3) rfl (by kernel_rfl) (by kernel_rfl) (by kernel_rfl) (fun _ _ _ h => h) (Or.inl ⟨by rfl, ?hy3⟩) (by assumption) ?rest3
  case hy3 => (intro w hSw; (try dsimp only at hSw); go_simp; (try rw [if_pos (by omega)]); (try with_reducible rfl))
  simp only [Act.put, List.setIfInBounds_toArray, List.set_cons_zero, List.set_cons_succ]
  refine wpAnyH_take (i := 5) (oi := { dst := some 46, op := Op.fieldAddr 49 (Operand.tmp 1) 3, type := 0, pos := "dovecoteref3.go:149", after := #[], guard := none }) (v := ?v4) rfl (by kernel_rfl) (by kernel_rfl) (by kernel_rfl) (fun _ _ _ h => h) (Or.inl ⟨by rfl, ?hy4⟩) (by assumption) ?rest4
  case hy4 => (intro w hSw; (try dsimp only at hSw); go_simp; (try rw [if_pos (by omega)]); (try with_reducible rfl))
  simp only [Act.put, List.setIfInBounds_toArray, List.set_cons_zero, List.set_cons_succ]
  refine wpAnyH_take (i := 6) (oi := { dst := some 47, op := Op.load 9 (Operand.tmp 46), type := 9, pos := "dovecoteref3.go:149", after := #[{ on := 5, ground := Ground.data }], guard := none }) (v := ?v5) rfl (by kernel_rfl) (by kernel_rfl) (by kernel_rfl) (fun _ _ _ h => h) (Or.inl ⟨by rfl, ?hy5⟩) (by assumption) ?rest5
  case hy5 => (intro w hSw; (try dsimp only at hSw); go_simp; (try rw [if_pos (by omega)]); (try with_reducible rfl))
  simp only [Act.put, List.setIfInBounds_toArray, List.set_cons_zero, List.set_cons_succ]
  refine wpAnyH_ready (rs := [3]) (by kernel_rfl) (by simp) ?_
  refine AllReadyH.cons (o := { dst := some 44, op := Op.call { callee := Callee.value (Operand.func 42), args := #[Operand.tmp 43], argTypes := #[9] }, type := 24, pos := "dovecoteref3.go:149", after := #[{ on := 2, ground := Ground.data }], guard := none }) rfl (fun K hK => ?_) AllReadyH.nil
  go_simp
  refine (bin_use s _ hs).mono ?_
  rintro e w2 ⟨v2, rfl, hy2, hb2⟩
  have HB2 : Hid (Below w1.heap.size w1 w2) := below_undrew1 hb2
  have HO2 : Hid (w2.ownsRow (w.heap.size + 1) 5 1 v1 (V.put id).length ((V.put id).map (Value.int .u8))) := owns_below (unhide HO1) (unhide HB2)
  clear hb2
  go_wp2_with fail
  refine hK.out _ _ ((unhide HC) _ (unhide HB2)) (fun hHeld => ?_)
  clear hK K
  refine wpAnyH_ready (rs := [4]) (by kernel_rfl) (by simp) ?_
  refine AllReadyH.cons (o := { dst := some 45, op := Op.call { callee := Callee.builtin Builtin.append, args := #[Operand.tmp 41, Operand.tmp 44], argTypes := #[24, 24] }, type := 24, pos := "dovecoteref3.go:149", after := #[{ on := 0, ground := Ground.data }, { on := 3, ground := Ground.data }, { on := 3, ground := Ground.chain }], guard := none }) rfl (fun K hK => ?_) AllReadyH.nil
  refine step_append_byt rfl _ _ rfl (w.heap.size + 1) v1 (V.put id).length (V.put id) rfl (unhide HO2) v2 (tx s) rfl (unhide hy2) (by have := unhide HL; rw [tx_length]; omega) (by have := (unhide HB2).size; omega) ?_
  intro v3 w3 hown3 hgrow3
  have HB3 : Hid (Below w.heap.size w w3) := ((unhide HB1).trans ((unhide HB2).mono (unhide HB1).size)).grown hgrow3 (by have := (unhide HB2).size; omega) (fun g hg => (by have := ((unhide HO2).lt g hg).1; omega))
  have HN3 : Hid (w3.cell? ⟨w.heap.size, 2, none⟩ = some (.string s) ∧ w3.cell? ⟨w.heap.size, 3, none⟩ = some (.string t)) := by
    have hc := (unhide HC) w2 (unhide HB2)
    exact ⟨hgrow3.cell hc.1 (own_ne (unhide HO2)), hgrow3.cell hc.2 (own_ne (unhide HO2))⟩
  have HO3 := hide hown3
  clear hown3 hgrow3
  refine hK.out _ _ (by exact unhide HN3) (fun hHeld => ?_)
  clear hK K
  simp only [Act.put, List.setIfInBounds_toArray, List.set_cons_zero, List.set_cons_succ]
  refine wpAnyH_ready (rs := [7]) (by kernel_rfl) (by simp) ?_
  refine AllReadyH.cons (o := { dst := some 48, op := Op.call { callee := Callee.value (Operand.func 42), args := #[Operand.tmp 47], argTypes := #[9] }, type := 24, pos := "dovecoteref3.go:149", after := #[{ on := 6, ground := Ground.data }, { on := 4, ground := Ground.chain }], guard := none }) rfl (fun K hK => ?_) AllReadyH.nil
  go_simp
  refine (bin_use t _ ht).mono ?_
  rintro e w4 ⟨v4, rfl, hy4, hb4⟩
  have HB4 : Hid (Below w.heap.size w w4) := (unhide HB3).trans (hb4.mono (unhide HB3).size)
  have HO4 := hide (owns_below (unhide HO3) hb4)
  have HN4 : Hid (w4.cell? ⟨w.heap.size, 2, none⟩ = some (.string s) ∧ w4.cell? ⟨w.heap.size, 3, none⟩ = some (.string t)) := ⟨(hb4.cell (cell_lt (unhide HN3).1)).trans (unhide HN3).1, (hb4.cell (cell_lt (unhide HN3).2)).trans (unhide HN3).2⟩
  clear hb4
  go_wp2_with fail
  refine hK.out _ _ (by exact unhide HN4) (fun hHeld => ?_)
  clear hK K
  refine wpAnyH_ready (rs := [8]) (by kernel_rfl) (by simp) ?_
  refine AllReadyH.cons (o := { dst := some 49, op := Op.call { callee := Callee.builtin Builtin.append, args := #[Operand.tmp 45, Operand.tmp 48], argTypes := #[24, 24] }, type := 24, pos := "dovecoteref3.go:149", after := #[{ on := 4, ground := Ground.data }, { on := 7, ground := Ground.data }, { on := 7, ground := Ground.chain }], guard := none }) rfl (fun K hK => ?_) AllReadyH.nil
  refine step_append_byt rfl _ _ rfl (w.heap.size + 1) v3 _ (V.put id ++ tx s) rfl (unhide HO4) v4 (tx t) rfl (unhide hy4) (by have := unhide HL; rw [tx_length, tx_length]; omega) (by have := cell_lt (unhide HN4).1; simp at this; omega) ?_
  intro v5 w5 hown5 hgrow5
  have HB5 : Hid (Below w.heap.size w w5) := (unhide HB4).grown hgrow5 (unhide HB4).size (fun g hg => (by have := ((unhide HO4).lt g hg).1; omega))
  have HN5 : Hid (w5.cell? ⟨w.heap.size, 2, none⟩ = some (.string s) ∧ w5.cell? ⟨w.heap.size, 3, none⟩ = some (.string t)) := ⟨hgrow5.cell (unhide HN4).1 (own_ne (unhide HO4)), hgrow5.cell (unhide HN4).2 (own_ne (unhide HO4))⟩
  have HY5 : Hid (Byt w5 v5 (V.put id ++ (tx s ++ tx t))) := by
    rw [← List.append_assoc]
    exact byt_of_owns hown5 (range_app (range_app (unhide HR) (tx_range s hs)) (tx_range t ht))
  clear hown5 hgrow5
  refine hK.out _ _ (by exact unhide HN5) (fun hHeld => ?_)
  clear hK K
  simp only [Act.put, List.setIfInBounds_toArray, List.set_cons_zero, List.set_cons_succ]
  refine wpAnyH_take (i := 9) (oi := { dst := some 2, op := Op.assign (Operand.tmp 49), type := 24, pos := "dovecoteref3.go:149", after := #[{ on := 8, ground := Ground.data }, { on := 8, ground := Ground.chain }, { on := 0, ground := Ground.phase }, { on := 1, ground := Ground.phase }, { on := 2, ground := Ground.phase }, { on := 3, ground := Ground.phase }, { on := 4, ground := Ground.phase }, { on := 5, ground := Ground.phase }, { on := 6, ground := Ground.phase }, { on := 7, ground := Ground.phase }, { on := 8, ground := Ground.phase }], guard := none }) (v := ?v6) rfl (by kernel_rfl) (by kernel_rfl) (by kernel_rfl) (fun _ _ _ h => h) (Or.inl ⟨by rfl, ?hy6⟩) (by assumption) ?rest6
  case hy6 => (intro w hSw; (try dsimp only at hSw); go_simp; (try rw [if_pos (by omega)]); (try with_reducible rfl))
  simp only [Act.put, List.setIfInBounds_toArray, List.set_cons_zero, List.set_cons_succ]
  refine wpAnyH_done (by kernel_rfl) ?_ _
  refine NoPanic.normal ?_
  go_wp2
  go_ret
  exact ⟨_, rfl, HY5, unhide HB5⟩
theorem rput3 (id n : Int) (s t : ByteArray) (w : World) (hi : 1 ≤ id ∧ id ≤ 42) (hm : may (id, n, s, t) = true) : Calls Tryd.prog 27 #[.agg #[.int .i64 id, .int .i64 n, .string s, .string t]] w (PutP (pb (id, n, s, t)) w) := by
  have hpb : pb (id, n, s, t) = V.put id ++ pvb (id, n, s, t) := rfl
  rw [hpb]
  unfold may at hm
  rw [Bool.and_eq_true] at hm
  obtain ⟨hf, ht⟩ := hm
  obtain ⟨h0, h1, h2⟩ := fit_num hf
  have hx : mx id = (if kd id = 1 then 1 else if kd id = 2 then 65535 else if kd id = 4 then 4294967295 else if kd id = 5 then 268435455 else 0) := rfl
  rcases kd_cases id with h | h | h | h | h | h | h | h
  · unfold txo at ht; simp [h] at ht
  · rw [show pvb (id, n, s, t) = [n] from by unfold pvb; simp [h]]
    rw [if_pos h] at hx
    exact rpp_1 id n s t w hi h h0 (by omega)
  · rw [pvb_num id n s t 2 h (by omega)]
    rw [if_neg (by omega), if_pos h] at hx
    exact rpp_2 id n s t w hi h h0 (by omega)
  · rw [pvb_num id n s t 4 h (by omega)]
    rw [if_neg (by omega), if_neg (by omega), if_pos h] at hx
    exact rpp_4 id n s t w hi h h0 (by omega)
  · rw [show pvb (id, n, s, t) = V.put n from by unfold pvb; simp [h]]
    rw [if_neg (by omega), if_neg (by omega), if_neg (by omega), if_pos h] at hx
    exact rpp_5 id n s t w hi h h0 (by omega)
  · rw [show pvb (id, n, s, t) = tx s from by unfold pvb; simp [h]]
    have hc : chk (sb s) = 0 := by unfold txo at ht; simpa [h] using ht
    exact rpp_6 id n s t w hi h (by have := chk_0 hc; rw [sb_length] at this; exact this)
  · rw [show pvb (id, n, s, t) = tx s from by unfold pvb; simp [h]]
    exact rpp_7 id n s t w hi h (by unfold txo at ht; simpa [h] using ht)
  · rw [show pvb (id, n, s, t) = tx s ++ tx t from by unfold pvb; simp [h]]
    have hc : chk (sb s) = 0 ∧ chk (sb t) = 0 := by unfold txo at ht; simpa [h] using ht
    exact rpp_8 id n s t w hi h (by have := chk_0 hc.1; rw [sb_length] at this; exact this) (by have := chk_0 hc.2; rw [sb_length] at this; exact this)
set_option maxHeartbeats 4000000 in
theorem rbytes_core (b off cap : Nat) (l : List Pr) (len : Nat) (place : Int) (w : World) (hlen : l.length = len) (h200 : len ≤ 200) (hok : okTo place l len) (hl : PrAt w b off l) :
    Calls Tryd.prog 12 #[.slice (some ⟨b, off, none⟩) len cap] w (PutP (pbs l) w) := by
  have HL := hide hl
  have HLEN := hide hlen
  have HOK := hide hok
  clear hl hlen hok
  go_enter Tryd.func12, Tryd.ntmps12
  go_wp2
  go_loopw [3, 4] (fun v i wr => ∃ k S : Nat, k ≤ len ∧ i = .int .i64 k ∧ S ≤ k * 131078 ∧ Hid ((body (l.take k)).length = S) ∧ Hid (wr.ownsRow w.heap.size 5 1 v S ((body (l.take k)).map (Value.int .u8))) ∧ Hid (∀ j, 0 ≤ (body (l.take k)).getD j 0 ∧ (body (l.take k)).getD j 0 ≤ 255) ∧ Below w.heap.size w wr) (fun _ i _ => len - (intOf i).toNat)
  case atStart => exact ⟨0, 0, Nat.zero_le _, rfl, by omega, by simp [body]; trivial, World.ownsRow_nil _ _ _ _, fun j => by simp [body], Below.refl _ _⟩
  case round =>
    obtain ⟨k, S, hk, rfl, hS, HS, HOWN, HRG, hbel⟩ := hrel
    by_cases hlt : k < len
    · have HLTk : Hid (k < l.length) := by show _ < _; rw [unhide HLEN]; exact hlt
      obtain ⟨h0, h1, h2, h3⟩ := ((unhide HL).below hbel) k (unhide HLTk)
      have hmm := okAt_may ((unhide HOK) k hlt)
      have HPB := hide (body_take l k (unhide HLTk))
      obtain ⟨id, n, s, t, hp⟩ : ∃ id n s t, at0 l k = (id, n, s, t) := ⟨_, _, _, _, rfl⟩
      rw [hp] at h0 h1 h2 h3 HPB hmm
      simp only at h0 h1 h2 h3 hmm
      have hpl := pb_le _ hmm.1
      have HV := hide (fun W => rput3 id n s t W (id_range _ _ hmm.2) hmm.1)
      have HBEL := hide hbel
      have hsz := hbel.size
      clear hp hbel hmm
      generalize pb (id, n, s, t) = L at HV hpl HPB
      go_wp2_with fail
      refine ((unhide HV) _).mono ?_
      rintro e w2 ⟨v2, rfl, hy2, hb2⟩
      have HO2 : Hid (w2.ownsRow w.heap.size 5 1 u3 S ((body (l.take k)).map (Value.int .u8))) := owns_below (unhide HOWN) hb2
      have HB2 : Hid (Below w.heap.size w w2) := (unhide HBEL).trans (hb2.mono hsz)
      clear hb2 HBEL HOWN h0 h1 h2 h3 HV
      go_wp2_with (first
        | (at_builtin; refine wpList_append_byt _ rfl _ _ rfl w.heap.size _ S (body (l.take k)) rfl (unhide HO2) v2 L rfl (unhide hy2) (by omega) (unhide HB2).size ?_)
        | go_in)
      intro v4 w4 hown4 hgrow4
      have HB4 : Hid (Below w.heap.size w w4) := (unhide HB2).grown hgrow4 (unhide HB2).size (fun g hg => ((unhide HO2).lt g hg).1)
      have HS4 : Hid ((body (l.take (k + 1))).length = S + L.length) := by show _ = _; rw [unhide HPB, List.length_append, unhide HS]
      have HOWN4 : Hid (w4.ownsRow w.heap.size 5 1 v4 (S + L.length) ((body (l.take (k + 1))).map (Value.int .u8))) := by
        show World.ownsRow _ _ _ _ _ _ _
        rw [unhide HPB, List.map_append]
        exact hown4
      have HRG4 : Hid (∀ j, 0 ≤ (body (l.take (k + 1))).getD j 0 ∧ (body (l.take (k + 1))).getD j 0 ≤ 255) := by
        show ∀ j, _
        rw [unhide HPB]
        exact range_app (unhide HRG) (unhide hy2).range
      clear hown4 hgrow4
      go_wp2
      go_roundw
      case rel => exact ⟨k + 1, S + L.length, by omega, by go_num, by omega, HS4, HOWN4, HRG4, unhide HB4⟩
      case measure => simp [intOf]; omega
    · obtain rfl : k = len := by omega
      have HT : Hid (l.take k = l) := List.take_of_length_le (Nat.le_of_eq (unhide HLEN))
      rw [unhide HT] at HS HOWN HRG
      have HZ : Hid (pbs l = V.put S ++ body l) := by show pbs l = _; unfold pbs; rw [unhide HS]
      have HPL := hide (V.put_len S)
      have HBEL := hide hbel
      have HOF := hide (unhide HOWN)
      obtain ⟨ao, vc, hv⟩ : ∃ ao vc, u3 = .slice ao S vc := by
        have hb := byt_of_owns (unhide HOWN) (unhide HRG)
        obtain ⟨ao, vc, h, _⟩ := hb.form
        rw [unhide HS] at h
        exact ⟨ao, vc, h⟩
      subst hv
      clear hbel
      go_wp2_with fail
      refine (rput_use S _ (by omega) (by omega)).mono ?_
      rintro e w2 ⟨v2, rfl, hown2, hy2, hb2⟩
      have HB2 : Hid (Below w.heap.size w w2) := (unhide HBEL).trans (hb2.mono (unhide HBEL).size)
      have HO2 : Hid (w2.ownsRow w.heap.size 5 1 v2 (V.put S).length ((V.put S).map (Value.int .u8))) := owns_mono (unhide hown2) (unhide HBEL).size
      have HYB : Hid (Byt w2 (.slice ao S vc) (body l)) := (byt_of_owns (unhide HOWN) (unhide HRG)).below hb2
      clear hb2 hown2
      go_wp2_with (first
        | (at_builtin; refine wpList_append_byt _ rfl _ _ rfl w.heap.size _ (V.put S).length (V.put S) rfl (unhide HO2) (.slice ao S vc) (body l) rfl (unhide HYB) (by have := unhide HPL; have := unhide HS; omega) (unhide HB2).size ?_)
        | go_in)
      intro v4 w4 hown4 hgrow4
      have HB4 : Hid (Below w.heap.size w w4) := (unhide HB2).grown hgrow4 (unhide HB2).size (fun g hg => ((unhide HO2).lt g hg).1)
      have HY4 : Hid (Byt w4 v4 (pbs l)) := by
        show Byt _ _ _
        rw [unhide HZ]
        exact byt_of_owns (by rw [List.map_append]; exact hown4) (range_app (unhide hy2).range (unhide HRG))
      clear hown4 hgrow4
      go_wp2
      go_ret
      exact ⟨_, rfl, HY4, unhide HB4⟩
theorem put_zero : V.put 0 = [0] := rfl
theorem rbytes_nil (ao : Option Addr) (cap : Nat) (w : World) : Calls Tryd.prog 12 #[.slice ao 0 cap] w (PutP (pbs []) w) := by
  have HZ : Hid (pbs [] = [0]) := rfl
  go_enter Tryd.func12, Tryd.ntmps12
  go_wp2
  refine wp_loop_rounds 1 ?_
  rw [rounds_succ]
  go_wp2_with fail
  refine (rput_use 0 _ (by omega) (by omega)).mono ?_
  rintro e w2 ⟨v2, rfl, hown2, hy2, hb2⟩
  have HB2 := hide hb2
  have HE : Hid (Byt w2 (.slice none 0 0) []) := ⟨none, 0, rfl, ⟨Nat.le_refl _, by unfold maxLen; omega⟩, fun j => by simp, .inl rfl⟩
  clear hb2
  go_wp2_with (first
    | (at_builtin; refine wpList_append_byt _ rfl _ _ rfl w.heap.size _ (V.put 0).length (V.put 0) rfl (unhide hown2) (.slice none 0 0) [] rfl (unhide HE) (by simp [put_zero]) (unhide HB2).size ?_)
    | go_in)
  intro v4 w4 hown4 hgrow4
  have HB4 : Hid (Below w.heap.size w w4) := (unhide HB2).grown hgrow4 (unhide HB2).size (fun g hg => ((unhide hown2).lt g hg).1)
  have HY4 : Hid (Byt w4 v4 (pbs [])) := by
    show Byt _ _ _
    rw [unhide HZ]
    exact byt_of_owns (by simpa [put_zero] using hown4) (fun j => by rcases j with _ | j <;> simp)
  clear hown4 hgrow4
  go_wp2
  go_ret
  exact ⟨_, rfl, HY4, unhide HB4⟩
theorem rbytes_any (v : Value) (l : List Pr) (place : Int) (w : World) (h : Prp w v l) (h200 : l.length ≤ 200) (hok : okTo place l l.length) : Calls Tryd.prog 12 #[v] w (PutP (pbs l) w) := by
  obtain ⟨ao, cap, rfl, hc⟩ := h
  rcases hc with rfl | ⟨b, off, rfl, hc⟩
  · exact rbytes_nil ao cap w
  · exact rbytes_core b off cap l _ place w rfl h200 hok hc
end Go.Proofs.YtpfpollejhdbgaaDoor
/- Proved here: dovecotelaw0.Num and dovecotelaw3's num tell the number within an error of prop. Helper contracts. -/
namespace Go.Proofs.YtpfpollejhdbgaaDoor
open Go.RowKit Go.Extern.Stop Go.Stop Go.Extern

set_option maxHeartbeats 1000000 in
theorem num_fault2 (b c : Nat) (n : Int) (w : World) (hg : Laid w) (hc : w.cell? ⟨b, 1, none⟩ = some (.iface 79 (.pointer (some ⟨c, 0, none⟩)))) (hd : w.cell? ⟨c, 1, none⟩ = some (.iface 65 (.int .i64 n))) :
    Calls Tryd.prog 33 #[.iface 79 (.pointer (some ⟨b, 0, none⟩))] w fun e w' => e = .returned (.int .i64 n) ∧ Below w.heap.size w w' := by
  have hb := cell_lt hc
  have hbd := cell_lt hd
  have hg1 : Laid (w.alloc (.cells #[.int .i64 0] 65)) := hg.below ((Below.refl _ _).alloc (Nat.le_refl _) _) hg.pos
  have hc1 : (w.alloc (.cells #[.int .i64 0] 65)).cell? ⟨b, 1, none⟩ = some (.iface 79 (.pointer (some ⟨c, 0, none⟩))) := by
    rw [World.cell?_alloc_lt _ _ ⟨b, 1, none⟩ hb]; exact hc
  have hd1 : (w.alloc (.cells #[.int .i64 0] 65)).cell? ⟨c, 1, none⟩ = some (.iface 65 (.int .i64 n)) := by
    rw [World.cell?_alloc_lt _ _ ⟨c, 1, none⟩ hbd]; exact hd
  have HG := hide hg1
  clear hg1 hg hc hd hb hbd
  go_enter Tryd.func33, Tryd.ntmps33
  go_wp2_with fail
  refine (as_fault2 b c n ⟨w.heap.size, 0, none⟩ (.int .i64 0) _ (unhide HG) hc1 hd1 (by simp) (by simp)).mono ?_
  rintro e w' ⟨rfl, rfl⟩
  go_wp2
  go_ret
  refine ⟨rfl, ?_⟩
  exact (((((((Below.refl _ _).alloc (Nat.le_refl _) _).alloc (by simp) _).alloc (by simp; omega) _).alloc (by simp; omega) _).alloc (by simp; omega) _))
theorem nump (v : Value) (n : Int) (w : World) (hg : Laid w) (hv : ErrP w v n) : Calls Tryd.prog 33 #[v] w fun e w' => e = .returned (.int .i64 n) ∧ Below w.heap.size w w' := by
  rcases hv with hv | ⟨b, c, rfl, hc, hd⟩
  · exact num_any v n w hg hv
  · exact num_fault2 b c n w hg hc hd
theorem numlp (v : Value) (n : Int) (w : World) (hg : Laid w) (hv : ErrP w v n) : Calls Tryd.prog 15 #[v] w fun e w' => e = .returned (.int .i64 n) ∧ Below w.heap.size w w' := by
  have HG := hide hg
  have HV := hide hv
  clear hg hv
  go_enter Tryd.func15, Tryd.ntmps15
  go_wp2_with (go_at_call 33; refine (nump v n _ (unhide HG) (unhide HV)).mono ?_; rintro e w' ⟨rfl, hb⟩)
  go_ret
  exact ⟨rfl, hb⟩
end Go.Proofs.YtpfpollejhdbgaaDoor
/- Proved here: dovecotelaw3.wakes tells true; properties that are written out in memory. Helper contracts. -/
namespace Go.Proofs.YtpfpollejhdbgaaDoor
open Go.RowKit
set_option maxRecDepth 100000

theorem prp_lit1 (w : World) (id n : Int) (s t : ByteArray) (cap : Nat) (ty : TypeId) : Prp (w.alloc (.cells #[.int .i64 id, .int .i64 n, .string s, .string t] ty)) (.slice (some ⟨w.heap.size, 0, none⟩) 1 cap) [(id, n, s, t)] := by
  refine ⟨_, _, rfl, .inr ⟨_, _, rfl, fun k hk => ?_⟩⟩
  obtain rfl : k = 0 := by simp at hk; exact hk
  refine ⟨?_, ?_, ?_, ?_⟩ <;> simp [at0]
theorem prp_lit2 (w : World) (id n : Int) (s t : ByteArray) (cap : Nat) (ty : TypeId) : Prp (w.alloc (.cells #[.int .i64 id, .int .i64 n, .string s, .string t, .int .i64 id, .int .i64 n, .string s, .string t] ty)) (.slice (some ⟨w.heap.size, 0, none⟩) 2 cap) [(id, n, s, t), (id, n, s, t)] := by
  refine ⟨_, _, rfl, .inr ⟨_, _, rfl, fun k hk => ?_⟩⟩
  simp at hk
  rcases k with _ | _ | k
  · refine ⟨?_, ?_, ?_, ?_⟩ <;> simp [at0]
  · refine ⟨?_, ?_, ?_, ?_⟩ <;> simp [at0]
  · omega
theorem small_lit1 (id n : Int) (s t : ByteArray) (hs : s.size ≤ 70000) (ht : t.size ≤ 70000) : Small [(id, n, s, t)] := fun k hk => by
  obtain rfl : k = 0 := by simp at hk; exact hk
  simp only [at0, List.getD_cons_zero]
  omega
theorem small_lit2 (id n : Int) (s t : ByteArray) (hs : s.size ≤ 70000) (ht : t.size ≤ 70000) : Small [(id, n, s, t), (id, n, s, t)] := fun k hk => by
  simp at hk
  rcases k with _ | _ | k
  · simp only [at0, List.getD_cons_zero]; omega
  · simp only [at0, List.getD_cons_succ, List.getD_cons_zero]; omega
  · omega
theorem es_small : es.size ≤ 70000 := by decide
theorem emp_es : emp es = true := by decide +kernel
theorem wake_chk : chkP 3 [(35, 5, es, es)] = 0 := by decide +kernel
theorem wake_pbz : pbz 3 [(35, 5, es, es)] = [3, 35, 0, 5] := by decide +kernel
theorem four_byt3 (w : World) : Byt (w.alloc (.cells #[.int .u8 3, .int .u8 35, .int .u8 0, .int .u8 5] 5)) (.slice (some ⟨w.heap.size, 0, none⟩) 4 4) [3, 35, 0, 5] := by
  refine ⟨_, _, rfl, ⟨by simp, by unfold maxLen; simp⟩, ?_, .inr ⟨_, _, rfl, ?_⟩⟩
  · intro j; rcases j with _ | _ | _ | _ | j <;> simp
  · intro j hj; rcases j with _ | _ | _ | _ | j
    · simp
    · simp
    · simp
    · simp
    · simp at hj; omega
theorem wakes_any (w : World) (hg : Laid w) : Calls Tryd.prog 19 #[] w fun e w' => e = .returned (.bool true) ∧ Below w.heap.size w w' := by
  have HG := hide hg
  clear hg
  go_enter Tryd.func19, Tryd.ntmps19
  go_wp2_with fail
  refine (put_any _ [(35, 5, es, es)] 3 _ (prp_lit1 _ _ _ _ _ _ _) (by simp) (small_lit1 _ _ _ _ es_small es_small)).mono ?_
  rintro e w1 ⟨v, E, rfl, hy, hE, hb1⟩
  rw [wake_chk] at hE
  rw [wake_pbz] at hy
  have HB1 : Hid (Below w.heap.size w w1) := ((Below.refl _ _).alloc (Nat.le_refl _) _).trans (hb1.mono (by simp))
  have HG1 : Hid (Laid w1) := (unhide HG).below (unhide HB1) (unhide HG).pos
  clear hb1
  go_wp2_with fail
  refine (numlp _ 0 _ (unhide HG1) (unhide hE)).mono ?_
  rintro e w2 ⟨rfl, hb2⟩
  have HB2 : Hid (Below w.heap.size w w2) := (unhide HB1).trans (hb2.mono (unhide HB1).size)
  have ha : Hid (Byt (w2.alloc (.cells #[.int .u8 3, .int .u8 35, .int .u8 0, .int .u8 5] 5)) v [3, 35, 0, 5]) := ((unhide hy).below hb2).below ((Below.refl _ _).alloc (Nat.le_refl _) _)
  have hbb := hide (four_byt3 w2)
  clear hb2 HB1 hE hy
  go_wp2_with (go_at_call 17; refine (eq_any _ _ [3, 35, 0, 5] [3, 35, 0, 5] _ (unhide ha) (unhide hbb)).mono ?_; rintro e w' ⟨rfl, q, rfl⟩)
  go_ret
  exact ⟨rfl, below_drewN ((unhide HB2).alloc (unhide HB2).size _) _⟩
end Go.Proofs.YtpfpollejhdbgaaDoor
