/- Proved here: prop.putOne tells the bytes of a property that may be, or an error of below where a text may not be. Helper contracts. -/
import Derived.Test.YtpfpollejhdbgaaDoorPPutOne
namespace Go.Proofs.YtpfpollejhdbgaaDoor
open Go.RowKit
set_option maxRecDepth 100000

theorem lst_pos (id : Int) : 0 ≤ lst id := by unfold lst; split <;> omega
theorem fit_num {id n : Int} {s t : ByteArray} (h : fit (id, n, s, t) = true) : 0 ≤ n ∧ lst id ≤ n ∧ n ≤ mx id := by
  unfold fit at h
  rw [Bool.and_eq_true, Bool.and_eq_true, decide_eq_true_eq, decide_eq_true_eq] at h
  have := lst_pos id
  have h1 := h.1
  simp only at h1
  omega
theorem shv_of (id k f wd m : Int) (hk : kd id = k) (hf : (if k = 1 ∨ k = 2 ∨ k = 4 then 1 else if k = 5 then 2 else if k = 6 then 3 else if k = 7 then 4 else if k = 8 then 5 else 0) = f) (hw : (if k = 1 ∨ k = 2 ∨ k = 4 then k else 0) = wd) (hm : mx id = m) : shv id = .agg #[.int .i64 f, .int .i64 wd, .int .i64 (lst id), .int .i64 m] := by
  unfold shv frm wid
  rw [hk, hf, hw, hm]
theorem pvb_num (id n : Int) (s t : ByteArray) (k : Int) (hk : kd id = k) (h : k = 1 ∨ k = 2 ∨ k = 4) : pvb (id, n, s, t) = nbs k n := by
  unfold pvb nbs
  rcases h with rfl | rfl | rfl <;> simp [hk]
theorem value_ok (id n : Int) (s t : ByteArray) (w : World) (hm : may (id, n, s, t) = true) : Calls Tryd.prog 58 #[.agg #[.int .i64 id, .int .i64 n, .string s, .string t]] w (ValOk (pvb (id, n, s, t)) w) := by
  unfold may at hm
  rw [Bool.and_eq_true] at hm
  obtain ⟨hf, ht⟩ := hm
  obtain ⟨h0, h1, h2⟩ := fit_num hf
  have hx : mx id = (if kd id = 1 then 1 else if kd id = 2 then 65535 else if kd id = 4 then 4294967295 else if kd id = 5 then 268435455 else 0) := rfl
  rcases kd_cases id with h | h | h | h | h | h | h | h
  · unfold txo at ht; simp [h] at ht
  · rw [pvb_num id n s t 1 h (by omega)]
    rw [if_pos h] at hx
    exact value_num id n 1 s t w _ _ (shv_of id 1 1 1 1 h rfl rfl hx) (.inl ⟨rfl, by omega⟩) h0
  · rw [pvb_num id n s t 2 h (by omega)]
    rw [if_neg (by omega), if_pos h] at hx
    exact value_num id n 2 s t w _ _ (shv_of id 2 1 2 65535 h rfl rfl hx) (.inr (.inl ⟨rfl, by omega⟩)) h0
  · rw [pvb_num id n s t 4 h (by omega)]
    rw [if_neg (by omega), if_neg (by omega), if_pos h] at hx
    exact value_num id n 4 s t w _ _ (shv_of id 4 1 4 4294967295 h rfl rfl hx) (.inr (.inr ⟨rfl, by omega⟩)) h0
  · rw [show pvb (id, n, s, t) = V.put n from by unfold pvb; simp [h]]
    rw [if_neg (by omega), if_neg (by omega), if_neg (by omega), if_pos h] at hx
    exact value_var id n s t w _ _ _ (shv_of id 5 2 0 _ h rfl rfl hx) h0 (by omega)
  · rw [show pvb (id, n, s, t) = tx s from by unfold pvb; simp [h]]
    rw [if_neg (by omega), if_neg (by omega), if_neg (by omega), if_neg (by omega)] at hx
    exact value_text id n s t w _ _ _ (shv_of id 6 3 0 _ h rfl rfl hx) (by unfold txo at ht; simpa [h] using ht)
  · rw [show pvb (id, n, s, t) = tx s from by unfold pvb; simp [h]]
    rw [if_neg (by omega), if_neg (by omega), if_neg (by omega), if_neg (by omega)] at hx
    exact value_bin id n s t w _ _ _ (shv_of id 7 4 0 _ h rfl rfl hx) (by unfold txo at ht; simpa [h] using ht)
  · rw [show pvb (id, n, s, t) = tx s ++ tx t from by unfold pvb; simp [h]]
    rw [if_neg (by omega), if_neg (by omega), if_neg (by omega), if_neg (by omega)] at hx
    have hc : chk (sb s) = 0 ∧ chk (sb t) = 0 := by unfold txo at ht; simpa [h] using ht
    exact value_pair id n s t w _ _ _ (shv_of id 8 5 0 _ h rfl rfl hx) hc.1 hc.2
theorem value_bad (id n : Int) (s t : ByteArray) (w : World) (hls : s.size ≤ 4611686018427387904) (hlt : t.size ≤ 4611686018427387904) (hk : kd id ≠ 0) (ht : txo (id, n, s, t) = false) : Calls Tryd.prog 58 #[.agg #[.int .i64 id, .int .i64 n, .string s, .string t]] w (ValBad w) := by
  have hx : mx id = (if kd id = 1 then 1 else if kd id = 2 then 65535 else if kd id = 4 then 4294967295 else if kd id = 5 then 268435455 else 0) := rfl
  rcases kd_cases id with h | h | h | h | h | h | h | h
  · exact absurd h hk
  · unfold txo at ht; simp [h] at ht
  · unfold txo at ht; simp [h] at ht
  · unfold txo at ht; simp [h] at ht
  · unfold txo at ht; simp [h] at ht
  · rw [if_neg (by omega), if_neg (by omega), if_neg (by omega), if_neg (by omega)] at hx
    exact value_text_bad id n s t w _ _ _ (shv_of id 6 3 0 _ h rfl rfl hx) hls (by unfold txo at ht; simpa [h] using ht)
  · rw [if_neg (by omega), if_neg (by omega), if_neg (by omega), if_neg (by omega)] at hx
    exact value_bin_bad id n s t w _ _ _ (shv_of id 7 4 0 _ h rfl rfl hx) (by unfold txo at ht; simpa [h] using ht)
  · rw [if_neg (by omega), if_neg (by omega), if_neg (by omega), if_neg (by omega)] at hx
    have hc : chk (sb s) = 0 → ¬ chk (sb t) = 0 := by unfold txo at ht; simpa [h] using ht
    by_cases hs : chk (sb s) = 0
    · exact value_pair_bad2 id n s t w _ _ _ (shv_of id 8 5 0 _ h rfl rfl hx) hlt hs (hc hs)
    · exact value_pair_bad1 id n s t w _ _ _ (shv_of id 8 5 0 _ h rfl rfl hx) hls hs
theorem pvb_range (id n : Int) (s t : ByteArray) (w : World) (v : Value) (h : Byt w v (pvb (id, n, s, t))) : ∀ j, 0 ≤ (pvb (id, n, s, t)).getD j 0 ∧ (pvb (id, n, s, t)).getD j 0 ≤ 255 := h.range
set_option maxHeartbeats 1000000 in
theorem one_ok (id n : Int) (s t : ByteArray) (w : World) (hi : 1 ≤ id ∧ id ≤ 42) (hm : may (id, n, s, t) = true) : Calls Tryd.prog 44 #[.agg #[.int .i64 id, .int .i64 n, .string s, .string t]] w (ValOk (pb (id, n, s, t)) w) := by
  have hle := pvb_le _ hm
  have HM := hide hm
  have HV := hide (fun W => value_ok id n s t W hm)
  have HL := hide (V.put_len id)
  have HP : Hid (pb (id, n, s, t) = V.put id ++ pvb (id, n, s, t)) := rfl
  generalize pb (id, n, s, t) = l at HP ⊢
  generalize pvb (id, n, s, t) = l2 at HP HV hle
  clear hm HM
  go_enter Tryd.func44, Tryd.ntmps44
  go_wp2_with fail
  refine (vput_use id _ (by omega) (by omega)).mono ?_
  rintro e w1 ⟨v1, rfl, hown1, hy1, hb1⟩
  have HR := hide (unhide hy1).range
  have HB1 : Hid (Below w.heap.size w w1) := ((Below.refl _ _).alloc (Nat.le_refl _) _).trans (hb1.mono (by simp))
  have c0 : w1.cell? ⟨w.heap.size, 0, none⟩ = some (.int .i64 id) := (hb1.cell (p := ⟨w.heap.size, 0, none⟩) (by simp)).trans (by simp)
  have c1 : w1.cell? ⟨w.heap.size, 1, none⟩ = some (.int .i64 n) := (hb1.cell (p := ⟨w.heap.size, 1, none⟩) (by simp)).trans (by simp)
  have c2 : w1.cell? ⟨w.heap.size, 2, none⟩ = some (.string s) := (hb1.cell (p := ⟨w.heap.size, 2, none⟩) (by simp)).trans (by simp)
  have c3 : w1.cell? ⟨w.heap.size, 3, none⟩ = some (.string t) := (hb1.cell (p := ⟨w.heap.size, 3, none⟩) (by simp)).trans (by simp)
  have HO1 : Hid (w1.ownsRow w.heap.size 5 1 v1 (V.put id).length ((V.put id).map (Value.int .u8))) := owns_mono (unhide hown1) (by simp)
  clear hb1 hown1 hy1
  go_wp2_with fail
  refine ((unhide HV) _).mono ?_
  rintro e w2 ⟨v2, rfl, hy2, hb2⟩
  have HO2 : Hid (w2.ownsRow w.heap.size 5 1 v1 (V.put id).length ((V.put id).map (Value.int .u8))) := owns_below (unhide HO1) hb2
  have HB2 : Hid (Below w.heap.size w w2) := (unhide HB1).trans (hb2.mono (unhide HB1).size)
  clear hb2 HB1 HO1 c0 c1 c2 c3
  go_wp2_with (first
    | (at_builtin; refine wpList_append_byt _ rfl _ _ rfl w.heap.size _ (V.put id).length (V.put id) rfl (unhide HO2) v2 l2 rfl (unhide hy2) (by have := unhide HL; omega) (unhide HB2).size ?_)
    | go_in)
  intro v3 w3 hown3 hgrow3
  have hb3 : Below w.heap.size w w3 := (unhide HB2).grown hgrow3 (unhide HB2).size (fun k hk => ((unhide HO2).lt k hk).1)
  have HY3 : Hid (Byt w3 v3 l) := by
    show Byt _ _ _
    rw [unhide HP]
    exact byt_of_owns (by rw [List.map_append]; exact hown3) (range_app (unhide HR) (unhide hy2).range)
  clear hown3 hgrow3
  go_wp2
  go_ret2
  exact ⟨_, rfl, HY3, hb3⟩
theorem one_bad (id n : Int) (s t : ByteArray) (w : World) (hi : 1 ≤ id ∧ id ≤ 42) (hls : s.size ≤ 4611686018427387904) (hlt : t.size ≤ 4611686018427387904) (hk : kd id ≠ 0) (ht : txo (id, n, s, t) = false) : Calls Tryd.prog 44 #[.agg #[.int .i64 id, .int .i64 n, .string s, .string t]] w (ValBad w) := by
  have HV := hide (fun W => value_bad id n s t W hls hlt hk ht)
  clear hls hlt hk ht
  go_enter Tryd.func44, Tryd.ntmps44
  go_wp2_with fail
  refine (vput_use id _ (by omega) (by omega)).mono ?_
  rintro e w1 ⟨v1, rfl, -, -, hb1⟩
  have HB1 : Hid (Below w.heap.size w w1) := ((Below.refl _ _).alloc (Nat.le_refl _) _).trans (hb1.mono (by simp))
  have c0 : w1.cell? ⟨w.heap.size, 0, none⟩ = some (.int .i64 id) := (hb1.cell (p := ⟨w.heap.size, 0, none⟩) (by simp)).trans (by simp)
  have c1 : w1.cell? ⟨w.heap.size, 1, none⟩ = some (.int .i64 n) := (hb1.cell (p := ⟨w.heap.size, 1, none⟩) (by simp)).trans (by simp)
  have c2 : w1.cell? ⟨w.heap.size, 2, none⟩ = some (.string s) := (hb1.cell (p := ⟨w.heap.size, 2, none⟩) (by simp)).trans (by simp)
  have c3 : w1.cell? ⟨w.heap.size, 3, none⟩ = some (.string t) := (hb1.cell (p := ⟨w.heap.size, 3, none⟩) (by simp)).trans (by simp)
  clear hb1
  go_wp2_with fail
  refine ((unhide HV) _).mono ?_
  rintro e w2 ⟨t2, x2, m, rfl, hi2, hb2⟩
  go_wp2
  go_ret2
  exact ⟨_, _, _, rfl, hi2, (unhide HB1).trans (hb2.mono (unhide HB1).size)⟩
end Go.Proofs.YtpfpollejhdbgaaDoor
