/- Proved here: what text.Put tells, whatever stands behind, is read back by text.Get; its beginnings are short; bytes of any kind turned into a text. Helpers. -/
import Derived.Test.YtpfpollejhdbgaaDoorM6
namespace Go.Proofs.YtpfpollejhdbgaaDoor
open Go.RowKit

theorem tx_get0 (s : ByteArray) (l : List Int) : (tx s ++ l).getD 0 0 = (s.size : Int) / 256 := rfl
theorem tx_get1 (s : ByteArray) (l : List Int) : (tx s ++ l).getD 1 0 = (s.size : Int) % 256 := rfl
theorem nb_tx (s : ByteArray) (l : List Int) : nb (tx s ++ l) = s.size := by
  unfold nb
  rw [tx_get0, tx_get1]
  omega
theorem chk_utf {l : List Int} (h : chk l = 0) : utf l = true := by
  unfold chk at h
  by_cases u : utf l = true
  · exact u
  · rw [if_neg u] at h; omega
theorem chk_one {l : List Int} (h : chk l ≠ 0) (hl : l.length ≤ 65535) : chk l = 1 := by
  unfold chk at h ⊢
  by_cases u : utf l = true
  · rw [if_pos u, if_pos hl] at h; exact absurd rfl h
  · rw [if_neg u]
theorem gbs_tx (s : ByteArray) (l : List Int) : gbs (tx s ++ l) = s := by
  unfold gbs
  rw [nb_tx]
  have h : (tx s ++ l).drop 2 = sb s ++ l := rfl
  rw [h, List.take_append_of_le_length (by rw [sb_length]; exact Nat.le_refl _), List.take_of_length_le (by rw [sb_length]; exact Nat.le_refl _), bs_sb]
theorem gt_tx (s : ByteArray) (l : List Int) (h : chk (sb s) = 0) : gt (tx s ++ l) = (s, ((2 + s.size : Nat) : Int), 0) := by
  have hf : full (tx s ++ l) = true := by
    unfold full
    rw [nb_tx, List.length_append, tx_length]
    simp only [Bool.and_eq_true, decide_eq_true_eq]
    omega
  unfold gt
  rw [if_pos hf, gbs_tx, if_pos (chk_utf h), nb_tx]
theorem take_get (l : List Int) (m j : Nat) (h : j < m) : (l.take m).getD j 0 = l.getD j 0 := by
  rw [List.getD_eq_getElem?_getD, List.getElem?_take, if_pos h, ← List.getD_eq_getElem?_getD]
theorem gt_short (s : ByteArray) (m : Nat) (h : m < 2 + s.size) : gt ((tx s).take m) = (⟨#[]⟩, 0, 3) := by
  have hf : full ((tx s).take m) = false := by
    have hl : ((tx s).take m).length = m := by rw [List.length_take, tx_length]; omega
    unfold full
    rw [hl]
    by_cases h2 : 2 ≤ m
    · have hn : nb ((tx s).take m) = s.size := by
        have h0 := nb_tx s []
        rw [List.append_nil] at h0
        unfold nb at h0 ⊢
        rw [take_get _ _ _ (by omega), take_get _ _ _ (by omega)]
        exact h0
      rw [hn]
      simp only [Bool.and_eq_false_iff, decide_eq_false_iff_not]
      omega
    · simp [h2]
  unfold gt
  rw [if_neg (by rw [hf]; simp)]
/-- bytes of any kind turned into a text -/
theorem conv_byt (w : World) (v : Value) (l : List Int) (h : Byt w v l) : (convert 24 9 v).run Tryd.prog w = .ok (.string (bs l)) w := by
  obtain ⟨ao, cap, rfl, hlen, hr, hcase⟩ := h
  rcases hcase with rfl | ⟨b, off, rfl, hc⟩
  · cases ao with
    | none =>
      rw [run_convert_bytes_string w 24 9 5 none _ cap Tryd.underlying24 Tryd.underlying5 Tryd.underlying9]
      rfl
    | some a =>
      exact run_convert_bytes_back (P := Tryd.prog) w 24 9 5 a cap [] Tryd.underlying24 Tryd.underlying5 Tryd.underlying9 (fun j hj => by simp at hj)
  · exact conv_bytes w b off cap l hr hc
theorem bs_size (l : List Int) : (bs l).size = l.length := by
  unfold bs
  show Array.size _ = _
  simp
theorem chk_bs (l : List Int) (h : ∀ j, 0 ≤ l.getD j 0 ∧ l.getD j 0 ≤ 255) : chk (sb (bs l)) = chk l := by rw [sb_bs l h]
theorem chk_both (s : ByteArray) (l : List Int) (hr : ∀ j, 0 ≤ l.getD j 0 ∧ l.getD j 0 ≤ 255) (hs : chk (sb s) = 0) (hl : chk l = 0) (h1 : s.size ≤ 2000) (h2 : l.length ≤ 2000) : chk (sb (s ++ bs l)) = 0 := by
  rw [sb_append, sb_bs l hr]
  exact chk_app _ _ hs hl (by rw [sb_length]; omega)
/-- Get of a text's bytes, whatever stands behind; of a beginning -/
theorem get_tx (s : ByteArray) (N : Nat) (l : List Int) (v : Value) (w : World) (hN : Hid (N = 2 + s.size)) (hc : chk (sb s) = 0) (h : Byt w v (tx s ++ l)) :
    Calls Tryd.prog 79 #[v] w fun e w' => ∃ E, e = .returned (.tuple #[.string s, .int .i64 N, E]) ∧ Hid (ErrIs w' E 0) ∧ Below w.heap.size w w' := by
  have hg := get_any v _ w h
  rw [gt_tx s l hc] at hg
  rw [unhide hN]
  exact hg
theorem get_cut (s : ByteArray) (N m : Nat) (v : Value) (w : World) (hN : Hid (N = 2 + s.size)) (hm : m < N) (h : Byt w v ((tx s).take m)) :
    Calls Tryd.prog 79 #[v] w fun e w' => ∃ E, e = .returned (.tuple #[.string ⟨#[]⟩, .int .i64 0, E]) ∧ Hid (ErrIs w' E 3) ∧ Below w.heap.size w w' := by
  have hg := get_any v _ w h
  rw [gt_short s m (by have := unhide hN; omega)] at hg
  exact hg
theorem range_append (xs ys : List Int) (hx : ∀ j, 0 ≤ xs.getD j 0 ∧ xs.getD j 0 ≤ 255) (hy : ∀ j, 0 ≤ ys.getD j 0 ∧ ys.getD j 0 ≤ 255) : ∀ j, 0 ≤ (xs ++ ys).getD j 0 ∧ (xs ++ ys).getD j 0 ≤ 255 := by
  intro j
  by_cases h : j < xs.length
  · have := hx j
    rw [List.getD_eq_getElem?_getD, List.getElem?_append_left h, ← List.getD_eq_getElem?_getD]
    exact this
  · have := hy (j - xs.length)
    rw [List.getD_eq_getElem?_getD, List.getElem?_append_right (by omega), ← List.getD_eq_getElem?_getD]
    exact this
end Go.Proofs.YtpfpollejhdbgaaDoor
