/- Proved here: plain facts on numbers and bytes: what put tells is read back by vget, its beginnings are short, and what vget reads is what put tells. -/
import Derived.Test.YtpfpollejhdbgaaDoorVGetAny
namespace Go.Proofs.YtpfpollejhdbgaaDoor.V

theorem sz_mono (x y : Int) (h : x ≤ y) : sz x ≤ sz y := by
  unfold sz
  split <;> (try split) <;> (try split) <;> (try split) <;> (try split) <;> (try split) <;> omega
theorem sz_bounds (x : Int) : 1 ≤ sz x ∧ sz x ≤ 4 := by
  unfold sz
  split <;> (try split) <;> (try split) <;> omega

theorem vget_put (x : Int) (h0 : 0 ≤ x) (h1 : x ≤ 268435455) (l : List Int) : vget (put x ++ l) = (x, sz x, 0) := by
  by_cases a : x < 128
  · have hp : put x = [x] := by simp [put, a]
    rw [hp, sz1 x a]
    simp only [vget, List.cons_append, List.nil_append, List.length_cons, List.getD_cons_zero, List.getD_cons_succ]
    unfold vgetf
    rw [if_neg (by omega), if_pos a]
  · by_cases b : x < 16384
    · have hp : put x = [x % 128 + 128, x / 128] := by unfold put; rw [if_neg (by omega), if_pos (by omega)]
      rw [hp, sz2 x (by omega) b]
      simp only [vget, List.cons_append, List.nil_append, List.length_cons, List.getD_cons_zero, List.getD_cons_succ]
      unfold vgetf
      rw [if_neg (by omega), if_neg (by omega), if_neg (by omega), if_neg (by omega), if_pos (by omega)]
      rw [show x % 128 + 128 - 128 + x / 128 * 128 = x from by omega]
    · by_cases c : x < 2097152
      · have hp : put x = [x % 128 + 128, x / 128 % 128 + 128, x / 16384] := by unfold put; rw [if_neg (by omega), if_neg (by omega), if_pos (by omega)]
        rw [hp, sz3 x (by omega) c]
        simp only [vget, List.cons_append, List.nil_append, List.length_cons, List.getD_cons_zero, List.getD_cons_succ]
        unfold vgetf
        rw [if_neg (by omega), if_neg (by omega), if_neg (by omega), if_neg (by omega), if_neg (by omega), if_neg (by omega), if_neg (by omega), if_pos (by omega)]
        rw [show x % 128 + 128 - 128 + (x / 128 % 128 + 128 - 128) * 128 + x / 16384 * 16384 = x from by omega]
      · have hp : put x = [x % 128 + 128, x / 128 % 128 + 128, x / 16384 % 128 + 128, x / 2097152] := by unfold put; rw [if_neg (by omega), if_neg (by omega), if_neg (by omega)]
        rw [hp, sz4 x (by omega)]
        simp only [vget, List.cons_append, List.nil_append, List.length_cons, List.getD_cons_zero, List.getD_cons_succ]
        unfold vgetf
        rw [if_neg (by omega), if_neg (by omega), if_neg (by omega), if_neg (by omega), if_neg (by omega), if_neg (by omega), if_neg (by omega), if_neg (by omega), if_neg (by omega), if_neg (by omega), if_pos (by omega)]
        rw [show x % 128 + 128 - 128 + (x / 128 % 128 + 128 - 128) * 128 + (x / 16384 % 128 + 128 - 128) * 16384 + x / 2097152 * 2097152 = x from by omega]

theorem short0 : vget [] = (0, 0, 3) := rfl
theorem short1 (a : Int) (ha : 128 ≤ a) : vget [a] = (0, 0, 3) := by
  simp only [vget, List.length_cons, List.length_nil, List.getD_cons_zero, List.getD_cons_succ]
  unfold vgetf
  rw [if_neg (by omega), if_neg (by omega), if_pos (by omega)]
theorem short2 (a b : Int) (ha : 128 ≤ a) (hb : 128 ≤ b) : vget [a, b] = (0, 0, 3) := by
  simp only [vget, List.length_cons, List.length_nil, List.getD_cons_zero, List.getD_cons_succ]
  unfold vgetf
  rw [if_neg (by omega), if_neg (by omega), if_neg (by omega), if_neg (by omega), if_neg (by omega), if_pos (by omega)]
theorem short3 (a b c : Int) (ha : 128 ≤ a) (hb : 128 ≤ b) (hc : 128 ≤ c) : vget [a, b, c] = (0, 0, 3) := by
  simp only [vget, List.length_cons, List.length_nil, List.getD_cons_zero, List.getD_cons_succ]
  unfold vgetf
  rw [if_neg (by omega), if_neg (by omega), if_neg (by omega), if_neg (by omega), if_neg (by omega), if_neg (by omega), if_neg (by omega), if_neg (by omega), if_pos (by omega)]

theorem vget_short (x : Int) (j : Nat) (hj : j < (put x).length) : vget ((put x).take j) = (0, 0, 3) := by
  by_cases a : x < 128
  · have hp : put x = [x] := by simp [put, a]
    rw [hp] at hj ⊢
    rcases j with _ | j
    · rfl
    · simp at hj
  · by_cases b : x < 16384
    · have hp : put x = [x % 128 + 128, x / 128] := by unfold put; rw [if_neg (by omega), if_pos (by omega)]
      rw [hp] at hj ⊢
      rcases j with _ | _ | j
      · rfl
      · exact short1 _ (by omega)
      · simp at hj; omega
    · by_cases c : x < 2097152
      · have hp : put x = [x % 128 + 128, x / 128 % 128 + 128, x / 16384] := by unfold put; rw [if_neg (by omega), if_neg (by omega), if_pos (by omega)]
        rw [hp] at hj ⊢
        rcases j with _ | _ | _ | j
        · rfl
        · exact short1 _ (by omega)
        · exact short2 _ _ (by omega) (by omega)
        · simp at hj; omega
      · have hp : put x = [x % 128 + 128, x / 128 % 128 + 128, x / 16384 % 128 + 128, x / 2097152] := by unfold put; rw [if_neg (by omega), if_neg (by omega), if_neg (by omega)]
        rw [hp] at hj ⊢
        rcases j with _ | _ | _ | _ | j
        · rfl
        · exact short1 _ (by omega)
        · exact short2 _ _ (by omega) (by omega)
        · exact short3 _ _ _ (by omega) (by omega) (by omega)
        · simp at hj; omega

/-- what is read is told as just these bytes -/
def Told (l : List Int) (n k : Int) : Prop := 0 ≤ n ∧ n ≤ 268435455 ∧ ∃ K : Nat, k = K ∧ 1 ≤ K ∧ K ≤ l.length ∧ put n = l.take K

theorem vget_ok (l : List Int) (hr : ∀ j, 0 ≤ l.getD j 0 ∧ l.getD j 0 ≤ 255) (n k : Int) (h : vget l = (n, k, 0)) : Told l n k := by
  have r0 := hr 0
  have r1 := hr 1
  have r2 := hr 2
  have r3 := hr 3
  match l, r0, r1, r2, r3, h with
  | [], _, _, _, _, h => simp [short0] at h
  | [a], r0, _, _, _, h =>
    simp only [vget, List.length_cons, List.length_nil, List.getD_cons_zero, List.getD_cons_succ] at h r0
    unfold vgetf at h
    rw [if_neg (by omega)] at h
    by_cases d : a < 128
    · rw [if_pos d] at h
      simp only [Prod.mk.injEq] at h
      obtain ⟨rfl, rfl, _⟩ := h
      exact ⟨by omega, by omega, 1, rfl, by omega, by simp, by unfold put; rw [if_pos d]; rfl⟩
    · rw [if_neg d, if_pos (by omega)] at h
      simp at h
  | [a, b], r0, r1, _, _, h =>
    simp only [vget, List.length_cons, List.length_nil, List.getD_cons_zero, List.getD_cons_succ] at h r0 r1
    unfold vgetf at h
    rw [if_neg (by omega)] at h
    by_cases d : a < 128
    · rw [if_pos d] at h
      simp only [Prod.mk.injEq] at h
      obtain ⟨rfl, rfl, _⟩ := h
      exact ⟨by omega, by omega, 1, rfl, by omega, by simp, by unfold put; rw [if_pos d]; rfl⟩
    · rw [if_neg d, if_neg (by omega)] at h
      by_cases z : b = 0
      · rw [if_pos z] at h; simp at h
      · rw [if_neg z] at h
        by_cases d1 : b < 128
        · rw [if_pos d1] at h
          simp only [Prod.mk.injEq] at h
          obtain ⟨rfl, rfl, _⟩ := h
          exact ⟨by omega, by omega, 2, rfl, by omega, by simp, by
            unfold put; rw [if_neg (by omega), if_pos (by omega), show (a - 128 + b * 128) % 128 + 128 = a from by omega, show (a - 128 + b * 128) / 128 = b from by omega]; rfl⟩
        · rw [if_neg d1, if_pos (by omega)] at h
          simp at h
  | [a, b, c], r0, r1, r2, _, h =>
    simp only [vget, List.length_cons, List.length_nil, List.getD_cons_zero, List.getD_cons_succ] at h r0 r1 r2
    unfold vgetf at h
    rw [if_neg (by omega)] at h
    by_cases d : a < 128
    · rw [if_pos d] at h
      simp only [Prod.mk.injEq] at h
      obtain ⟨rfl, rfl, _⟩ := h
      exact ⟨by omega, by omega, 1, rfl, by omega, by simp, by unfold put; rw [if_pos d]; rfl⟩
    · rw [if_neg d, if_neg (by omega)] at h
      by_cases z : b = 0
      · rw [if_pos z] at h; simp at h
      · rw [if_neg z] at h
        by_cases d1 : b < 128
        · rw [if_pos d1] at h
          simp only [Prod.mk.injEq] at h
          obtain ⟨rfl, rfl, _⟩ := h
          exact ⟨by omega, by omega, 2, rfl, by omega, by simp, by
            unfold put; rw [if_neg (by omega), if_pos (by omega), show (a - 128 + b * 128) % 128 + 128 = a from by omega, show (a - 128 + b * 128) / 128 = b from by omega]; rfl⟩
        · rw [if_neg d1, if_neg (by omega)] at h
          by_cases z2 : c = 0
          · rw [if_pos z2] at h; simp at h
          · rw [if_neg z2] at h
            by_cases d2 : c < 128
            · rw [if_pos d2] at h
              simp only [Prod.mk.injEq] at h
              obtain ⟨rfl, rfl, _⟩ := h
              exact ⟨by omega, by omega, 3, rfl, by omega, by simp, by
                unfold put; rw [if_neg (by omega), if_neg (by omega), if_pos (by omega), show (a - 128 + (b - 128) * 128 + c * 16384) % 128 + 128 = a from by omega, show (a - 128 + (b - 128) * 128 + c * 16384) / 128 % 128 + 128 = b from by omega, show (a - 128 + (b - 128) * 128 + c * 16384) / 16384 = c from by omega]; rfl⟩
            · rw [if_neg d2, if_pos (by omega)] at h
              simp at h
  | a :: b :: c :: e :: r, r0, r1, r2, r3, h =>
    simp only [vget, List.length_cons, List.getD_cons_zero, List.getD_cons_succ] at h r0 r1 r2 r3
    unfold vgetf at h
    rw [if_neg (by omega)] at h
    by_cases d : a < 128
    · rw [if_pos d] at h
      simp only [Prod.mk.injEq] at h
      obtain ⟨rfl, rfl, _⟩ := h
      exact ⟨by omega, by omega, 1, rfl, by omega, by simp, by unfold put; rw [if_pos d]; rfl⟩
    · rw [if_neg d, if_neg (by omega)] at h
      by_cases z : b = 0
      · rw [if_pos z] at h; simp at h
      · rw [if_neg z] at h
        by_cases d1 : b < 128
        · rw [if_pos d1] at h
          simp only [Prod.mk.injEq] at h
          obtain ⟨rfl, rfl, _⟩ := h
          exact ⟨by omega, by omega, 2, rfl, by omega, by simp, by
            unfold put; rw [if_neg (by omega), if_pos (by omega), show (a - 128 + b * 128) % 128 + 128 = a from by omega, show (a - 128 + b * 128) / 128 = b from by omega]; rfl⟩
        · rw [if_neg d1, if_neg (by omega)] at h
          by_cases z2 : c = 0
          · rw [if_pos z2] at h; simp at h
          · rw [if_neg z2] at h
            by_cases d2 : c < 128
            · rw [if_pos d2] at h
              simp only [Prod.mk.injEq] at h
              obtain ⟨rfl, rfl, _⟩ := h
              exact ⟨by omega, by omega, 3, rfl, by omega, by simp, by
                unfold put; rw [if_neg (by omega), if_neg (by omega), if_pos (by omega), show (a - 128 + (b - 128) * 128 + c * 16384) % 128 + 128 = a from by omega, show (a - 128 + (b - 128) * 128 + c * 16384) / 128 % 128 + 128 = b from by omega, show (a - 128 + (b - 128) * 128 + c * 16384) / 16384 = c from by omega]; rfl⟩
            · rw [if_neg d2, if_neg (by omega)] at h
              by_cases z3 : e = 0
              · rw [if_pos z3] at h; simp at h
              · rw [if_neg z3] at h
                by_cases d3 : e < 128
                · rw [if_pos d3] at h
                  simp only [Prod.mk.injEq] at h
                  obtain ⟨rfl, rfl, _⟩ := h
                  exact ⟨by omega, by omega, 4, rfl, by omega, by simp, by
                    unfold put; rw [if_neg (by omega), if_neg (by omega), if_neg (by omega), show (a - 128 + (b - 128) * 128 + (c - 128) * 16384 + e * 2097152) % 128 + 128 = a from by omega, show (a - 128 + (b - 128) * 128 + (c - 128) * 16384 + e * 2097152) / 128 % 128 + 128 = b from by omega, show (a - 128 + (b - 128) * 128 + (c - 128) * 16384 + e * 2097152) / 16384 % 128 + 128 = c from by omega, show (a - 128 + (b - 128) * 128 + (c - 128) * 16384 + e * 2097152) / 2097152 = e from by omega]; rfl⟩
                · rw [if_neg d3] at h
                  simp at h
end Go.Proofs.YtpfpollejhdbgaaDoor.V
