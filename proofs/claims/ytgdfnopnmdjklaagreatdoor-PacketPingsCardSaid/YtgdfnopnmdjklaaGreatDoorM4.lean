/- Proved here: helpers, one text behind the other. -/
import Derived.Test.YtgdfnopnmdjklaaGreatDoorM3
import Derived.Test.YtgdfnopnmdjklaaGreatDoorM2
import Derived.Deep.WholeRow
import Derived.Handy
import Derived.Laws.StructEq
/- Proved here: plain facts on numbers and bytes: what put tells is read back by vget, its beginnings are short, and what vget reads is what put tells. -/
namespace Go.Proofs.YtgdfnopnmdjklaaGreatDoor.V

theorem sz_mono (x y : Int) (h : x ≤ y) : sz x ≤ sz y := by
  unfold sz
  split <;> (try split) <;> (try split) <;> (try split) <;> (try split) <;> (try split) <;> omega
theorem sz_bounds (x : Int) : 1 ≤ sz x ∧ sz x ≤ 4 := by
  unfold sz
  split <;> (try split) <;> (try split) <;> omega

theorem vget_put (x : Int) (h0 : 0 ≤ x) (h1 : x ≤ 268435455) (l : List Int) : vget (put x ++ l) = (x, sz x, 0) := by
  by_cases a : x < 128
  · have hp : put x = [x] := by simp [put, a]
    rw [hp, sz1 x a]
    simp only [vget, List.cons_append, List.nil_append, List.length_cons, List.getD_cons_zero, List.getD_cons_succ]
    unfold vgetf
    rw [if_neg (by omega), if_pos a]
  · by_cases b : x < 16384
    · have hp : put x = [x % 128 + 128, x / 128] := by unfold put; rw [if_neg (by omega), if_pos (by omega)]
      rw [hp, sz2 x (by omega) b]
      simp only [vget, List.cons_append, List.nil_append, List.length_cons, List.getD_cons_zero, List.getD_cons_succ]
      unfold vgetf
      rw [if_neg (by omega), if_neg (by omega), if_neg (by omega), if_neg (by omega), if_pos (by omega)]
      rw [show x % 128 + 128 - 128 + x / 128 * 128 = x from by omega]
    · by_cases c : x < 2097152
      · have hp : put x = [x % 128 + 128, x / 128 % 128 + 128, x / 16384] := by unfold put; rw [if_neg (by omega), if_neg (by omega), if_pos (by omega)]
        rw [hp, sz3 x (by omega) c]
        simp only [vget, List.cons_append, List.nil_append, List.length_cons, List.getD_cons_zero, List.getD_cons_succ]
        unfold vgetf
        rw [if_neg (by omega), if_neg (by omega), if_neg (by omega), if_neg (by omega), if_neg (by omega), if_neg (by omega), if_neg (by omega), if_pos (by omega)]
        rw [show x % 128 + 128 - 128 + (x / 128 % 128 + 128 - 128) * 128 + x / 16384 * 16384 = x from by omega]
      · have hp : put x = [x % 128 + 128, x / 128 % 128 + 128, x / 16384 % 128 + 128, x / 2097152] := by unfold put; rw [if_neg (by omega), if_neg (by omega), if_neg (by omega)]
        rw [hp, sz4 x (by omega)]
        simp only [vget, List.cons_append, List.nil_append, List.length_cons, List.getD_cons_zero, List.getD_cons_succ]
        unfold vgetf
        rw [if_neg (by omega), if_neg (by omega), if_neg (by omega), if_neg (by omega), if_neg (by omega), if_neg (by omega), if_neg (by omega), if_neg (by omega), if_neg (by omega), if_neg (by omega), if_pos (by omega)]
        rw [show x % 128 + 128 - 128 + (x / 128 % 128 + 128 - 128) * 128 + (x / 16384 % 128 + 128 - 128) * 16384 + x / 2097152 * 2097152 = x from by omega]

theorem short0 : vget [] = (0, 0, 3) := rfl
theorem short1 (a : Int) (ha : 128 ≤ a) : vget [a] = (0, 0, 3) := by
  simp only [vget, List.length_cons, List.length_nil, List.getD_cons_zero, List.getD_cons_succ]
  unfold vgetf
  rw [if_neg (by omega), if_neg (by omega), if_pos (by omega)]
theorem short2 (a b : Int) (ha : 128 ≤ a) (hb : 128 ≤ b) : vget [a, b] = (0, 0, 3) := by
  simp only [vget, List.length_cons, List.length_nil, List.getD_cons_zero, List.getD_cons_succ]
  unfold vgetf
  rw [if_neg (by omega), if_neg (by omega), if_neg (by omega), if_neg (by omega), if_neg (by omega), if_pos (by omega)]
theorem short3 (a b c : Int) (ha : 128 ≤ a) (hb : 128 ≤ b) (hc : 128 ≤ c) : vget [a, b, c] = (0, 0, 3) := by
  simp only [vget, List.length_cons, List.length_nil, List.getD_cons_zero, List.getD_cons_succ]
  unfold vgetf
  rw [if_neg (by omega), if_neg (by omega), if_neg (by omega), if_neg (by omega), if_neg (by omega), if_neg (by omega), if_neg (by omega), if_neg (by omega), if_pos (by omega)]

theorem vget_short (x : Int) (j : Nat) (hj : j < (put x).length) : vget ((put x).take j) = (0, 0, 3) := by
  by_cases a : x < 128
  · have hp : put x = [x] := by simp [put, a]
    rw [hp] at hj ⊢
    rcases j with _ | j
    · rfl
    · simp at hj
  · by_cases b : x < 16384
    · have hp : put x = [x % 128 + 128, x / 128] := by unfold put; rw [if_neg (by omega), if_pos (by omega)]
      rw [hp] at hj ⊢
      rcases j with _ | _ | j
      · rfl
      · exact short1 _ (by omega)
      · simp at hj; omega
    · by_cases c : x < 2097152
      · have hp : put x = [x % 128 + 128, x / 128 % 128 + 128, x / 16384] := by unfold put; rw [if_neg (by omega), if_neg (by omega), if_pos (by omega)]
        rw [hp] at hj ⊢
        rcases j with _ | _ | _ | j
        · rfl
        · exact short1 _ (by omega)
        · exact short2 _ _ (by omega) (by omega)
        · simp at hj; omega
      · have hp : put x = [x % 128 + 128, x / 128 % 128 + 128, x / 16384 % 128 + 128, x / 2097152] := by unfold put; rw [if_neg (by omega), if_neg (by omega), if_neg (by omega)]
        rw [hp] at hj ⊢
        rcases j with _ | _ | _ | _ | j
        · rfl
        · exact short1 _ (by omega)
        · exact short2 _ _ (by omega) (by omega)
        · exact short3 _ _ _ (by omega) (by omega) (by omega)
        · simp at hj; omega

/-- what is read is told as just these bytes -/
def Told (l : List Int) (n k : Int) : Prop := 0 ≤ n ∧ n ≤ 268435455 ∧ ∃ K : Nat, k = K ∧ 1 ≤ K ∧ K ≤ l.length ∧ put n = l.take K

theorem vget_ok (l : List Int) (hr : ∀ j, 0 ≤ l.getD j 0 ∧ l.getD j 0 ≤ 255) (n k : Int) (h : vget l = (n, k, 0)) : Told l n k := by
  have r0 := hr 0
  have r1 := hr 1
  have r2 := hr 2
  have r3 := hr 3
  match l, r0, r1, r2, r3, h with
  | [], _, _, _, _, h => simp [short0] at h
  | [a], r0, _, _, _, h =>
    simp only [vget, List.length_cons, List.length_nil, List.getD_cons_zero, List.getD_cons_succ] at h r0
    unfold vgetf at h
    rw [if_neg (by omega)] at h
    by_cases d : a < 128
    · rw [if_pos d] at h
      simp only [Prod.mk.injEq] at h
      obtain ⟨rfl, rfl, _⟩ := h
      exact ⟨by omega, by omega, 1, rfl, by omega, by simp, by unfold put; rw [if_pos d]; rfl⟩
    · rw [if_neg d, if_pos (by omega)] at h
      simp at h
  | [a, b], r0, r1, _, _, h =>
    simp only [vget, List.length_cons, List.length_nil, List.getD_cons_zero, List.getD_cons_succ] at h r0 r1
    unfold vgetf at h
    rw [if_neg (by omega)] at h
    by_cases d : a < 128
    · rw [if_pos d] at h
      simp only [Prod.mk.injEq] at h
      obtain ⟨rfl, rfl, _⟩ := h
      exact ⟨by omega, by omega, 1, rfl, by omega, by simp, by unfold put; rw [if_pos d]; rfl⟩
    · rw [if_neg d, if_neg (by omega)] at h
      by_cases z : b = 0
      · rw [if_pos z] at h; simp at h
      · rw [if_neg z] at h
        by_cases d1 : b < 128
        · rw [if_pos d1] at h
          simp only [Prod.mk.injEq] at h
          obtain ⟨rfl, rfl, _⟩ := h
          exact ⟨by omega, by omega, 2, rfl, by omega, by simp, by
            unfold put; rw [if_neg (by omega), if_pos (by omega), show (a - 128 + b * 128) % 128 + 128 = a from by omega, show (a - 128 + b * 128) / 128 = b from by omega]; rfl⟩
        · rw [if_neg d1, if_pos (by omega)] at h
          simp at h
  | [a, b, c], r0, r1, r2, _, h =>
    simp only [vget, List.length_cons, List.length_nil, List.getD_cons_zero, List.getD_cons_succ] at h r0 r1 r2
    unfold vgetf at h
    rw [if_neg (by omega)] at h
    by_cases d : a < 128
    · rw [if_pos d] at h
      simp only [Prod.mk.injEq] at h
      obtain ⟨rfl, rfl, _⟩ := h
      exact ⟨by omega, by omega, 1, rfl, by omega, by simp, by unfold put; rw [if_pos d]; rfl⟩
    · rw [if_neg d, if_neg (by omega)] at h
      by_cases z : b = 0
      · rw [if_pos z] at h; simp at h
      · rw [if_neg z] at h
        by_cases d1 : b < 128
        · rw [if_pos d1] at h
          simp only [Prod.mk.injEq] at h
          obtain ⟨rfl, rfl, _⟩ := h
          exact ⟨by omega, by omega, 2, rfl, by omega, by simp, by
            unfold put; rw [if_neg (by omega), if_pos (by omega), show (a - 128 + b * 128) % 128 + 128 = a from by omega, show (a - 128 + b * 128) / 128 = b from by omega]; rfl⟩
        · rw [if_neg d1, if_neg (by omega)] at h
          by_cases z2 : c = 0
          · rw [if_pos z2] at h; simp at h
          · rw [if_neg z2] at h
            by_cases d2 : c < 128
            · rw [if_pos d2] at h
              simp only [Prod.mk.injEq] at h
              obtain ⟨rfl, rfl, _⟩ := h
              exact ⟨by omega, by omega, 3, rfl, by omega, by simp, by
                unfold put; rw [if_neg (by omega), if_neg (by omega), if_pos (by omega), show (a - 128 + (b - 128) * 128 + c * 16384) % 128 + 128 = a from by omega, show (a - 128 + (b - 128) * 128 + c * 16384) / 128 % 128 + 128 = b from by omega, show (a - 128 + (b - 128) * 128 + c * 16384) / 16384 = c from by omega]; rfl⟩
            · rw [if_neg d2, if_pos (by omega)] at h
              simp at h
  | a :: b :: c :: e :: r, r0, r1, r2, r3, h =>
    simp only [vget, List.length_cons, List.getD_cons_zero, List.getD_cons_succ] at h r0 r1 r2 r3
    unfold vgetf at h
    rw [if_neg (by omega)] at h
    by_cases d : a < 128
    · rw [if_pos d] at h
      simp only [Prod.mk.injEq] at h
      obtain ⟨rfl, rfl, _⟩ := h
      exact ⟨by omega, by omega, 1, rfl, by omega, by simp, by unfold put; rw [if_pos d]; rfl⟩
    · rw [if_neg d, if_neg (by omega)] at h
      by_cases z : b = 0
      · rw [if_pos z] at h; simp at h
      · rw [if_neg z] at h
        by_cases d1 : b < 128
        · rw [if_pos d1] at h
          simp only [Prod.mk.injEq] at h
          obtain ⟨rfl, rfl, _⟩ := h
          exact ⟨by omega, by omega, 2, rfl, by omega, by simp, by
            unfold put; rw [if_neg (by omega), if_pos (by omega), show (a - 128 + b * 128) % 128 + 128 = a from by omega, show (a - 128 + b * 128) / 128 = b from by omega]; rfl⟩
        · rw [if_neg d1, if_neg (by omega)] at h
          by_cases z2 : c = 0
          · rw [if_pos z2] at h; simp at h
          · rw [if_neg z2] at h
            by_cases d2 : c < 128
            · rw [if_pos d2] at h
              simp only [Prod.mk.injEq] at h
              obtain ⟨rfl, rfl, _⟩ := h
              exact ⟨by omega, by omega, 3, rfl, by omega, by simp, by
                unfold put; rw [if_neg (by omega), if_neg (by omega), if_pos (by omega), show (a - 128 + (b - 128) * 128 + c * 16384) % 128 + 128 = a from by omega, show (a - 128 + (b - 128) * 128 + c * 16384) / 128 % 128 + 128 = b from by omega, show (a - 128 + (b - 128) * 128 + c * 16384) / 16384 = c from by omega]; rfl⟩
            · rw [if_neg d2, if_neg (by omega)] at h
              by_cases z3 : e = 0
              · rw [if_pos z3] at h; simp at h
              · rw [if_neg z3] at h
                by_cases d3 : e < 128
                · rw [if_pos d3] at h
                  simp only [Prod.mk.injEq] at h
                  obtain ⟨rfl, rfl, _⟩ := h
                  exact ⟨by omega, by omega, 4, rfl, by omega, by simp, by
                    unfold put; rw [if_neg (by omega), if_neg (by omega), if_neg (by omega), show (a - 128 + (b - 128) * 128 + (c - 128) * 16384 + e * 2097152) % 128 + 128 = a from by omega, show (a - 128 + (b - 128) * 128 + (c - 128) * 16384 + e * 2097152) / 128 % 128 + 128 = b from by omega, show (a - 128 + (b - 128) * 128 + (c - 128) * 16384 + e * 2097152) / 16384 % 128 + 128 = c from by omega, show (a - 128 + (b - 128) * 128 + (c - 128) * 16384 + e * 2097152) / 2097152 = e from by omega]; rfl⟩
                · rw [if_neg d3] at h
                  simp at h
end Go.Proofs.YtgdfnopnmdjklaaGreatDoor.V
/- Proved here: prop's getPair and getValue read what a property of a shape has, or tell an error of below. Helper contracts. -/
namespace Go.Proofs.YtgdfnopnmdjklaaGreatDoor
open Go.RowKit
set_option maxRecDepth 100000

/-- what a call tells whose error is one of below -/
def Bad3 (w : World) (e : Ending) (w' : World) : Prop := ∃ a b x n, e = .returned (.tuple #[.int .i64 a, .int .i64 b, .iface 64 x]) ∧ Hid (Inn w' (.iface 64 x) n) ∧ Below w.heap.size w w'
theorem vget_good (v : Value) (l : List Int) (w : World) (h : Byt w v l) (n : Int) (K : Nat) (hv : V.vget l = (n, (K : Int), 0)) : Calls Tryz.prog 17 #[v] w fun e w' => e = .returned (.tuple #[.int .i64 n, .int .i64 K, .nilIface]) ∧ Below w.heap.size w w' := by
  refine (V.get_any v l w h).mono ?_
  rintro e w' ⟨E, rfl, hE, hb⟩
  rw [hv] at hE ⊢
  rcases hE with ⟨_, rfl⟩ | ⟨h0, _⟩
  · exact ⟨rfl, hb⟩
  · exact absurd rfl h0
theorem vget_fail (v : Value) (l : List Int) (w : World) (h : Byt w v l) (m : Int) (hv : (V.vget l).2.2 = m) (hm : m ≠ 0) : Calls Tryz.prog 17 #[v] w fun e w' => ∃ a b x, e = .returned (.tuple #[.int .i64 a, .int .i64 b, .iface 64 x]) ∧ Hid (Inn w' (.iface 64 x) m) ∧ Below w.heap.size w w' := by
  refine (V.get_any v l w h).mono ?_
  rintro e w' ⟨E, rfl, hE, hb⟩
  rw [hv] at hE
  rcases hE with ⟨h0, _⟩ | ⟨_, b, rfl, hc⟩
  · exact absurd h0 hm
  · exact ⟨_, _, _, rfl, .inr ⟨b, rfl, hc⟩, hb⟩
theorem fault_cell (n : Int) (w : World) : (faultW n w).cell? ⟨w.heap.size, 1, none⟩ = some (.iface 40 (.int .i64 n)) := by simp [faultW]
theorem gt_cases (l : List Int) : (∃ s K, full l = true ∧ utf (sb (gbs l)) = true ∧ s = gbs l ∧ K = 2 + nb l ∧ gt l = (s, (K : Int), 0)) ∨ (∃ m, m ≠ 0 ∧ gt l = (⟨#[]⟩, 0, m)) := by
  unfold gt
  by_cases hf : full l = true
  · rw [if_pos hf]
    by_cases hu : utf (sb (gbs l)) = true
    · rw [if_pos hu]; exact .inl ⟨_, _, hf, hu, rfl, rfl, rfl⟩
    · rw [if_neg hu]; exact .inr ⟨1, by decide, rfl⟩
  · rw [if_neg hf]; exact .inr ⟨3, by decide, rfl⟩
theorem tget_good (v : Value) (l : List Int) (w : World) (h : Byt w v l) (s : ByteArray) (K : Nat) (hv : gt l = (s, (K : Int), 0)) : Calls Tryz.prog 62 #[v] w fun e w' => e = .returned (.tuple #[.string s, .int .i64 K, .nilIface]) ∧ Below w.heap.size w w' := by
  rcases gt_cases l with ⟨s', K', hf, hu, rfl, rfl, hg⟩ | ⟨m, hm, hg⟩
  · rw [hg] at hv
    simp only [Prod.mk.injEq] at hv
    obtain ⟨rfl, hk, _⟩ := hv
    refine (get_ok v l w h hf hu).mono ?_
    rintro e w' ⟨rfl, q, rfl⟩
    exact ⟨by rw [hk], below_q q⟩
  · rw [hg] at hv
    simp only [Prod.mk.injEq] at hv
    exact absurd hv.2.2 hm
theorem tget_fail (v : Value) (l : List Int) (w : World) (h : Byt w v l) (m : Int) (hv : (gt l).2.2 = m) (hm : m ≠ 0) : Calls Tryz.prog 62 #[v] w fun e w' => ∃ s a x, e = .returned (.tuple #[.string s, .int .i64 a, .iface 64 x]) ∧ Hid (Inn w' (.iface 64 x) m) ∧ Below w.heap.size w w' := by
  unfold gt at hv
  by_cases hf : full l = true
  · rw [if_pos hf] at hv
    by_cases hu : utf (sb (gbs l)) = true
    · rw [if_pos hu] at hv; exact absurd hv.symm hm
    · rw [if_neg hu] at hv
      subst hv
      refine (get_form v l w h hf (by simpa using hu)).mono ?_
      rintro e w' ⟨rfl, q, rfl⟩
      exact ⟨_, _, _, rfl, .inr ⟨_, rfl, fault_cell _ _⟩, (below_q q).trans (fault_below 1 (w.drewN q))⟩
  · rw [if_neg hf] at hv
    subst hv
    refine (get_short v l w h (by simpa using hf)).mono ?_
    rintro e w' ⟨rfl, q, rfl⟩
    exact ⟨_, _, _, rfl, .inr ⟨_, rfl, fault_cell _ _⟩, (below_q q).trans (fault_below 3 (w.drewN q))⟩
theorem tbin_good (v : Value) (l : List Int) (w : World) (h : Byt w v l) (s : ByteArray) (K : Nat) (hv : gbn l = (s, (K : Int), 0)) : Calls Tryz.prog 64 #[v] w fun e w' => e = .returned (.tuple #[.string s, .int .i64 K, .nilIface]) ∧ Below w.heap.size w w' := by
  unfold gbn at hv
  by_cases hf : full l = true
  · rw [if_pos hf] at hv
    simp only [Prod.mk.injEq] at hv
    obtain ⟨rfl, hk, _⟩ := hv
    refine (gbin_ok v l w h hf).mono ?_
    rintro e w' ⟨rfl, q, rfl⟩
    exact ⟨by rw [hk], below_q q⟩
  · rw [if_neg hf] at hv
    simp at hv
theorem tbin_fail (v : Value) (l : List Int) (w : World) (h : Byt w v l) (m : Int) (hv : (gbn l).2.2 = m) (hm : m ≠ 0) : Calls Tryz.prog 64 #[v] w fun e w' => ∃ s a x, e = .returned (.tuple #[.string s, .int .i64 a, .iface 64 x]) ∧ Hid (Inn w' (.iface 64 x) m) ∧ Below w.heap.size w w' := by
  unfold gbn at hv
  by_cases hf : full l = true
  · rw [if_pos hf] at hv; exact absurd hv.symm hm
  · rw [if_neg hf] at hv
    subst hv
    refine (gbin_short v l w h (by simpa using hf)).mono ?_
    rintro e w' ⟨rfl, q, rfl⟩
    exact ⟨_, _, _, rfl, .inr ⟨_, rfl, fault_cell _ _⟩, (below_q q).trans (fault_below 3 (w.drewN q))⟩
theorem gnum_good (v : Value) (l : List Int) (w : World) (h : Byt w v l) (k : Int) (hk : k = 1 ∨ k = 2 ∨ k = 4) (hl : k ≤ l.length) : Calls Tryz.prog 107 #[v, .int .i64 k] w fun e w' => e = .returned (.tuple #[.int .i64 (be k l), .int .i64 k, .nilIface]) ∧ Below w.heap.size w w' := by
  obtain ⟨ao, cap, rfl, hlen, hr, hcase⟩ := h
  rcases hcase with rfl | ⟨b, off, rfl, hc⟩
  · simp at hl; omega
  · rcases hk with rfl | rfl | rfl
    · exact gnum_1 b off l.length cap _ w (by omega) hlen.1 hlen.2 (hc 0 (by omega)) (hr 0)
    · exact gnum_2 b off l.length cap _ _ w (by omega) hlen.1 hlen.2 (hc 0 (by omega)) (hc 1 (by omega)) (hr 0) (hr 1)
    · exact gnum_4 b off l.length cap _ _ _ _ w (by omega) hlen.1 hlen.2 (hc 0 (by omega)) (hc 1 (by omega)) (hc 2 (by omega)) (hc 3 (by omega)) (hr 0) (hr 1) (hr 2) (hr 3)
theorem gnum_fail (v : Value) (l : List Int) (w : World) (h : Byt w v l) (k : Int) (hl : (l.length : Int) < k) : Calls Tryz.prog 107 #[v, .int .i64 k] w fun e w' => e = .returned (.tuple #[.int .i64 0, .int .i64 0, .iface 40 (.int .i64 3)]) ∧ Below w.heap.size w w' := by
  obtain ⟨ao, cap, rfl, _⟩ := h
  refine (gnum_short ao _ cap k w hl).mono ?_
  rintro e w' ⟨rfl, rfl⟩
  exact ⟨rfl, Below.refl _ _⟩

def PairBad (w : World) (e : Ending) (w' : World) : Prop := ∃ s t a x n, e = .returned (.tuple #[.string s, .string t, .int .i64 a, .iface 64 x]) ∧ Hid (Inn w' (.iface 64 x) n) ∧ Below w.heap.size w w'
set_option maxHeartbeats 1000000 in
theorem gpair_ok (v : Value) (l : List Int) (w : World) (h : Byt w v l) (s t : ByteArray) (K M : Nat) (h1 : gt l = (s, (K : Int), 0)) (h2 : gt (l.drop K) = (t, (M : Int), 0)) (hK : 2 ≤ K ∧ K ≤ l.length) (hM : K + M ≤ l.length) :
    Calls Tryz.prog 108 #[v] w fun e w' => e = .returned (.tuple #[.string s, .string t, .int .i64 (K + M : Nat), .nilIface]) ∧ Below w.heap.size w w' := by
  obtain ⟨b, off, cap, rfl, hc1, hc2⟩ := h.form1 (by omega)
  unfold maxLen at hc2
  have HV := hide h
  have H1 := hide h1
  have H2 := hide h2
  clear h h1 h2
  generalize hn : l.length = n at hc1 hK hM HV
  go_enter Tryz.func108, Tryz.ntmps108
  go_wp2_with fail
  refine (tget_good _ l _ (unhide HV) s K (unhide H1)).mono ?_
  rintro e w1 ⟨rfl, hb1⟩
  have HD1 : Hid (cap = K → Byt w1 (.slice (some ⟨b, off, none⟩) (n - K) 0) (l.drop K)) := fun e => by
    have := ((unhide HV).below hb1).drop' K (by omega)
    rw [if_pos e, e, Nat.sub_self] at this; exact this
  have HD2 : Hid (¬ cap = K → Byt w1 (.slice (some ⟨b, off + K, none⟩) (n - K) (cap - K)) (l.drop K)) := fun e => by
    have := ((unhide HV).below hb1).drop' K (by omega)
    rw [if_neg e] at this; exact this
  have HB1 := hide hb1
  clear hb1
  go_wp2_with fail
  case inl h =>
    refine (tget_good _ _ _ ((unhide HD1) h) t M (unhide H2)).mono ?_
    rintro e w2 ⟨rfl, hb2⟩
    go_wp2
    go_returns
    exact ⟨by go_num, (unhide HB1).trans (hb2.mono (unhide HB1).size)⟩
  case inr h =>
    refine (tget_good _ _ _ ((unhide HD2) h) t M (unhide H2)).mono ?_
    rintro e w2 ⟨rfl, hb2⟩
    go_wp2
    go_returns
    exact ⟨by go_num, (unhide HB1).trans (hb2.mono (unhide HB1).size)⟩
theorem gpair_bad1 (v : Value) (l : List Int) (w : World) (h : Byt w v l) (m : Int) (h1 : (gt l).2.2 = m) (hm : m ≠ 0) : Calls Tryz.prog 108 #[v] w (PairBad w) := by
  obtain ⟨ao, cap, rfl, hc1, hc2⟩ := h.form
  have HV := hide h
  have H1 := hide h1
  clear h h1
  generalize hn : l.length = n at hc1 HV
  go_enter Tryz.func108, Tryz.ntmps108
  go_wp2_with fail
  refine (tget_fail _ l _ (unhide HV) m (unhide H1) hm).mono ?_
  rintro e w1 ⟨s, a, x, rfl, hi, hb1⟩
  go_wp2
  go_returns
  exact ⟨_, _, _, _, _, rfl, hi, hb1⟩
set_option maxHeartbeats 1000000 in
theorem gpair_bad2 (v : Value) (l : List Int) (w : World) (h : Byt w v l) (s : ByteArray) (K : Nat) (h1 : gt l = (s, (K : Int), 0)) (hK : 2 ≤ K ∧ K ≤ l.length) (m : Int) (h2 : (gt (l.drop K)).2.2 = m) (hm : m ≠ 0) : Calls Tryz.prog 108 #[v] w (PairBad w) := by
  obtain ⟨b, off, cap, rfl, hc1, hc2⟩ := h.form1 (by omega)
  unfold maxLen at hc2
  have HV := hide h
  have H1 := hide h1
  have H2 := hide h2
  clear h h1 h2
  generalize hn : l.length = n at hc1 hK HV
  go_enter Tryz.func108, Tryz.ntmps108
  go_wp2_with fail
  refine (tget_good _ l _ (unhide HV) s K (unhide H1)).mono ?_
  rintro e w1 ⟨rfl, hb1⟩
  have HD1 : Hid (cap = K → Byt w1 (.slice (some ⟨b, off, none⟩) (n - K) 0) (l.drop K)) := fun e => by
    have := ((unhide HV).below hb1).drop' K (by omega)
    rw [if_pos e, e, Nat.sub_self] at this; exact this
  have HD2 : Hid (¬ cap = K → Byt w1 (.slice (some ⟨b, off + K, none⟩) (n - K) (cap - K)) (l.drop K)) := fun e => by
    have := ((unhide HV).below hb1).drop' K (by omega)
    rw [if_neg e] at this; exact this
  have HB1 := hide hb1
  clear hb1
  go_wp2_with fail
  case inl h =>
    refine (tget_fail _ _ _ ((unhide HD1) h) m (unhide H2) hm).mono ?_
    rintro e w2 ⟨s, a, x, rfl, hi, hb2⟩
    go_wp2
    go_returns
    exact ⟨_, _, _, _, _, rfl, hi, (unhide HB1).trans (hb2.mono (unhide HB1).size)⟩
  case inr h =>
    refine (tget_fail _ _ _ ((unhide HD2) h) m (unhide H2) hm).mono ?_
    rintro e w2 ⟨s, a, x, rfl, hi, hb2⟩
    go_wp2
    go_returns
    exact ⟨_, _, _, _, _, rfl, hi, (unhide HB1).trans (hb2.mono (unhide HB1).size)⟩

theorem cell_set (w : World) (p q : Addr) (v : Value) (h : (w.cell? q).isSome = true) : (w.setCell p v).cell? q = if p = q then some v else w.cell? q := by
  by_cases e : p = q
  · subst e
    rw [if_pos rfl]
    exact World.cell?_setCell_same' w p v h
  · rw [if_neg e]
    exact World.cell?_setCell_other _ _ _ _ e
/-- a return of a property that lies in memory, a number, an error -/
theorem res_p {fn : Func} {a t u : Tmp} (h : fn.results = #[.cell a 147, .tmp t, .tmp u]) {tmps : Array Value} {w : World} {B : Nat} {v0 v1 v2 v3 : Value} (ha : tmps[a]?.getD undef = .pointer (some ⟨B, 0, none⟩)) (c0 : w.cell? ⟨B, 0, none⟩ = some v0) (c1 : w.cell? ⟨B, 1, none⟩ = some v1) (c2 : w.cell? ⟨B, 2, none⟩ = some v2) (c3 : w.cell? ⟨B, 3, none⟩ = some v3) :
    (results fn tmps).run Tryz.prog w = .ok (.tuple #[.agg #[v0, v1, v2, v3], tmps[t]?.getD undef, tmps[u]?.getD undef]) w := by
  simp [results, h, ha, go_sem, c0, c1, c2, c3]
/-- an error of below that does not lie in the block B -/
def InnOff (B : Nat) (w : World) (v : Value) (n : Int) : Prop := v = .iface 40 (.int .i64 n) ∨ ∃ b, b ≠ B ∧ v = .iface 64 (.pointer (some ⟨b, 0, none⟩)) ∧ w.cell? ⟨b, 1, none⟩ = some (.iface 40 (.int .i64 n))
theorem InnOff.inn {B : Nat} {w : World} {v : Value} {n : Int} (h : InnOff B w v n) : Inn w v n := by
  rcases h with h | ⟨b, _, h1, h2⟩
  · exact .inl h
  · exact .inr ⟨b, h1, h2⟩
theorem InnOff.set {B : Nat} {w : World} {v : Value} {n : Int} (h : InnOff B w v n) {p : Addr} {u : Value} (hp : p.block = B) : InnOff B (w.setCell p u) v n := by
  rcases h with h | ⟨b, h0, h1, h2⟩
  · exact .inl h
  · exact .inr ⟨b, h0, h1, by rw [World.cell?_setCell_far _ _ _ _ (by rw [hp]; exact Ne.symm h0)]; exact h2⟩
theorem Inn.off {B : Nat} {w : World} {v : Value} {n z : Int} (h : Inn w v n) (hB : w.cell? ⟨B, 1, none⟩ = some (.int .i64 z)) : InnOff B w v n := by
  rcases h with h | ⟨b, h1, h2⟩
  · exact .inl h
  · refine .inr ⟨b, ?_, h1, h2⟩
    rintro rfl
    rw [hB] at h2
    simp at h2
/-- a property but for its ID, and how many bytes -/
def GvOk (n : Int) (s t : ByteArray) (K : Int) (w : World) (e : Ending) (w' : World) : Prop := e = .returned (.tuple #[.agg #[.int .i64 0, .int .i64 n, .string s, .string t], .int .i64 K, .nilIface]) ∧ Below w.heap.size w w'
def GvBad (w : World) (e : Ending) (w' : World) : Prop := ∃ i n s t K ty x m, e = .returned (.tuple #[.agg #[.int .i64 i, .int .i64 n, .string s, .string t], .int .i64 K, .iface ty x]) ∧ Hid (Inn w' (.iface ty x) m) ∧ Below w.heap.size w w'
abbrev shp (f k lo hi : Int) : Value := .agg #[.int .i64 f, .int .i64 k, .int .i64 lo, .int .i64 hi]
set_option maxHeartbeats 1000000 in
theorem gval_num (v : Value) (l : List Int) (w : World) (h : Byt w v l) (k lo hi : Int) (hk : k = 1 ∨ k = 2 ∨ k = 4) (hl : k ≤ l.length) : Calls Tryz.prog 97 #[v, shp 1 k lo hi] w (GvOk (be k l) es es k w) := by
  obtain ⟨ao, cap, rfl, hc1, hc2⟩ := h.form
  have HV := hide h
  have Hhk := hide hk
  clear hk
  have Hhl := hide hl
  clear hl
  clear h
  generalize hn : l.length = n at hc1 HV
  go_enter Tryz.func97, Tryz.ntmps97
  go_wp2_with fail
  refine (gnum_good _ l _ ((unhide HV).below (by go_grown)) k (unhide Hhk) (unhide Hhl)).mono ?_
  rintro e w1 ⟨rfl, hb1⟩
  have HB1 : Hid (Below w.heap.size w w1) := (((Below.refl _ _).alloc (Nat.le_refl _) _).alloc (by simp) _).trans (hb1.mono (by simp; omega))
  have q0 : w1.cell? ⟨w.heap.size + 1, 0, none⟩ = some (.int .i64 0) := (hb1.cell (p := ⟨w.heap.size + 1, 0, none⟩) (by simp)).trans (by simp)
  have q1 : w1.cell? ⟨w.heap.size + 1, 1, none⟩ = some (.int .i64 0) := (hb1.cell (p := ⟨w.heap.size + 1, 1, none⟩) (by simp)).trans (by simp)
  have q2 : w1.cell? ⟨w.heap.size + 1, 2, none⟩ = some (.string ⟨#[]⟩) := (hb1.cell (p := ⟨w.heap.size + 1, 2, none⟩) (by simp)).trans (by simp)
  have q3 : w1.cell? ⟨w.heap.size + 1, 3, none⟩ = some (.string ⟨#[]⟩) := (hb1.cell (p := ⟨w.heap.size + 1, 3, none⟩) (by simp)).trans (by simp)
  have f0 : w1.frozen? ⟨w.heap.size + 1, 0, none⟩ = false := (hb1.frozen (p := ⟨w.heap.size + 1, 0, none⟩) (by simp)).trans (by simp)
  have f1 : w1.frozen? ⟨w.heap.size + 1, 1, none⟩ = false := (hb1.frozen (p := ⟨w.heap.size + 1, 1, none⟩) (by simp)).trans (by simp)
  have f2 : w1.frozen? ⟨w.heap.size + 1, 2, none⟩ = false := (hb1.frozen (p := ⟨w.heap.size + 1, 2, none⟩) (by simp)).trans (by simp)
  have f3 : w1.frozen? ⟨w.heap.size + 1, 3, none⟩ = false := (hb1.frozen (p := ⟨w.heap.size + 1, 3, none⟩) (by simp)).trans (by simp)
  clear hb1
  go_wp2
  (try simp only [Exit.inBlock, Exit.then])
  refine bodyPost_ret (res_p (B := w.heap.size + 1) (v0 := .int .i64 0) (v1 := .int .i64 (be k l)) (v2 := .string ⟨#[]⟩) (v3 := .string ⟨#[]⟩) rfl rfl ?c0 ?c1 ?c2 ?c3) rfl ?_
  case c0 => simp (maxDischargeDepth := 12) [cell_set, q0]
  case c1 => simp (maxDischargeDepth := 12) [cell_set, q1]
  case c2 => simp (maxDischargeDepth := 12) [cell_set, q2]
  case c3 => simp (maxDischargeDepth := 12) [cell_set, q3]
  exact ⟨rfl, by have := unhide HB1; go_grown⟩
set_option maxHeartbeats 1000000 in
theorem gval_num_bad (v : Value) (l : List Int) (w : World) (h : Byt w v l) (k lo hi : Int) (hl : (l.length : Int) < k) : Calls Tryz.prog 97 #[v, shp 1 k lo hi] w (GvBad w) := by
  obtain ⟨ao, cap, rfl, hc1, hc2⟩ := h.form
  have HV := hide h
  have Hhl := hide hl
  clear hl
  clear h
  generalize hn : l.length = n at hc1 HV
  go_enter Tryz.func97, Tryz.ntmps97
  go_wp2_with fail
  refine (gnum_fail _ l _ ((unhide HV).below (by go_grown)) k (unhide Hhl)).mono ?_
  rintro e w1 ⟨rfl, hb1⟩
  have HB1 : Hid (Below w.heap.size w w1) := (((Below.refl _ _).alloc (Nat.le_refl _) _).alloc (by simp) _).trans (hb1.mono (by simp; omega))
  have q0 : w1.cell? ⟨w.heap.size + 1, 0, none⟩ = some (.int .i64 0) := (hb1.cell (p := ⟨w.heap.size + 1, 0, none⟩) (by simp)).trans (by simp)
  have q1 : w1.cell? ⟨w.heap.size + 1, 1, none⟩ = some (.int .i64 0) := (hb1.cell (p := ⟨w.heap.size + 1, 1, none⟩) (by simp)).trans (by simp)
  have q2 : w1.cell? ⟨w.heap.size + 1, 2, none⟩ = some (.string ⟨#[]⟩) := (hb1.cell (p := ⟨w.heap.size + 1, 2, none⟩) (by simp)).trans (by simp)
  have q3 : w1.cell? ⟨w.heap.size + 1, 3, none⟩ = some (.string ⟨#[]⟩) := (hb1.cell (p := ⟨w.heap.size + 1, 3, none⟩) (by simp)).trans (by simp)
  have f0 : w1.frozen? ⟨w.heap.size + 1, 0, none⟩ = false := (hb1.frozen (p := ⟨w.heap.size + 1, 0, none⟩) (by simp)).trans (by simp)
  have f1 : w1.frozen? ⟨w.heap.size + 1, 1, none⟩ = false := (hb1.frozen (p := ⟨w.heap.size + 1, 1, none⟩) (by simp)).trans (by simp)
  have f2 : w1.frozen? ⟨w.heap.size + 1, 2, none⟩ = false := (hb1.frozen (p := ⟨w.heap.size + 1, 2, none⟩) (by simp)).trans (by simp)
  have f3 : w1.frozen? ⟨w.heap.size + 1, 3, none⟩ = false := (hb1.frozen (p := ⟨w.heap.size + 1, 3, none⟩) (by simp)).trans (by simp)
  clear hb1
  go_wp2
  (try simp only [Exit.inBlock, Exit.then])
  refine bodyPost_ret (res_p (B := w.heap.size + 1) (v0 := .int .i64 0) (v1 := .int .i64 (0)) (v2 := .string ⟨#[]⟩) (v3 := .string ⟨#[]⟩) rfl rfl ?c0 ?c1 ?c2 ?c3) rfl ?_
  case c0 => simp (maxDischargeDepth := 12) [cell_set, q0]
  case c1 => simp (maxDischargeDepth := 12) [cell_set, q1]
  case c2 => simp (maxDischargeDepth := 12) [cell_set, q2]
  case c3 => simp (maxDischargeDepth := 12) [cell_set, q3]
  exact ⟨_, _, _, _, _, _, _, _, rfl, .inl rfl, by have := unhide HB1; go_grown⟩
set_option maxHeartbeats 1000000 in
theorem gval_var (v : Value) (l : List Int) (w : World) (h : Byt w v l) (wd lo hi : Int) (N : Int) (K : Nat) (hg : V.vget l = (N, (K : Int), 0)) : Calls Tryz.prog 97 #[v, shp 2 wd lo hi] w (GvOk N es es K w) := by
  obtain ⟨ao, cap, rfl, hc1, hc2⟩ := h.form
  have HV := hide h
  have Hhg := hide hg
  clear hg
  clear h
  generalize hn : l.length = n at hc1 HV
  go_enter Tryz.func97, Tryz.ntmps97
  go_wp2_with fail
  refine (vget_good _ l _ ((unhide HV).below (by go_grown)) N K (unhide Hhg)).mono ?_
  rintro e w1 ⟨rfl, hb1⟩
  have HB1 : Hid (Below w.heap.size w w1) := (((Below.refl _ _).alloc (Nat.le_refl _) _).alloc (by simp) _).trans (hb1.mono (by simp; omega))
  have q0 : w1.cell? ⟨w.heap.size + 1, 0, none⟩ = some (.int .i64 0) := (hb1.cell (p := ⟨w.heap.size + 1, 0, none⟩) (by simp)).trans (by simp)
  have q1 : w1.cell? ⟨w.heap.size + 1, 1, none⟩ = some (.int .i64 0) := (hb1.cell (p := ⟨w.heap.size + 1, 1, none⟩) (by simp)).trans (by simp)
  have q2 : w1.cell? ⟨w.heap.size + 1, 2, none⟩ = some (.string ⟨#[]⟩) := (hb1.cell (p := ⟨w.heap.size + 1, 2, none⟩) (by simp)).trans (by simp)
  have q3 : w1.cell? ⟨w.heap.size + 1, 3, none⟩ = some (.string ⟨#[]⟩) := (hb1.cell (p := ⟨w.heap.size + 1, 3, none⟩) (by simp)).trans (by simp)
  have f0 : w1.frozen? ⟨w.heap.size + 1, 0, none⟩ = false := (hb1.frozen (p := ⟨w.heap.size + 1, 0, none⟩) (by simp)).trans (by simp)
  have f1 : w1.frozen? ⟨w.heap.size + 1, 1, none⟩ = false := (hb1.frozen (p := ⟨w.heap.size + 1, 1, none⟩) (by simp)).trans (by simp)
  have f2 : w1.frozen? ⟨w.heap.size + 1, 2, none⟩ = false := (hb1.frozen (p := ⟨w.heap.size + 1, 2, none⟩) (by simp)).trans (by simp)
  have f3 : w1.frozen? ⟨w.heap.size + 1, 3, none⟩ = false := (hb1.frozen (p := ⟨w.heap.size + 1, 3, none⟩) (by simp)).trans (by simp)
  clear hb1
  go_wp2
  (try simp only [Exit.inBlock, Exit.then])
  refine bodyPost_ret (res_p (B := w.heap.size + 1) (v0 := .int .i64 0) (v1 := .int .i64 (N)) (v2 := .string ⟨#[]⟩) (v3 := .string ⟨#[]⟩) rfl rfl ?c0 ?c1 ?c2 ?c3) rfl ?_
  case c0 => simp (maxDischargeDepth := 12) [cell_set, q0]
  case c1 => simp (maxDischargeDepth := 12) [cell_set, q1]
  case c2 => simp (maxDischargeDepth := 12) [cell_set, q2]
  case c3 => simp (maxDischargeDepth := 12) [cell_set, q3]
  exact ⟨rfl, by have := unhide HB1; go_grown⟩
set_option maxHeartbeats 1000000 in
theorem gval_var_bad (v : Value) (l : List Int) (w : World) (h : Byt w v l) (wd lo hi : Int) (m : Int) (hg : (V.vget l).2.2 = m) (hm : m ≠ 0) : Calls Tryz.prog 97 #[v, shp 2 wd lo hi] w (GvBad w) := by
  obtain ⟨ao, cap, rfl, hc1, hc2⟩ := h.form
  have HV := hide h
  have Hhg := hide hg
  clear hg
  clear h
  generalize hn : l.length = n at hc1 HV
  go_enter Tryz.func97, Tryz.ntmps97
  go_wp2_with fail
  refine (vget_fail _ l _ ((unhide HV).below (by go_grown)) m (unhide Hhg) hm).mono ?_
  rintro e w1 ⟨a, b, x, rfl, hi, hb1⟩
  have HB1 : Hid (Below w.heap.size w w1) := (((Below.refl _ _).alloc (Nat.le_refl _) _).alloc (by simp) _).trans (hb1.mono (by simp; omega))
  have q0 : w1.cell? ⟨w.heap.size + 1, 0, none⟩ = some (.int .i64 0) := (hb1.cell (p := ⟨w.heap.size + 1, 0, none⟩) (by simp)).trans (by simp)
  have q1 : w1.cell? ⟨w.heap.size + 1, 1, none⟩ = some (.int .i64 0) := (hb1.cell (p := ⟨w.heap.size + 1, 1, none⟩) (by simp)).trans (by simp)
  have q2 : w1.cell? ⟨w.heap.size + 1, 2, none⟩ = some (.string ⟨#[]⟩) := (hb1.cell (p := ⟨w.heap.size + 1, 2, none⟩) (by simp)).trans (by simp)
  have q3 : w1.cell? ⟨w.heap.size + 1, 3, none⟩ = some (.string ⟨#[]⟩) := (hb1.cell (p := ⟨w.heap.size + 1, 3, none⟩) (by simp)).trans (by simp)
  have f0 : w1.frozen? ⟨w.heap.size + 1, 0, none⟩ = false := (hb1.frozen (p := ⟨w.heap.size + 1, 0, none⟩) (by simp)).trans (by simp)
  have f1 : w1.frozen? ⟨w.heap.size + 1, 1, none⟩ = false := (hb1.frozen (p := ⟨w.heap.size + 1, 1, none⟩) (by simp)).trans (by simp)
  have f2 : w1.frozen? ⟨w.heap.size + 1, 2, none⟩ = false := (hb1.frozen (p := ⟨w.heap.size + 1, 2, none⟩) (by simp)).trans (by simp)
  have f3 : w1.frozen? ⟨w.heap.size + 1, 3, none⟩ = false := (hb1.frozen (p := ⟨w.heap.size + 1, 3, none⟩) (by simp)).trans (by simp)
  clear hb1
  have HOF := hide ((unhide hi).off q1)
  clear hi
  go_wp2
  (try simp only [Exit.inBlock, Exit.then])
  refine bodyPost_ret (res_p (B := w.heap.size + 1) (v0 := .int .i64 0) (v1 := .int .i64 (a)) (v2 := .string ⟨#[]⟩) (v3 := .string ⟨#[]⟩) rfl rfl ?c0 ?c1 ?c2 ?c3) rfl ?_
  case c0 => simp (maxDischargeDepth := 12) [cell_set, q0]
  case c1 => simp (maxDischargeDepth := 12) [cell_set, q1]
  case c2 => simp (maxDischargeDepth := 12) [cell_set, q2]
  case c3 => simp (maxDischargeDepth := 12) [cell_set, q3]
  refine ⟨_, _, _, _, _, _, _, m, rfl, InnOff.inn (B := w.heap.size + 1) ?_, ?_⟩
  · refine InnOff.set ?_ rfl; refine InnOff.set ?_ rfl; refine InnOff.set ?_ rfl; refine InnOff.set ?_ rfl; refine InnOff.set ?_ rfl; exact unhide HOF
  · have := unhide HB1; go_grown
set_option maxHeartbeats 1000000 in
theorem gval_text (v : Value) (l : List Int) (w : World) (h : Byt w v l) (wd lo hi : Int) (s : ByteArray) (K : Nat) (hg : gt l = (s, (K : Int), 0)) : Calls Tryz.prog 97 #[v, shp 3 wd lo hi] w (GvOk 0 s es K w) := by
  obtain ⟨ao, cap, rfl, hc1, hc2⟩ := h.form
  have HV := hide h
  have Hhg := hide hg
  clear hg
  clear h
  generalize hn : l.length = n at hc1 HV
  go_enter Tryz.func97, Tryz.ntmps97
  go_wp2_with fail
  refine (tget_good _ l _ ((unhide HV).below (by go_grown)) s K (unhide Hhg)).mono ?_
  rintro e w1 ⟨rfl, hb1⟩
  have HB1 : Hid (Below w.heap.size w w1) := (((Below.refl _ _).alloc (Nat.le_refl _) _).alloc (by simp) _).trans (hb1.mono (by simp; omega))
  have q0 : w1.cell? ⟨w.heap.size + 1, 0, none⟩ = some (.int .i64 0) := (hb1.cell (p := ⟨w.heap.size + 1, 0, none⟩) (by simp)).trans (by simp)
  have q1 : w1.cell? ⟨w.heap.size + 1, 1, none⟩ = some (.int .i64 0) := (hb1.cell (p := ⟨w.heap.size + 1, 1, none⟩) (by simp)).trans (by simp)
  have q2 : w1.cell? ⟨w.heap.size + 1, 2, none⟩ = some (.string ⟨#[]⟩) := (hb1.cell (p := ⟨w.heap.size + 1, 2, none⟩) (by simp)).trans (by simp)
  have q3 : w1.cell? ⟨w.heap.size + 1, 3, none⟩ = some (.string ⟨#[]⟩) := (hb1.cell (p := ⟨w.heap.size + 1, 3, none⟩) (by simp)).trans (by simp)
  have f0 : w1.frozen? ⟨w.heap.size + 1, 0, none⟩ = false := (hb1.frozen (p := ⟨w.heap.size + 1, 0, none⟩) (by simp)).trans (by simp)
  have f1 : w1.frozen? ⟨w.heap.size + 1, 1, none⟩ = false := (hb1.frozen (p := ⟨w.heap.size + 1, 1, none⟩) (by simp)).trans (by simp)
  have f2 : w1.frozen? ⟨w.heap.size + 1, 2, none⟩ = false := (hb1.frozen (p := ⟨w.heap.size + 1, 2, none⟩) (by simp)).trans (by simp)
  have f3 : w1.frozen? ⟨w.heap.size + 1, 3, none⟩ = false := (hb1.frozen (p := ⟨w.heap.size + 1, 3, none⟩) (by simp)).trans (by simp)
  clear hb1
  go_wp2
  (try simp only [Exit.inBlock, Exit.then])
  refine bodyPost_ret (res_p (B := w.heap.size + 1) (v0 := .int .i64 0) (v1 := .int .i64 (0)) (v2 := .string s) (v3 := .string ⟨#[]⟩) rfl rfl ?c0 ?c1 ?c2 ?c3) rfl ?_
  case c0 => simp (maxDischargeDepth := 12) [cell_set, q0]
  case c1 => simp (maxDischargeDepth := 12) [cell_set, q1]
  case c2 => simp (maxDischargeDepth := 12) [cell_set, q2]
  case c3 => simp (maxDischargeDepth := 12) [cell_set, q3]
  exact ⟨rfl, by have := unhide HB1; go_grown⟩
set_option maxHeartbeats 1000000 in
theorem gval_text_bad (v : Value) (l : List Int) (w : World) (h : Byt w v l) (wd lo hi : Int) (m : Int) (hg : (gt l).2.2 = m) (hm : m ≠ 0) : Calls Tryz.prog 97 #[v, shp 3 wd lo hi] w (GvBad w) := by
  obtain ⟨ao, cap, rfl, hc1, hc2⟩ := h.form
  have HV := hide h
  have Hhg := hide hg
  clear hg
  clear h
  generalize hn : l.length = n at hc1 HV
  go_enter Tryz.func97, Tryz.ntmps97
  go_wp2_with fail
  refine (tget_fail _ l _ ((unhide HV).below (by go_grown)) m (unhide Hhg) hm).mono ?_
  rintro e w1 ⟨s, a, x, rfl, hi, hb1⟩
  have HB1 : Hid (Below w.heap.size w w1) := (((Below.refl _ _).alloc (Nat.le_refl _) _).alloc (by simp) _).trans (hb1.mono (by simp; omega))
  have q0 : w1.cell? ⟨w.heap.size + 1, 0, none⟩ = some (.int .i64 0) := (hb1.cell (p := ⟨w.heap.size + 1, 0, none⟩) (by simp)).trans (by simp)
  have q1 : w1.cell? ⟨w.heap.size + 1, 1, none⟩ = some (.int .i64 0) := (hb1.cell (p := ⟨w.heap.size + 1, 1, none⟩) (by simp)).trans (by simp)
  have q2 : w1.cell? ⟨w.heap.size + 1, 2, none⟩ = some (.string ⟨#[]⟩) := (hb1.cell (p := ⟨w.heap.size + 1, 2, none⟩) (by simp)).trans (by simp)
  have q3 : w1.cell? ⟨w.heap.size + 1, 3, none⟩ = some (.string ⟨#[]⟩) := (hb1.cell (p := ⟨w.heap.size + 1, 3, none⟩) (by simp)).trans (by simp)
  have f0 : w1.frozen? ⟨w.heap.size + 1, 0, none⟩ = false := (hb1.frozen (p := ⟨w.heap.size + 1, 0, none⟩) (by simp)).trans (by simp)
  have f1 : w1.frozen? ⟨w.heap.size + 1, 1, none⟩ = false := (hb1.frozen (p := ⟨w.heap.size + 1, 1, none⟩) (by simp)).trans (by simp)
  have f2 : w1.frozen? ⟨w.heap.size + 1, 2, none⟩ = false := (hb1.frozen (p := ⟨w.heap.size + 1, 2, none⟩) (by simp)).trans (by simp)
  have f3 : w1.frozen? ⟨w.heap.size + 1, 3, none⟩ = false := (hb1.frozen (p := ⟨w.heap.size + 1, 3, none⟩) (by simp)).trans (by simp)
  clear hb1
  have HOF := hide ((unhide hi).off q1)
  clear hi
  go_wp2
  (try simp only [Exit.inBlock, Exit.then])
  refine bodyPost_ret (res_p (B := w.heap.size + 1) (v0 := .int .i64 0) (v1 := .int .i64 (0)) (v2 := .string s) (v3 := .string ⟨#[]⟩) rfl rfl ?c0 ?c1 ?c2 ?c3) rfl ?_
  case c0 => simp (maxDischargeDepth := 12) [cell_set, q0]
  case c1 => simp (maxDischargeDepth := 12) [cell_set, q1]
  case c2 => simp (maxDischargeDepth := 12) [cell_set, q2]
  case c3 => simp (maxDischargeDepth := 12) [cell_set, q3]
  refine ⟨_, _, _, _, _, _, _, m, rfl, InnOff.inn (B := w.heap.size + 1) ?_, ?_⟩
  · refine InnOff.set ?_ rfl; refine InnOff.set ?_ rfl; refine InnOff.set ?_ rfl; refine InnOff.set ?_ rfl; refine InnOff.set ?_ rfl; exact unhide HOF
  · have := unhide HB1; go_grown
set_option maxHeartbeats 1000000 in
theorem gval_bin (v : Value) (l : List Int) (w : World) (h : Byt w v l) (wd lo hi : Int) (s : ByteArray) (K : Nat) (hg : gbn l = (s, (K : Int), 0)) : Calls Tryz.prog 97 #[v, shp 4 wd lo hi] w (GvOk 0 s es K w) := by
  obtain ⟨ao, cap, rfl, hc1, hc2⟩ := h.form
  have HV := hide h
  have Hhg := hide hg
  clear hg
  clear h
  generalize hn : l.length = n at hc1 HV
  go_enter Tryz.func97, Tryz.ntmps97
  go_wp2_with fail
  refine (tbin_good _ l _ ((unhide HV).below (by go_grown)) s K (unhide Hhg)).mono ?_
  rintro e w1 ⟨rfl, hb1⟩
  have HB1 : Hid (Below w.heap.size w w1) := (((Below.refl _ _).alloc (Nat.le_refl _) _).alloc (by simp) _).trans (hb1.mono (by simp; omega))
  have q0 : w1.cell? ⟨w.heap.size + 1, 0, none⟩ = some (.int .i64 0) := (hb1.cell (p := ⟨w.heap.size + 1, 0, none⟩) (by simp)).trans (by simp)
  have q1 : w1.cell? ⟨w.heap.size + 1, 1, none⟩ = some (.int .i64 0) := (hb1.cell (p := ⟨w.heap.size + 1, 1, none⟩) (by simp)).trans (by simp)
  have q2 : w1.cell? ⟨w.heap.size + 1, 2, none⟩ = some (.string ⟨#[]⟩) := (hb1.cell (p := ⟨w.heap.size + 1, 2, none⟩) (by simp)).trans (by simp)
  have q3 : w1.cell? ⟨w.heap.size + 1, 3, none⟩ = some (.string ⟨#[]⟩) := (hb1.cell (p := ⟨w.heap.size + 1, 3, none⟩) (by simp)).trans (by simp)
  have f0 : w1.frozen? ⟨w.heap.size + 1, 0, none⟩ = false := (hb1.frozen (p := ⟨w.heap.size + 1, 0, none⟩) (by simp)).trans (by simp)
  have f1 : w1.frozen? ⟨w.heap.size + 1, 1, none⟩ = false := (hb1.frozen (p := ⟨w.heap.size + 1, 1, none⟩) (by simp)).trans (by simp)
  have f2 : w1.frozen? ⟨w.heap.size + 1, 2, none⟩ = false := (hb1.frozen (p := ⟨w.heap.size + 1, 2, none⟩) (by simp)).trans (by simp)
  have f3 : w1.frozen? ⟨w.heap.size + 1, 3, none⟩ = false := (hb1.frozen (p := ⟨w.heap.size + 1, 3, none⟩) (by simp)).trans (by simp)
  clear hb1
  go_wp2
  (try simp only [Exit.inBlock, Exit.then])
  refine bodyPost_ret (res_p (B := w.heap.size + 1) (v0 := .int .i64 0) (v1 := .int .i64 (0)) (v2 := .string s) (v3 := .string ⟨#[]⟩) rfl rfl ?c0 ?c1 ?c2 ?c3) rfl ?_
  case c0 => simp (maxDischargeDepth := 12) [cell_set, q0]
  case c1 => simp (maxDischargeDepth := 12) [cell_set, q1]
  case c2 => simp (maxDischargeDepth := 12) [cell_set, q2]
  case c3 => simp (maxDischargeDepth := 12) [cell_set, q3]
  exact ⟨rfl, by have := unhide HB1; go_grown⟩
set_option maxHeartbeats 1000000 in
theorem gval_bin_bad (v : Value) (l : List Int) (w : World) (h : Byt w v l) (wd lo hi : Int) (m : Int) (hg : (gbn l).2.2 = m) (hm : m ≠ 0) : Calls Tryz.prog 97 #[v, shp 4 wd lo hi] w (GvBad w) := by
  obtain ⟨ao, cap, rfl, hc1, hc2⟩ := h.form
  have HV := hide h
  have Hhg := hide hg
  clear hg
  clear h
  generalize hn : l.length = n at hc1 HV
  go_enter Tryz.func97, Tryz.ntmps97
  go_wp2_with fail
  refine (tbin_fail _ l _ ((unhide HV).below (by go_grown)) m (unhide Hhg) hm).mono ?_
  rintro e w1 ⟨s, a, x, rfl, hi, hb1⟩
  have HB1 : Hid (Below w.heap.size w w1) := (((Below.refl _ _).alloc (Nat.le_refl _) _).alloc (by simp) _).trans (hb1.mono (by simp; omega))
  have q0 : w1.cell? ⟨w.heap.size + 1, 0, none⟩ = some (.int .i64 0) := (hb1.cell (p := ⟨w.heap.size + 1, 0, none⟩) (by simp)).trans (by simp)
  have q1 : w1.cell? ⟨w.heap.size + 1, 1, none⟩ = some (.int .i64 0) := (hb1.cell (p := ⟨w.heap.size + 1, 1, none⟩) (by simp)).trans (by simp)
  have q2 : w1.cell? ⟨w.heap.size + 1, 2, none⟩ = some (.string ⟨#[]⟩) := (hb1.cell (p := ⟨w.heap.size + 1, 2, none⟩) (by simp)).trans (by simp)
  have q3 : w1.cell? ⟨w.heap.size + 1, 3, none⟩ = some (.string ⟨#[]⟩) := (hb1.cell (p := ⟨w.heap.size + 1, 3, none⟩) (by simp)).trans (by simp)
  have f0 : w1.frozen? ⟨w.heap.size + 1, 0, none⟩ = false := (hb1.frozen (p := ⟨w.heap.size + 1, 0, none⟩) (by simp)).trans (by simp)
  have f1 : w1.frozen? ⟨w.heap.size + 1, 1, none⟩ = false := (hb1.frozen (p := ⟨w.heap.size + 1, 1, none⟩) (by simp)).trans (by simp)
  have f2 : w1.frozen? ⟨w.heap.size + 1, 2, none⟩ = false := (hb1.frozen (p := ⟨w.heap.size + 1, 2, none⟩) (by simp)).trans (by simp)
  have f3 : w1.frozen? ⟨w.heap.size + 1, 3, none⟩ = false := (hb1.frozen (p := ⟨w.heap.size + 1, 3, none⟩) (by simp)).trans (by simp)
  clear hb1
  have HOF := hide ((unhide hi).off q1)
  clear hi
  go_wp2
  (try simp only [Exit.inBlock, Exit.then])
  refine bodyPost_ret (res_p (B := w.heap.size + 1) (v0 := .int .i64 0) (v1 := .int .i64 (0)) (v2 := .string s) (v3 := .string ⟨#[]⟩) rfl rfl ?c0 ?c1 ?c2 ?c3) rfl ?_
  case c0 => simp (maxDischargeDepth := 12) [cell_set, q0]
  case c1 => simp (maxDischargeDepth := 12) [cell_set, q1]
  case c2 => simp (maxDischargeDepth := 12) [cell_set, q2]
  case c3 => simp (maxDischargeDepth := 12) [cell_set, q3]
  refine ⟨_, _, _, _, _, _, _, m, rfl, InnOff.inn (B := w.heap.size + 1) ?_, ?_⟩
  · refine InnOff.set ?_ rfl; refine InnOff.set ?_ rfl; refine InnOff.set ?_ rfl; refine InnOff.set ?_ rfl; refine InnOff.set ?_ rfl; exact unhide HOF
  · have := unhide HB1; go_grown
set_option maxHeartbeats 1000000 in
theorem gval_pair (v : Value) (l : List Int) (w : World) (h : Byt w v l) (wd lo hi : Int) (s t : ByteArray) (K M : Nat) (h1 : gt l = (s, (K : Int), 0)) (h2 : gt (l.drop K) = (t, (M : Int), 0)) (hK : 2 ≤ K ∧ K ≤ l.length) (hM : K + M ≤ l.length) : Calls Tryz.prog 97 #[v, shp 5 wd lo hi] w (GvOk 0 s t (K + M : Nat) w) := by
  obtain ⟨ao, cap, rfl, hc1, hc2⟩ := h.form
  have HV := hide h
  have Hh1 := hide h1
  clear h1
  have Hh2 := hide h2
  clear h2
  have HhK := hide hK
  clear hK
  have HhM := hide hM
  clear hM
  clear h
  generalize hn : l.length = n at hc1 HV
  go_enter Tryz.func97, Tryz.ntmps97
  go_wp2_with fail
  refine (gpair_ok _ l _ ((unhide HV).below (by go_grown)) s t K M (unhide Hh1) (unhide Hh2) (unhide HhK) (unhide HhM)).mono ?_
  rintro e w1 ⟨rfl, hb1⟩
  have HB1 : Hid (Below w.heap.size w w1) := (((Below.refl _ _).alloc (Nat.le_refl _) _).alloc (by simp) _).trans (hb1.mono (by simp; omega))
  have q0 : w1.cell? ⟨w.heap.size + 1, 0, none⟩ = some (.int .i64 0) := (hb1.cell (p := ⟨w.heap.size + 1, 0, none⟩) (by simp)).trans (by simp)
  have q1 : w1.cell? ⟨w.heap.size + 1, 1, none⟩ = some (.int .i64 0) := (hb1.cell (p := ⟨w.heap.size + 1, 1, none⟩) (by simp)).trans (by simp)
  have q2 : w1.cell? ⟨w.heap.size + 1, 2, none⟩ = some (.string ⟨#[]⟩) := (hb1.cell (p := ⟨w.heap.size + 1, 2, none⟩) (by simp)).trans (by simp)
  have q3 : w1.cell? ⟨w.heap.size + 1, 3, none⟩ = some (.string ⟨#[]⟩) := (hb1.cell (p := ⟨w.heap.size + 1, 3, none⟩) (by simp)).trans (by simp)
  have f0 : w1.frozen? ⟨w.heap.size + 1, 0, none⟩ = false := (hb1.frozen (p := ⟨w.heap.size + 1, 0, none⟩) (by simp)).trans (by simp)
  have f1 : w1.frozen? ⟨w.heap.size + 1, 1, none⟩ = false := (hb1.frozen (p := ⟨w.heap.size + 1, 1, none⟩) (by simp)).trans (by simp)
  have f2 : w1.frozen? ⟨w.heap.size + 1, 2, none⟩ = false := (hb1.frozen (p := ⟨w.heap.size + 1, 2, none⟩) (by simp)).trans (by simp)
  have f3 : w1.frozen? ⟨w.heap.size + 1, 3, none⟩ = false := (hb1.frozen (p := ⟨w.heap.size + 1, 3, none⟩) (by simp)).trans (by simp)
  clear hb1
  go_wp2
  (try simp only [Exit.inBlock, Exit.then])
  refine bodyPost_ret (res_p (B := w.heap.size + 1) (v0 := .int .i64 0) (v1 := .int .i64 (0)) (v2 := .string s) (v3 := .string t) rfl rfl ?c0 ?c1 ?c2 ?c3) rfl ?_
  case c0 => simp (maxDischargeDepth := 12) [cell_set, q0]
  case c1 => simp (maxDischargeDepth := 12) [cell_set, q1]
  case c2 => simp (maxDischargeDepth := 12) [cell_set, q2]
  case c3 => simp (maxDischargeDepth := 12) [cell_set, q3]
  exact ⟨rfl, by have := unhide HB1; go_grown⟩
set_option maxHeartbeats 1000000 in
theorem gval_pair_bad (v : Value) (l : List Int) (w : World) (h : Byt w v l) (wd lo hi : Int) (hp : ∀ W, Byt W v l → Calls Tryz.prog 108 #[v] W (PairBad W)) : Calls Tryz.prog 97 #[v, shp 5 wd lo hi] w (GvBad w) := by
  obtain ⟨ao, cap, rfl, hc1, hc2⟩ := h.form
  have Hhp := hide hp
  clear hp
  have HV := hide h
  clear h
  generalize hn : l.length = n at hc1 HV Hhp
  go_enter Tryz.func97, Tryz.ntmps97
  go_wp2_with fail
  refine ((unhide Hhp) _ ((unhide HV).below (by go_grown))).mono ?_
  rintro e w1 ⟨s, t, a, x, m, rfl, hi, hb1⟩
  have HB1 : Hid (Below w.heap.size w w1) := (((Below.refl _ _).alloc (Nat.le_refl _) _).alloc (by simp) _).trans (hb1.mono (by simp; omega))
  have q0 : w1.cell? ⟨w.heap.size + 1, 0, none⟩ = some (.int .i64 0) := (hb1.cell (p := ⟨w.heap.size + 1, 0, none⟩) (by simp)).trans (by simp)
  have q1 : w1.cell? ⟨w.heap.size + 1, 1, none⟩ = some (.int .i64 0) := (hb1.cell (p := ⟨w.heap.size + 1, 1, none⟩) (by simp)).trans (by simp)
  have q2 : w1.cell? ⟨w.heap.size + 1, 2, none⟩ = some (.string ⟨#[]⟩) := (hb1.cell (p := ⟨w.heap.size + 1, 2, none⟩) (by simp)).trans (by simp)
  have q3 : w1.cell? ⟨w.heap.size + 1, 3, none⟩ = some (.string ⟨#[]⟩) := (hb1.cell (p := ⟨w.heap.size + 1, 3, none⟩) (by simp)).trans (by simp)
  have f0 : w1.frozen? ⟨w.heap.size + 1, 0, none⟩ = false := (hb1.frozen (p := ⟨w.heap.size + 1, 0, none⟩) (by simp)).trans (by simp)
  have f1 : w1.frozen? ⟨w.heap.size + 1, 1, none⟩ = false := (hb1.frozen (p := ⟨w.heap.size + 1, 1, none⟩) (by simp)).trans (by simp)
  have f2 : w1.frozen? ⟨w.heap.size + 1, 2, none⟩ = false := (hb1.frozen (p := ⟨w.heap.size + 1, 2, none⟩) (by simp)).trans (by simp)
  have f3 : w1.frozen? ⟨w.heap.size + 1, 3, none⟩ = false := (hb1.frozen (p := ⟨w.heap.size + 1, 3, none⟩) (by simp)).trans (by simp)
  clear hb1
  have HOF := hide ((unhide hi).off q1)
  clear hi
  go_wp2
  (try simp only [Exit.inBlock, Exit.then])
  refine bodyPost_ret (res_p (B := w.heap.size + 1) (v0 := .int .i64 0) (v1 := .int .i64 (0)) (v2 := .string s) (v3 := .string t) rfl rfl ?c0 ?c1 ?c2 ?c3) rfl ?_
  case c0 => simp (maxDischargeDepth := 12) [cell_set, q0]
  case c1 => simp (maxDischargeDepth := 12) [cell_set, q1]
  case c2 => simp (maxDischargeDepth := 12) [cell_set, q2]
  case c3 => simp (maxDischargeDepth := 12) [cell_set, q3]
  refine ⟨_, _, _, _, _, _, _, m, rfl, InnOff.inn (B := w.heap.size + 1) ?_, ?_⟩
  · refine InnOff.set ?_ rfl; refine InnOff.set ?_ rfl; refine InnOff.set ?_ rfl; refine InnOff.set ?_ rfl; refine InnOff.set ?_ rfl; refine InnOff.set ?_ rfl; exact unhide HOF
  · have := unhide HB1; go_grown
theorem gval_none (v : Value) (l : List Int) (w : World) (h : Byt w v l) (wd lo hi : Int) : Calls Tryz.prog 97 #[v, shp 0 wd lo hi] w (GvBad w) := by
  obtain ⟨ao, cap, rfl, hc1, hc2⟩ := h.form
  have HV := hide h
  clear h
  generalize hn : l.length = n at hc1 HV
  go_enter Tryz.func97, Tryz.ntmps97
  go_wp2
  go_returns
  exact ⟨_, _, _, _, _, _, _, _, rfl, .inl rfl, by go_grown⟩
end Go.Proofs.YtgdfnopnmdjklaaGreatDoor
/- Proved here: prop.getOne reads one property with which bytes begin, or tells an error of below. Helper contracts. -/
namespace Go.Proofs.YtgdfnopnmdjklaaGreatDoor
open Go.RowKit
set_option maxRecDepth 100000

def GoOk (p : Pr) (K : Int) (w : World) (e : Ending) (w' : World) : Prop := e = .returned (.tuple #[.agg #[.int .i64 p.1, .int .i64 p.2.1, .string p.2.2.1, .string p.2.2.2], .int .i64 K, .nilIface]) ∧ Below w.heap.size w w'
/-- four cells of one block, written one behind the other -/
def set4 (w : World) (B : Nat) (a b : Int) (s t : ByteArray) : World := (((w.setCell ⟨B, 0, none⟩ (.int .i64 a)).setCell ⟨B, 1, none⟩ (.int .i64 b)).setCell ⟨B, 2, none⟩ (.string s)).setCell ⟨B, 3, none⟩ (.string t)
theorem set4_c0 (w : World) (B : Nat) (a b : Int) (s t : ByteArray) {x : Value} (h : w.cell? ⟨B, 0, none⟩ = some x) : (set4 w B a b s t).cell? ⟨B, 0, none⟩ = some (.int .i64 a) := by
  unfold set4
  simp (maxDischargeDepth := 12) [cell_set, h]
theorem set4_c1 (w : World) (B : Nat) (a b : Int) (s t : ByteArray) {x : Value} (h : w.cell? ⟨B, 1, none⟩ = some x) : (set4 w B a b s t).cell? ⟨B, 1, none⟩ = some (.int .i64 b) := by
  unfold set4
  simp (maxDischargeDepth := 12) [cell_set, h]
theorem set4_c2 (w : World) (B : Nat) (a b : Int) (s t : ByteArray) {x : Value} (h : w.cell? ⟨B, 2, none⟩ = some x) : (set4 w B a b s t).cell? ⟨B, 2, none⟩ = some (.string s) := by
  unfold set4
  simp (maxDischargeDepth := 12) [cell_set, h]
theorem set4_c3 (w : World) (B : Nat) (a b : Int) (s t : ByteArray) {x : Value} (h : w.cell? ⟨B, 3, none⟩ = some x) : (set4 w B a b s t).cell? ⟨B, 3, none⟩ = some (.string t) := by
  unfold set4
  simp (maxDischargeDepth := 12) [cell_set, h]
theorem set4_frozen (w : World) (B : Nat) (a b : Int) (s t : ByteArray) (p : Addr) : (set4 w B a b s t).frozen? p = w.frozen? p := by
  unfold set4
  simp [World.frozen?_setCell]
theorem set4_below (w w0 : World) (B B0 : Nat) (a b : Int) (s t : ByteArray) (h : Below B0 w0 w) (hB : B0 ≤ B) : Below B0 w0 (set4 w B a b s t) := by
  unfold set4
  exact (((h.setCell hB _).setCell hB _).setCell hB _).setCell hB _
theorem set4_off {B : Nat} {w : World} {v : Value} {n : Int} (h : InnOff B w v n) (a b : Int) (s t : ByteArray) : InnOff B (set4 w B a b s t) v n := by
  unfold set4
  exact (((h.set rfl).set rfl).set rfl).set rfl
theorem gone_bad1 (v : Value) (l : List Int) (w : World) (h : Byt w v l) (m : Int) (hv : (V.vget l).2.2 = m) (hm : m ≠ 0) : Calls Tryz.prog 88 #[v] w (GvBad w) := by
  obtain ⟨ao, cap, rfl, hc1, hc2⟩ := h.form
  have HV := hide h
  have Hhv := hide hv
  clear h hv
  generalize hn : l.length = n at hc1 HV
  go_enter Tryz.func88, Tryz.ntmps88
  go_wp2_with fail
  refine (vget_fail _ l _ ((unhide HV).below (by go_grown)) m (unhide Hhv) hm).mono ?_
  rintro e w1 ⟨a, b, x, rfl, hi, hb1⟩
  have HB1 : Hid (Below w.heap.size w w1) := ((Below.refl _ _).alloc (Nat.le_refl _) _).trans (hb1.mono (by simp))
  have q0 : w1.cell? ⟨w.heap.size, 0, none⟩ = some (.int .i64 0) := (hb1.cell (p := ⟨w.heap.size, 0, none⟩) (by simp)).trans (by simp)
  have f0 : w1.frozen? ⟨w.heap.size, 0, none⟩ = false := (hb1.frozen (p := ⟨w.heap.size, 0, none⟩) (by simp)).trans (by simp)
  have q1 : w1.cell? ⟨w.heap.size, 1, none⟩ = some (.int .i64 0) := (hb1.cell (p := ⟨w.heap.size, 1, none⟩) (by simp)).trans (by simp)
  have f1 : w1.frozen? ⟨w.heap.size, 1, none⟩ = false := (hb1.frozen (p := ⟨w.heap.size, 1, none⟩) (by simp)).trans (by simp)
  have q2 : w1.cell? ⟨w.heap.size, 2, none⟩ = some (.string ⟨#[]⟩) := (hb1.cell (p := ⟨w.heap.size, 2, none⟩) (by simp)).trans (by simp)
  have f2 : w1.frozen? ⟨w.heap.size, 2, none⟩ = false := (hb1.frozen (p := ⟨w.heap.size, 2, none⟩) (by simp)).trans (by simp)
  have q3 : w1.cell? ⟨w.heap.size, 3, none⟩ = some (.string ⟨#[]⟩) := (hb1.cell (p := ⟨w.heap.size, 3, none⟩) (by simp)).trans (by simp)
  have f3 : w1.frozen? ⟨w.heap.size, 3, none⟩ = false := (hb1.frozen (p := ⟨w.heap.size, 3, none⟩) (by simp)).trans (by simp)
  have HOF := hide ((unhide hi).off q1)
  clear hb1 hi
  go_wp2
  (try simp only [Exit.inBlock, Exit.then])
  refine bodyPost_ret (res_p (B := w.heap.size) (v0 := .int .i64 0) (v1 := .int .i64 0) (v2 := .string ⟨#[]⟩) (v3 := .string ⟨#[]⟩) rfl rfl ?c0 ?c1 ?c2 ?c3) rfl ?_
  case c0 => simp (maxDischargeDepth := 12) [cell_set, q0]
  case c1 => simp (maxDischargeDepth := 12) [cell_set, q1]
  case c2 => simp (maxDischargeDepth := 12) [cell_set, q2]
  case c3 => simp (maxDischargeDepth := 12) [cell_set, q3]
  refine ⟨_, _, _, _, _, _, _, m, rfl, InnOff.inn (B := w.heap.size) ?_, ?_⟩
  · refine InnOff.set ?_ rfl; refine InnOff.set ?_ rfl; refine InnOff.set ?_ rfl; refine InnOff.set ?_ rfl; exact unhide HOF
  · have := unhide HB1; go_grown
set_option maxHeartbeats 1000000 in
theorem gone_ok (v : Value) (l : List Int) (w : World) (h : Byt w v l) (id : Int) (Q : Nat) (hv : V.vget l = (id, (Q : Int), 0)) (hQ : 1 ≤ Q ∧ Q ≤ l.length) (f wd lo hi : Int) (hsh : shv id = .agg #[.int .i64 f, .int .i64 wd, .int .i64 lo, .int .i64 hi]) (N : Int) (s t : ByteArray) (M : Nat) (hM : Q + M ≤ l.length) (hg : ∀ vb W, Byt W vb (l.drop Q) → Calls Tryz.prog 97 #[vb, shp f wd lo hi] W (GvOk N s t M W)) : Calls Tryz.prog 88 #[v] w (GoOk (id, N, s, t) (Q + M : Nat) w) := by
  obtain ⟨b, off, cap, rfl, hc1, hc2⟩ := h.form1 (by omega)
  unfold maxLen at hc2
  have HV := hide h
  have Hhv := hide hv
  have HSH := hide hsh
  have HG := hide hg
  clear h hv hsh hg
  generalize hn : l.length = n at hc1 hQ HV hM
  have HN := hide hn
  clear hn
  by_cases hcQ : cap = Q
  · have hcQ2 := hcQ.symm
    clear hcQ
    subst hcQ2
    go_enter Tryz.func88, Tryz.ntmps88
    go_wp2_with fail
    refine (vget_good _ l _ ((unhide HV).below (by go_grown)) id Q (unhide Hhv)).mono ?_
    rintro e w1 ⟨rfl, hb1⟩
    have HB1 : Hid (Below w.heap.size w w1) := ((Below.refl _ _).alloc (Nat.le_refl _) _).trans (hb1.mono (by simp))
    have HD : Hid (Byt w1 (.slice (some ⟨b, off, none⟩) 0 0) (l.drop Q)) := by
      show Byt _ _ _
      have := ((unhide HV).below (unhide HB1)).drop' Q (by omega)
      rw [if_pos rfl, Nat.sub_self, show n - Q = 0 from by omega] at this; exact this
    have q0 : w1.cell? ⟨w.heap.size, 0, none⟩ = some (.int .i64 0) := (hb1.cell (p := ⟨w.heap.size, 0, none⟩) (by simp)).trans (by simp)
    have f0 : w1.frozen? ⟨w.heap.size, 0, none⟩ = false := (hb1.frozen (p := ⟨w.heap.size, 0, none⟩) (by simp)).trans (by simp)
    have q1 : w1.cell? ⟨w.heap.size, 1, none⟩ = some (.int .i64 0) := (hb1.cell (p := ⟨w.heap.size, 1, none⟩) (by simp)).trans (by simp)
    have f1 : w1.frozen? ⟨w.heap.size, 1, none⟩ = false := (hb1.frozen (p := ⟨w.heap.size, 1, none⟩) (by simp)).trans (by simp)
    have q2 : w1.cell? ⟨w.heap.size, 2, none⟩ = some (.string ⟨#[]⟩) := (hb1.cell (p := ⟨w.heap.size, 2, none⟩) (by simp)).trans (by simp)
    have f2 : w1.frozen? ⟨w.heap.size, 2, none⟩ = false := (hb1.frozen (p := ⟨w.heap.size, 2, none⟩) (by simp)).trans (by simp)
    have q3 : w1.cell? ⟨w.heap.size, 3, none⟩ = some (.string ⟨#[]⟩) := (hb1.cell (p := ⟨w.heap.size, 3, none⟩) (by simp)).trans (by simp)
    have f3 : w1.frozen? ⟨w.heap.size, 3, none⟩ = false := (hb1.frozen (p := ⟨w.heap.size, 3, none⟩) (by simp)).trans (by simp)
    have hl1 : w.heap.size < w1.heap.size := cell_lt q0
    have HC : Hid (Below w1.heap.size w1 w1) := Below.refl _ _
    clear hb1
    go_wp2_with fail
    refine wp_region_noPanic ?_
    refine wp_region_held_drew (S := (fun _ => True)) (by kernel_rfl) trivial (fun hHeld => ?_)
    refine wpAnyH_take (i := 0) (oi := { dst := some 18, op := Op.move (Operand.tmp 0), type := 23, pos := "prop.go:275", after := #[], guard := none }) (v := ?v1) rfl (by kernel_rfl) (by kernel_rfl) (by kernel_rfl) (fun _ _ _ h => h) (Or.inl ⟨by rfl, ?hy1⟩) (by assumption) ?rest1
    case hy1 => (intro w hSw; (try dsimp only at hSw); go_simp; (try rw [if_pos (by omega)]); (try with_reducible rfl))
    simp only [Act.put, List.setIfInBounds_toArray, List.set_cons_zero, List.set_cons_succ]
    refine wpAnyH_take (i := 1) (oi := { dst := some 19, op := Op.move (Operand.tmp 6), type := 3, pos := "prop.go:275", after := #[], guard := none }) (v := ?v2) rfl (by kernel_rfl) (by kernel_rfl) (by kernel_rfl) (fun _ _ _ h => h) (Or.inl ⟨by rfl, ?hy2⟩) (by assumption) ?rest2
    case hy2 => (intro w hSw; (try dsimp only at hSw); go_simp; (try rw [if_pos (by omega)]); (try with_reducible rfl))
    simp only [Act.put, List.setIfInBounds_toArray, List.set_cons_zero, List.set_cons_succ]
    refine wpAnyH_take (i := 2) (oi := { dst := some 20, op := Op.slice 23 (Operand.tmp 18) (some (Operand.tmp 19)) none none, type := 23, pos := "prop.go:275", after := #[{ on := 0, ground := Ground.data }, { on := 1, ground := Ground.data }], guard := none }) (v := ?v3) rfl (by kernel_rfl) (by kernel_rfl) (by kernel_rfl) (fun _ _ _ h => h) (Or.inl ⟨by rfl, ?hy3⟩) (by assumption) ?rest3
    case hy3 => (intro w hSw; (try dsimp only at hSw); go_simp; (try rw [if_pos (by omega)]); (try with_reducible rfl))
    simp only [Act.put, List.setIfInBounds_toArray, List.set_cons_zero, List.set_cons_succ]
    refine wpAnyH_take (i := 3) (oi := { dst := some 21, op := Op.move (Operand.tmp 5), type := 3, pos := "prop.go:275", after := #[], guard := none }) (v := ?v4) rfl (by kernel_rfl) (by kernel_rfl) (by kernel_rfl) (fun _ _ _ h => h) (Or.inl ⟨by rfl, ?hy4⟩) (by assumption) ?rest4
    case hy4 => (intro w hSw; (try dsimp only at hSw); go_simp; (try rw [if_pos (by omega)]); (try with_reducible rfl))
    simp only [Act.put, List.setIfInBounds_toArray, List.set_cons_zero, List.set_cons_succ]
    refine wpAnyH_ready (rs := [4]) (by kernel_rfl) (by simp) ?_
    refine AllReadyH.cons (o := { dst := some 22, op := Op.call { callee := Callee.value (Operand.func 98), args := #[Operand.tmp 21], argTypes := #[3] }, type := 161, pos := "prop.go:275", after := #[{ on := 3, ground := Ground.data }], guard := none }) rfl (fun K hK => ?_) AllReadyH.nil
    go_simp
    refine (shape_use id f wd lo hi (unhide HSH) _).mono ?_
    rintro e w2 ⟨rfl, hb2⟩
    have hb2' := below_undrew1 hb2
    clear hb2
    have HD2 := hide ((unhide HD).below hb2')
    refine hK.out _ _ trivial (fun hHeld => ?_)
    clear hK K
    refine wpAnyH_ready (rs := [5]) (by kernel_rfl) (by simp) ?_
    refine AllReadyH.cons (o := { dst := some 23, op := Op.call { callee := Callee.value (Operand.func 97), args := #[Operand.tmp 20, Operand.tmp 22], argTypes := #[23, 161] }, type := 148, pos := "prop.go:275", after := #[{ on := 2, ground := Ground.data }, { on := 4, ground := Ground.data }, { on := 4, ground := Ground.chain }], guard := none }) rfl (fun K hK => ?_) AllReadyH.nil
    go_simp
    refine ((unhide HG) _ _ (unhide HD2)).mono ?_
    rintro e w3 ⟨rfl, hb3⟩
    have HB3 : Hid (Below w1.heap.size w1 w3) := hb2'.trans (hb3.mono hb2'.size)
    have r0 := ((unhide HB3).cell (cell_lt q0)).trans q0
    have g0 := ((unhide HB3).frozen (p := ⟨w.heap.size, 0, none⟩) (cell_lt q0)).trans f0
    have r1 := ((unhide HB3).cell (cell_lt q1)).trans q1
    have g1 := ((unhide HB3).frozen (p := ⟨w.heap.size, 1, none⟩) (cell_lt q1)).trans f1
    have r2 := ((unhide HB3).cell (cell_lt q2)).trans q2
    have g2 := ((unhide HB3).frozen (p := ⟨w.heap.size, 2, none⟩) (cell_lt q2)).trans f2
    have r3 := ((unhide HB3).cell (cell_lt q3)).trans q3
    have g3 := ((unhide HB3).frozen (p := ⟨w.heap.size, 3, none⟩) (cell_lt q3)).trans f3
    clear hb2' hb3
    refine hK.out _ _ trivial (fun hHeld => ?_)
    clear hK K
    refine wpAnyH_take (i := 6) (oi := { dst := some 17, op := Op.move (Operand.tmp 23), type := 148, pos := "prop.go:275", after := #[{ on := 5, ground := Ground.data }], guard := none }) (v := ?v5) rfl (by kernel_rfl) (by kernel_rfl) (by kernel_rfl) (fun _ _ _ h => h) (Or.inl ⟨by rfl, ?hy5⟩) (by assumption) ?rest5
    case hy5 => (intro w hSw; (try dsimp only at hSw); go_simp; (try rw [if_pos (by omega)]); (try with_reducible rfl))
    simp only [Act.put, List.setIfInBounds_toArray, List.set_cons_zero, List.set_cons_succ]
    refine wpAnyH_take (i := 7) (oi := { dst := some 24, op := Op.extract (Operand.tmp 17) 0, type := 147, pos := "prop.go:275", after := #[{ on := 6, ground := Ground.data }], guard := none }) (v := ?v6) rfl (by kernel_rfl) (by kernel_rfl) (by kernel_rfl) (fun _ _ _ h => h) (Or.inl ⟨by rfl, ?hy6⟩) (by assumption) ?rest6
    case hy6 => (intro w hSw; (try dsimp only at hSw); go_simp; (try rw [if_pos (by omega)]); (try with_reducible rfl))
    simp only [Act.put, List.setIfInBounds_toArray, List.set_cons_zero, List.set_cons_succ]
    refine wpAnyH_take (i := 8) (oi := { dst := some 25, op := Op.extract (Operand.tmp 17) 1, type := 3, pos := "prop.go:275", after := #[{ on := 6, ground := Ground.data }, { on := 10, ground := Ground.gcOnly Departure.lateStores }], guard := none }) (v := ?v7) rfl (by kernel_rfl) (by kernel_rfl) (by kernel_rfl) (fun _ _ _ h => h) (Or.inl ⟨by rfl, ?hy7⟩) (by assumption) ?rest7
    case hy7 => (intro w hSw; (try dsimp only at hSw); go_simp; (try rw [if_pos (by omega)]); (try with_reducible rfl))
    simp only [Act.put, List.setIfInBounds_toArray, List.set_cons_zero, List.set_cons_succ]
    refine wpAnyH_take (i := 9) (oi := { dst := some 26, op := Op.extract (Operand.tmp 17) 2, type := 32, pos := "prop.go:275", after := #[{ on := 6, ground := Ground.data }, { on := 11, ground := Ground.gcOnly Departure.lateStores }], guard := none }) (v := ?v8) rfl (by kernel_rfl) (by kernel_rfl) (by kernel_rfl) (fun _ _ _ h => h) (Or.inl ⟨by rfl, ?hy8⟩) (by assumption) ?rest8
    case hy8 => (intro w hSw; (try dsimp only at hSw); go_simp; (try rw [if_pos (by omega)]); (try with_reducible rfl))
    simp only [Act.put, List.setIfInBounds_toArray, List.set_cons_zero, List.set_cons_succ]
    refine wpAnyH_ready (rs := [10]) (by kernel_rfl) (by simp) ?_
    refine AllReadyH.cons (o := { dst := none, op := Op.store 147 (Operand.tmp 2) (Operand.tmp 24), type := 0, pos := "prop.go:275", after := #[{ on := 7, ground := Ground.data }, { on := 5, ground := Ground.chain }, { on := 0, ground := Ground.phase }, { on := 1, ground := Ground.phase }, { on := 2, ground := Ground.phase }, { on := 3, ground := Ground.phase }, { on := 4, ground := Ground.phase }, { on := 5, ground := Ground.phase }, { on := 6, ground := Ground.phase }, { on := 7, ground := Ground.phase }, { on := 8, ground := Ground.textOnly Departure.lateStores }, { on := 9, ground := Ground.textOnly Departure.lateStores }], guard := none }) rfl (fun K hK => ?_) AllReadyH.nil
    go_simp
    refine hK.out _ _ trivial (fun hHeld => ?_)
    clear hK K
    show wpAnyH _ _ _ _ _ _ _ _ (set4 w3 w.heap.size 0 N s t)
    have c0 := set4_c0 w3 w.heap.size 0 N s t r0
    have c1 := set4_c1 w3 w.heap.size 0 N s t r1
    have c2 := set4_c2 w3 w.heap.size 0 N s t r2
    have c3 := set4_c3 w3 w.heap.size 0 N s t r3
    have e0 := (set4_frozen w3 w.heap.size 0 N s t ⟨w.heap.size, 0, none⟩).trans g0
    have e1 := (set4_frozen w3 w.heap.size 0 N s t ⟨w.heap.size, 1, none⟩).trans g1
    have e2 := (set4_frozen w3 w.heap.size 0 N s t ⟨w.heap.size, 2, none⟩).trans g2
    have e3 := (set4_frozen w3 w.heap.size 0 N s t ⟨w.heap.size, 3, none⟩).trans g3
    have HB4 : Hid (Below w.heap.size w (set4 w3 w.heap.size 0 N s t)) := set4_below _ _ _ _ _ _ _ _ ((unhide HB1).trans ((unhide HB3).mono (unhide HB1).size)) (Nat.le_refl _)
    generalize set4 w3 w.heap.size 0 N s t = W4 at c0 c1 c2 c3 e0 e1 e2 e3 HB4  ⊢
    clear r0 r1 r2 r3 g0 g1 g2 g3 q0 q1 q2 q3 f0 f1 f2 f3 HB3
    refine wpAnyH_ready (rs := [11]) (by kernel_rfl) (by simp) ?_
    refine AllReadyH.cons (o := { dst := some 3, op := Op.assign (Operand.tmp 25), type := 3, pos := "prop.go:275", after := #[{ on := 8, ground := Ground.data }, { on := 10, ground := Ground.chain }, { on := 0, ground := Ground.phase }, { on := 1, ground := Ground.phase }, { on := 2, ground := Ground.phase }, { on := 3, ground := Ground.phase }, { on := 4, ground := Ground.phase }, { on := 5, ground := Ground.phase }, { on := 6, ground := Ground.phase }, { on := 7, ground := Ground.phase }, { on := 8, ground := Ground.phase }, { on := 9, ground := Ground.textOnly Departure.lateStores }, { on := 10, ground := Ground.phase }], guard := none }) rfl (fun K hK => ?_) AllReadyH.nil
    go_simp
    refine hK.out _ _ trivial (fun hHeld => ?_)
    clear hK K
    refine wpAnyH_ready (rs := [12]) (by kernel_rfl) (by simp) ?_
    refine AllReadyH.cons (o := { dst := some 4, op := Op.assign (Operand.tmp 26), type := 32, pos := "prop.go:275", after := #[{ on := 9, ground := Ground.data }, { on := 11, ground := Ground.chain }, { on := 0, ground := Ground.phase }, { on := 1, ground := Ground.phase }, { on := 2, ground := Ground.phase }, { on := 3, ground := Ground.phase }, { on := 4, ground := Ground.phase }, { on := 5, ground := Ground.phase }, { on := 6, ground := Ground.phase }, { on := 7, ground := Ground.phase }, { on := 8, ground := Ground.phase }, { on := 9, ground := Ground.phase }, { on := 10, ground := Ground.phase }, { on := 11, ground := Ground.phase }], guard := none }) rfl (fun K hK => ?_) AllReadyH.nil
    go_simp
    refine hK.out _ _ trivial (fun hHeld => ?_)
    clear hK K
    refine wpAnyH_done (by kernel_rfl) ?_ _
    refine NoPanic.normal ?_
    clear HD2 HG
    go_wp2
    (try simp only [Exit.inBlock, Exit.then])
    refine bodyPost_ret (res_p (B := w.heap.size) (v0 := .int .i64 (id)) (v1 := .int .i64 (N)) (v2 := .string s) (v3 := .string t) rfl rfl ?c0 ?c1 ?c2 ?c3) rfl ?_
    case c0 => simp (maxDischargeDepth := 12) [cell_set, c0]
    case c1 => simp (maxDischargeDepth := 12) [cell_set, c1]
    case c2 => simp (maxDischargeDepth := 12) [cell_set, c2]
    case c3 => simp (maxDischargeDepth := 12) [cell_set, c3]
    exact ⟨by go_num, by have := unhide HB4; go_grown⟩
  · go_enter Tryz.func88, Tryz.ntmps88
    go_wp2_with fail
    refine (vget_good _ l _ ((unhide HV).below (by go_grown)) id Q (unhide Hhv)).mono ?_
    rintro e w1 ⟨rfl, hb1⟩
    have HB1 : Hid (Below w.heap.size w w1) := ((Below.refl _ _).alloc (Nat.le_refl _) _).trans (hb1.mono (by simp))
    have HD : Hid (Byt w1 (.slice (some ⟨b, off + Q, none⟩) (n - Q) (cap - Q)) (l.drop Q)) := by
      show Byt _ _ _
      have := ((unhide HV).below (unhide HB1)).drop' Q (by omega)
      rw [if_neg hcQ] at this; exact this
    have q0 : w1.cell? ⟨w.heap.size, 0, none⟩ = some (.int .i64 0) := (hb1.cell (p := ⟨w.heap.size, 0, none⟩) (by simp)).trans (by simp)
    have f0 : w1.frozen? ⟨w.heap.size, 0, none⟩ = false := (hb1.frozen (p := ⟨w.heap.size, 0, none⟩) (by simp)).trans (by simp)
    have q1 : w1.cell? ⟨w.heap.size, 1, none⟩ = some (.int .i64 0) := (hb1.cell (p := ⟨w.heap.size, 1, none⟩) (by simp)).trans (by simp)
    have f1 : w1.frozen? ⟨w.heap.size, 1, none⟩ = false := (hb1.frozen (p := ⟨w.heap.size, 1, none⟩) (by simp)).trans (by simp)
    have q2 : w1.cell? ⟨w.heap.size, 2, none⟩ = some (.string ⟨#[]⟩) := (hb1.cell (p := ⟨w.heap.size, 2, none⟩) (by simp)).trans (by simp)
    have f2 : w1.frozen? ⟨w.heap.size, 2, none⟩ = false := (hb1.frozen (p := ⟨w.heap.size, 2, none⟩) (by simp)).trans (by simp)
    have q3 : w1.cell? ⟨w.heap.size, 3, none⟩ = some (.string ⟨#[]⟩) := (hb1.cell (p := ⟨w.heap.size, 3, none⟩) (by simp)).trans (by simp)
    have f3 : w1.frozen? ⟨w.heap.size, 3, none⟩ = false := (hb1.frozen (p := ⟨w.heap.size, 3, none⟩) (by simp)).trans (by simp)
    have hl1 : w.heap.size < w1.heap.size := cell_lt q0
    have HC : Hid (Below w1.heap.size w1 w1) := Below.refl _ _
    clear hb1
    go_wp2_with fail
    refine wp_region_noPanic ?_
    refine wp_region_held_drew (S := (fun _ => True)) (by kernel_rfl) trivial (fun hHeld => ?_)
    refine wpAnyH_take (i := 0) (oi := { dst := some 18, op := Op.move (Operand.tmp 0), type := 23, pos := "prop.go:275", after := #[], guard := none }) (v := ?v9) rfl (by kernel_rfl) (by kernel_rfl) (by kernel_rfl) (fun _ _ _ h => h) (Or.inl ⟨by rfl, ?hy9⟩) (by assumption) ?rest9
    case hy9 => (intro w hSw; (try dsimp only at hSw); go_simp; (try rw [if_pos (by omega)]); (try with_reducible rfl))
    simp only [Act.put, List.setIfInBounds_toArray, List.set_cons_zero, List.set_cons_succ]
    refine wpAnyH_take (i := 1) (oi := { dst := some 19, op := Op.move (Operand.tmp 6), type := 3, pos := "prop.go:275", after := #[], guard := none }) (v := ?v10) rfl (by kernel_rfl) (by kernel_rfl) (by kernel_rfl) (fun _ _ _ h => h) (Or.inl ⟨by rfl, ?hy10⟩) (by assumption) ?rest10
    case hy10 => (intro w hSw; (try dsimp only at hSw); go_simp; (try rw [if_pos (by omega)]); (try with_reducible rfl))
    simp only [Act.put, List.setIfInBounds_toArray, List.set_cons_zero, List.set_cons_succ]
    refine wpAnyH_take (i := 2) (oi := { dst := some 20, op := Op.slice 23 (Operand.tmp 18) (some (Operand.tmp 19)) none none, type := 23, pos := "prop.go:275", after := #[{ on := 0, ground := Ground.data }, { on := 1, ground := Ground.data }], guard := none }) (v := ?v11) rfl (by kernel_rfl) (by kernel_rfl) (by kernel_rfl) (fun _ _ _ h => h) (Or.inl ⟨by rfl, ?hy11⟩) (by assumption) ?rest11
    case hy11 => (intro w hSw; (try dsimp only at hSw); go_simp; (try rw [if_pos (by omega)]); (try with_reducible rfl))
    simp only [Act.put, List.setIfInBounds_toArray, List.set_cons_zero, List.set_cons_succ]
    refine wpAnyH_take (i := 3) (oi := { dst := some 21, op := Op.move (Operand.tmp 5), type := 3, pos := "prop.go:275", after := #[], guard := none }) (v := ?v12) rfl (by kernel_rfl) (by kernel_rfl) (by kernel_rfl) (fun _ _ _ h => h) (Or.inl ⟨by rfl, ?hy12⟩) (by assumption) ?rest12
    case hy12 => (intro w hSw; (try dsimp only at hSw); go_simp; (try rw [if_pos (by omega)]); (try with_reducible rfl))
    simp only [Act.put, List.setIfInBounds_toArray, List.set_cons_zero, List.set_cons_succ]
    refine wpAnyH_ready (rs := [4]) (by kernel_rfl) (by simp) ?_
    refine AllReadyH.cons (o := { dst := some 22, op := Op.call { callee := Callee.value (Operand.func 98), args := #[Operand.tmp 21], argTypes := #[3] }, type := 161, pos := "prop.go:275", after := #[{ on := 3, ground := Ground.data }], guard := none }) rfl (fun K hK => ?_) AllReadyH.nil
    go_simp
    refine (shape_use id f wd lo hi (unhide HSH) _).mono ?_
    rintro e w2 ⟨rfl, hb2⟩
    have hb2' := below_undrew1 hb2
    clear hb2
    have HD2 := hide ((unhide HD).below hb2')
    refine hK.out _ _ trivial (fun hHeld => ?_)
    clear hK K
    refine wpAnyH_ready (rs := [5]) (by kernel_rfl) (by simp) ?_
    refine AllReadyH.cons (o := { dst := some 23, op := Op.call { callee := Callee.value (Operand.func 97), args := #[Operand.tmp 20, Operand.tmp 22], argTypes := #[23, 161] }, type := 148, pos := "prop.go:275", after := #[{ on := 2, ground := Ground.data }, { on := 4, ground := Ground.data }, { on := 4, ground := Ground.chain }], guard := none }) rfl (fun K hK => ?_) AllReadyH.nil
    go_simp
    refine ((unhide HG) _ _ (unhide HD2)).mono ?_
    rintro e w3 ⟨rfl, hb3⟩
    have HB3 : Hid (Below w1.heap.size w1 w3) := hb2'.trans (hb3.mono hb2'.size)
    have r0 := ((unhide HB3).cell (cell_lt q0)).trans q0
    have g0 := ((unhide HB3).frozen (p := ⟨w.heap.size, 0, none⟩) (cell_lt q0)).trans f0
    have r1 := ((unhide HB3).cell (cell_lt q1)).trans q1
    have g1 := ((unhide HB3).frozen (p := ⟨w.heap.size, 1, none⟩) (cell_lt q1)).trans f1
    have r2 := ((unhide HB3).cell (cell_lt q2)).trans q2
    have g2 := ((unhide HB3).frozen (p := ⟨w.heap.size, 2, none⟩) (cell_lt q2)).trans f2
    have r3 := ((unhide HB3).cell (cell_lt q3)).trans q3
    have g3 := ((unhide HB3).frozen (p := ⟨w.heap.size, 3, none⟩) (cell_lt q3)).trans f3
    clear hb2' hb3
    refine hK.out _ _ trivial (fun hHeld => ?_)
    clear hK K
    refine wpAnyH_take (i := 6) (oi := { dst := some 17, op := Op.move (Operand.tmp 23), type := 148, pos := "prop.go:275", after := #[{ on := 5, ground := Ground.data }], guard := none }) (v := ?v13) rfl (by kernel_rfl) (by kernel_rfl) (by kernel_rfl) (fun _ _ _ h => h) (Or.inl ⟨by rfl, ?hy13⟩) (by assumption) ?rest13
    case hy13 => (intro w hSw; (try dsimp only at hSw); go_simp; (try rw [if_pos (by omega)]); (try with_reducible rfl))
    simp only [Act.put, List.setIfInBounds_toArray, List.set_cons_zero, List.set_cons_succ]
    refine wpAnyH_take (i := 7) (oi := { dst := some 24, op := Op.extract (Operand.tmp 17) 0, type := 147, pos := "prop.go:275", after := #[{ on := 6, ground := Ground.data }], guard := none }) (v := ?v14) rfl (by kernel_rfl) (by kernel_rfl) (by kernel_rfl) (fun _ _ _ h => h) (Or.inl ⟨by rfl, ?hy14⟩) (by assumption) ?rest14
    case hy14 => (intro w hSw; (try dsimp only at hSw); go_simp; (try rw [if_pos (by omega)]); (try with_reducible rfl))
    simp only [Act.put, List.setIfInBounds_toArray, List.set_cons_zero, List.set_cons_succ]
    refine wpAnyH_take (i := 8) (oi := { dst := some 25, op := Op.extract (Operand.tmp 17) 1, type := 3, pos := "prop.go:275", after := #[{ on := 6, ground := Ground.data }, { on := 10, ground := Ground.gcOnly Departure.lateStores }], guard := none }) (v := ?v15) rfl (by kernel_rfl) (by kernel_rfl) (by kernel_rfl) (fun _ _ _ h => h) (Or.inl ⟨by rfl, ?hy15⟩) (by assumption) ?rest15
    case hy15 => (intro w hSw; (try dsimp only at hSw); go_simp; (try rw [if_pos (by omega)]); (try with_reducible rfl))
    simp only [Act.put, List.setIfInBounds_toArray, List.set_cons_zero, List.set_cons_succ]
    refine wpAnyH_take (i := 9) (oi := { dst := some 26, op := Op.extract (Operand.tmp 17) 2, type := 32, pos := "prop.go:275", after := #[{ on := 6, ground := Ground.data }, { on := 11, ground := Ground.gcOnly Departure.lateStores }], guard := none }) (v := ?v16) rfl (by kernel_rfl) (by kernel_rfl) (by kernel_rfl) (fun _ _ _ h => h) (Or.inl ⟨by rfl, ?hy16⟩) (by assumption) ?rest16
    case hy16 => (intro w hSw; (try dsimp only at hSw); go_simp; (try rw [if_pos (by omega)]); (try with_reducible rfl))
    simp only [Act.put, List.setIfInBounds_toArray, List.set_cons_zero, List.set_cons_succ]
    refine wpAnyH_ready (rs := [10]) (by kernel_rfl) (by simp) ?_
    refine AllReadyH.cons (o := { dst := none, op := Op.store 147 (Operand.tmp 2) (Operand.tmp 24), type := 0, pos := "prop.go:275", after := #[{ on := 7, ground := Ground.data }, { on := 5, ground := Ground.chain }, { on := 0, ground := Ground.phase }, { on := 1, ground := Ground.phase }, { on := 2, ground := Ground.phase }, { on := 3, ground := Ground.phase }, { on := 4, ground := Ground.phase }, { on := 5, ground := Ground.phase }, { on := 6, ground := Ground.phase }, { on := 7, ground := Ground.phase }, { on := 8, ground := Ground.textOnly Departure.lateStores }, { on := 9, ground := Ground.textOnly Departure.lateStores }], guard := none }) rfl (fun K hK => ?_) AllReadyH.nil
    go_simp
    refine hK.out _ _ trivial (fun hHeld => ?_)
    clear hK K
    show wpAnyH _ _ _ _ _ _ _ _ (set4 w3 w.heap.size 0 N s t)
    have c0 := set4_c0 w3 w.heap.size 0 N s t r0
    have c1 := set4_c1 w3 w.heap.size 0 N s t r1
    have c2 := set4_c2 w3 w.heap.size 0 N s t r2
    have c3 := set4_c3 w3 w.heap.size 0 N s t r3
    have e0 := (set4_frozen w3 w.heap.size 0 N s t ⟨w.heap.size, 0, none⟩).trans g0
    have e1 := (set4_frozen w3 w.heap.size 0 N s t ⟨w.heap.size, 1, none⟩).trans g1
    have e2 := (set4_frozen w3 w.heap.size 0 N s t ⟨w.heap.size, 2, none⟩).trans g2
    have e3 := (set4_frozen w3 w.heap.size 0 N s t ⟨w.heap.size, 3, none⟩).trans g3
    have HB4 : Hid (Below w.heap.size w (set4 w3 w.heap.size 0 N s t)) := set4_below _ _ _ _ _ _ _ _ ((unhide HB1).trans ((unhide HB3).mono (unhide HB1).size)) (Nat.le_refl _)
    generalize set4 w3 w.heap.size 0 N s t = W4 at c0 c1 c2 c3 e0 e1 e2 e3 HB4  ⊢
    clear r0 r1 r2 r3 g0 g1 g2 g3 q0 q1 q2 q3 f0 f1 f2 f3 HB3
    refine wpAnyH_ready (rs := [11]) (by kernel_rfl) (by simp) ?_
    refine AllReadyH.cons (o := { dst := some 3, op := Op.assign (Operand.tmp 25), type := 3, pos := "prop.go:275", after := #[{ on := 8, ground := Ground.data }, { on := 10, ground := Ground.chain }, { on := 0, ground := Ground.phase }, { on := 1, ground := Ground.phase }, { on := 2, ground := Ground.phase }, { on := 3, ground := Ground.phase }, { on := 4, ground := Ground.phase }, { on := 5, ground := Ground.phase }, { on := 6, ground := Ground.phase }, { on := 7, ground := Ground.phase }, { on := 8, ground := Ground.phase }, { on := 9, ground := Ground.textOnly Departure.lateStores }, { on := 10, ground := Ground.phase }], guard := none }) rfl (fun K hK => ?_) AllReadyH.nil
    go_simp
    refine hK.out _ _ trivial (fun hHeld => ?_)
    clear hK K
    refine wpAnyH_ready (rs := [12]) (by kernel_rfl) (by simp) ?_
    refine AllReadyH.cons (o := { dst := some 4, op := Op.assign (Operand.tmp 26), type := 32, pos := "prop.go:275", after := #[{ on := 9, ground := Ground.data }, { on := 11, ground := Ground.chain }, { on := 0, ground := Ground.phase }, { on := 1, ground := Ground.phase }, { on := 2, ground := Ground.phase }, { on := 3, ground := Ground.phase }, { on := 4, ground := Ground.phase }, { on := 5, ground := Ground.phase }, { on := 6, ground := Ground.phase }, { on := 7, ground := Ground.phase }, { on := 8, ground := Ground.phase }, { on := 9, ground := Ground.phase }, { on := 10, ground := Ground.phase }, { on := 11, ground := Ground.phase }], guard := none }) rfl (fun K hK => ?_) AllReadyH.nil
    go_simp
    refine hK.out _ _ trivial (fun hHeld => ?_)
    clear hK K
    refine wpAnyH_done (by kernel_rfl) ?_ _
    refine NoPanic.normal ?_
    clear HD2 HG
    go_wp2
    (try simp only [Exit.inBlock, Exit.then])
    refine bodyPost_ret (res_p (B := w.heap.size) (v0 := .int .i64 (id)) (v1 := .int .i64 (N)) (v2 := .string s) (v3 := .string t) rfl rfl ?c0 ?c1 ?c2 ?c3) rfl ?_
    case c0 => simp (maxDischargeDepth := 12) [cell_set, c0]
    case c1 => simp (maxDischargeDepth := 12) [cell_set, c1]
    case c2 => simp (maxDischargeDepth := 12) [cell_set, c2]
    case c3 => simp (maxDischargeDepth := 12) [cell_set, c3]
    exact ⟨by go_num, by have := unhide HB4; go_grown⟩
set_option maxHeartbeats 1000000 in
theorem gone_bad2 (v : Value) (l : List Int) (w : World) (h : Byt w v l) (id : Int) (Q : Nat) (hv : V.vget l = (id, (Q : Int), 0)) (hQ : 1 ≤ Q ∧ Q ≤ l.length) (f wd lo hi : Int) (hsh : shv id = .agg #[.int .i64 f, .int .i64 wd, .int .i64 lo, .int .i64 hi]) (hg : ∀ vb W, Byt W vb (l.drop Q) → Calls Tryz.prog 97 #[vb, shp f wd lo hi] W (GvBad W)) : Calls Tryz.prog 88 #[v] w (GvBad w) := by
  obtain ⟨b, off, cap, rfl, hc1, hc2⟩ := h.form1 (by omega)
  unfold maxLen at hc2
  have HV := hide h
  have Hhv := hide hv
  have HSH := hide hsh
  have HG := hide hg
  clear h hv hsh hg
  generalize hn : l.length = n at hc1 hQ HV 
  have HN := hide hn
  clear hn
  by_cases hcQ : cap = Q
  · have hcQ2 := hcQ.symm
    clear hcQ
    subst hcQ2
    go_enter Tryz.func88, Tryz.ntmps88
    go_wp2_with fail
    refine (vget_good _ l _ ((unhide HV).below (by go_grown)) id Q (unhide Hhv)).mono ?_
    rintro e w1 ⟨rfl, hb1⟩
    have HB1 : Hid (Below w.heap.size w w1) := ((Below.refl _ _).alloc (Nat.le_refl _) _).trans (hb1.mono (by simp))
    have HD : Hid (Byt w1 (.slice (some ⟨b, off, none⟩) 0 0) (l.drop Q)) := by
      show Byt _ _ _
      have := ((unhide HV).below (unhide HB1)).drop' Q (by omega)
      rw [if_pos rfl, Nat.sub_self, show n - Q = 0 from by omega] at this; exact this
    have q0 : w1.cell? ⟨w.heap.size, 0, none⟩ = some (.int .i64 0) := (hb1.cell (p := ⟨w.heap.size, 0, none⟩) (by simp)).trans (by simp)
    have f0 : w1.frozen? ⟨w.heap.size, 0, none⟩ = false := (hb1.frozen (p := ⟨w.heap.size, 0, none⟩) (by simp)).trans (by simp)
    have q1 : w1.cell? ⟨w.heap.size, 1, none⟩ = some (.int .i64 0) := (hb1.cell (p := ⟨w.heap.size, 1, none⟩) (by simp)).trans (by simp)
    have f1 : w1.frozen? ⟨w.heap.size, 1, none⟩ = false := (hb1.frozen (p := ⟨w.heap.size, 1, none⟩) (by simp)).trans (by simp)
    have q2 : w1.cell? ⟨w.heap.size, 2, none⟩ = some (.string ⟨#[]⟩) := (hb1.cell (p := ⟨w.heap.size, 2, none⟩) (by simp)).trans (by simp)
    have f2 : w1.frozen? ⟨w.heap.size, 2, none⟩ = false := (hb1.frozen (p := ⟨w.heap.size, 2, none⟩) (by simp)).trans (by simp)
    have q3 : w1.cell? ⟨w.heap.size, 3, none⟩ = some (.string ⟨#[]⟩) := (hb1.cell (p := ⟨w.heap.size, 3, none⟩) (by simp)).trans (by simp)
    have f3 : w1.frozen? ⟨w.heap.size, 3, none⟩ = false := (hb1.frozen (p := ⟨w.heap.size, 3, none⟩) (by simp)).trans (by simp)
    have hl1 : w.heap.size < w1.heap.size := cell_lt q0
    have HC : Hid (Below w1.heap.size w1 w1) := Below.refl _ _
    clear hb1
    go_wp2_with fail
    refine wp_region_noPanic ?_
    refine wp_region_held_drew (S := (fun _ => True)) (by kernel_rfl) trivial (fun hHeld => ?_)
    refine wpAnyH_take (i := 0) (oi := { dst := some 18, op := Op.move (Operand.tmp 0), type := 23, pos := "prop.go:275", after := #[], guard := none }) (v := ?v17) rfl (by kernel_rfl) (by kernel_rfl) (by kernel_rfl) (fun _ _ _ h => h) (Or.inl ⟨by rfl, ?hy17⟩) (by assumption) ?rest17
    case hy17 => (intro w hSw; (try dsimp only at hSw); go_simp; (try rw [if_pos (by omega)]); (try with_reducible rfl))
    simp only [Act.put, List.setIfInBounds_toArray, List.set_cons_zero, List.set_cons_succ]
    refine wpAnyH_take (i := 1) (oi := { dst := some 19, op := Op.move (Operand.tmp 6), type := 3, pos := "prop.go:275", after := #[], guard := none }) (v := ?v18) rfl (by kernel_rfl) (by kernel_rfl) (by kernel_rfl) (fun _ _ _ h => h) (Or.inl ⟨by rfl, ?hy18⟩) (by assumption) ?rest18
    case hy18 => (intro w hSw; (try dsimp only at hSw); go_simp; (try rw [if_pos (by omega)]); (try with_reducible rfl))
    simp only [Act.put, List.setIfInBounds_toArray, List.set_cons_zero, List.set_cons_succ]
    refine wpAnyH_take (i := 2) (oi := { dst := some 20, op := Op.slice 23 (Operand.tmp 18) (some (Operand.tmp 19)) none none, type := 23, pos := "prop.go:275", after := #[{ on := 0, ground := Ground.data }, { on := 1, ground := Ground.data }], guard := none }) (v := ?v19) rfl (by kernel_rfl) (by kernel_rfl) (by kernel_rfl) (fun _ _ _ h => h) (Or.inl ⟨by rfl, ?hy19⟩) (by assumption) ?rest19
    case hy19 => (intro w hSw; (try dsimp only at hSw); go_simp; (try rw [if_pos (by omega)]); (try with_reducible rfl))
    simp only [Act.put, List.setIfInBounds_toArray, List.set_cons_zero, List.set_cons_succ]
    refine wpAnyH_take (i := 3) (oi := { dst := some 21, op := Op.move (Operand.tmp 5), type := 3, pos := "prop.go:275", after := #[], guard := none }) (v := ?v20) rfl (by kernel_rfl) (by kernel_rfl) (by kernel_rfl) (fun _ _ _ h => h) (Or.inl ⟨by rfl, ?hy20⟩) (by assumption) ?rest20
    case hy20 => (intro w hSw; (try dsimp only at hSw); go_simp; (try rw [if_pos (by omega)]); (try with_reducible rfl))
    simp only [Act.put, List.setIfInBounds_toArray, List.set_cons_zero, List.set_cons_succ]
    refine wpAnyH_ready (rs := [4]) (by kernel_rfl) (by simp) ?_
    refine AllReadyH.cons (o := { dst := some 22, op := Op.call { callee := Callee.value (Operand.func 98), args := #[Operand.tmp 21], argTypes := #[3] }, type := 161, pos := "prop.go:275", after := #[{ on := 3, ground := Ground.data }], guard := none }) rfl (fun K hK => ?_) AllReadyH.nil
    go_simp
    refine (shape_use id f wd lo hi (unhide HSH) _).mono ?_
    rintro e w2 ⟨rfl, hb2⟩
    have hb2' := below_undrew1 hb2
    clear hb2
    have HD2 := hide ((unhide HD).below hb2')
    refine hK.out _ _ trivial (fun hHeld => ?_)
    clear hK K
    refine wpAnyH_ready (rs := [5]) (by kernel_rfl) (by simp) ?_
    refine AllReadyH.cons (o := { dst := some 23, op := Op.call { callee := Callee.value (Operand.func 97), args := #[Operand.tmp 20, Operand.tmp 22], argTypes := #[23, 161] }, type := 148, pos := "prop.go:275", after := #[{ on := 2, ground := Ground.data }, { on := 4, ground := Ground.data }, { on := 4, ground := Ground.chain }], guard := none }) rfl (fun K hK => ?_) AllReadyH.nil
    go_simp
    refine ((unhide HG) _ _ (unhide HD2)).mono ?_
    rintro e w3 ⟨i3, n3, s3, t3, k3, ty3, x3, m3, rfl, hi3, hb3⟩
    have HB3 : Hid (Below w1.heap.size w1 w3) := hb2'.trans (hb3.mono hb2'.size)
    have r0 := ((unhide HB3).cell (cell_lt q0)).trans q0
    have g0 := ((unhide HB3).frozen (p := ⟨w.heap.size, 0, none⟩) (cell_lt q0)).trans f0
    have r1 := ((unhide HB3).cell (cell_lt q1)).trans q1
    have g1 := ((unhide HB3).frozen (p := ⟨w.heap.size, 1, none⟩) (cell_lt q1)).trans f1
    have r2 := ((unhide HB3).cell (cell_lt q2)).trans q2
    have g2 := ((unhide HB3).frozen (p := ⟨w.heap.size, 2, none⟩) (cell_lt q2)).trans f2
    have r3 := ((unhide HB3).cell (cell_lt q3)).trans q3
    have g3 := ((unhide HB3).frozen (p := ⟨w.heap.size, 3, none⟩) (cell_lt q3)).trans f3
    clear hb2' hb3
    refine hK.out _ _ trivial (fun hHeld => ?_)
    clear hK K
    refine wpAnyH_take (i := 6) (oi := { dst := some 17, op := Op.move (Operand.tmp 23), type := 148, pos := "prop.go:275", after := #[{ on := 5, ground := Ground.data }], guard := none }) (v := ?v21) rfl (by kernel_rfl) (by kernel_rfl) (by kernel_rfl) (fun _ _ _ h => h) (Or.inl ⟨by rfl, ?hy21⟩) (by assumption) ?rest21
    case hy21 => (intro w hSw; (try dsimp only at hSw); go_simp; (try rw [if_pos (by omega)]); (try with_reducible rfl))
    simp only [Act.put, List.setIfInBounds_toArray, List.set_cons_zero, List.set_cons_succ]
    refine wpAnyH_take (i := 7) (oi := { dst := some 24, op := Op.extract (Operand.tmp 17) 0, type := 147, pos := "prop.go:275", after := #[{ on := 6, ground := Ground.data }], guard := none }) (v := ?v22) rfl (by kernel_rfl) (by kernel_rfl) (by kernel_rfl) (fun _ _ _ h => h) (Or.inl ⟨by rfl, ?hy22⟩) (by assumption) ?rest22
    case hy22 => (intro w hSw; (try dsimp only at hSw); go_simp; (try rw [if_pos (by omega)]); (try with_reducible rfl))
    simp only [Act.put, List.setIfInBounds_toArray, List.set_cons_zero, List.set_cons_succ]
    refine wpAnyH_take (i := 8) (oi := { dst := some 25, op := Op.extract (Operand.tmp 17) 1, type := 3, pos := "prop.go:275", after := #[{ on := 6, ground := Ground.data }, { on := 10, ground := Ground.gcOnly Departure.lateStores }], guard := none }) (v := ?v23) rfl (by kernel_rfl) (by kernel_rfl) (by kernel_rfl) (fun _ _ _ h => h) (Or.inl ⟨by rfl, ?hy23⟩) (by assumption) ?rest23
    case hy23 => (intro w hSw; (try dsimp only at hSw); go_simp; (try rw [if_pos (by omega)]); (try with_reducible rfl))
    simp only [Act.put, List.setIfInBounds_toArray, List.set_cons_zero, List.set_cons_succ]
    refine wpAnyH_take (i := 9) (oi := { dst := some 26, op := Op.extract (Operand.tmp 17) 2, type := 32, pos := "prop.go:275", after := #[{ on := 6, ground := Ground.data }, { on := 11, ground := Ground.gcOnly Departure.lateStores }], guard := none }) (v := ?v24) rfl (by kernel_rfl) (by kernel_rfl) (by kernel_rfl) (fun _ _ _ h => h) (Or.inl ⟨by rfl, ?hy24⟩) (by assumption) ?rest24
    case hy24 => (intro w hSw; (try dsimp only at hSw); go_simp; (try rw [if_pos (by omega)]); (try with_reducible rfl))
    simp only [Act.put, List.setIfInBounds_toArray, List.set_cons_zero, List.set_cons_succ]
    refine wpAnyH_ready (rs := [10]) (by kernel_rfl) (by simp) ?_
    refine AllReadyH.cons (o := { dst := none, op := Op.store 147 (Operand.tmp 2) (Operand.tmp 24), type := 0, pos := "prop.go:275", after := #[{ on := 7, ground := Ground.data }, { on := 5, ground := Ground.chain }, { on := 0, ground := Ground.phase }, { on := 1, ground := Ground.phase }, { on := 2, ground := Ground.phase }, { on := 3, ground := Ground.phase }, { on := 4, ground := Ground.phase }, { on := 5, ground := Ground.phase }, { on := 6, ground := Ground.phase }, { on := 7, ground := Ground.phase }, { on := 8, ground := Ground.textOnly Departure.lateStores }, { on := 9, ground := Ground.textOnly Departure.lateStores }], guard := none }) rfl (fun K hK => ?_) AllReadyH.nil
    go_simp
    refine hK.out _ _ trivial (fun hHeld => ?_)
    clear hK K
    show wpAnyH _ _ _ _ _ _ _ _ (set4 w3 w.heap.size i3 n3 s3 t3)
    have c0 := set4_c0 w3 w.heap.size i3 n3 s3 t3 r0
    have c1 := set4_c1 w3 w.heap.size i3 n3 s3 t3 r1
    have c2 := set4_c2 w3 w.heap.size i3 n3 s3 t3 r2
    have c3 := set4_c3 w3 w.heap.size i3 n3 s3 t3 r3
    have e0 := (set4_frozen w3 w.heap.size i3 n3 s3 t3 ⟨w.heap.size, 0, none⟩).trans g0
    have e1 := (set4_frozen w3 w.heap.size i3 n3 s3 t3 ⟨w.heap.size, 1, none⟩).trans g1
    have e2 := (set4_frozen w3 w.heap.size i3 n3 s3 t3 ⟨w.heap.size, 2, none⟩).trans g2
    have e3 := (set4_frozen w3 w.heap.size i3 n3 s3 t3 ⟨w.heap.size, 3, none⟩).trans g3
    have HB4 : Hid (Below w.heap.size w (set4 w3 w.heap.size i3 n3 s3 t3)) := set4_below _ _ _ _ _ _ _ _ ((unhide HB1).trans ((unhide HB3).mono (unhide HB1).size)) (Nat.le_refl _)
    have HOF4 := hide (set4_off ((unhide hi3).off r1) i3 n3 s3 t3)
    clear hi3
    generalize set4 w3 w.heap.size i3 n3 s3 t3 = W4 at c0 c1 c2 c3 e0 e1 e2 e3 HB4 HOF4 ⊢
    clear r0 r1 r2 r3 g0 g1 g2 g3 q0 q1 q2 q3 f0 f1 f2 f3 HB3
    refine wpAnyH_ready (rs := [11]) (by kernel_rfl) (by simp) ?_
    refine AllReadyH.cons (o := { dst := some 3, op := Op.assign (Operand.tmp 25), type := 3, pos := "prop.go:275", after := #[{ on := 8, ground := Ground.data }, { on := 10, ground := Ground.chain }, { on := 0, ground := Ground.phase }, { on := 1, ground := Ground.phase }, { on := 2, ground := Ground.phase }, { on := 3, ground := Ground.phase }, { on := 4, ground := Ground.phase }, { on := 5, ground := Ground.phase }, { on := 6, ground := Ground.phase }, { on := 7, ground := Ground.phase }, { on := 8, ground := Ground.phase }, { on := 9, ground := Ground.textOnly Departure.lateStores }, { on := 10, ground := Ground.phase }], guard := none }) rfl (fun K hK => ?_) AllReadyH.nil
    go_simp
    refine hK.out _ _ trivial (fun hHeld => ?_)
    clear hK K
    refine wpAnyH_ready (rs := [12]) (by kernel_rfl) (by simp) ?_
    refine AllReadyH.cons (o := { dst := some 4, op := Op.assign (Operand.tmp 26), type := 32, pos := "prop.go:275", after := #[{ on := 9, ground := Ground.data }, { on := 11, ground := Ground.chain }, { on := 0, ground := Ground.phase }, { on := 1, ground := Ground.phase }, { on := 2, ground := Ground.phase }, { on := 3, ground := Ground.phase }, { on := 4, ground := Ground.phase }, { on := 5, ground := Ground.phase }, { on := 6, ground := Ground.phase }, { on := 7, ground := Ground.phase }, { on := 8, ground := Ground.phase }, { on := 9, ground := Ground.phase }, { on := 10, ground := Ground.phase }, { on := 11, ground := Ground.phase }], guard := none }) rfl (fun K hK => ?_) AllReadyH.nil
    go_simp
    refine hK.out _ _ trivial (fun hHeld => ?_)
    clear hK K
    refine wpAnyH_done (by kernel_rfl) ?_ _
    refine NoPanic.normal ?_
    clear HD2 HG
    go_wp2
    (try simp only [Exit.inBlock, Exit.then])
    refine bodyPost_ret (res_p (B := w.heap.size) (v0 := .int .i64 (0)) (v1 := .int .i64 (0)) (v2 := .string ⟨#[]⟩) (v3 := .string ⟨#[]⟩) rfl rfl ?c0 ?c1 ?c2 ?c3) rfl ?_
    case c0 => simp (maxDischargeDepth := 12) [cell_set, c0]
    case c1 => simp (maxDischargeDepth := 12) [cell_set, c1]
    case c2 => simp (maxDischargeDepth := 12) [cell_set, c2]
    case c3 => simp (maxDischargeDepth := 12) [cell_set, c3]
    refine ⟨_, _, _, _, _, _, _, m3, rfl, InnOff.inn (B := w.heap.size) ?_, ?_⟩
    · refine InnOff.set ?_ rfl; refine InnOff.set ?_ rfl; refine InnOff.set ?_ rfl; refine InnOff.set ?_ rfl; exact unhide HOF4
    · have := unhide HB4; go_grown
  · go_enter Tryz.func88, Tryz.ntmps88
    go_wp2_with fail
    refine (vget_good _ l _ ((unhide HV).below (by go_grown)) id Q (unhide Hhv)).mono ?_
    rintro e w1 ⟨rfl, hb1⟩
    have HB1 : Hid (Below w.heap.size w w1) := ((Below.refl _ _).alloc (Nat.le_refl _) _).trans (hb1.mono (by simp))
    have HD : Hid (Byt w1 (.slice (some ⟨b, off + Q, none⟩) (n - Q) (cap - Q)) (l.drop Q)) := by
      show Byt _ _ _
      have := ((unhide HV).below (unhide HB1)).drop' Q (by omega)
      rw [if_neg hcQ] at this; exact this
    have q0 : w1.cell? ⟨w.heap.size, 0, none⟩ = some (.int .i64 0) := (hb1.cell (p := ⟨w.heap.size, 0, none⟩) (by simp)).trans (by simp)
    have f0 : w1.frozen? ⟨w.heap.size, 0, none⟩ = false := (hb1.frozen (p := ⟨w.heap.size, 0, none⟩) (by simp)).trans (by simp)
    have q1 : w1.cell? ⟨w.heap.size, 1, none⟩ = some (.int .i64 0) := (hb1.cell (p := ⟨w.heap.size, 1, none⟩) (by simp)).trans (by simp)
    have f1 : w1.frozen? ⟨w.heap.size, 1, none⟩ = false := (hb1.frozen (p := ⟨w.heap.size, 1, none⟩) (by simp)).trans (by simp)
    have q2 : w1.cell? ⟨w.heap.size, 2, none⟩ = some (.string ⟨#[]⟩) := (hb1.cell (p := ⟨w.heap.size, 2, none⟩) (by simp)).trans (by simp)
    have f2 : w1.frozen? ⟨w.heap.size, 2, none⟩ = false := (hb1.frozen (p := ⟨w.heap.size, 2, none⟩) (by simp)).trans (by simp)
    have q3 : w1.cell? ⟨w.heap.size, 3, none⟩ = some (.string ⟨#[]⟩) := (hb1.cell (p := ⟨w.heap.size, 3, none⟩) (by simp)).trans (by simp)
    have f3 : w1.frozen? ⟨w.heap.size, 3, none⟩ = false := (hb1.frozen (p := ⟨w.heap.size, 3, none⟩) (by simp)).trans (by simp)
    have hl1 : w.heap.size < w1.heap.size := cell_lt q0
    have HC : Hid (Below w1.heap.size w1 w1) := Below.refl _ _
    clear hb1
    go_wp2_with fail
    refine wp_region_noPanic ?_
    refine wp_region_held_drew (S := (fun _ => True)) (by kernel_rfl) trivial (fun hHeld => ?_)
    refine wpAnyH_take (i := 0) (oi := { dst := some 18, op := Op.move (Operand.tmp 0), type := 23, pos := "prop.go:275", after := #[], guard := none }) (v := ?v25) rfl (by kernel_rfl) (by kernel_rfl) (by kernel_rfl) (fun _ _ _ h => h) (Or.inl ⟨by rfl, ?hy25⟩) (by assumption) ?rest25
    case hy25 => (intro w hSw; (try dsimp only at hSw); go_simp; (try rw [if_pos (by omega)]); (try with_reducible rfl))
    simp only [Act.put, List.setIfInBounds_toArray, List.set_cons_zero, List.set_cons_succ]
    refine wpAnyH_take (i := 1) (oi := { dst := some 19, op := Op.move (Operand.tmp 6), type := 3, pos := "prop.go:275", after := #[], guard := none }) (v := ?v26) rfl (by kernel_rfl) (by kernel_rfl) (by kernel_rfl) (fun _ _ _ h => h) (Or.inl ⟨by rfl, ?hy26⟩) (by assumption) ?rest26
    case hy26 => (intro w hSw; (try dsimp only at hSw); go_simp; (try rw [if_pos (by omega)]); (try with_reducible rfl))
    simp only [Act.put, List.setIfInBounds_toArray, List.set_cons_zero, List.set_cons_succ]
    refine wpAnyH_take (i := 2) (oi := { dst := some 20, op := Op.slice 23 (Operand.tmp 18) (some (Operand.tmp 19)) none none, type := 23, pos := "prop.go:275", after := #[{ on := 0, ground := Ground.data }, { on := 1, ground := Ground.data }], guard := none }) (v := ?v27) rfl (by kernel_rfl) (by kernel_rfl) (by kernel_rfl) (fun _ _ _ h => h) (Or.inl ⟨by rfl, ?hy27⟩) (by assumption) ?rest27
    case hy27 => (intro w hSw; (try dsimp only at hSw); go_simp; (try rw [if_pos (by omega)]); (try with_reducible rfl))
    simp only [Act.put, List.setIfInBounds_toArray, List.set_cons_zero, List.set_cons_succ]
    refine wpAnyH_take (i := 3) (oi := { dst := some 21, op := Op.move (Operand.tmp 5), type := 3, pos := "prop.go:275", after := #[], guard := none }) (v := ?v28) rfl (by kernel_rfl) (by kernel_rfl) (by kernel_rfl) (fun _ _ _ h => h) (Or.inl ⟨by rfl, ?hy28⟩) (by assumption) ?rest28
    case hy28 => (intro w hSw; (try dsimp only at hSw); go_simp; (try rw [if_pos (by omega)]); (try with_reducible rfl))
    simp only [Act.put, List.setIfInBounds_toArray, List.set_cons_zero, List.set_cons_succ]
    refine wpAnyH_ready (rs := [4]) (by kernel_rfl) (by simp) ?_
    refine AllReadyH.cons (o := { dst := some 22, op := Op.call { callee := Callee.value (Operand.func 98), args := #[Operand.tmp 21], argTypes := #[3] }, type := 161, pos := "prop.go:275", after := #[{ on := 3, ground := Ground.data }], guard := none }) rfl (fun K hK => ?_) AllReadyH.nil
    go_simp
    refine (shape_use id f wd lo hi (unhide HSH) _).mono ?_
    rintro e w2 ⟨rfl, hb2⟩
    have hb2' := below_undrew1 hb2
    clear hb2
    have HD2 := hide ((unhide HD).below hb2')
    refine hK.out _ _ trivial (fun hHeld => ?_)
    clear hK K
    refine wpAnyH_ready (rs := [5]) (by kernel_rfl) (by simp) ?_
    refine AllReadyH.cons (o := { dst := some 23, op := Op.call { callee := Callee.value (Operand.func 97), args := #[Operand.tmp 20, Operand.tmp 22], argTypes := #[23, 161] }, type := 148, pos := "prop.go:275", after := #[{ on := 2, ground := Ground.data }, { on := 4, ground := Ground.data }, { on := 4, ground := Ground.chain }], guard := none }) rfl (fun K hK => ?_) AllReadyH.nil
    go_simp
    refine ((unhide HG) _ _ (unhide HD2)).mono ?_
    rintro e w3 ⟨i3, n3, s3, t3, k3, ty3, x3, m3, rfl, hi3, hb3⟩
    have HB3 : Hid (Below w1.heap.size w1 w3) := hb2'.trans (hb3.mono hb2'.size)
    have r0 := ((unhide HB3).cell (cell_lt q0)).trans q0
    have g0 := ((unhide HB3).frozen (p := ⟨w.heap.size, 0, none⟩) (cell_lt q0)).trans f0
    have r1 := ((unhide HB3).cell (cell_lt q1)).trans q1
    have g1 := ((unhide HB3).frozen (p := ⟨w.heap.size, 1, none⟩) (cell_lt q1)).trans f1
    have r2 := ((unhide HB3).cell (cell_lt q2)).trans q2
    have g2 := ((unhide HB3).frozen (p := ⟨w.heap.size, 2, none⟩) (cell_lt q2)).trans f2
    have r3 := ((unhide HB3).cell (cell_lt q3)).trans q3
    have g3 := ((unhide HB3).frozen (p := ⟨w.heap.size, 3, none⟩) (cell_lt q3)).trans f3
    clear hb2' hb3
    refine hK.out _ _ trivial (fun hHeld => ?_)
    clear hK K
    refine wpAnyH_take (i := 6) (oi := { dst := some 17, op := Op.move (Operand.tmp 23), type := 148, pos := "prop.go:275", after := #[{ on := 5, ground := Ground.data }], guard := none }) (v := ?v29) rfl (by kernel_rfl) (by kernel_rfl) (by kernel_rfl) (fun _ _ _ h => h) (Or.inl ⟨by rfl, ?hy29⟩) (by assumption) ?rest29
    case hy29 => (intro w hSw; (try dsimp only at hSw); go_simp; (try rw [if_pos (by omega)]); (try with_reducible rfl))
    simp only [Act.put, List.setIfInBounds_toArray, List.set_cons_zero, List.set_cons_succ]
    refine wpAnyH_take (i := 7) (oi := { dst := some 24, op := Op.extract (Operand.tmp 17) 0, type := 147, pos := "prop.go:275", after := #[{ on := 6, ground := Ground.data }], guard := none }) (v := ?v30) rfl (by kernel_rfl) (by kernel_rfl) (by kernel_rfl) (fun _ _ _ h => h) (Or.inl ⟨by rfl, ?hy30⟩) (by assumption) ?rest30
    case hy30 => (intro w hSw; (try dsimp only at hSw); go_simp; (try rw [if_pos (by omega)]); (try with_reducible rfl))
    simp only [Act.put, List.setIfInBounds_toArray, List.set_cons_zero, List.set_cons_succ]
    refine wpAnyH_take (i := 8) (oi := { dst := some 25, op := Op.extract (Operand.tmp 17) 1, type := 3, pos := "prop.go:275", after := #[{ on := 6, ground := Ground.data }, { on := 10, ground := Ground.gcOnly Departure.lateStores }], guard := none }) (v := ?v31) rfl (by kernel_rfl) (by kernel_rfl) (by kernel_rfl) (fun _ _ _ h => h) (Or.inl ⟨by rfl, ?hy31⟩) (by assumption) ?rest31
    case hy31 => (intro w hSw; (try dsimp only at hSw); go_simp; (try rw [if_pos (by omega)]); (try with_reducible rfl))
    simp only [Act.put, List.setIfInBounds_toArray, List.set_cons_zero, List.set_cons_succ]
    refine wpAnyH_take (i := 9) (oi := { dst := some 26, op := Op.extract (Operand.tmp 17) 2, type := 32, pos := "prop.go:275", after := #[{ on := 6, ground := Ground.data }, { on := 11, ground := Ground.gcOnly Departure.lateStores }], guard := none }) (v := ?v32) rfl (by kernel_rfl) (by kernel_rfl) (by kernel_rfl) (fun _ _ _ h => h) (Or.inl ⟨by rfl, ?hy32⟩) (by assumption) ?rest32
    case hy32 => (intro w hSw; (try dsimp only at hSw); go_simp; (try rw [if_pos (by omega)]); (try with_reducible rfl))
    simp only [Act.put, List.setIfInBounds_toArray, List.set_cons_zero, List.set_cons_succ]
    refine wpAnyH_ready (rs := [10]) (by kernel_rfl) (by simp) ?_
    refine AllReadyH.cons (o := { dst := none, op := Op.store 147 (Operand.tmp 2) (Operand.tmp 24), type := 0, pos := "prop.go:275", after := #[{ on := 7, ground := Ground.data }, { on := 5, ground := Ground.chain }, { on := 0, ground := Ground.phase }, { on := 1, ground := Ground.phase }, { on := 2, ground := Ground.phase }, { on := 3, ground := Ground.phase }, { on := 4, ground := Ground.phase }, { on := 5, ground := Ground.phase }, { on := 6, ground := Ground.phase }, { on := 7, ground := Ground.phase }, { on := 8, ground := Ground.textOnly Departure.lateStores }, { on := 9, ground := Ground.textOnly Departure.lateStores }], guard := none }) rfl (fun K hK => ?_) AllReadyH.nil
    go_simp
    refine hK.out _ _ trivial (fun hHeld => ?_)
    clear hK K
    show wpAnyH _ _ _ _ _ _ _ _ (set4 w3 w.heap.size i3 n3 s3 t3)
    have c0 := set4_c0 w3 w.heap.size i3 n3 s3 t3 r0
    have c1 := set4_c1 w3 w.heap.size i3 n3 s3 t3 r1
    have c2 := set4_c2 w3 w.heap.size i3 n3 s3 t3 r2
    have c3 := set4_c3 w3 w.heap.size i3 n3 s3 t3 r3
    have e0 := (set4_frozen w3 w.heap.size i3 n3 s3 t3 ⟨w.heap.size, 0, none⟩).trans g0
    have e1 := (set4_frozen w3 w.heap.size i3 n3 s3 t3 ⟨w.heap.size, 1, none⟩).trans g1
    have e2 := (set4_frozen w3 w.heap.size i3 n3 s3 t3 ⟨w.heap.size, 2, none⟩).trans g2
    have e3 := (set4_frozen w3 w.heap.size i3 n3 s3 t3 ⟨w.heap.size, 3, none⟩).trans g3
    have HB4 : Hid (Below w.heap.size w (set4 w3 w.heap.size i3 n3 s3 t3)) := set4_below _ _ _ _ _ _ _ _ ((unhide HB1).trans ((unhide HB3).mono (unhide HB1).size)) (Nat.le_refl _)
    have HOF4 := hide (set4_off ((unhide hi3).off r1) i3 n3 s3 t3)
    clear hi3
    generalize set4 w3 w.heap.size i3 n3 s3 t3 = W4 at c0 c1 c2 c3 e0 e1 e2 e3 HB4 HOF4 ⊢
    clear r0 r1 r2 r3 g0 g1 g2 g3 q0 q1 q2 q3 f0 f1 f2 f3 HB3
    refine wpAnyH_ready (rs := [11]) (by kernel_rfl) (by simp) ?_
    refine AllReadyH.cons (o := { dst := some 3, op := Op.assign (Operand.tmp 25), type := 3, pos := "prop.go:275", after := #[{ on := 8, ground := Ground.data }, { on := 10, ground := Ground.chain }, { on := 0, ground := Ground.phase }, { on := 1, ground := Ground.phase }, { on := 2, ground := Ground.phase }, { on := 3, ground := Ground.phase }, { on := 4, ground := Ground.phase }, { on := 5, ground := Ground.phase }, { on := 6, ground := Ground.phase }, { on := 7, ground := Ground.phase }, { on := 8, ground := Ground.phase }, { on := 9, ground := Ground.textOnly Departure.lateStores }, { on := 10, ground := Ground.phase }], guard := none }) rfl (fun K hK => ?_) AllReadyH.nil
    go_simp
    refine hK.out _ _ trivial (fun hHeld => ?_)
    clear hK K
    refine wpAnyH_ready (rs := [12]) (by kernel_rfl) (by simp) ?_
    refine AllReadyH.cons (o := { dst := some 4, op := Op.assign (Operand.tmp 26), type := 32, pos := "prop.go:275", after := #[{ on := 9, ground := Ground.data }, { on := 11, ground := Ground.chain }, { on := 0, ground := Ground.phase }, { on := 1, ground := Ground.phase }, { on := 2, ground := Ground.phase }, { on := 3, ground := Ground.phase }, { on := 4, ground := Ground.phase }, { on := 5, ground := Ground.phase }, { on := 6, ground := Ground.phase }, { on := 7, ground := Ground.phase }, { on := 8, ground := Ground.phase }, { on := 9, ground := Ground.phase }, { on := 10, ground := Ground.phase }, { on := 11, ground := Ground.phase }], guard := none }) rfl (fun K hK => ?_) AllReadyH.nil
    go_simp
    refine hK.out _ _ trivial (fun hHeld => ?_)
    clear hK K
    refine wpAnyH_done (by kernel_rfl) ?_ _
    refine NoPanic.normal ?_
    clear HD2 HG
    go_wp2
    (try simp only [Exit.inBlock, Exit.then])
    refine bodyPost_ret (res_p (B := w.heap.size) (v0 := .int .i64 (0)) (v1 := .int .i64 (0)) (v2 := .string ⟨#[]⟩) (v3 := .string ⟨#[]⟩) rfl rfl ?c0 ?c1 ?c2 ?c3) rfl ?_
    case c0 => simp (maxDischargeDepth := 12) [cell_set, c0]
    case c1 => simp (maxDischargeDepth := 12) [cell_set, c1]
    case c2 => simp (maxDischargeDepth := 12) [cell_set, c2]
    case c3 => simp (maxDischargeDepth := 12) [cell_set, c3]
    refine ⟨_, _, _, _, _, _, _, m3, rfl, InnOff.inn (B := w.heap.size) ?_, ?_⟩
    · refine InnOff.set ?_ rfl; refine InnOff.set ?_ rfl; refine InnOff.set ?_ rfl; refine InnOff.set ?_ rfl; exact unhide HOF4
    · have := unhide HB4; go_grown
end Go.Proofs.YtgdfnopnmdjklaaGreatDoor
/- Proved here: prop.putOne tells the bytes of a property that may be, or an error of below where a text may not be. Helper contracts. -/
namespace Go.Proofs.YtgdfnopnmdjklaaGreatDoor
open Go.RowKit
set_option maxRecDepth 100000

theorem lst_pos (id : Int) : 0 ≤ lst id := by unfold lst; split <;> omega
theorem fit_num {id n : Int} {s t : ByteArray} (h : fit (id, n, s, t) = true) : 0 ≤ n ∧ lst id ≤ n ∧ n ≤ mx id := by
  unfold fit at h
  rw [Bool.and_eq_true, Bool.and_eq_true, decide_eq_true_eq, decide_eq_true_eq] at h
  have := lst_pos id
  have h1 := h.1
  simp only at h1
  omega
theorem shv_of (id k f wd m : Int) (hk : kd id = k) (hf : (if k = 1 ∨ k = 2 ∨ k = 4 then 1 else if k = 5 then 2 else if k = 6 then 3 else if k = 7 then 4 else if k = 8 then 5 else 0) = f) (hw : (if k = 1 ∨ k = 2 ∨ k = 4 then k else 0) = wd) (hm : mx id = m) : shv id = .agg #[.int .i64 f, .int .i64 wd, .int .i64 (lst id), .int .i64 m] := by
  unfold shv frm wid
  rw [hk, hf, hw, hm]
theorem pvb_num (id n : Int) (s t : ByteArray) (k : Int) (hk : kd id = k) (h : k = 1 ∨ k = 2 ∨ k = 4) : pvb (id, n, s, t) = nbs k n := by
  unfold pvb nbs
  rcases h with rfl | rfl | rfl <;> simp [hk]
theorem value_ok (id n : Int) (s t : ByteArray) (w : World) (hm : may (id, n, s, t) = true) : Calls Tryz.prog 110 #[.agg #[.int .i64 id, .int .i64 n, .string s, .string t]] w (ValOk (pvb (id, n, s, t)) w) := by
  unfold may at hm
  rw [Bool.and_eq_true] at hm
  obtain ⟨hf, ht⟩ := hm
  obtain ⟨h0, h1, h2⟩ := fit_num hf
  have hx : mx id = (if kd id = 1 then 1 else if kd id = 2 then 65535 else if kd id = 4 then 4294967295 else if kd id = 5 then 268435455 else 0) := rfl
  rcases kd_cases id with h | h | h | h | h | h | h | h
  · unfold txo at ht; simp [h] at ht
  · rw [pvb_num id n s t 1 h (by omega)]
    rw [if_pos h] at hx
    exact value_num id n 1 s t w _ _ (shv_of id 1 1 1 1 h rfl rfl hx) (.inl ⟨rfl, by omega⟩) h0
  · rw [pvb_num id n s t 2 h (by omega)]
    rw [if_neg (by omega), if_pos h] at hx
    exact value_num id n 2 s t w _ _ (shv_of id 2 1 2 65535 h rfl rfl hx) (.inr (.inl ⟨rfl, by omega⟩)) h0
  · rw [pvb_num id n s t 4 h (by omega)]
    rw [if_neg (by omega), if_neg (by omega), if_pos h] at hx
    exact value_num id n 4 s t w _ _ (shv_of id 4 1 4 4294967295 h rfl rfl hx) (.inr (.inr ⟨rfl, by omega⟩)) h0
  · rw [show pvb (id, n, s, t) = V.put n from by unfold pvb; simp [h]]
    rw [if_neg (by omega), if_neg (by omega), if_neg (by omega), if_pos h] at hx
    exact value_var id n s t w _ _ _ (shv_of id 5 2 0 _ h rfl rfl hx) h0 (by omega)
  · rw [show pvb (id, n, s, t) = tx s from by unfold pvb; simp [h]]
    rw [if_neg (by omega), if_neg (by omega), if_neg (by omega), if_neg (by omega)] at hx
    exact value_text id n s t w _ _ _ (shv_of id 6 3 0 _ h rfl rfl hx) (by unfold txo at ht; simpa [h] using ht)
  · rw [show pvb (id, n, s, t) = tx s from by unfold pvb; simp [h]]
    rw [if_neg (by omega), if_neg (by omega), if_neg (by omega), if_neg (by omega)] at hx
    exact value_bin id n s t w _ _ _ (shv_of id 7 4 0 _ h rfl rfl hx) (by unfold txo at ht; simpa [h] using ht)
  · rw [show pvb (id, n, s, t) = tx s ++ tx t from by unfold pvb; simp [h]]
    rw [if_neg (by omega), if_neg (by omega), if_neg (by omega), if_neg (by omega)] at hx
    have hc : chk (sb s) = 0 ∧ chk (sb t) = 0 := by unfold txo at ht; simpa [h] using ht
    exact value_pair id n s t w _ _ _ (shv_of id 8 5 0 _ h rfl rfl hx) hc.1 hc.2
theorem value_bad (id n : Int) (s t : ByteArray) (w : World) (hls : s.size ≤ 4611686018427387904) (hlt : t.size ≤ 4611686018427387904) (hk : kd id ≠ 0) (ht : txo (id, n, s, t) = false) : Calls Tryz.prog 110 #[.agg #[.int .i64 id, .int .i64 n, .string s, .string t]] w (ValBad w) := by
  have hx : mx id = (if kd id = 1 then 1 else if kd id = 2 then 65535 else if kd id = 4 then 4294967295 else if kd id = 5 then 268435455 else 0) := rfl
  rcases kd_cases id with h | h | h | h | h | h | h | h
  · exact absurd h hk
  · unfold txo at ht; simp [h] at ht
  · unfold txo at ht; simp [h] at ht
  · unfold txo at ht; simp [h] at ht
  · unfold txo at ht; simp [h] at ht
  · rw [if_neg (by omega), if_neg (by omega), if_neg (by omega), if_neg (by omega)] at hx
    exact value_text_bad id n s t w _ _ _ (shv_of id 6 3 0 _ h rfl rfl hx) hls (by unfold txo at ht; simpa [h] using ht)
  · rw [if_neg (by omega), if_neg (by omega), if_neg (by omega), if_neg (by omega)] at hx
    exact value_bin_bad id n s t w _ _ _ (shv_of id 7 4 0 _ h rfl rfl hx) (by unfold txo at ht; simpa [h] using ht)
  · rw [if_neg (by omega), if_neg (by omega), if_neg (by omega), if_neg (by omega)] at hx
    have hc : chk (sb s) = 0 → ¬ chk (sb t) = 0 := by unfold txo at ht; simpa [h] using ht
    by_cases hs : chk (sb s) = 0
    · exact value_pair_bad2 id n s t w _ _ _ (shv_of id 8 5 0 _ h rfl rfl hx) hlt hs (hc hs)
    · exact value_pair_bad1 id n s t w _ _ _ (shv_of id 8 5 0 _ h rfl rfl hx) hls hs
theorem pvb_range (id n : Int) (s t : ByteArray) (w : World) (v : Value) (h : Byt w v (pvb (id, n, s, t))) : ∀ j, 0 ≤ (pvb (id, n, s, t)).getD j 0 ∧ (pvb (id, n, s, t)).getD j 0 ≤ 255 := h.range
set_option maxHeartbeats 1000000 in
theorem one_ok (id n : Int) (s t : ByteArray) (w : World) (hi : 1 ≤ id ∧ id ≤ 42) (hm : may (id, n, s, t) = true) : Calls Tryz.prog 103 #[.agg #[.int .i64 id, .int .i64 n, .string s, .string t]] w (ValOk (pb (id, n, s, t)) w) := by
  have hle := pvb_le _ hm
  have HM := hide hm
  have HV := hide (fun W => value_ok id n s t W hm)
  have HL := hide (V.put_len id)
  have HP : Hid (pb (id, n, s, t) = V.put id ++ pvb (id, n, s, t)) := rfl
  generalize pb (id, n, s, t) = l at HP ⊢
  generalize pvb (id, n, s, t) = l2 at HP HV hle
  clear hm HM
  go_enter Tryz.func103, Tryz.ntmps103
  go_wp2_with fail
  refine (vput_use id _ (by omega) (by omega)).mono ?_
  rintro e w1 ⟨v1, rfl, hown1, hy1, hb1⟩
  have HR := hide (unhide hy1).range
  have HB1 : Hid (Below w.heap.size w w1) := ((Below.refl _ _).alloc (Nat.le_refl _) _).trans (hb1.mono (by simp))
  have c0 : w1.cell? ⟨w.heap.size, 0, none⟩ = some (.int .i64 id) := (hb1.cell (p := ⟨w.heap.size, 0, none⟩) (by simp)).trans (by simp)
  have c1 : w1.cell? ⟨w.heap.size, 1, none⟩ = some (.int .i64 n) := (hb1.cell (p := ⟨w.heap.size, 1, none⟩) (by simp)).trans (by simp)
  have c2 : w1.cell? ⟨w.heap.size, 2, none⟩ = some (.string s) := (hb1.cell (p := ⟨w.heap.size, 2, none⟩) (by simp)).trans (by simp)
  have c3 : w1.cell? ⟨w.heap.size, 3, none⟩ = some (.string t) := (hb1.cell (p := ⟨w.heap.size, 3, none⟩) (by simp)).trans (by simp)
  have HO1 : Hid (w1.ownsRow w.heap.size 5 1 v1 (V.put id).length ((V.put id).map (Value.int .u8))) := owns_mono (unhide hown1) (by simp)
  clear hb1 hown1 hy1
  go_wp2_with fail
  refine ((unhide HV) _).mono ?_
  rintro e w2 ⟨v2, rfl, hy2, hb2⟩
  have HO2 : Hid (w2.ownsRow w.heap.size 5 1 v1 (V.put id).length ((V.put id).map (Value.int .u8))) := owns_below (unhide HO1) hb2
  have HB2 : Hid (Below w.heap.size w w2) := (unhide HB1).trans (hb2.mono (unhide HB1).size)
  clear hb2 HB1 HO1 c0 c1 c2 c3
  go_wp2_with (first
    | (at_builtin; refine wpList_append_byt _ rfl _ _ rfl w.heap.size _ (V.put id).length (V.put id) rfl (unhide HO2) v2 l2 rfl (unhide hy2) (by have := unhide HL; omega) (unhide HB2).size ?_)
    | go_in)
  intro v3 w3 hown3 hgrow3
  have hb3 : Below w.heap.size w w3 := (unhide HB2).grown hgrow3 (unhide HB2).size (fun k hk => ((unhide HO2).lt k hk).1)
  have HY3 : Hid (Byt w3 v3 l) := by
    show Byt _ _ _
    rw [unhide HP]
    exact byt_of_owns (by rw [List.map_append]; exact hown3) (range_app (unhide HR) (unhide hy2).range)
  clear hown3 hgrow3
  go_wp2
  go_ret2
  exact ⟨_, rfl, HY3, hb3⟩
theorem one_bad (id n : Int) (s t : ByteArray) (w : World) (hi : 1 ≤ id ∧ id ≤ 42) (hls : s.size ≤ 4611686018427387904) (hlt : t.size ≤ 4611686018427387904) (hk : kd id ≠ 0) (ht : txo (id, n, s, t) = false) : Calls Tryz.prog 103 #[.agg #[.int .i64 id, .int .i64 n, .string s, .string t]] w (ValBad w) := by
  have HV := hide (fun W => value_bad id n s t W hls hlt hk ht)
  clear hls hlt hk ht
  go_enter Tryz.func103, Tryz.ntmps103
  go_wp2_with fail
  refine (vput_use id _ (by omega) (by omega)).mono ?_
  rintro e w1 ⟨v1, rfl, -, -, hb1⟩
  have HB1 : Hid (Below w.heap.size w w1) := ((Below.refl _ _).alloc (Nat.le_refl _) _).trans (hb1.mono (by simp))
  have c0 : w1.cell? ⟨w.heap.size, 0, none⟩ = some (.int .i64 id) := (hb1.cell (p := ⟨w.heap.size, 0, none⟩) (by simp)).trans (by simp)
  have c1 : w1.cell? ⟨w.heap.size, 1, none⟩ = some (.int .i64 n) := (hb1.cell (p := ⟨w.heap.size, 1, none⟩) (by simp)).trans (by simp)
  have c2 : w1.cell? ⟨w.heap.size, 2, none⟩ = some (.string s) := (hb1.cell (p := ⟨w.heap.size, 2, none⟩) (by simp)).trans (by simp)
  have c3 : w1.cell? ⟨w.heap.size, 3, none⟩ = some (.string t) := (hb1.cell (p := ⟨w.heap.size, 3, none⟩) (by simp)).trans (by simp)
  clear hb1
  go_wp2_with fail
  refine ((unhide HV) _).mono ?_
  rintro e w2 ⟨t2, x2, m, rfl, hi2, hb2⟩
  go_wp2
  go_ret2
  exact ⟨_, _, _, rfl, hi2, (unhide HB1).trans (hb2.mono (unhide HB1).size)⟩
end Go.Proofs.YtgdfnopnmdjklaaGreatDoor
/- Proved here: a new row (prop.row: a place, and 43 flags), built, laid and stored as one: laws for a walk's three operations. Helpers. -/
namespace Go.Proofs.YtgdfnopnmdjklaaGreatDoor
open Go.RowKit
set_option maxRecDepth 100000

theorem wpList_value {P : Program} {ops : Array Oper} {rest : List Oper} {o : Oper} {a : Act} {w w' : World} {v : Value} {Q : Exit → Act → World → Prop} (hg : o.guard = none) (hr : (execOp a.eval o).run P w = .ok (.value v) w') (h : wpList P ops Q rest (a.put o.dst v) w') : wpList P ops Q (o :: rest) a w :=
  wpList_plain hg fun K hK => by unfold Oper.wp; rw [hr]; exact hK _ _ h
theorem wpList_skip {P : Program} {ops : Array Oper} {rest : List Oper} {o : Oper} {a : Act} {w w' : World} {Q : Exit → Act → World → Prop} (hg : o.guard = none) (hr : (execOp a.eval o).run P w = .ok .skip w') (h : wpList P ops Q rest (a.put o.dst undef) w') : wpList P ops Q (o :: rest) a w :=
  wpList_plain hg fun K hK => by unfold Oper.wp; rw [hr]; exact hK _ _ h
/-- a row in which nothing has come -/
def rowA (place : Int) : Array Value := #[.int .i64 place] ++ Array.replicate 43 (.bool false)
theorem rowA_size (place : Int) : (rowA place).size = 44 := by simp [rowA]
theorem rowA_one (place : Int) : (rowA place).all (·.oneCell') = true := by kernel_rfl
theorem rowA_lit (place : Int) : rowA place = #[.int .i64 place, .bool false, .bool false, .bool false, .bool false, .bool false, .bool false, .bool false, .bool false, .bool false, .bool false, .bool false, .bool false, .bool false, .bool false, .bool false, .bool false, .bool false, .bool false, .bool false, .bool false, .bool false, .bool false, .bool false, .bool false, .bool false, .bool false, .bool false, .bool false, .bool false, .bool false, .bool false, .bool false, .bool false, .bool false, .bool false, .bool false, .bool false, .bool false, .bool false, .bool false, .bool false, .bool false, .bool false] := by kernel_rfl
theorem row_build (a : Act) (dst : Option Tmp) (x : Operand) (ty : TypeId) (pos : String) (after : Array Edge) (place : Int) (hx : a.eval x = .int .i64 place) (w : World) :
    (execOp a.eval ⟨dst, .build 145 #[(0, x)], ty, pos, after, none⟩).run Tryz.prog w = .ok (.value (.agg (rowA place))) w := by
  unfold execOp
  simp only [List.map_toArray, List.map_cons, List.map_nil, hx]
  kernel_rfl
theorem row_alloc (ρ : Operand → Value) (dst : Option Tmp) (ty : TypeId) (pos : String) (after : Array Edge) (w : World) :
    (execOp ρ ⟨dst, .alloc 145, ty, pos, after, none⟩).run Tryz.prog w = .ok (.value (.pointer (some ⟨w.heap.size, 0, none⟩))) (w.alloc (.cells (rowA 0) 145)) := by
  kernel_rfl
theorem row_size : (Tryz.prog.info? 145).map (·.size) = some 44 := by kernel_rfl
theorem row_store (a : Act) (dst : Option Tmp) (x y : Operand) (ty : TypeId) (pos : String) (after : Array Edge) (place : Int) (w : World) (hx : a.eval x = .pointer (some ⟨w.heap.size, 0, none⟩)) (hy : a.eval y = .agg (rowA place)) :
    (execOp a.eval ⟨dst, .store 145 x y, ty, pos, after, none⟩).run Tryz.prog (w.alloc (.cells (rowA 0) 145)) = .ok .skip (w.alloc (.cells (rowA place) 145)) := by
  show Sem.run Tryz.prog (do Instr.storeAt 145 (a.eval x) (a.eval y); pure Next.skip) _ = _
  rw [hx, hy]
  simp only [Sem.run_bind]
  rw [run_storeAt_new w 145 (rowA 0) (rowA place) (by rw [row_size, rowA_size]) (by rw [rowA_size, rowA_size]) (rowA_one place)]
  rfl
end Go.Proofs.YtgdfnopnmdjklaaGreatDoor
/- Proved here: prop.tell tells the bytes of properties that may stand, or an error around ErrForm. Helper contracts. -/
namespace Go.Proofs.YtgdfnopnmdjklaaGreatDoor
open Go.RowKit
set_option maxRecDepth 100000

/-- the row of what has come so far -/
def RowAt (w : World) (R : Nat) (place : Int) (f : Nat → Bool) : Prop :=
  w.cell? ⟨R, 0, none⟩ = some (.int .i64 place) ∧ ∀ j, j ≤ 42 → w.cell? ⟨R, 1 + j, none⟩ = some (.bool (f j)) ∧ w.frozen? ⟨R, 1 + j, none⟩ = false
theorem RowAt.lt {w : World} {R : Nat} {place : Int} {f : Nat → Bool} (h : RowAt w R place f) : R < w.heap.size := cell_lt h.1
theorem RowAt.below {w w' : World} {R : Nat} {place : Int} {f : Nat → Bool} (h : RowAt w R place f) (hb : Below w.heap.size w w') : RowAt w' R place f := by
  have hl := h.lt
  exact ⟨(hb.cell (p := ⟨R, 0, none⟩) hl).trans h.1, fun j hj => ⟨(hb.cell (p := ⟨R, 1 + j, none⟩) hl).trans (h.2 j hj).1, (hb.frozen (p := ⟨R, 1 + j, none⟩) hl).trans (h.2 j hj).2⟩⟩
theorem RowAt.set {w : World} {R : Nat} {place : Int} {f : Nat → Bool} (h : RowAt w R place f) (k : Nat) (hk : k ≤ 42) : RowAt (w.setCell ⟨R, 1 + k, none⟩ (.bool true)) R place (fun j => f j || decide (k = j)) := by
  refine ⟨?_, fun j hj => ⟨?_, ?_⟩⟩
  · rw [World.cell?_setCell_other _ _ _ _ (by intro e; simp at e)]; exact h.1
  · by_cases e : k = j
    · subst e
      rw [World.cell?_setCell_same _ _ _ (h.2 k hj).1]; simp
    · rw [World.cell?_setCell_other _ _ _ _ (fun e' => e (by injection e' with _ h2; omega)), (h.2 j hj).1]; simp [e]
  · rw [World.frozen?_setCell]; exact (h.2 j hj).2
theorem RowAt.congr {w : World} {R : Nat} {place : Int} {f g : Nat → Bool} (h : RowAt w R place f) (e : ∀ j, j ≤ 42 → f j = g j) : RowAt w R place g := ⟨h.1, fun j hj => by rw [← e j hj]; exact h.2 j hj⟩
theorem rowAt_new (w : World) (place : Int) : RowAt (w.alloc (.cells (rowA place) 145)) w.heap.size place (fun _ => false) := by
  refine ⟨by simp [rowA], fun j hj => ⟨?_, by simp⟩⟩
  rw [World.cell?_alloc_at _ _ _ _ rfl]
  unfold rowA
  rw [Array.getElem?_append_right (by simp)]
  rw [Array.getElem?_replicate, if_pos (show 1 + j - #[Value.int IntKind.i64 place].size < 43 from by simp; omega)]
theorem owns_set {w : World} {B : Nat} {e : TypeId} {s : Nat} {v : Value} {n : Nat} {xs : List Value} (h : w.ownsRow B e s v n xs) (p : Addr) (u : Value) (hp : p.block < B) : (w.setCell p u).ownsRow B e s v n xs := by
  refine ⟨h.1, ?_⟩
  rcases h.2 with h1 | ⟨g, cap, cur, hv, hB, hg, rest⟩
  · exact .inl h1
  · exact .inr ⟨g, cap, cur, hv, hB, by rw [Below.heap_setCell w p u g (by omega)]; exact hg, rest⟩

theorem row_grown {w w' : World} {R : Nat} {place : Int} {f : Nat → Bool} {o : Option Nat} (h : RowAt w R place f) (hg : w.grownBy w' o) (ho : ∀ g, o = some g → g ≠ R) : RowAt w' R place f := by
  have hb : w'.heap[R]? = w.heap[R]? := hg.block R h.lt (fun e => ho R e.symm rfl)
  exact ⟨(World.cell?_of_block (w := w) (a := ⟨R, 0, none⟩) hb).trans h.1, fun j hj => ⟨(World.cell?_of_block (w := w) (a := ⟨R, 1 + j, none⟩) hb).trans (h.2 j hj).1, (World.frozen?_of_block (w := w) (a := ⟨R, 1 + j, none⟩) hb).trans (h.2 j hj).2⟩⟩
theorem take_min (l : List Pr) (k : Nat) (h : l.length = k) : l.take 32 = l.take (min k 32) := by
  rcases Nat.le_total k 32 with a | a
  · rw [Nat.min_eq_left a, List.take_of_length_le (by omega), List.take_of_length_le (by omega)]
  · rw [Nat.min_eq_right a]
/-- what take says of a property -/
def tk (place id n : Int) (s t : ByteArray) (sn : Bool) : Bool := mst id place && fit (id, n, s, t) && (rep id place || !sn)
theorem take_bad (R : Nat) (place id n : Int) (s t : ByteArray) (f : Nat → Bool) (w : World) (hR : RowAt w R place f) (h : tk place id n s t (f id.toNat) = false) :
    Calls Tryz.prog 90 #[.pointer (some ⟨R, 0, none⟩), .agg #[.int .i64 id, .int .i64 n, .string s, .string t]] w (TakeNo w) := by
  unfold tk at h
  by_cases hm : mst id place = true
  · by_cases hf : fit (id, n, s, t) = true
    · obtain ⟨h1, h2⟩ := id_range id place hm
      obtain ⟨k, rfl⟩ : ∃ k : Nat, id = k := ⟨id.toNat, by omega⟩
      rw [hm, hf] at h
      simp only [Bool.and_true, Bool.true_and, Int.toNat_natCast, Bool.or_eq_false_iff, Bool.not_eq_false'] at h
      exact take_no3 R k place n s t w (by omega) hR.1 (by rw [(hR.2 k (by omega)).1, h.2]) hm hf h.1
    · exact take_no2 R place id n s t w hR.1 hm (by simpa using hf)
  · exact take_no1 R place id n s t w hR.1 (by simpa using hm)
theorem take_good (R k : Nat) (place n : Int) (s t : ByteArray) (f : Nat → Bool) (w : World) (hk : k ≤ 42) (hR : RowAt w R place f) (h : tk place k n s t (f k) = true) :
    Calls Tryz.prog 90 #[.pointer (some ⟨R, 0, none⟩), .agg #[.int .i64 (k : Int), .int .i64 n, .string s, .string t]] w fun e w' => e = .returned .nilIface ∧ ∃ w1, Below w.heap.size w w1 ∧ w' = w1.setCell ⟨R, 1 + k, none⟩ (.bool true) := by
  unfold tk at h
  rw [Bool.and_eq_true, Bool.and_eq_true] at h
  obtain ⟨⟨hm, hf⟩, hr⟩ := h
  have hc := (hR.2 k hk).1
  have hz := (hR.2 k hk).2
  cases hs : f k
  · rw [hs] at hc
    exact take_ok0 R k place n s t w hk hR.1 hc hz hm hf
  · rw [hs] at hc hr
    exact take_ok1 R k place n s t w hk hR.1 hc hz hm hf (by simpa using hr)
/-- .. as tell and read use it -/
theorem take_use (R k : Nat) (place n : Int) (s t : ByteArray) (f g : Nat → Bool) (w : World) (hk : k ≤ 42) (hR : RowAt w R place f) (h : tk place k n s t (f k) = true) (hg : ∀ j, j ≤ 42 → (f j || decide (k = j)) = g j) (B : Nat) (hB : B ≤ R) :
    Calls Tryz.prog 90 #[.pointer (some ⟨R, 0, none⟩), .agg #[.int .i64 (k : Int), .int .i64 n, .string s, .string t]] w fun e w' => e = .returned .nilIface ∧ Hid (RowAt w' R place g) ∧ Below B w w' ∧ Hid (∀ (B' : Nat) (v : Value) (m : Nat) (xs : List Value) (e : TypeId) (q : Nat), R < B' → w.ownsRow B' e q v m xs → w'.ownsRow B' e q v m xs) ∧ Hid (∀ (b i : Nat), b ≠ R → b < w.heap.size → w'.cell? ⟨b, i, none⟩ = w.cell? ⟨b, i, none⟩) := by
  refine (take_good R k place n s t f w hk hR h).mono ?_
  rintro e w' ⟨rfl, w1, hb, rfl⟩
  have hl := hR.lt
  refine ⟨rfl, ((hR.below hb).set k hk).congr hg, (hb.mono (by omega)).setCell hB _, ?_, ?_⟩
  · intro B' v m xs e q hB' ho
    exact owns_set (owns_below ho hb) _ _ hB'
  · intro b i hbR hbw
    rw [World.cell?_setCell_far _ _ _ _ (by simpa using Ne.symm hbR)]
    exact hb.cell (p := ⟨b, i, none⟩) hbw

/-- properties in memory -/
def PrAt (w : World) (b off : Nat) (l : List Pr) : Prop := ∀ k, k < l.length → w.cell? ⟨b, off + k * 4, none⟩ = some (.int .i64 (at0 l k).1) ∧ w.cell? ⟨b, off + k * 4 + 1, none⟩ = some (.int .i64 (at0 l k).2.1) ∧ w.cell? ⟨b, off + k * 4 + 2, none⟩ = some (.string (at0 l k).2.2.1) ∧ w.cell? ⟨b, off + k * 4 + 3, none⟩ = some (.string (at0 l k).2.2.2)
theorem PrAt.below {w w' : World} {b off : Nat} {l : List Pr} (h : PrAt w b off l) (hb : Below w.heap.size w w') : PrAt w' b off l := fun k hk => by
  obtain ⟨h0, h1, h2, h3⟩ := h k hk
  have hl := cell_lt h0
  exact ⟨(hb.cell (p := ⟨b, off + k * 4, none⟩) hl).trans h0, (hb.cell (p := ⟨b, off + k * 4 + 1, none⟩) hl).trans h1, (hb.cell (p := ⟨b, off + k * 4 + 2, none⟩) hl).trans h2, (hb.cell (p := ⟨b, off + k * 4 + 3, none⟩) hl).trans h3⟩
/-- their texts are not beyond what a length tells -/
def Small (l : List Pr) : Prop := ∀ k, k < l.length → (at0 l k).2.2.1.size ≤ 4611686018427387904 ∧ (at0 l k).2.2.2.size ≤ 4611686018427387904
def TellPost (place : Int) (l : List Pr) (w : World) (e : Ending) (w' : World) : Prop :=
  (okTo place l l.length ∧ ∃ v, e = .returned (.tuple #[v, .int .i64 (body l).length, .nilIface]) ∧ Hid (Byt w' v (body (l.take 32))) ∧ Below w.heap.size w w') ∨
  (chkP place l = 1 ∧ ∃ E, e = .returned (.tuple #[.slice none 0 0, .int .i64 0, .iface 64 E]) ∧ Hid (ErrP w' (.iface 64 E) 1) ∧ Below w.heap.size w w')
theorem okAt_tk (place : Int) (l : List Pr) (k : Nat) : okAt place l k = (tk place (at0 l k).1 (at0 l k).2.1 (at0 l k).2.2.1 (at0 l k).2.2.2 (seen l k (at0 l k).1) && txo (at0 l k)) := by
  unfold okAt tk may
  rw [show ((at0 l k).1, (at0 l k).2.1, (at0 l k).2.2.1, (at0 l k).2.2.2) = at0 l k from rfl]
  cases mst (at0 l k).1 place <;> cases fit (at0 l k) <;> cases txo (at0 l k) <;> cases (rep (at0 l k).1 place || !seen l k (at0 l k).1) <;> rfl
theorem kd_of_mst (id place : Int) (h : mst id place = true) : kd id ≠ 0 := by
  revert h
  refine id_cases (P := fun id => mst id place = true → kd id ≠ 0) id ?_ ?_ ?_ ?_ ?_ ?_ ?_ ?_ ?_ ?_ ?_ ?_ ?_ ?_ ?_ ?_ ?_ ?_ ?_ ?_ ?_ ?_ ?_ ?_ ?_ ?_ ?_ ?none
  case none =>
    intro n1 n2 n3 n8 n9 n11 n17 n18 n19 n21 n22 n23 n24 n25 n26 n28 n31 n33 n34 n35 n36 n37 n38 n39 n40 n41 n42 h
    unfold mst at h
    rw [plc_none id n1 n2 n3 n8 n9 n11 n17 n18 n19 n21 n22 n23 n24 n25 n26 n28 n31 n33 n34 n35 n36 n37 n38 n39 n40 n41 n42] at h
    simp at h
  all_goals
    intro _
    decide
theorem tk_toNat {place id n : Int} {s t : ByteArray} {b : Bool} (f : Int → Bool) (h : tk place id n s t (f id) = b) : tk place id n s t (f (id.toNat : Int)) = b := by
  subst h
  by_cases hm : mst id place = true
  · have := id_range id place hm
    rw [show (id.toNat : Int) = id from by omega]
  · have hm' : mst id place = false := by simpa using hm
    unfold tk
    rw [hm']; rfl
theorem tk_mst {place id n : Int} {s t : ByteArray} {sn : Bool} (h : tk place id n s t sn = true) : mst id place = true ∧ fit (id, n, s, t) = true := by
  unfold tk at h
  rw [Bool.and_eq_true, Bool.and_eq_true] at h
  exact h.1
set_option maxHeartbeats 4000000 in
theorem tell_core (b off cap : Nat) (l : List Pr) (len : Nat) (place : Int) (w : World) (hlen : l.length = len) (h200 : len ≤ 200) (hsm : Small l) (hl : PrAt w b off l) :
    Calls Tryz.prog 93 #[.slice (some ⟨b, off, none⟩) len cap, .int .i64 place] w (TellPost place l w) := by
  have HL := hide hl
  have HLEN := hide hlen
  have HSM := hide hsm
  clear hl hlen hsm
  go_enter Tryz.func93, Tryz.ntmps93
  iterate 19 go_step
  refine wpList_value rfl (row_build _ _ _ _ _ _ place rfl _) ?_
  simp only [Act.put, List.setIfInBounds_toArray, List.set_cons_zero, List.set_cons_succ]
  refine wpList_value rfl (row_alloc _ _ _ _ _ _) ?_
  simp only [Act.put, List.setIfInBounds_toArray, List.set_cons_zero, List.set_cons_succ]
  refine wpList_skip rfl (row_store _ _ _ _ _ _ _ place _ rfl rfl) ?_
  simp only [Act.put]
  go_wp2
  have hR0 : Hid (RowAt (w.alloc (.cells (rowA place) 145)) w.heap.size place (fun _ => false)) := rowAt_new w place
  go_loopw [4, 5, 16] (fun b0 sz iv wr => ∃ (bv : Value) (k S : Nat), b0 = bv ∧ k ≤ len ∧ iv = .int .i64 k ∧ sz = .int .i64 S ∧ S ≤ k * 131078 ∧ Hid (S = (body (l.take k)).length) ∧ Hid (okTo place l k) ∧ Hid (RowAt wr w.heap.size place (fun j => seen l k j)) ∧ Hid (wr.ownsRow (w.heap.size + 1) 5 1 bv (body (l.take (min k 32))).length ((body (l.take (min k 32))).map (Value.int .u8))) ∧ Hid (∀ j, 0 ≤ (body (l.take (min k 32))).getD j 0 ∧ (body (l.take (min k 32))).getD j 0 ≤ 255) ∧ Below w.heap.size w wr) (fun _ _ iv _ => len - (intOf iv).toNat)
  case atStart =>
    refine ⟨_, 0, 0, rfl, Nat.zero_le _, rfl, rfl, by omega, by simp [body]; trivial, okTo_zero _ _, (unhide hR0).congr (fun j _ => (seen_zero _ _).symm), ?_, ?_, ?_⟩
    · show World.ownsRow _ _ _ _ _ _ _
      simpa [body] using World.ownsRow_nil _ _ _ _
    · intro j; simp [body]
    · exact (Below.refl _ _).alloc (Nat.le_refl _) _
  case round =>
    obtain ⟨_, k, S, rfl, hk, rfl, rfl, hSk, HS, HOT, HROW, HOWN, HRG, hbel⟩ := hrel
    clear hR0
    have hsz := hbel.size
    have hRl := (unhide HROW).lt
    by_cases hlt : k < len
    · obtain ⟨id, n, s, t, hp⟩ : ∃ id n s t, at0 l k = (id, n, s, t) := ⟨_, _, _, _, rfl⟩
      obtain ⟨h0, h1, h2, h3⟩ := ((unhide HL).below hbel) k (by rw [unhide HLEN]; exact hlt)
      have hsm := (unhide HSM) k (by rw [unhide HLEN]; exact hlt)
      have hot := hide (okAt_tk place l k)
      rw [hp] at h0 h1 h2 h3 hsm hot
      simp only at h0 h1 h2 h3 hsm
      have HP := hide hp
      have HBEL := hide hbel
      have HSMK := hide hsm
      have HLTk : Hid (k < l.length) := by show _ < _; rw [unhide HLEN]; exact hlt
      clear hp hbel hsm
      have hbl := cell_lt h0
      cases htk : tk place id n s t (seen l k id)
      · have HC : Hid (chkP place l = 1) := chkP_bad place l k (unhide HLTk) ((unhide hot).trans (by simp only [htk, Bool.false_and]))
        have HTK := hide (tk_toNat (seen l k) htk)
        clear htk hot
        go_wp2_with fail
        refine (take_bad w.heap.size place id n s t (fun j => seen l k j) _ ((unhide HROW).below ((Below.refl _ _).alloc (Nat.le_refl _) _)) (unhide HTK)).mono ?_
        rintro e w2 ⟨E, rfl, hE, hb2⟩
        go_wp2
        go_ret3
        exact .inr ⟨unhide HC, _, rfl, hE, ((unhide HBEL).alloc hsz _).trans (hb2.mono (by simp; omega))⟩
      · obtain ⟨hmst, hfit⟩ := tk_mst htk
        obtain ⟨hi1, hi2⟩ := id_range id place hmst
        obtain ⟨q, rfl⟩ : ∃ q : Nat, id = q := ⟨id.toNat, by omega⟩
        have hkd := hide (kd_of_mst _ _ hmst)
        have hxt : Hid (okAt place l k = txo ((q : Int), n, s, t)) := (unhide hot).trans (by rw [htk, Bool.true_and])
        have HTK := hide htk
        have HFT := hide hfit
        have HG : Hid (∀ j : Nat, j ≤ 42 → (seen l k (j : Int) || decide (q = j)) = seen l (k + 1) (j : Int)) := fun j _ => by
          rw [seen_succ l k (unhide HLTk), unhide HP, show decide (((q : Int), n, s, t).1 = (j : Int)) = decide (q = j) from by rw [decide_eq_decide]; constructor <;> intro h <;> omega]
        clear htk hot hmst hfit
        go_wp2_with fail
        refine (take_use w.heap.size q place n s t (fun j => seen l k j) (fun j => seen l (k + 1) j) _ (by omega) ((unhide HROW).below ((Below.refl _ _).alloc (Nat.le_refl _) _)) (unhide HTK) (unhide HG) w.heap.size (Nat.le_refl _)).mono ?_
        rintro e w2 ⟨rfl, HROW2, hb2, HOWT, HCT⟩
        have d0 : w2.cell? ⟨wr.heap.size, 0, none⟩ = some (.int .i64 (q : Int)) := ((unhide HCT) wr.heap.size 0 (by omega) (by simp)).trans (by simp)
        have d1 : w2.cell? ⟨wr.heap.size, 1, none⟩ = some (.int .i64 n) := ((unhide HCT) wr.heap.size 1 (by omega) (by simp)).trans (by simp)
        have d2 : w2.cell? ⟨wr.heap.size, 2, none⟩ = some (.string s) := ((unhide HCT) wr.heap.size 2 (by omega) (by simp)).trans (by simp)
        have d3 : w2.cell? ⟨wr.heap.size, 3, none⟩ = some (.string t) := ((unhide HCT) wr.heap.size 3 (by omega) (by simp)).trans (by simp)
        have HOWN2 : Hid (w2.ownsRow (w.heap.size + 1) 5 1 u4 (body (l.take (min k 32))).length ((body (l.take (min k 32))).map (Value.int .u8))) := (unhide HOWT) _ _ _ _ _ _ (by omega) ((unhide HOWN).alloc _)
        have HB2 : Hid (Below w.heap.size w w2) := ((unhide HBEL).alloc hsz _).trans hb2
        have hs2 := (unhide HB2).size
        clear hb2 HOWT HCT HOWN HBEL HROW HG HTK h0 h1 h2 h3
        cases htx : txo ((q : Int), n, s, t)
        · have HC : Hid (chkP place l = 1) := chkP_bad place l k (unhide HLTk) ((unhide hxt).trans htx)
          have HTX := hide htx
          clear htx hxt
          go_wp2_with fail
          refine (one_bad q n s t _ (by omega) (unhide HSMK).1 (unhide HSMK).2 (unhide hkd) (unhide HTX)).mono ?_
          rintro e w3 ⟨t3, x3, m3, rfl, hin3, hb3⟩
          have HB3 : Hid (Below w.heap.size w w3) := (unhide HB2).trans (hb3.mono hs2)
          clear hb3
          go_wp2_with fail
          refine (broken_use _ m3 _ (unhide hin3)).mono ?_
          rintro e w4 ⟨E, rfl, hE, hb4⟩
          go_wp2
          go_ret3
          exact .inr ⟨unhide HC, _, rfl, hE, (unhide HB3).trans (hb4.mono (unhide HB3).size)⟩
        · have HOK : Hid (okAt place l k = true) := (unhide hxt).trans htx
          have HM : Hid (may ((q : Int), n, s, t) = true) := by show may _ = true; unfold may; rw [unhide HFT, htx]; rfl
          have hpl := pb_le _ (unhide HM)
          have HPB : Hid (body (l.take (k + 1)) = body (l.take k) ++ pb ((q : Int), n, s, t)) := by show _ = _; rw [body_take l k (unhide HLTk), unhide HP]
          have HV := hide (fun W => one_ok q n s t W (by omega) (unhide HM))
          generalize pb ((q : Int), n, s, t) = L at HV hpl HPB
          clear htx hxt HM HFT hkd HSMK
          go_wp2_with fail
          refine ((unhide HV) _).mono ?_
          rintro e w3 ⟨v3, rfl, hy3, hb3⟩
          have HOWN3 : Hid (w3.ownsRow (w.heap.size + 1) 5 1 u4 (body (l.take (min k 32))).length ((body (l.take (min k 32))).map (Value.int .u8))) := owns_below (unhide HOWN2) hb3
          have HROW3 : Hid (RowAt w3 w.heap.size place (fun j => seen l (k + 1) j)) := (unhide HROW2).below hb3
          have HB3 : Hid (Below w.heap.size w w3) := (unhide HB2).trans (hb3.mono hs2)
          have hs3 : w.heap.size + 1 ≤ w3.heap.size := by have := (unhide HROW3).lt; omega
          clear hb3 HOWN2 HROW2 HB2 d0 d1 d2 d3 HV
          obtain ⟨ao, vc, rfl, hv1, hv2⟩ := (unhide hy3).form
          unfold maxLen at hv2
          generalize hN : L.length = N at hpl hv1 hy3
          have HN := hide hN
          clear hN
          have HS' : Hid (S + N = (body (l.take (k + 1))).length) := by show _ = _; rw [unhide HPB, List.length_append, unhide HN, unhide HS]
          by_cases h32 : k < 32
          · have hle := body_le l place k (Nat.le_of_lt (unhide HLTk)) (unhide HOT)
            have HM1 : Hid (min k 32 = k) := Nat.min_eq_left (by omega)
            have HM2 : Hid (min (k + 1) 32 = k + 1) := Nat.min_eq_left (by omega)
            rw [unhide HM1] at HOWN3 HRG
            rw [← unhide HS] at hle
            have HSL : Hid ((body (l.take k)).length = S) := (unhide HS).symm
            rw [unhide HSL] at HOWN3
            have HYN : Hid (Byt w3 (.slice ao N vc) L) := hy3
            go_wp2_with (first
              | (at_builtin; refine wpList_append_byt _ rfl _ _ rfl (w.heap.size + 1) _ S (body (l.take k)) rfl (unhide HOWN3) (.slice ao N vc) L rfl (unhide HYN) (by have := unhide HN; omega) hs3 ?_)
              | go_in)
            intro v4 w4 hown4 hgrow4
            have HB4 : Hid (Below w.heap.size w w4) := (unhide HB3).grown hgrow4 (unhide HB3).size (fun g hg => by have := ((unhide HOWN3).lt g hg).1; omega)
            have HROW4 : Hid (RowAt w4 w.heap.size place (fun j => seen l (k + 1) j)) := row_grown (unhide HROW3) hgrow4 (fun g hg => by have := ((unhide HOWN3).lt g hg).1; omega)
            have HOWN4 : Hid (w4.ownsRow (w.heap.size + 1) 5 1 v4 (body (l.take (min (k + 1) 32))).length ((body (l.take (min (k + 1) 32))).map (Value.int .u8))) := by
              show World.ownsRow _ _ _ _ _ _ _
              rw [unhide HM2, unhide HPB, List.map_append, List.length_append, unhide HSL]
              exact hown4
            have HRG4 : Hid (∀ j, 0 ≤ (body (l.take (min (k + 1) 32))).getD j 0 ∧ (body (l.take (min (k + 1) 32))).getD j 0 ≤ 255) := by
              show ∀ j, _
              rw [unhide HM2, unhide HPB]
              exact range_app (unhide HRG) (unhide HYN).range
            clear hown4 hgrow4
            go_wp2
            go_roundw
            case rel => exact ⟨_, k + 1, S + N, rfl, by omega, by go_num, by go_num, by omega, HS', okTo_succ (unhide HOT) (unhide HOK), HROW4, HOWN4, HRG4, unhide HB4⟩
            case measure => simp [intOf]; omega
          · have HM1 : Hid (min k 32 = min (k + 1) 32) := by show _ = _; omega
            rw [unhide HM1] at HOWN3 HRG
            go_wp2
            go_roundw
            case rel => exact ⟨_, k + 1, S + N, rfl, by omega, by go_num, by go_num, by omega, HS', okTo_succ (unhide HOT) (unhide HOK), HROW3, HOWN3, HRG, unhide HB3⟩
            case measure => simp [intOf]; omega
    · obtain rfl : k = len := by omega
      have HY : Hid (Byt wr u4 (body (l.take 32))) := by
        show Byt _ _ _
        rw [take_min l k (unhide HLEN)]
        exact byt_of_owns (unhide HOWN) (unhide HRG)
      have HS' : Hid ((S : Int) = ((body l).length : Int)) := by
        show _ = _
        rw [unhide HS, List.take_of_length_le (Nat.le_of_eq (unhide HLEN))]
      go_wp2
      go_ret3
      exact .inl ⟨by rw [unhide HLEN]; exact unhide HOT, _, by rw [← unhide HS']; rfl, HY, hbel⟩
end Go.Proofs.YtgdfnopnmdjklaaGreatDoor
/- Proved here: one property with which bytes begin, and all of which bytes are made, as plain functions; prop.getOne tells the first. Helpers. -/
namespace Go.Proofs.YtgdfnopnmdjklaaGreatDoor
open Go.RowKit
set_option maxRecDepth 100000

/-- what a property of a kind has, read off bytes: whether it is there, its number, its texts, how many bytes -/
def gval (k : Int) (l : List Int) : Bool × Int × ByteArray × ByteArray × Nat :=
  if k = 1 ∨ k = 2 ∨ k = 4 then (decide (k ≤ l.length), be k l, es, es, k.toNat)
  else if k = 5 then (decide ((V.vget l).2.2 = 0), (V.vget l).1, es, es, (V.vget l).2.1.toNat)
  else if k = 6 then (decide ((gt l).2.2 = 0), 0, (gt l).1, es, (gt l).2.1.toNat)
  else if k = 7 then (decide ((gbn l).2.2 = 0), 0, (gbn l).1, es, (gbn l).2.1.toNat)
  else if k = 8 then (decide ((gt l).2.2 = 0) && decide ((gt (l.drop (gt l).2.1.toNat)).2.2 = 0), 0, (gt l).1, (gt (l.drop (gt l).2.1.toNat)).1, (gt l).2.1.toNat + (gt (l.drop (gt l).2.1.toNat)).2.1.toNat)
  else (false, 0, es, es, 0)
def gid (l : List Int) : Int := (V.vget l).1
def ghd (l : List Int) : Nat := (V.vget l).2.1.toNat
def grs (l : List Int) : Bool × Int × ByteArray × ByteArray × Nat := gval (kd (gid l)) (l.drop (ghd l))
def gok (l : List Int) : Bool := decide ((V.vget l).2.2 = 0) && (grs l).1
def gpr (l : List Int) : Pr := (gid l, (grs l).2.1, (grs l).2.2.1, (grs l).2.2.2.1)
def gsz (l : List Int) : Nat := ghd l + (grs l).2.2.2.2
/-- the properties of which bytes are made -/
def parse (l : List Int) : Option (List Pr) :=
  if _h : l = [] then some [] else if gok l = true then (parse (l.drop (max 1 (gsz l)))).map (gpr l :: ·) else none
termination_by l.length
decreasing_by
  rw [List.length_drop]
  have := List.length_pos_iff.2 _h
  omega
def Rng (l : List Int) : Prop := ∀ j, 0 ≤ l.getD j 0 ∧ l.getD j 0 ≤ 255
theorem Rng.drop {l : List Int} (h : Rng l) (k : Nat) : Rng (l.drop k) := fun j => by
  rw [List.getD_eq_getElem?_getD, List.getElem?_drop, ← List.getD_eq_getElem?_getD]; exact h _
theorem vget_is (l : List Int) (hr : Rng l) (h : (V.vget l).2.2 = 0) : V.vget l = (gid l, (ghd l : Int), 0) ∧ 1 ≤ ghd l ∧ ghd l ≤ l.length ∧ 0 ≤ gid l ∧ gid l ≤ 268435455 ∧ V.put (gid l) = l.take (ghd l) := by
  obtain ⟨n, k, e, he⟩ : ∃ n k e, V.vget l = (n, k, e) := ⟨_, _, _, rfl⟩
  rw [he] at h
  simp only at h
  subst h
  obtain ⟨h0, h1, K, rfl, h2, h3, h4⟩ := V.vget_ok l hr n k he
  have e1 : gid l = n := by unfold gid; rw [he]
  have e2 : ghd l = K := by unfold ghd; rw [he]; simp
  rw [e1, e2]
  exact ⟨he, h2, h3, h0, h1, h4⟩
theorem gt_is (l : List Int) (h : (gt l).2.2 = 0) : gt l = ((gt l).1, (((gt l).2.1.toNat : Nat) : Int), 0) ∧ 2 ≤ (gt l).2.1.toNat ∧ (gt l).2.1.toNat ≤ l.length ∧ utf (sb (gt l).1) = true ∧ (gt l).1 = gbs l := by
  rcases gt_cases l with ⟨s, K, hf, hu, rfl, rfl, hg⟩ | ⟨m, hm, hg⟩
  · rw [hg]
    unfold full at hf
    rw [Bool.and_eq_true, decide_eq_true_eq, decide_eq_true_eq] at hf
    refine ⟨by rw [Int.toNat_natCast], ?_, ?_, hu, rfl⟩
    · show 2 ≤ ((2 + nb l : Nat) : Int).toNat
      omega
    · show ((2 + nb l : Nat) : Int).toNat ≤ _
      omega
  · rw [hg] at h
    exact absurd h hm
theorem gbn_is (l : List Int) (h : (gbn l).2.2 = 0) : gbn l = ((gbn l).1, (((gbn l).2.1.toNat : Nat) : Int), 0) ∧ 2 ≤ (gbn l).2.1.toNat ∧ (gbn l).2.1.toNat ≤ l.length ∧ (gbn l).1 = gbs l := by
  unfold gbn at *
  by_cases hf : full l = true
  · rw [if_pos hf] at h ⊢
    unfold full at hf
    rw [Bool.and_eq_true, decide_eq_true_eq, decide_eq_true_eq] at hf
    refine ⟨by rw [Int.toNat_natCast], ?_, ?_, rfl⟩
    · show 2 ≤ ((2 + nb l : Nat) : Int).toNat
      omega
    · show ((2 + nb l : Nat) : Int).toNat ≤ _
      omega
  · rw [if_neg hf] at h
    simp at h
theorem gval_le (k : Int) (l : List Int) (hr : Rng l) (h : (gval k l).1 = true) : (gval k l).2.2.2.2 ≤ l.length := by
  unfold gval at h ⊢
  by_cases k1 : k = 1 ∨ k = 2 ∨ k = 4
  · rw [if_pos k1] at h ⊢
    simp only [decide_eq_true_eq] at h ⊢
    omega
  rw [if_neg k1] at h ⊢
  by_cases k5 : k = 5
  · rw [if_pos k5] at h ⊢
    simp only [decide_eq_true_eq] at h ⊢
    exact (vget_is l hr h).2.2.1
  rw [if_neg k5] at h ⊢
  by_cases k6 : k = 6
  · rw [if_pos k6] at h ⊢
    simp only [decide_eq_true_eq] at h ⊢
    exact (gt_is l h).2.2.1
  rw [if_neg k6] at h ⊢
  by_cases k7 : k = 7
  · rw [if_pos k7] at h ⊢
    simp only [decide_eq_true_eq] at h ⊢
    exact (gbn_is l h).2.2.1
  rw [if_neg k7] at h ⊢
  by_cases k8 : k = 8
  · rw [if_pos k8] at h ⊢
    simp only [Bool.and_eq_true, decide_eq_true_eq] at h ⊢
    have a := (gt_is l h.1).2.2.1
    have b := (gt_is _ h.2).2.2.1
    rw [List.length_drop] at b
    omega
  rw [if_neg k8] at h
  simp at h
theorem gok_le (l : List Int) (hr : Rng l) (h : gok l = true) : 1 ≤ gsz l ∧ gsz l ≤ l.length ∧ 0 ≤ gid l ∧ gid l ≤ 268435455 := by
  unfold gok at h
  rw [Bool.and_eq_true, decide_eq_true_eq] at h
  obtain ⟨_, a, b, c, d, _⟩ := vget_is l hr h.1
  have e := gval_le _ _ (hr.drop (ghd l)) h.2
  rw [List.length_drop] at e
  unfold gsz grs
  omega
theorem parse_nil : parse [] = some [] := by rw [parse, dif_pos rfl]
theorem parse_no (l : List Int) (h : l ≠ []) (hg : gok l = false) : parse l = none := by rw [parse, dif_neg h, if_neg (by rw [hg]; decide)]
theorem parse_yes (l : List Int) (h : l ≠ []) (hr : Rng l) (hg : gok l = true) : parse l = (parse (l.drop (gsz l))).map (gpr l :: ·) := by
  rw [parse, dif_neg h, if_pos hg, Nat.max_eq_right (gok_le l hr hg).1]
theorem getOne_good (v : Value) (l : List Int) (w : World) (h : Byt w v l) (hg : gok l = true) : Calls Tryz.prog 88 #[v] w (GoOk (gpr l) (gsz l) w) := by
  have hr := h.range
  have hle := gok_le l hr hg
  unfold gok at hg
  rw [Bool.and_eq_true, decide_eq_true_eq] at hg
  obtain ⟨hv, a, b, c, d, _⟩ := vget_is l hr hg.1
  have hg2 := hg.2
  have hl := gval_le _ _ (Rng.drop hr (ghd l)) hg2
  rw [List.length_drop] at hl
  unfold gpr gsz
  refine gone_ok v l w h (gid l) (ghd l) hv ⟨a, b⟩ (frm (gid l)) (wid (gid l)) (lst (gid l)) (mx (gid l)) rfl _ _ _ _ (by unfold grs; omega) ?_
  intro vb W hb
  have hfrm : frm (gid l) = (if kd (gid l) = 1 ∨ kd (gid l) = 2 ∨ kd (gid l) = 4 then 1 else if kd (gid l) = 5 then 2 else if kd (gid l) = 6 then 3 else if kd (gid l) = 7 then 4 else if kd (gid l) = 8 then 5 else 0) := rfl
  have hwid : wid (gid l) = (if kd (gid l) = 1 ∨ kd (gid l) = 2 ∨ kd (gid l) = 4 then kd (gid l) else 0) := rfl
  have hr' := Rng.drop hr (ghd l)
  unfold grs at hg2 ⊢
  generalize kd (gid l) = k at hg2 hfrm hwid ⊢
  generalize l.drop (ghd l) = m at hg2 hb hr' ⊢
  rw [hfrm, hwid]
  clear hfrm hwid
  unfold gval at hg2 ⊢
  by_cases k1 : k = 1 ∨ k = 2 ∨ k = 4
  · rw [if_pos k1] at hg2 ⊢
    rw [if_pos k1, if_pos k1]
    simp only [decide_eq_true_eq] at hg2 ⊢
    have := gval_num vb m W hb k (lst (gid l)) (mx (gid l)) k1 hg2
    rw [show ((k.toNat : Nat) : Int) = k from by omega]
    exact this
  rw [if_neg k1] at hg2 ⊢
  rw [if_neg k1, if_neg k1]
  by_cases k5 : k = 5
  · rw [if_pos k5] at hg2 ⊢
    rw [if_pos k5]
    simp only [decide_eq_true_eq] at hg2 ⊢
    obtain ⟨hv', _⟩ := vget_is m hr' hg2
    exact gval_var vb m W hb _ _ _ _ _ hv'
  rw [if_neg k5] at hg2 ⊢
  rw [if_neg k5]
  by_cases k6 : k = 6
  · rw [if_pos k6] at hg2 ⊢
    rw [if_pos k6]
    simp only [decide_eq_true_eq] at hg2 ⊢
    exact gval_text vb m W hb _ _ _ _ _ (gt_is m hg2).1
  rw [if_neg k6] at hg2 ⊢
  rw [if_neg k6]
  by_cases k7 : k = 7
  · rw [if_pos k7] at hg2 ⊢
    rw [if_pos k7]
    simp only [decide_eq_true_eq] at hg2 ⊢
    exact gval_bin vb m W hb _ _ _ _ _ (gbn_is m hg2).1
  rw [if_neg k7] at hg2 ⊢
  rw [if_neg k7]
  by_cases k8 : k = 8
  · rw [if_pos k8] at hg2 ⊢
    rw [if_pos k8]
    simp only [Bool.and_eq_true, decide_eq_true_eq] at hg2 ⊢
    obtain ⟨e1, e2, e3, _⟩ := gt_is m hg2.1
    obtain ⟨f1, f2, f3, _⟩ := gt_is _ hg2.2
    rw [List.length_drop] at f3
    exact gval_pair vb m W hb _ _ _ _ _ _ _ e1 f1 ⟨e2, e3⟩ (by omega)
  rw [if_neg k8] at hg2
  simp at hg2
theorem getOne_fail (v : Value) (l : List Int) (w : World) (h : Byt w v l) (hg : gok l = false) : Calls Tryz.prog 88 #[v] w (GvBad w) := by
  have hr := h.range
  by_cases hv0 : (V.vget l).2.2 = 0
  · obtain ⟨hv, a, b, c, d, _⟩ := vget_is l hr hv0
    have hg2 : (grs l).1 = false := by
      unfold gok at hg
      rw [hv0] at hg
      simpa using hg
    refine gone_bad2 v l w h (gid l) (ghd l) hv ⟨a, b⟩ (frm (gid l)) (wid (gid l)) (lst (gid l)) (mx (gid l)) rfl ?_
    intro vb W hb
    have hfrm : frm (gid l) = (if kd (gid l) = 1 ∨ kd (gid l) = 2 ∨ kd (gid l) = 4 then 1 else if kd (gid l) = 5 then 2 else if kd (gid l) = 6 then 3 else if kd (gid l) = 7 then 4 else if kd (gid l) = 8 then 5 else 0) := rfl
    have hwid : wid (gid l) = (if kd (gid l) = 1 ∨ kd (gid l) = 2 ∨ kd (gid l) = 4 then kd (gid l) else 0) := rfl
    unfold grs at hg2
    generalize kd (gid l) = k at hg2 hfrm hwid ⊢
    generalize l.drop (ghd l) = m at hg2 hb
    rw [hfrm, hwid]
    clear hfrm hwid
    unfold gval at hg2
    by_cases k1 : k = 1 ∨ k = 2 ∨ k = 4
    · rw [if_pos k1] at hg2
      rw [if_pos k1, if_pos k1]
      simp only [decide_eq_false_iff_not] at hg2
      exact gval_num_bad vb m W hb k _ _ (by omega)
    rw [if_neg k1] at hg2
    rw [if_neg k1, if_neg k1]
    by_cases k5 : k = 5
    · rw [if_pos k5] at hg2
      rw [if_pos k5]
      simp only [decide_eq_false_iff_not] at hg2
      exact gval_var_bad vb m W hb _ _ _ _ rfl hg2
    rw [if_neg k5] at hg2
    rw [if_neg k5]
    by_cases k6 : k = 6
    · rw [if_pos k6] at hg2
      rw [if_pos k6]
      simp only [decide_eq_false_iff_not] at hg2
      exact gval_text_bad vb m W hb _ _ _ _ rfl hg2
    rw [if_neg k6] at hg2
    rw [if_neg k6]
    by_cases k7 : k = 7
    · rw [if_pos k7] at hg2
      rw [if_pos k7]
      simp only [decide_eq_false_iff_not] at hg2
      exact gval_bin_bad vb m W hb _ _ _ _ rfl hg2
    rw [if_neg k7] at hg2
    rw [if_neg k7]
    by_cases k8 : k = 8
    · rw [if_pos k8] at hg2
      rw [if_pos k8]
      by_cases h1 : (gt m).2.2 = 0
      · obtain ⟨e1, e2, e3, _⟩ := gt_is m h1
        have h2 : ¬ (gt (m.drop (gt m).2.1.toNat)).2.2 = 0 := by
          rw [h1] at hg2
          simpa using hg2
        exact gval_pair_bad vb m W hb _ _ _ (fun W' hb' => gpair_bad2 vb m W' hb' _ _ e1 ⟨e2, e3⟩ _ rfl h2)
      · exact gval_pair_bad vb m W hb _ _ _ (fun W' hb' => gpair_bad1 vb m W' hb' _ rfl h1)
    rw [if_neg k8]
    exact gval_none vb m W hb _ _ _
  · exact gone_bad1 v l w h _ rfl hv0
/-- what is read has texts that may be -/
theorem gpr_txo (l : List Int) (hr : Rng l) (h : gok l = true) : txo (gpr l) = true ∧ (gpr l).2.2.1.size ≤ 65535 ∧ (gpr l).2.2.2.size ≤ 65535 := by
  unfold gok at h
  rw [Bool.and_eq_true, decide_eq_true_eq] at h
  have hg2 := h.2
  have hr' := hr.drop (ghd l)
  unfold gpr txo
  simp only
  unfold grs at hg2 ⊢
  generalize kd (gid l) = k at hg2 ⊢
  generalize l.drop (ghd l) = m at hg2 hr' ⊢
  have hes : es.size ≤ 65535 := by decide
  have key : ∀ s : ByteArray, utf (sb s) = true → s.size ≤ 65535 → chk (sb s) = 0 := fun s a b => by
    unfold chk
    rw [if_pos a, if_pos (by rw [sb_length]; exact b)]
  unfold gval at hg2 ⊢
  by_cases k1 : k = 1 ∨ k = 2 ∨ k = 4
  · rw [if_pos k1]
    rw [if_neg (by omega), if_neg (by omega), if_neg (by omega)]
    exact ⟨by simp; omega, hes, hes⟩
  rw [if_neg k1] at hg2 ⊢
  by_cases k5 : k = 5
  · rw [if_pos k5]
    rw [if_neg (by omega), if_neg (by omega), if_neg (by omega)]
    exact ⟨by simp; omega, hes, hes⟩
  rw [if_neg k5] at hg2 ⊢
  by_cases k6 : k = 6
  · rw [if_pos k6] at hg2 ⊢
    simp only [decide_eq_true_eq] at hg2 ⊢
    rw [if_pos k6]
    obtain ⟨_, _, _, hu, hs⟩ := gt_is m hg2
    have hz : (gt m).1.size ≤ 65535 := by rw [hs]; exact gbs_size m hr'
    exact ⟨key _ hu hz, hz, hes⟩
  rw [if_neg k6] at hg2 ⊢
  by_cases k7 : k = 7
  · rw [if_pos k7] at hg2 ⊢
    simp only [decide_eq_true_eq] at hg2 ⊢
    rw [if_neg k6, if_pos k7]
    obtain ⟨_, _, _, hs⟩ := gbn_is m hg2
    have hz : (gbn m).1.size ≤ 65535 := by rw [hs]; exact gbs_size m hr'
    exact ⟨hz, hz, hes⟩
  rw [if_neg k7] at hg2 ⊢
  by_cases k8 : k = 8
  · rw [if_pos k8] at hg2 ⊢
    simp only [Bool.and_eq_true, decide_eq_true_eq] at hg2 ⊢
    rw [if_neg k6, if_neg k7, if_pos k8]
    obtain ⟨_, _, _, hu, hs⟩ := gt_is m hg2.1
    obtain ⟨_, _, _, hu2, hs2⟩ := gt_is _ hg2.2
    have hz : (gt m).1.size ≤ 65535 := by rw [hs]; exact gbs_size m hr'
    have hz2 : (gt (m.drop (gt m).2.1.toNat)).1.size ≤ 65535 := by rw [hs2]; exact gbs_size _ (hr'.drop _)
    exact ⟨⟨key _ hu hz, key _ hu2 hz2⟩, hz, hz2⟩
  rw [if_neg k8] at hg2
  simp at hg2
/-- lists that begin alike -/
theorem at0_app (d e : List Pr) (i : Nat) (h : i < d.length) : at0 (d ++ e) i = at0 d i := by
  unfold at0
  rw [List.getD_eq_getElem?_getD, List.getElem?_append_left h, ← List.getD_eq_getElem?_getD]
theorem at0_mid (d e : List Pr) (p : Pr) : at0 (d ++ p :: e) d.length = p := by
  unfold at0
  simp
def sn (d : List Pr) (id : Int) : Bool := d.any fun q => decide (q.1 = id)
theorem seen_app (d e : List Pr) (i : Nat) (h : i ≤ d.length) (id : Int) : seen (d ++ e) i id = seen d i id := by
  unfold seen
  rw [List.take_append_of_le_length h]
theorem okAt_app (place : Int) (d e : List Pr) (i : Nat) (h : i < d.length) : okAt place (d ++ e) i = okAt place d i := by
  unfold okAt
  rw [at0_app d e i h, seen_app d e i (by omega)]
theorem okAt_mid (place : Int) (d e : List Pr) (p : Pr) : okAt place (d ++ p :: e) d.length = (tk place p.1 p.2.1 p.2.2.1 p.2.2.2 (sn d p.1) && txo p) := by
  rw [okAt_tk, at0_mid, seen_app d _ _ (Nat.le_refl _)]
  unfold seen sn
  rw [List.take_length]
theorem sn_snoc (d : List Pr) (p : Pr) (id : Int) : sn (d ++ [p]) id = (sn d id || decide (p.1 = id)) := by
  unfold sn
  rw [List.any_append]; simp
/-- the number that read tells -/
def rdn (place : Int) (l : List Int) : Int := match parse l with
  | none => 1
  | some q => chkP place q
theorem rdn_none (place : Int) (l : List Int) (h : parse l = none) : rdn place l = 1 := by unfold rdn; rw [h]
theorem rdn_some (place : Int) (l : List Int) (q : List Pr) (h : parse l = some q) : rdn place l = chkP place q := by unfold rdn; rw [h]
theorem rdn_bad (place : Int) (l r : List Int) (d : List Pr) (p : Pr) (h : parse l = (parse r).map ((d ++ [p]) ++ ·)) (hp : okAt place (d ++ [p]) d.length = false) : rdn place l = 1 := by
  cases hr : parse r with
  | none => rw [hr] at h; exact rdn_none place l h
  | some q =>
    rw [hr] at h
    rw [rdn_some place l _ h]
    refine chkP_bad place _ d.length (by simp) ?_
    rw [okAt_app place (d ++ [p]) q d.length (by simp)]
    exact hp
end Go.Proofs.YtgdfnopnmdjklaaGreatDoor
/- Proved here: prop.Check and prop.Put at any properties read from memory, at most 200: the error's number (chkP), and the bytes (pbs). Helper contracts. -/
namespace Go.Proofs.YtgdfnopnmdjklaaGreatDoor
open Go.RowKit
set_option maxRecDepth 100000

/-- the value v reads in the world w as the properties l -/
def Prp (w : World) (v : Value) (l : List Pr) : Prop := ∃ ao cap, v = .slice ao l.length cap ∧ (l = [] ∨ ∃ b off, ao = some ⟨b, off, none⟩ ∧ PrAt w b off l)
theorem Prp.below {w w' : World} {v : Value} {l : List Pr} (h : Prp w v l) (hb : Below w.heap.size w w') : Prp w' v l := by
  obtain ⟨ao, cap, h1, h2⟩ := h
  refine ⟨ao, cap, h1, ?_⟩
  rcases h2 with h2 | ⟨b, off, e, hc⟩
  · exact .inl h2
  · exact .inr ⟨b, off, e, hc.below hb⟩
theorem Prp.form {w : World} {v : Value} {l : List Pr} (h : Prp w v l) : ∃ ao cap, v = .slice ao l.length cap := by
  obtain ⟨ao, cap, h1, _⟩ := h
  exact ⟨ao, cap, h1⟩
theorem tell_nil (ao : Option Addr) (cap : Nat) (place : Int) (w : World) : Calls Tryz.prog 93 #[.slice ao 0 cap, .int .i64 place] w (TellPost place [] w) := by
  go_enter Tryz.func93, Tryz.ntmps93
  iterate 19 go_step
  refine wpList_value rfl (row_build _ _ _ _ _ _ place rfl _) ?_
  simp only [Act.put, List.setIfInBounds_toArray, List.set_cons_zero, List.set_cons_succ]
  refine wpList_value rfl (row_alloc _ _ _ _ _ _) ?_
  simp only [Act.put, List.setIfInBounds_toArray, List.set_cons_zero, List.set_cons_succ]
  refine wpList_skip rfl (row_store _ _ _ _ _ _ _ place _ rfl rfl) ?_
  simp only [Act.put]
  go_wp2
  refine wp_loop_rounds 1 ?_
  rw [rounds_succ]
  go_wp2
  go_ret3
  exact .inl ⟨okTo_zero _ _, _, rfl, ⟨none, 0, rfl, ⟨Nat.le_refl _, by unfold maxLen; omega⟩, fun j => by simp [body], .inl rfl⟩, (Below.refl _ _).alloc (Nat.le_refl _) _⟩
theorem tell_any (v : Value) (l : List Pr) (place : Int) (w : World) (h : Prp w v l) (h200 : l.length ≤ 200) (hsm : Small l) : Calls Tryz.prog 93 #[v, .int .i64 place] w (TellPost place l w) := by
  obtain ⟨ao, cap, rfl, hc⟩ := h
  rcases hc with rfl | ⟨b, off, rfl, hc⟩
  · exact tell_nil ao cap place w
  · exact tell_core b off cap l _ place w rfl h200 hsm hc
/-- Put's bytes: those of properties that may stand, else none -/
def pbz (place : Int) (l : List Pr) : List Int := if chkP place l = 0 then pbs l else []
set_option maxHeartbeats 1000000 in
theorem put_any (v : Value) (l : List Pr) (place : Int) (w : World) (h : Prp w v l) (h200 : l.length ≤ 200) (hsm : Small l) :
    Calls Tryz.prog 79 #[v, .int .i64 place] w fun e w' => ∃ v E, e = .returned (.tuple #[v, E]) ∧ Hid (Byt w' v (pbz place l)) ∧ Hid (ErrP w' E (chkP place l)) ∧ Below w.heap.size w w' := by
  have HT := hide (tell_any v l place w h h200 hsm)
  obtain ⟨ao, cap, hv⟩ := h.form
  subst hv
  clear h hsm
  generalize hn : l.length = len at h200 HT
  have HN := hide hn
  clear hn
  have hbad : ∀ (W : World), chkP place l ≠ 0 → Byt W (.slice none 0 0) (pbz place l) := fun W hc => by
    unfold pbz
    rw [if_neg hc]
    exact ⟨none, 0, rfl, ⟨Nat.le_refl _, by unfold maxLen; omega⟩, fun j => by simp, .inl rfl⟩
  have HBAD := hide hbad
  clear hbad
  go_enter Tryz.func79, Tryz.ntmps79
  go_wp2_with fail
  refine (unhide HT).mono ?_
  rintro e w1 (⟨hok, v1, rfl, hy, hb1⟩ | ⟨hc, E, rfl, hE, hb1⟩)
  · have hle := body_le l place len (by rw [unhide HN]; exact Nat.le_refl _) (by rw [unhide HN] at hok; exact hok)
    rw [List.take_of_length_le (Nat.le_of_eq (unhide HN))] at hle
    have HOK := hide hok
    have HB1 := hide hb1
    clear hb1 hok
    generalize hS : (body l).length = SZ at hle
    have HS := hide hS
    clear hS
    go_wp2_with fail
    refine (vput_use SZ _ (by omega) (by omega)).mono ?_
    rintro e w2 ⟨v2, rfl, hown2, hy2, hb2⟩
    have HB2 : Hid (Below w.heap.size w w2) := (unhide HB1).trans (hb2.mono (unhide HB1).size)
    have HO2 : Hid (w2.ownsRow w.heap.size 5 1 v2 (V.put SZ).length ((V.put SZ).map (Value.int .u8))) := owns_mono (unhide hown2) (unhide HB1).size
    have HY1 : Hid (Byt w2 v1 (body (l.take 32))) := (unhide hy).below hb2
    clear hb2 hown2 hy HB1
    rcases Nat.lt_or_ge 32 len with h32 | h32
    · have HC : Hid (chkP place l = 2) := chkP_lim place l (unhide HOK) (by rw [unhide HN]; exact h32)
      go_wp2_with fail
      refine (few_bad len _ (by omega)).mono ?_
      rintro e w3 ⟨E, rfl, hE, hb3⟩
      go_wp2
      go_ret2
      exact ⟨_, _, rfl, (unhide HBAD) _ (by rw [unhide HC]; omega), by rw [unhide HC]; exact hE, (unhide HB2).trans (hb3.mono (unhide HB2).size)⟩
    · have HC : Hid (chkP place l = 0) := chkP_ok place l (unhide HOK) (by rw [unhide HN]; exact h32)
      have HZ : Hid (pbz place l = V.put SZ ++ body l) := by show pbz _ _ = _; unfold pbz pbs; rw [if_pos (unhide HC), unhide HS]
      have HL := hide (V.put_len SZ)
      have HT32 : Hid (l.take 32 = l) := List.take_of_length_le (by rw [unhide HN]; exact h32)
      rw [unhide HT32] at HY1
      go_wp2_with fail
      refine (few_ok len _ (by omega)).mono ?_
      rintro e w3 ⟨rfl, hw⟩
      obtain rfl := hw.symm
      clear hw
      go_wp2_with (first
        | (at_builtin; refine wpList_append_byt _ rfl _ _ rfl w.heap.size _ (V.put SZ).length (V.put SZ) rfl (unhide HO2) v1 (body l) rfl (unhide HY1) (by have := unhide HL; have := unhide HS; omega) (unhide HB2).size ?_)
        | go_in)
      intro v4 w4 hown4 hgrow4
      have HB4 : Hid (Below w.heap.size w w4) := (unhide HB2).grown hgrow4 (unhide HB2).size (fun g hg => ((unhide HO2).lt g hg).1)
      have HY4 : Hid (Byt w4 v4 (pbz place l)) := by
        show Byt _ _ _
        rw [unhide HZ]
        exact byt_of_owns (by rw [List.map_append]; exact hown4) (range_app (unhide hy2).range (unhide HY1).range)
      clear hown4 hgrow4
      go_wp2
      go_ret2
      exact ⟨_, _, rfl, HY4, by rw [unhide HC]; exact ErrP.nil _, unhide HB4⟩
  · have HC := hide hc
    clear hc
    go_wp2
    go_ret2
    exact ⟨_, _, rfl, (unhide HBAD) _ (by rw [unhide HC]; omega), by rw [unhide HC]; exact hE, hb1⟩
end Go.Proofs.YtgdfnopnmdjklaaGreatDoor
/- Proved here: dovecoteref0.CopyProps copies properties to memory of its own, EqProps tells whether two lists are one. Helper contracts. -/
namespace Go.Proofs.YtgdfnopnmdjklaaGreatDoor
open Go.RowKit
set_option maxRecDepth 100000

/-- a list's cells, four a property -/
def pcs (l : List Pr) : List Value := l.flatMap fun p => [.int .i64 p.1, .int .i64 p.2.1, .string p.2.2.1, .string p.2.2.2]
theorem Tryz.infoProp : (Tryz.prog.info? 147).map (fun i => (i.zero, i.size, i.bytes)) = some (some (.agg #[.int .i64 0, .int .i64 0, .string ⟨#[]⟩, .string ⟨#[]⟩]), 4, 48) := by kernel_rfl
theorem pcs_length (l : List Pr) : (pcs l).length = l.length * 4 := by
  induction l with
  | nil => rfl
  | cons p l ih => unfold pcs at *; rw [List.flatMap_cons, List.length_append, ih]; simp; omega
theorem pcs_get (l : List Pr) : ∀ k, k < l.length → (pcs l)[k * 4]? = some (.int .i64 (at0 l k).1) ∧ (pcs l)[k * 4 + 1]? = some (.int .i64 (at0 l k).2.1) ∧ (pcs l)[k * 4 + 2]? = some (.string (at0 l k).2.2.1) ∧ (pcs l)[k * 4 + 3]? = some (.string (at0 l k).2.2.2) := by
  induction l with
  | nil => intro k hk; simp at hk
  | cons p l ih =>
    intro k hk
    have e : pcs (p :: l) = [.int .i64 p.1, .int .i64 p.2.1, .string p.2.2.1, .string p.2.2.2] ++ pcs l := rfl
    rw [e]
    rcases k with _ | k
    · exact ⟨rfl, rfl, rfl, rfl⟩
    · have h := ih k (by simpa using hk)
      have ea : at0 (p :: l) (k + 1) = at0 l k := by unfold at0; rw [List.getD_cons_succ]
      rw [ea]
      refine ⟨?_, ?_, ?_, ?_⟩
      · rw [List.getElem?_append_right (by simp; omega)]; rw [show (k + 1) * 4 - [Value.int .i64 p.1, .int .i64 p.2.1, .string p.2.2.1, .string p.2.2.2].length = k * 4 from by simp; omega]; exact h.1
      · rw [List.getElem?_append_right (by simp; omega)]; rw [show (k + 1) * 4 + 1 - [Value.int .i64 p.1, .int .i64 p.2.1, .string p.2.2.1, .string p.2.2.2].length = k * 4 + 1 from by simp; omega]; exact h.2.1
      · rw [List.getElem?_append_right (by simp; omega)]; rw [show (k + 1) * 4 + 2 - [Value.int .i64 p.1, .int .i64 p.2.1, .string p.2.2.1, .string p.2.2.2].length = k * 4 + 2 from by simp; omega]; exact h.2.2.1
      · rw [List.getElem?_append_right (by simp; omega)]; rw [show (k + 1) * 4 + 3 - [Value.int .i64 p.1, .int .i64 p.2.1, .string p.2.2.1, .string p.2.2.2].length = k * 4 + 3 from by simp; omega]; exact h.2.2.2
theorem prp_of_owns {w : World} {B : Nat} {e : TypeId} {v : Value} {l : List Pr} (h : w.ownsRow B e 4 v l.length (pcs l)) : Prp w v l := by
  rcases h.2 with ⟨rfl, h1⟩ | ⟨g, cap, cur, rfl, hB, hg, rest⟩
  · have : l = [] := List.length_eq_zero_iff.1 h1
    subst this
    exact ⟨none, 0, rfl, .inl rfl⟩
  · refine ⟨_, cap, rfl, .inr ⟨g, 0, rfl, fun k hk => ?_⟩⟩
    obtain ⟨h0, h1, h2, h3⟩ := pcs_get l k hk
    refine ⟨?_, ?_, ?_, ?_⟩
    · rw [Nat.zero_add, h.cellAt (k * 4) (by omega)]; exact h0
    · rw [Nat.zero_add, h.cellAt (k * 4 + 1) (by omega)]; exact h1
    · rw [Nat.zero_add, h.cellAt (k * 4 + 2) (by omega)]; exact h2
    · rw [Nat.zero_add, h.cellAt (k * 4 + 3) (by omega)]; exact h3
theorem pcs_snoc (l : List Pr) (k : Nat) (h : k < l.length) : pcs (l.take (k + 1)) = pcs (l.take k) ++ [.int .i64 (at0 l k).1, .int .i64 (at0 l k).2.1, .string (at0 l k).2.2.1, .string (at0 l k).2.2.2] := by
  rw [take_snoc0 l k h]
  unfold pcs
  rw [List.flatMap_append]
  rfl
theorem four_cell (w : World) (a b c d : Value) (t : TypeId) : ∀ j u, [a, b, c, d][j]? = some u → (w.alloc (.cells #[a, b, c, d] t)).cell? ((⟨w.heap.size, 0, none⟩ : Addr).add j) = some u := by
  intro j u hj
  match j, hj with
  | 0, hj => simp at hj; subst hj; simp [Addr.add]
  | 1, hj => simp at hj; subst hj; simp [Addr.add]
  | 2, hj => simp at hj; subst hj; simp [Addr.add]
  | 3, hj => simp at hj; subst hj; simp [Addr.add]
theorem four_one (a b : Int) (c d : ByteArray) : ∀ u ∈ [Value.int .i64 a, .int .i64 b, .string c, .string d], u.oneCell' = true := by
  intro u hu; simp at hu; rcases hu with rfl | rfl | rfl | rfl <;> rfl
theorem Tryz.eqgP : Tryz.prog.eqGuardType Tryz.prog.depth 147 = false := by kernel_rfl
theorem Tryz.stoodP : Tryz.prog.stoodInHeld 147 = false := by kernel_rfl
theorem Tryz.undP : Tryz.prog.underlying 147 = some (.struct (Tryz.prog.fieldsOf 147)) := by kernel_rfl
def same (p q : Pr) : Bool := (p.1 == q.1 && p.2.1 == q.2.1 && p.2.2.1.toList == q.2.2.1.toList && p.2.2.2.toList == q.2.2.2.toList)
theorem neqP (id n id' n' : Int) (s t s' t' : ByteArray) (w : World) : (binOp .neq 147 (.agg #[.int .i64 id, .int .i64 n, .string s, .string t]) (.agg #[.int .i64 id', .int .i64 n', .string s', .string t'])).run Tryz.prog w = .ok (.bool (!(same (id, n, s, t) (id', n', s', t')))) w := by
  rw [run_neq_struct, run_equalIn_struct w 9999 147 _ _ Tryz.undP Tryz.stoodP]
  rw [show Tryz.prog.fieldsOf 147 = _ from rfl]
  simp [Program.fieldsOf, Tryz.underlying147, Op.eqFields, go_sem]
  unfold same
  by_cases h1 : id = id'
  · by_cases h2 : n = n'
    · by_cases h3 : s.toList = s'.toList
      · by_cases h4 : t.toList = t'.toList
        · simp [h1, h2, h3, h4]
        · simp [h1, h2, h3, h4]
      · simp [h1, h2, h3]
    · simp [h1, h2]
  · simp [h1]
theorem toList_inj {a b : ByteArray} (h : a.toList = b.toList) : a = b := by
  rw [ByteArray.toList_eq, ByteArray.toList_eq] at h
  obtain ⟨⟨x⟩⟩ := a
  obtain ⟨⟨y⟩⟩ := b
  simp at h
  rw [h]
theorem same_iff (p q : Pr) : same p q = true ↔ p = q := by
  obtain ⟨a, b, c, d⟩ := p
  obtain ⟨a', b', c', d'⟩ := q
  unfold same
  constructor
  · intro h
    simp only [Bool.and_eq_true, beq_iff_eq] at h
    obtain ⟨⟨⟨h1, h2⟩, h3⟩, h4⟩ := h
    rw [h1, h2, toList_inj h3, toList_inj h4]
  · rintro h
    injection h with h1 h
    injection h with h2 h
    injection h with h3 h4
    subst h1 h2 h3 h4
    simp
theorem at0_ext {l m : List Pr} (hl : l.length = m.length) (h : ∀ j, j < l.length → at0 l j = at0 m j) : l = m := by
  apply List.ext_getElem hl
  intro i h1 h2
  have := h i h1
  unfold at0 at this
  rw [List.getD_eq_getElem?_getD, List.getD_eq_getElem?_getD, List.getElem?_eq_getElem h1, List.getElem?_eq_getElem h2] at this
  exact this
end Go.Proofs.YtgdfnopnmdjklaaGreatDoor
/- Proved here: prop.read reads the properties of which bytes are made, or tells an error around ErrForm. Helper contracts. -/
namespace Go.Proofs.YtgdfnopnmdjklaaGreatDoor
open Go.RowKit
set_option maxRecDepth 100000

def lenOf : Value → Nat
  | .slice _ n _ => n
  | _ => 0
def ReadPost (place : Int) (l : List Int) (w : World) (e : Ending) (w' : World) : Prop :=
  (∃ q v, parse l = some q ∧ okTo place q q.length ∧ e = .returned (.tuple #[v, .int .i64 q.length, .nilIface]) ∧ Hid (w'.ownsRow w.heap.size 147 4 v (min q.length 32) (pcs (q.take 32))) ∧ Below w.heap.size w w') ∨
  (rdn place l = 1 ∧ ∃ E, e = .returned (.tuple #[.slice none 0 0, .int .i64 0, .iface 64 E]) ∧ Hid (ErrP w' (.iface 64 E) 1) ∧ Below w.heap.size w w')
theorem pcs_app (d : List Pr) (p : Pr) : pcs (d ++ [p]) = pcs d ++ [.int .i64 p.1, .int .i64 p.2.1, .string p.2.2.1, .string p.2.2.2] := by unfold pcs; simp
theorem okTo_snoc (place : Int) (d : List Pr) (p : Pr) (h : okTo place d d.length) (hp : okAt place (d ++ [p]) d.length = true) : okTo place (d ++ [p]) (d ++ [p]).length := by
  intro i hi
  rw [List.length_append, List.length_singleton] at hi
  rcases Nat.lt_or_ge i d.length with a | a
  · rw [okAt_app place d [p] i a]; exact h i a
  · obtain rfl : i = d.length := by omega
    exact hp
theorem prp_row {w w' : World} {R : Nat} {place : Int} {f g : Nat → Bool} (h : RowAt w R place f) (hb : Below w.heap.size w w') (e : ∀ j, j ≤ 42 → f j = g j) : RowAt w' R place g := (h.below hb).congr e
set_option maxHeartbeats 4000000 in
theorem read_any (v : Value) (l : List Int) (place : Int) (w : World) (h : Byt w v l) :
    Calls Tryz.prog 67 #[v, .int .i64 place] w (ReadPost place l w) := by
  obtain ⟨i0, hi, hz0, hz1, hz2⟩ := info_parts Tryz.infoProp
  obtain ⟨ao, cap, rfl, hc1, hc2⟩ := h.form
  unfold maxLen at hc2
  have HV := hide h
  clear h
  generalize hn : l.length = n at hc1 HV
  have HN := hide hn
  clear hn
  go_enter Tryz.func67, Tryz.ntmps67
  iterate 19 go_step
  refine wpList_value rfl (row_build _ _ _ _ _ _ place rfl _) ?_
  simp only [Act.put, List.setIfInBounds_toArray, List.set_cons_zero, List.set_cons_succ]
  refine wpList_value rfl (row_alloc _ _ _ _ _ _) ?_
  simp only [Act.put, List.setIfInBounds_toArray, List.set_cons_zero, List.set_cons_succ]
  refine wpList_skip rfl (row_store _ _ _ _ _ _ _ place _ rfl rfl) ?_
  simp only [Act.put]
  go_wp2
  have hR0 : Hid (RowAt (w.alloc (.cells (rowA place) 145)) w.heap.size place (fun _ => false)) := rowAt_new w place
  go_loopw [0, 4, 5] (fun b0 l0 c0 wr => ∃ (bv lv : Value) (rest : List Int) (d : List Pr) (k m : Nat), b0 = bv ∧ l0 = lv ∧ c0 = .int .i64 k ∧ m + k ≤ n ∧ Hid (d.length = k) ∧ Hid (rest.length = m) ∧ Hid (Byt w bv rest) ∧ Hid (parse l = (parse rest).map (d ++ ·)) ∧ Hid (okTo place d d.length) ∧ Hid (RowAt wr w.heap.size place (fun j => sn d j)) ∧ Hid (wr.ownsRow (w.heap.size + 1) 147 4 lv (min k 32) (pcs (d.take 32))) ∧ Below w.heap.size w wr) (fun b0 _ _ _ => lenOf b0)
  case atStart =>
    refine ⟨_, _, l, [], 0, n, rfl, rfl, rfl, by omega, rfl, unhide HN, unhide HV, ?_, okTo_zero _ _, (unhide hR0).congr (fun j _ => rfl), ?_, (Below.refl _ _).alloc (Nat.le_refl _) _⟩
    · show parse l = _
      cases parse l <;> simp
    · exact World.ownsRow_nil _ _ _ _
  case round =>
    obtain ⟨_, _, rest, d, k, m, rfl, rfl, rfl, hmk, HD, HM, HY, HP, HOK, HROW, HOWN, hbel⟩ := hrel
    clear hR0
    have hsz := hbel.size
    have hRl := (unhide HROW).lt
    obtain ⟨ao2, cap2, hu0, hcc1, hcc2⟩ := (unhide HY).form
    unfold maxLen at hcc2
    rw [unhide HM] at hu0 hcc1
    by_cases hm0 : m = 0
    · subst hu0
      subst hm0
      have HPA : Hid (parse l = some d) := by
        have hr0 : rest = [] := List.length_eq_zero_iff.1 (unhide HM)
        have := unhide HP
        rw [hr0, parse_nil] at this
        show parse l = some d
        simpa using this
      have HO2 : Hid (wr.ownsRow w.heap.size 147 4 u4 (min d.length 32) (pcs (d.take 32))) := by
        show World.ownsRow _ _ _ _ _ _ _
        rw [unhide HD]
        exact owns_mono (unhide HOWN) (by omega)
      have HDD : Hid ((k : Int) = (d.length : Int)) := by show _ = _; rw [unhide HD]
      go_wp2
      go_returns
      exact .inl ⟨d, _, unhide HPA, unhide HOK, by rw [← unhide HDD]; rfl, HO2, hbel⟩
    · have HNE : Hid (rest ≠ []) := by
        intro e
        have := unhide HM
        rw [e] at this
        simp at this
        omega
      have hbel' := hide hbel
      have HY' : Hid (Byt wr u0 rest) := (unhide HY).below hbel
      have HYW : Hid (Byt w u0 rest) := HY
      obtain ⟨b, off, cap3, hu1, -, -⟩ := (unhide HY).form1 (by rw [unhide HM]; omega)
      rw [hu0] at hu1
      simp only [Value.slice.injEq] at hu1
      obtain ⟨rfl, -, rfl⟩ := hu1
      subst hu0
      clear hbel HY
      cases hgk : gok rest
      · have HC : Hid (rdn place l = 1) := rdn_none place l (by rw [unhide HP, parse_no rest (unhide HNE) hgk]; rfl)
        have HGK := hide hgk
        clear hgk
        go_wp2_with fail
        refine (getOne_fail _ rest _ (unhide HY') (unhide HGK)).mono ?_
        rintro e w2 ⟨i2, n2, s2, t2, k2, ty2, x2, m2, rfl, hin2, hb2⟩
        have HB2 : Hid (Below w.heap.size w w2) := (unhide hbel').trans (hb2.mono hsz)
        have hs2 := (unhide HB2).size
        go_wp2_with fail
        refine (broken_use _ m2 _ ((unhide hin2).below ((Below.refl _ _).alloc (Nat.le_refl _) _))).mono ?_
        rintro e w4 ⟨E, rfl, hE, hb4⟩
        go_wp2
        go_returns
        exact .inr ⟨unhide HC, _, rfl, hE, ((unhide HB2).alloc hs2 _).trans (hb4.mono (by simp; omega))⟩
      · have hr := (unhide HY').range
        obtain ⟨hg1, hg2, hg3, hg4⟩ := gok_le rest hr hgk
        rw [unhide HM] at hg2
        have HTX := hide (gpr_txo rest hr hgk)
        have HPY := hide (parse_yes rest (unhide HNE) hr hgk)
        have HG1 := hide (getOne_good _ rest _ (unhide HY') hgk)
        clear hr hgk
        generalize hz : gsz rest = z at hg1 hg2 HPY HG1
        clear hz
        obtain ⟨id, N, s, t, hp⟩ : ∃ id N s t, gpr rest = (id, N, s, t) := ⟨_, _, _, _, rfl⟩
        have hid : id = gid rest := by have := congrArg Prod.fst hp; exact this.symm
        rw [← hid] at hg3 hg4
        rw [hp] at HTX HPY HG1
        clear hp hid
        have HP2 : Hid (parse l = (parse (rest.drop z)).map ((d ++ [(id, N, s, t)]) ++ ·)) := by
          show _ = _
          rw [unhide HP, unhide HPY, Option.map_map]
          congr 1
          funext x
          simp
        clear HPY HP
        go_wp2_with fail
        refine (unhide HG1).mono ?_
        rintro e w2 ⟨rfl, hb2⟩
        have HB2 : Hid (Below w.heap.size w w2) := (unhide hbel').trans (hb2.mono hsz)
        have hs2 := (unhide HB2).size
        have HROW2 : Hid (RowAt w2 w.heap.size place (fun j => sn d j)) := (unhide HROW).below hb2
        have HOWN2 : Hid (w2.ownsRow (w.heap.size + 1) 147 4 u4 (min k 32) (pcs (d.take 32))) := owns_below (unhide HOWN) hb2
        have hRl2 := (unhide HROW2).lt
        clear hb2 HROW HOWN HY' hbel' HG1
        have HOT := hide (okAt_mid place d [] (id, N, s, t))
        cases htk : tk place id N s t (sn d id)
        · have HC : Hid (rdn place l = 1) := rdn_bad place l _ d _ (unhide HP2) ((unhide HOT).trans (by simp only [htk, Bool.false_and]))
          have HTK := hide (tk_toNat (sn d) htk)
          clear htk HOT
          go_wp2_with fail
          refine (take_bad w.heap.size place id N s t (fun j => sn d j) _ ((unhide HROW2).below ((Below.refl _ _).alloc (Nat.le_refl _) _)) (unhide HTK)).mono ?_
          rintro e w3 ⟨E, rfl, hE, hb3⟩
          go_wp2
          go_returns
          exact .inr ⟨unhide HC, _, rfl, hE, ((unhide HB2).alloc hs2 _).trans (hb3.mono (by simp; omega))⟩
        · obtain ⟨hmst, hfit⟩ := tk_mst htk
          obtain ⟨hi1, hi2⟩ := id_range id place hmst
          obtain ⟨q, rfl⟩ : ∃ q : Nat, id = q := ⟨id.toNat, by omega⟩
          have HOKM : Hid (okAt place (d ++ [((q : Int), N, s, t)]) d.length = true) := (unhide HOT).trans (by simp only [htk, Bool.true_and]; exact (unhide HTX).1)
          have HOK2 : Hid (okTo place (d ++ [((q : Int), N, s, t)]) (d ++ [((q : Int), N, s, t)]).length) := okTo_snoc place d _ (unhide HOK) (unhide HOKM)
          have HTK := hide htk
          have HG : Hid (∀ j : Nat, j ≤ 42 → (sn d (j : Int) || decide (q = j)) = sn (d ++ [((q : Int), N, s, t)]) (j : Int)) := fun j _ => by
            rw [sn_snoc, show decide (((q : Int), N, s, t).1 = (j : Int)) = decide (q = j) from by rw [decide_eq_decide]; constructor <;> intro h <;> omega]
          clear htk hmst hfit HOT HOKM HOK
          go_wp2_with fail
          refine (take_use w.heap.size q place N s t (fun j => sn d j) (fun j => sn (d ++ [((q : Int), N, s, t)]) j) _ (by omega) ((unhide HROW2).below ((Below.refl _ _).alloc (Nat.le_refl _) _)) (unhide HTK) (unhide HG) w.heap.size (Nat.le_refl _)).mono ?_
          rintro e w3 ⟨rfl, HROW3, hb3, HOWT, HCT⟩
          have d0 : w3.cell? ⟨w2.heap.size, 0, none⟩ = some (.int .i64 (q : Int)) := ((unhide HCT) w2.heap.size 0 (by omega) (by simp)).trans (by simp)
          have d1 : w3.cell? ⟨w2.heap.size, 1, none⟩ = some (.int .i64 N) := ((unhide HCT) w2.heap.size 1 (by omega) (by simp)).trans (by simp)
          have d2 : w3.cell? ⟨w2.heap.size, 2, none⟩ = some (.string s) := ((unhide HCT) w2.heap.size 2 (by omega) (by simp)).trans (by simp)
          have d3 : w3.cell? ⟨w2.heap.size, 3, none⟩ = some (.string t) := ((unhide HCT) w2.heap.size 3 (by omega) (by simp)).trans (by simp)
          have HOWN3 : Hid (w3.ownsRow (w.heap.size + 1) 147 4 u4 (min k 32) (pcs (d.take 32))) := (unhide HOWT) _ _ _ _ _ _ (by omega) ((unhide HOWN2).alloc _)
          have HB3 : Hid (Below w.heap.size w w3) := ((unhide HB2).alloc hs2 _).trans hb3
          have hs3 : w.heap.size + 1 ≤ w3.heap.size := by have := (unhide HROW3).lt; omega
          clear hb3 HOWT HCT HOWN2 HROW2 HG HTK HB2
          have HLEN2 : Hid ((d ++ [((q : Int), N, s, t)]).length = k + 1) := by show _ = _; rw [List.length_append, unhide HD]; rfl
          by_cases h32 : k < 32
          · have HM1 : Hid (min k 32 = k) := Nat.min_eq_left (by omega)
            have HM2 : Hid (min (k + 1) 32 = k + 1) := Nat.min_eq_left (by omega)
            have HT1 : Hid (d.take 32 = d) := List.take_of_length_le (by rw [unhide HD]; omega)
            have HT2 : Hid ((d ++ [((q : Int), N, s, t)]).take 32 = d ++ [((q : Int), N, s, t)]) := List.take_of_length_le (by rw [unhide HLEN2]; omega)
            rw [unhide HM1, unhide HT1] at HOWN3
            go_wp2_with (first
              | (at_builtin; refine wpList_append_own _ rfl _ _ 24 rfl (w.heap.size + 1) 147 i0 _ 4 48 Tryz.underlying24 hi hz0 hz1 hz2 rfl (by decide) _ _ _ rfl ((unhide HOWN3).alloc _) ⟨w3.heap.size, 0, none⟩ 1 1 [.int .i64 (q : Int), .int .i64 N, .string s, .string t] rfl rfl (four_cell _ _ _ _ _ _) (four_one _ _ _ _) (by unfold maxLen; omega) (by omega) (by simp; omega) ?_)
              | go_in)
            intro v4 w4 hown4 hgrow4 _
            have HB4 : Hid (Below w.heap.size w w4) := ((unhide HB3).alloc (unhide HB3).size _).grown hgrow4 (by simp; omega) (fun g hg => by have := ((unhide HOWN3).lt g hg).1; omega)
            have HROW4 : Hid (RowAt w4 w.heap.size place (fun j => sn (d ++ [((q : Int), N, s, t)]) j)) := row_grown ((unhide HROW3).below ((Below.refl _ _).alloc (Nat.le_refl _) _)) hgrow4 (fun g hg => by have := ((unhide HOWN3).lt g hg).1; omega)
            have HOWN4 : Hid (w4.ownsRow (w.heap.size + 1) 147 4 v4 (min (k + 1) 32) (pcs ((d ++ [((q : Int), N, s, t)]).take 32))) := by
              show World.ownsRow _ _ _ _ _ _ _
              rw [unhide HM2, unhide HT2, pcs_app]
              exact hown4
            clear hown4 hgrow4 HOWN3 HROW3 d0 d1 d2 d3
            by_cases hcz : cap2 = z
            · have hm1 : m = cap2 := by omega
              have hm2 : m = z := by omega
              clear hcz
              subst hm1
              subst hm2
              have HBD : Hid (Byt w (.slice (some ⟨b, off, none⟩) 0 0) (rest.drop m)) := by
                show Byt _ _ _
                have := (unhide HYW).drop' m (Nat.le_refl _)
                rw [if_pos rfl, Nat.sub_self] at this
                exact this
              have HML : Hid ((rest.drop m).length = 0) := by show _ = _; rw [List.length_drop, unhide HM]; omega
              clear HYW HM
              go_wp2
              go_roundw
              case rel => exact ⟨_, _, _, _, k + 1, 0, rfl, rfl, by go_num, by omega, HLEN2, HML, HBD, HP2, HOK2, HROW4, HOWN4, unhide HB4⟩
              case measure => simp [lenOf]; omega
            · have HBD : Hid (Byt w (.slice (some ⟨b, off + z, none⟩) (m - z) (cap2 - z)) (rest.drop z)) := by
                show Byt _ _ _
                have := (unhide HYW).drop' z hg2
                rw [if_neg hcz] at this
                exact this
              have HML : Hid ((rest.drop z).length = m - z) := by show _ = _; rw [List.length_drop, unhide HM]
              clear HYW HM
              go_wp2
              go_roundw
              case rel => exact ⟨_, _, _, _, k + 1, m - z, rfl, rfl, by go_num, by omega, HLEN2, HML, HBD, HP2, HOK2, HROW4, HOWN4, unhide HB4⟩
              case measure => simp [lenOf]; omega
          · have HM1 : Hid (min k 32 = min (k + 1) 32) := by show _ = _; omega
            have HT1 : Hid (d.take 32 = (d ++ [((q : Int), N, s, t)]).take 32) := by show _ = _; rw [List.take_append_of_le_length (by rw [unhide HD]; omega)]
            rw [unhide HM1, unhide HT1] at HOWN3
            by_cases hcz : cap2 = z
            · have hm1 : m = cap2 := by omega
              have hm2 : m = z := by omega
              clear hcz
              subst hm1
              subst hm2
              have HBD : Hid (Byt w (.slice (some ⟨b, off, none⟩) 0 0) (rest.drop m)) := by
                show Byt _ _ _
                have := (unhide HYW).drop' m (Nat.le_refl _)
                rw [if_pos rfl, Nat.sub_self] at this
                exact this
              have HML : Hid ((rest.drop m).length = 0) := by show _ = _; rw [List.length_drop, unhide HM]; omega
              clear HYW HM
              go_wp2
              go_roundw
              case rel => exact ⟨_, _, _, _, k + 1, 0, rfl, rfl, by go_num, by omega, HLEN2, HML, HBD, HP2, HOK2, HROW3, HOWN3, unhide HB3⟩
              case measure => simp [lenOf]; omega
            · have HBD : Hid (Byt w (.slice (some ⟨b, off + z, none⟩) (m - z) (cap2 - z)) (rest.drop z)) := by
                show Byt _ _ _
                have := (unhide HYW).drop' z hg2
                rw [if_neg hcz] at this
                exact this
              have HML : Hid ((rest.drop z).length = m - z) := by show _ = _; rw [List.length_drop, unhide HM]
              clear HYW HM
              go_wp2
              go_roundw
              case rel => exact ⟨_, _, _, _, k + 1, m - z, rfl, rfl, by go_num, by omega, HLEN2, HML, HBD, HP2, HOK2, HROW3, HOWN3, unhide HB3⟩
              case measure => simp [lenOf]; omega
end Go.Proofs.YtgdfnopnmdjklaaGreatDoor
/- Proved here: prop.Get tells the properties with which bytes begin, and how many bytes, or an error's number (pgt). Helper contracts. -/
namespace Go.Proofs.YtgdfnopnmdjklaaGreatDoor
open Go.RowKit
set_option maxRecDepth 100000

/-- the bytes that a length at the beginning tells -/
def pbd (l : List Int) : List Int := (l.drop (ghd l)).take (gid l).toNat
/-- Get's number -/
def pgt (place : Int) (l : List Int) : Int := if (V.vget l).2.2 ≠ 0 then (V.vget l).2.2 else if l.length < ghd l + (gid l).toNat then 3 else rdn place (pbd l)
/-- Get's properties -/
def plist (place : Int) (l : List Int) : List Pr := if pgt place l = 0 then (parse (pbd l)).getD [] else []
/-- .. and how many bytes -/
def psz (place : Int) (l : List Int) : Int := if pgt place l = 0 then ghd l + (gid l).toNat else 0
def GetPost2 (place : Int) (l : List Int) (w : World) (e : Ending) (w' : World) : Prop :=
  ∃ v E, e = .returned (.tuple #[v, .int .i64 (psz place l), E]) ∧ Hid (w'.ownsRow w.heap.size 147 4 v (plist place l).length (pcs (plist place l))) ∧ Hid (ErrP w' E (pgt place l)) ∧ Below w.heap.size w w' ∧ (pgt place l = 0 → E = .nilIface)
theorem get_post_bad (place : Int) (l : List Int) (w w' : World) (n : Int) (hp : pgt place l = n) (hn : n ≠ 0) (x : Value) (hE : Hid (ErrP w' (.iface 64 x) n)) (hb : Below w.heap.size w w') : GetPost2 place l w (.returned (.tuple #[.slice none 0 0, .int .i64 0, .iface 64 x])) w' := by
  refine ⟨.slice none 0 0, .iface 64 x, ?_, ?_, by rw [hp]; exact hE, hb, fun h0 => absurd (hp.symm.trans h0) hn⟩
  · unfold psz
    rw [if_neg (by rw [hp]; exact hn)]
  · show World.ownsRow _ _ _ _ _ _ _
    unfold plist
    rw [if_neg (by rw [hp]; exact hn)]
    exact World.ownsRow_nil _ _ _ _
theorem ghd_le (l : List Int) (h2 : ghd l ≤ l.length) (h : V.put (gid l) = l.take (ghd l)) : ghd l ≤ 4 := by
  have a := congrArg List.length h
  rw [List.length_take, Nat.min_eq_left h2] at a
  have := (V.put_len (gid l)).2
  omega
theorem get3_bad1 (v : Value) (l : List Int) (place : Int) (w : World) (h : Byt w v l) (hv : (V.vget l).2.2 ≠ 0) : Calls Tryz.prog 39 #[v, .int .i64 place] w (GetPost2 place l w) := by
  have hp : pgt place l = (V.vget l).2.2 := by unfold pgt; rw [if_pos hv]
  obtain ⟨ao, cap, rfl, hc1, hc2⟩ := h.form
  have HV := hide h
  have HP := hide hp
  clear h hp
  generalize hm : (V.vget l).2.2 = m at hv HP
  generalize hn : l.length = n at hc1 HV
  have HM := hide hm
  clear hn hm
  go_enter Tryz.func39, Tryz.ntmps39
  go_wp2_with fail
  refine (vget_fail _ l _ (unhide HV) m (unhide HM) hv).mono ?_
  rintro e w1 ⟨a, b, x, rfl, hi, hb1⟩
  have HB1 := hide hb1
  clear hb1
  go_wp2_with fail
  refine (wrap_use _ m _ (unhide hi)).mono ?_
  rintro e w2 ⟨E, rfl, hE, hb2⟩
  go_wp2
  go_returns
  exact get_post_bad place l w _ m (unhide HP) hv _ hE ((unhide HB1).trans (hb2.mono (unhide HB1).size))
theorem get3_short (v : Value) (l : List Int) (place : Int) (w : World) (h : Byt w v l) (hv : (V.vget l).2.2 = 0) (hs : l.length < ghd l + (gid l).toNat) : Calls Tryz.prog 39 #[v, .int .i64 place] w (GetPost2 place l w) := by
  have hp : pgt place l = 3 := by unfold pgt; rw [if_neg (by rw [hv]; decide), if_pos hs]
  obtain ⟨hv', h1, h2, h3, h4, h5⟩ := vget_is l h.range hv
  have hQ4 := ghd_le l h2 h5
  clear h5
  obtain ⟨ao, cap, rfl, hc1, hc2⟩ := h.form
  unfold maxLen at hc2
  have HV := hide h
  have HP := hide hp
  clear h hp hv
  obtain ⟨N, hN⟩ : ∃ N : Nat, gid l = N := ⟨(gid l).toNat, by omega⟩
  rw [hN, Int.toNat_natCast] at hs
  rw [hN] at hv' h3 h4
  generalize ghd l = Q at hQ4 hv' h1 h2 hs
  have Hv := hide hv'
  generalize hn : l.length = n at hc1 HV h2 hs
  clear hn hv' hN
  go_enter Tryz.func39, Tryz.ntmps39
  go_wp2_with fail
  refine (vget_good _ l _ (unhide HV) N Q (unhide Hv)).mono ?_
  rintro e w1 ⟨rfl, hb1⟩
  have HB1 := hide hb1
  clear hb1
  go_wp2_with fail
  refine (pfault_use 3 _).mono ?_
  rintro e w2 ⟨E, rfl, hE, hb2⟩
  go_wp2
  go_returns
  exact get_post_bad place l w _ 3 (unhide HP) (by decide) _ hE ((unhide HB1).trans (hb2.mono (unhide HB1).size))
theorem Byt.mid {w : World} {b off n cap : Nat} {l : List Int} (h : Byt w (.slice (some ⟨b, off, none⟩) n cap) l) (p q : Nat) (hq : p + q ≤ n) : Byt w (.slice (if cap = p then some ⟨b, off, none⟩ else some ⟨b, off + p, none⟩) q (cap - p)) ((l.drop p).take q) :=
  (h.drop' p (by omega)).take q (by omega)
set_option maxHeartbeats 4000000 in
theorem get3_read (v : Value) (l : List Int) (place : Int) (w : World) (h : Byt w v l) (hv : (V.vget l).2.2 = 0) (hs : ghd l + (gid l).toNat ≤ l.length) : Calls Tryz.prog 39 #[v, .int .i64 place] w (GetPost2 place l w) := by
  have hp : pgt place l = rdn place (pbd l) := by unfold pgt; rw [if_neg (by rw [hv]; decide), if_neg (by omega)]
  have hsz : ∀ q, parse (pbd l) = some q → pgt place l = 0 → plist place l = q ∧ psz place l = ((ghd l + (gid l).toNat : Nat) : Int) := fun q hq h0 => by
    unfold plist psz
    rw [if_pos h0, if_pos h0, hq]
    exact ⟨rfl, by omega⟩
  obtain ⟨hv', h1, h2, h3, h4, h5⟩ := vget_is l h.range hv
  have hQ4 := ghd_le l h2 h5
  clear h5
  obtain ⟨b, off, cap, rfl, hc1, hc2⟩ := h.form1 (by omega)
  unfold maxLen at hc2
  have HV := hide h
  have HP := hide hp
  have HSZ := hide hsz
  clear h hp hv hsz
  have hpb : pbd l = (l.drop (ghd l)).take (gid l).toNat := rfl
  obtain ⟨N, hN⟩ : ∃ N : Nat, gid l = N := ⟨(gid l).toNat, by omega⟩
  rw [hN, Int.toNat_natCast] at hs HSZ hpb
  rw [hN] at hv' h3 h4
  generalize ghd l = Q at hQ4 hv' h1 h2 hs HSZ hpb
  generalize pbd l = L at HP HSZ hpb
  have Hv := hide hv'
  generalize hn : l.length = n at hc1 HV h2 hs
  have HPB := hide hpb
  clear hn hv' hN hpb
  by_cases hcQ : cap = Q
  · have e1 : Q = cap := hcQ.symm
    clear hcQ
    subst e1
    have e2 : Q = n := by omega
    subst e2
    obtain rfl : N = 0 := by omega
    have HD : Hid (Byt w (.slice (some ⟨b, off, none⟩) 0 0) L) := by
      show Byt _ _ _
      have := (unhide HV).mid Q 0 (by omega)
      rw [if_pos rfl, Nat.sub_self, ← unhide HPB] at this
      exact this
    go_enter Tryz.func39, Tryz.ntmps39
    go_wp2_with fail
    refine (vget_good _ l _ (unhide HV) 0 Q (unhide Hv)).mono ?_
    rintro e w1 ⟨rfl, hb1⟩
    have HB1 := hide hb1
    clear hb1
    go_wp2_with fail
    refine (read_any _ L place _ ((unhide HD).below (unhide HB1))).mono ?_
    rintro e w2 (⟨q, v2, hpar, hok, rfl, hown, hb2⟩ | ⟨hc, E, rfl, hE, hb2⟩)
    · have HPAR := hide hpar
      have HOK := hide hok
      have HB2 : Hid (Below w.heap.size w w2) := (unhide HB1).trans (hb2.mono (unhide HB1).size)
      have HOWN : Hid (w2.ownsRow w.heap.size 147 4 v2 (min q.length 32) (pcs (q.take 32))) := owns_mono (unhide hown) (unhide HB1).size
      have HRD : Hid (pgt place l = chkP place q) := (unhide HP).trans (rdn_some place L q hpar)
      clear hpar hok hb2 hown
      generalize hk : q.length = k at HOWN
      have HK := hide hk
      clear hk
      rcases Nat.lt_or_ge 32 k with h32 | h32
      · have HC : Hid (pgt place l = 2) := (unhide HRD).trans (chkP_lim place q (unhide HOK) (by rw [unhide HK]; exact h32))
        go_wp2_with fail
        refine (few_bad k _ (by omega)).mono ?_
        rintro e w3 ⟨E, rfl, hE, hb3⟩
        go_wp2
        go_returns
        exact get_post_bad place l w _ 2 (unhide HC) (by decide) _ hE ((unhide HB2).trans (hb3.mono (unhide HB2).size))
      · have HC : Hid (pgt place l = 0) := (unhide HRD).trans (chkP_ok place q (unhide HOK) (by rw [unhide HK]; exact h32))
        have HLS := hide ((unhide HSZ) q (unhide HPAR) (unhide HC))
        go_wp2_with fail
        refine (few_ok k _ (by omega)).mono ?_
        rintro e w3 ⟨rfl, hw⟩
        obtain rfl := hw.symm
        clear hw
        go_wp2
        go_returns
        refine ⟨_, _, by rw [(unhide HLS).2]; exact (by go_num), ?_, by rw [unhide HC]; exact ErrP.nil _, unhide HB2, fun _ => rfl⟩
        show World.ownsRow _ _ _ _ _ _ _
        rw [(unhide HLS).1, unhide HK]
        have := unhide HOWN
        rw [Nat.min_eq_left h32, List.take_of_length_le (by rw [unhide HK]; exact h32)] at this
        exact this
    · have HC : Hid (pgt place l = 1) := (unhide HP).trans hc
      clear hc
      go_wp2
      go_returns
      exact get_post_bad place l w _ 1 (unhide HC) (by decide) _ hE ((unhide HB1).trans (hb2.mono (unhide HB1).size))
  · have HD : Hid (Byt w (.slice (some ⟨b, off + Q, none⟩) N (cap - Q)) L) := by
      show Byt _ _ _
      have := (unhide HV).mid Q N (by omega)
      rw [if_neg hcQ, ← unhide HPB] at this
      exact this
    go_enter Tryz.func39, Tryz.ntmps39
    go_wp2_with fail
    refine (vget_good _ l _ (unhide HV) N Q (unhide Hv)).mono ?_
    rintro e w1 ⟨rfl, hb1⟩
    have HB1 := hide hb1
    clear hb1
    go_wp2_with fail
    refine (read_any _ L place _ ((unhide HD).below (unhide HB1))).mono ?_
    rintro e w2 (⟨q, v2, hpar, hok, rfl, hown, hb2⟩ | ⟨hc, E, rfl, hE, hb2⟩)
    · have HPAR := hide hpar
      have HOK := hide hok
      have HB2 : Hid (Below w.heap.size w w2) := (unhide HB1).trans (hb2.mono (unhide HB1).size)
      have HOWN : Hid (w2.ownsRow w.heap.size 147 4 v2 (min q.length 32) (pcs (q.take 32))) := owns_mono (unhide hown) (unhide HB1).size
      have HRD : Hid (pgt place l = chkP place q) := (unhide HP).trans (rdn_some place L q hpar)
      clear hpar hok hb2 hown
      generalize hk : q.length = k at HOWN
      have HK := hide hk
      clear hk
      rcases Nat.lt_or_ge 32 k with h32 | h32
      · have HC : Hid (pgt place l = 2) := (unhide HRD).trans (chkP_lim place q (unhide HOK) (by rw [unhide HK]; exact h32))
        go_wp2_with fail
        refine (few_bad k _ (by omega)).mono ?_
        rintro e w3 ⟨E, rfl, hE, hb3⟩
        go_wp2
        go_returns
        exact get_post_bad place l w _ 2 (unhide HC) (by decide) _ hE ((unhide HB2).trans (hb3.mono (unhide HB2).size))
      · have HC : Hid (pgt place l = 0) := (unhide HRD).trans (chkP_ok place q (unhide HOK) (by rw [unhide HK]; exact h32))
        have HLS := hide ((unhide HSZ) q (unhide HPAR) (unhide HC))
        go_wp2_with fail
        refine (few_ok k _ (by omega)).mono ?_
        rintro e w3 ⟨rfl, hw⟩
        obtain rfl := hw.symm
        clear hw
        go_wp2
        go_returns
        refine ⟨_, _, by rw [(unhide HLS).2]; exact (by go_num), ?_, by rw [unhide HC]; exact ErrP.nil _, unhide HB2, fun _ => rfl⟩
        show World.ownsRow _ _ _ _ _ _ _
        rw [(unhide HLS).1, unhide HK]
        have := unhide HOWN
        rw [Nat.min_eq_left h32, List.take_of_length_le (by rw [unhide HK]; exact h32)] at this
        exact this
    · have HC : Hid (pgt place l = 1) := (unhide HP).trans hc
      clear hc
      go_wp2
      go_returns
      exact get_post_bad place l w _ 1 (unhide HC) (by decide) _ hE ((unhide HB1).trans (hb2.mono (unhide HB1).size))
theorem get3_two (v : Value) (l : List Int) (place : Int) (w : World) (h : Byt w v l) : Calls Tryz.prog 39 #[v, .int .i64 place] w (GetPost2 place l w) := by
  by_cases hv : (V.vget l).2.2 = 0
  · rcases Nat.lt_or_ge l.length (ghd l + (gid l).toNat) with hs | hs
    · exact get3_short v l place w h hv hs
    · exact get3_read v l place w h hv hs
  · exact get3_bad1 v l place w h hv
def GetPost (place : Int) (l : List Int) (w : World) (e : Ending) (w' : World) : Prop :=
  ∃ v E, e = .returned (.tuple #[v, .int .i64 (psz place l), E]) ∧ Hid (w'.ownsRow w.heap.size 147 4 v (plist place l).length (pcs (plist place l))) ∧ Hid (ErrP w' E (pgt place l)) ∧ Below w.heap.size w w'
theorem get3_any (v : Value) (l : List Int) (place : Int) (w : World) (h : Byt w v l) : Calls Tryz.prog 39 #[v, .int .i64 place] w (GetPost place l w) := by
  refine (get3_two v l place w h).mono ?_
  rintro e w' ⟨v', E, h1, h2, h3, h4, _⟩
  exact ⟨v', E, h1, h2, h3, h4⟩
end Go.Proofs.YtgdfnopnmdjklaaGreatDoor
/- Proved here: packet's reader: props as a step of a plain reader. Helper contracts. -/
namespace Go.Proofs.YtgdfnopnmdjklaaGreatDoor.K
open Go.RowKit
set_option maxRecDepth 100000

theorem psz_len (place : Int) (l : List Int) : ∃ N : Nat, psz place l = (N : Int) ∧ N ≤ l.length := by
  unfold psz
  by_cases h : pgt place l = 0
  · rw [if_pos h]
    refine ⟨ghd l + (gid l).toNat, rfl, ?_⟩
    unfold pgt at h
    split at h
    · contradiction
    · split at h
      · contradiction
      · omega
  · rw [if_neg h]
    exact ⟨0, rfl, Nat.zero_le _⟩
def props? (place : Int) (l : List Int) : Option (List Pr × List Int) := if pgt place l = 0 then some (plist place l, l.drop (psz place l).toNat) else none
/-- a step that tells properties -/
def RdP (w0 : World) (R : Nat) (place : Int) (st : Option (List Int)) (w : World) (e : Ending) (w' : World) : Prop :=
  ∃ (t : Sl) (x : List Pr) (st' : Option (List Int)), e = .returned t.val ∧ Hid (w'.ownsRow w.heap.size 147 4 t.val x.length (pcs x)) ∧ Stp (props? place) st x st' ∧ RS w0 w' R st' ∧ BX R isRE w w'
set_option maxHeartbeats 1000000 in
theorem props_any (R : Nat) (place : Int) (st : Option (List Int)) (w0 w : World) (h : RS w0 w R st) : Calls Tryz.prog 21 #[.pointer (some ⟨R, 0, none⟩), .int .i64 place] w (RdP w0 R place st w) := by
  have hlt := h.lt
  obtain ⟨_, ⟨c, hd⟩, bv, l, E, hr, hb, hw, hR, hst⟩ := h
  obtain ⟨n, hN, hn⟩ := psz_len place l
  have HG := hide (get3_two bv l place w (hb.below hw))
  have HQ : Hid (props? place l = if pgt place l = 0 then some (plist place l, l.drop n) else none) := by
    show props? place l = _
    unfold props?
    rw [hN, Int.toNat_natCast]
  have HN := hide hN
  have hE := st_form hst
  have hst' : st = some l ∨ st = none := hst.imp And.left And.left
  have HR := hide hr
  have HB := hide hb
  have HA := hide (after w0 w)
  have HD := hide hd
  have HW := hide hw
  have HS := hide hst
  have HS' := hide hst'
  have HE := hide hE
  obtain ⟨h1, h2, h3, h4⟩ := hr
  clear hN hd hb hw hst hst' hE h2 h3 h4
  go_enter Tryz.func21, Tryz.ntmps21
  go_wp2_with fail
  refine (unhide HG).mono ?_
  rintro e w1 ⟨v, F, he, hO, hF, hB, hz⟩
  rw [unhide HN] at he
  subst he
  have HF : Hid (Bel w1 (fun k => k = R) F (pgt place l)) := by
    show Bel _ _ _ _
    by_cases h0 : pgt place l = 0
    · exact .inl ⟨h0, hz h0⟩
    · rcases er_of_p (unhide hF) with ⟨h, _⟩ | ⟨d, hd, h⟩
      · exact absurd h h0
      · exact .inr ⟨h0, d, hd, ErO.of ((hB.cell (p := ⟨R, 1, none⟩) hlt).trans (unhide HD)) h⟩
  obtain ⟨t, ht, _⟩ := owns_sl (unhide hO)
  subst ht
  have HB1 := hide hB
  have HR1 := hide ((unhide HR).below hB)
  clear hB h1 hF hz
  generalize pgt place l = m at HQ HF
  generalize plist place l = x at HQ hO
  clear HG HN
  go_wp2_with fail
  refine (fail_any R bv E F w1 (unhide HR1) (unhide HE) (unhide HF).form).mono ?_
  rintro e w2 ⟨rfl, hr2, hx2⟩
  have HR2 := hide hr2
  have HX2 := hide hx2
  clear hr2 hx2
  go_wp2_with fail
  refine (next_ok R bv (orE E F) l n w0 w2 (unhide HR2) (unhide HB) hn).mono ?_
  rintro e w3 ⟨v, bv', rfl, hv, hbv, hr3, hx3⟩
  have HV := hide hbv
  have HR3 := hide hr3
  have HX3 := hide hx3
  clear hv hbv hr3 hx3
  go_wp2
  go_ret
  have k := (unhide HA) w1 w2 w3 R (fun k => k = R) bv' E F st l n m c ⟨rfl, fun k hk => by rw [hk]; exact hlt⟩ (unhide HD) (unhide HW) hR (unhide HS) (unhide HB1) (unhide HF) (unhide HX2) (unhide HX3) (unhide HV) (unhide HR3)
  exact ⟨t, x, _, rfl, owns_bx (unhide hO) ((unhide HX2).trans (unhide HX3)) hlt, stp_get (props? place) st l x n m (unhide HS') (unhide HQ), k.1, k.2⟩
end Go.Proofs.YtgdfnopnmdjklaaGreatDoor.K
/- Proved here: packet's reader: reason. Helper contracts. -/
namespace Go.Proofs.YtgdfnopnmdjklaaGreatDoor.K
open Go.RowKit
set_option maxRecDepth 100000

def reason? (kind : Int) (l : List Int) : Option ((Int × List Pr) × List Int) := match l with
  | [] => some ((0, []), [])
  | c :: t => if t = [] then some ((c, []), []) else (props? kind t).map fun r => ((c, r.1), r.2)
/-- behind the reader's steps: the packet's Code and Props -/
def ReasonPost (w0 : World) (R : Nat) (p : Pkv) (st : Option (List Int)) (w : World) (e : Ending) (w' : World) : Prop :=
  e = .returned (.tuple #[]) ∧ ∃ (c : Int) (t : Sl) (x : List Pr) (st' : Option (List Int)), Pk w' R { p with code := c, props := t } ∧ Hid (w'.ownsRow w.heap.size 147 4 t.val x.length (pcs x)) ∧ Stp (reason? p.kind) st (c, x) st' ∧ RS w0 w' R st' ∧ BX R isAny w w'
theorem len_nil {st : Option (List Int)} {n : Nat} (h : ∀ l, st = some l → l.length = n) (hn : n = 0) : st = none ∨ st = some [] := by
  cases st with
  | none => exact .inl rfl
  | some l => exact .inr (by rw [List.length_eq_zero_iff.1 ((h l rfl).trans hn)])
theorem owns_nil (w : World) (B : Nat) (e : TypeId) (s : Nat) : w.ownsRow B e s (Sl.val ⟨none, 0, 0⟩) 0 [] := World.ownsRow_nil _ _ _ _
set_option maxHeartbeats 2000000 in
theorem reason_any (R : Nat) (p : Pkv) (st : Option (List Int)) (w0 w : World) (h : RS w0 w R st) (hp : Pk w R p) (hc : p.code = 0) (hpr : p.props = ⟨none, 0, 0⟩) : Calls Tryz.prog 25 #[.pointer (some ⟨R, 0, none⟩)] w (ReasonPost w0 R p st w) := by
  have hlt := h.lt
  obtain ⟨ao, n, cap, h19, ⟨hc1, hc2⟩, hl⟩ := h.rest
  unfold maxLen at hc2
  have HP := hide hp
  have HS := hide h
  have HL := hide hl
  have HC := hide hc
  have HPR := hide hpr
  clear hp h hl hc hpr
  by_cases hn : n = 0
  · subst hn
    go_enter Tryz.func25, Tryz.ntmps25
    go_wp2
    go_end0
    refine ⟨rfl, 0, ⟨none, 0, 0⟩, [], st, ?_, owns_nil _ _ _ _, ?_, unhide HS, BX.refl _ _ _⟩
    · have e : { p with code := 0, props := ⟨none, 0, 0⟩ } = p := by rw [← unhide HC, ← unhide HPR]
      rw [e]
      exact unhide HP
    · rcases len_nil (unhide HL) rfl with rfl | rfl
      · exact rfl
      · exact ⟨rfl, rfl⟩
  · go_enter Tryz.func25, Tryz.ntmps25
    go_wp2_with fail
    refine (one_any R st w0 w (unhide HS)).mono ?_
    rintro e w1 ⟨c, st1, rfl, hc, hs1, h1, hx1⟩
    have hp1 := (unhide HP).bx hx1
    have c14 := hp1.code
    have f14 := hp1.code_f
    have c0 := hp1.kind
    have c7 := hp1.props
    have f7 := hp1.props_f
    obtain ⟨ao1, n1, cap1, g19, ⟨gc1, gc2⟩, gl⟩ := h1.rest
    unfold maxLen at gc2
    have HP1 := hide hp1
    have HS1 := hide h1
    have HX1 := hide hx1
    have HST1 := hide hs1
    have GL := hide gl
    clear hp1 h1 hx1 hs1 gl h19
    by_cases hn1 : n1 = 0
    · subst hn1
      go_wp2
      go_end0
      refine ⟨rfl, c, ⟨none, 0, 0⟩, [], st1, ?_, owns_nil _ _ _ _, ?_, (unhide HS1).set 14 _ (by decide), ((unhide HX1).any).set 14 _ trivial⟩
      · have e : { p with code := c, props := ⟨none, 0, 0⟩ } = { p with code := c } := by rw [← unhide HPR]
        rw [e]
        exact (unhide HP1).set_code c
      · have k := unhide HST1
        cases st with
        | none => exact k
        | some l =>
          cases l with
          | nil => exact absurd ((unhide HL) [] rfl) (fun e => hn e.symm)
          | cons y t =>
            obtain ⟨rfl, rfl⟩ := k
            have ht : t = [] := List.length_eq_zero_iff.1 ((unhide GL) t rfl)
            simp [Stp, reason?, ht]
    · have HP2 := hide ((unhide HP1).set_code c)
      have HS2 := hide ((unhide HS1).set 14 (.int .i64 c) (by decide))
      have HX2 := hide (((unhide HX1).any).set 14 (.int .i64 c) trivial)
      go_wp2_with fail
      refine (props_any R p.kind st1 w0 _ (unhide HS2)).mono ?_
      rintro e w3 ⟨t, x, st3, rfl, hO, hs3, h3, hx3⟩
      have hp3 := (unhide HP2).bx hx3
      have d7 := hp3.props
      have e7 := hp3.props_f
      have HP3 := hide hp3
      have HS3 := hide h3
      have HX3 := hide hx3
      have HST3 := hide hs3
      clear hp3 h3 hx3 hs3 c14 f14 c0 c7 f7 g19
      go_wp2
      go_end0
      have hB : w.heap.size ≤ (w1.setCell ⟨R, 14, none⟩ (.int .i64 c)).heap.size := (unhide HX2).size
      refine ⟨rfl, c, t, x, st3, (unhide HP3).set_props t, ?_, ?_, (unhide HS3).set 7 _ (by decide), ((unhide HX2).trans (unhide HX3).any).set 7 _ trivial⟩
      · exact owns_mono (owns_bx (unhide hO) ((BX.refl R isAny w3).set 7 _ trivial) (Nat.lt_of_lt_of_le hlt hB)) hB
      · have k := unhide HST1
        have k3 := unhide HST3
        cases st with
        | none =>
          obtain rfl : st1 = none := k
          exact k3
        | some l =>
          cases l with
          | nil => exact absurd ((unhide HL) [] rfl) (fun e => hn e.symm)
          | cons y t' =>
            obtain ⟨rfl, rfl⟩ := k
            have ht : t' ≠ [] := fun e => hn1 (by rw [← (unhide GL) t' rfl, e]; rfl)
            simp only [Stp, reason?, if_neg ht]
            simp only [Stp] at k3
            cases hq : props? p.kind t' with
            | none => rw [hq] at k3; simpa using k3
            | some r =>
              obtain ⟨r1, r2⟩ := r
              rw [hq] at k3
              obtain ⟨rfl, rfl⟩ := k3
              simp
end Go.Proofs.YtgdfnopnmdjklaaGreatDoor.K
/- Proved here: what text.Put tells, whatever stands behind, is read back by text.Get; its beginnings are short; bytes of any kind turned into a text. Helpers. -/
namespace Go.Proofs.YtgdfnopnmdjklaaGreatDoor
open Go.RowKit

theorem tx_get0 (s : ByteArray) (l : List Int) : (tx s ++ l).getD 0 0 = (s.size : Int) / 256 := rfl
theorem tx_get1 (s : ByteArray) (l : List Int) : (tx s ++ l).getD 1 0 = (s.size : Int) % 256 := rfl
theorem nb_tx (s : ByteArray) (l : List Int) : nb (tx s ++ l) = s.size := by
  unfold nb
  rw [tx_get0, tx_get1]
  omega
theorem chk_utf {l : List Int} (h : chk l = 0) : utf l = true := by
  unfold chk at h
  by_cases u : utf l = true
  · exact u
  · rw [if_neg u] at h; omega
theorem chk_one {l : List Int} (h : chk l ≠ 0) (hl : l.length ≤ 65535) : chk l = 1 := by
  unfold chk at h ⊢
  by_cases u : utf l = true
  · rw [if_pos u, if_pos hl] at h; exact absurd rfl h
  · rw [if_neg u]
theorem gbs_tx (s : ByteArray) (l : List Int) : gbs (tx s ++ l) = s := by
  unfold gbs
  rw [nb_tx]
  have h : (tx s ++ l).drop 2 = sb s ++ l := rfl
  rw [h, List.take_append_of_le_length (by rw [sb_length]; exact Nat.le_refl _), List.take_of_length_le (by rw [sb_length]; exact Nat.le_refl _), bs_sb]
theorem gt_tx (s : ByteArray) (l : List Int) (h : chk (sb s) = 0) : gt (tx s ++ l) = (s, ((2 + s.size : Nat) : Int), 0) := by
  have hf : full (tx s ++ l) = true := by
    unfold full
    rw [nb_tx, List.length_append, tx_length]
    simp only [Bool.and_eq_true, decide_eq_true_eq]
    omega
  unfold gt
  rw [if_pos hf, gbs_tx, if_pos (chk_utf h), nb_tx]
theorem take_get (l : List Int) (m j : Nat) (h : j < m) : (l.take m).getD j 0 = l.getD j 0 := by
  rw [List.getD_eq_getElem?_getD, List.getElem?_take, if_pos h, ← List.getD_eq_getElem?_getD]
theorem gt_short (s : ByteArray) (m : Nat) (h : m < 2 + s.size) : gt ((tx s).take m) = (⟨#[]⟩, 0, 3) := by
  have hf : full ((tx s).take m) = false := by
    have hl : ((tx s).take m).length = m := by rw [List.length_take, tx_length]; omega
    unfold full
    rw [hl]
    by_cases h2 : 2 ≤ m
    · have hn : nb ((tx s).take m) = s.size := by
        have h0 := nb_tx s []
        rw [List.append_nil] at h0
        unfold nb at h0 ⊢
        rw [take_get _ _ _ (by omega), take_get _ _ _ (by omega)]
        exact h0
      rw [hn]
      simp only [Bool.and_eq_false_iff, decide_eq_false_iff_not]
      omega
    · simp [h2]
  unfold gt
  rw [if_neg (by rw [hf]; simp)]
/-- bytes of any kind turned into a text -/
theorem conv_byt (w : World) (v : Value) (l : List Int) (h : Byt w v l) : (convert 23 9 v).run Tryz.prog w = .ok (.string (bs l)) w := by
  obtain ⟨ao, cap, rfl, hlen, hr, hcase⟩ := h
  rcases hcase with rfl | ⟨b, off, rfl, hc⟩
  · cases ao with
    | none =>
      rw [run_convert_bytes_string w 23 9 5 none _ cap Tryz.underlying23 Tryz.underlying5 Tryz.underlying9]
      rfl
    | some a =>
      exact run_convert_bytes_back (P := Tryz.prog) w 23 9 5 a cap [] Tryz.underlying23 Tryz.underlying5 Tryz.underlying9 (fun j hj => by simp at hj)
  · exact conv_bytes w b off cap l hr hc
theorem bs_size (l : List Int) : (bs l).size = l.length := by
  unfold bs
  show Array.size _ = _
  simp
theorem chk_bs (l : List Int) (h : ∀ j, 0 ≤ l.getD j 0 ∧ l.getD j 0 ≤ 255) : chk (sb (bs l)) = chk l := by rw [sb_bs l h]
theorem chk_both (s : ByteArray) (l : List Int) (hr : ∀ j, 0 ≤ l.getD j 0 ∧ l.getD j 0 ≤ 255) (hs : chk (sb s) = 0) (hl : chk l = 0) (h1 : s.size ≤ 2000) (h2 : l.length ≤ 2000) : chk (sb (s ++ bs l)) = 0 := by
  rw [sb_append, sb_bs l hr]
  exact chk_app _ _ hs hl (by rw [sb_length]; omega)
/-- Get of a text's bytes, whatever stands behind; of a beginning -/
theorem get_tx (s : ByteArray) (N : Nat) (l : List Int) (v : Value) (w : World) (hN : Hid (N = 2 + s.size)) (hc : chk (sb s) = 0) (h : Byt w v (tx s ++ l)) :
    Calls Tryz.prog 62 #[v] w fun e w' => ∃ E, e = .returned (.tuple #[.string s, .int .i64 N, E]) ∧ Hid (ErrIs w' E 0) ∧ Below w.heap.size w w' := by
  have hg := get_any v _ w h
  rw [gt_tx s l hc] at hg
  rw [unhide hN]
  exact hg
theorem get_cut (s : ByteArray) (N m : Nat) (v : Value) (w : World) (hN : Hid (N = 2 + s.size)) (hm : m < N) (h : Byt w v ((tx s).take m)) :
    Calls Tryz.prog 62 #[v] w fun e w' => ∃ E, e = .returned (.tuple #[.string ⟨#[]⟩, .int .i64 0, E]) ∧ Hid (ErrIs w' E 3) ∧ Below w.heap.size w w' := by
  have hg := get_any v _ w h
  rw [gt_short s m (by have := unhide hN; omega)] at hg
  exact hg
theorem range_append (xs ys : List Int) (hx : ∀ j, 0 ≤ xs.getD j 0 ∧ xs.getD j 0 ≤ 255) (hy : ∀ j, 0 ≤ ys.getD j 0 ∧ ys.getD j 0 ≤ 255) : ∀ j, 0 ≤ (xs ++ ys).getD j 0 ∧ (xs ++ ys).getD j 0 ≤ 255 := by
  intro j
  by_cases h : j < xs.length
  · have := hx j
    rw [List.getD_eq_getElem?_getD, List.getElem?_append_left h, ← List.getD_eq_getElem?_getD]
    exact this
  · have := hy (j - xs.length)
    rw [List.getD_eq_getElem?_getD, List.getElem?_append_right (by omega), ← List.getD_eq_getElem?_getD]
    exact this
end Go.Proofs.YtgdfnopnmdjklaaGreatDoor
