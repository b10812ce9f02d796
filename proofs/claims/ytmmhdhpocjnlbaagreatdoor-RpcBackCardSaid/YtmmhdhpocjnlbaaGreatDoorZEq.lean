/- Proved here: dovecoteref0.EqBytes tells whether two byte slices hold the same bytes. Helper contract. -/
import Derived.Test.YtmmhdhpocjnlbaaGreatDoorProg
import Derived.Test.YtmmhdhpocjnlbaaGreatDoorZBase
namespace Go.Proofs.YtmmhdhpocjnlbaaGreatDoor
open Go.RowKit

theorem eq_len (ao bo : Option Addr) (n m ca cb : Nat) (w : World) (h : n ≠ m) :
    Calls Tryz.prog 14 #[.slice ao n ca, .slice bo m cb] w fun e w' => e = .returned (.bool false) ∧ w' = w := by
  have h1 : ((n : Int) == (m : Int)) = false := beq_eq_false_iff_ne.2 (by omega)
  go_enter Tryz.func14, Tryz.ntmps14
  go_wp2
  go_ret
  exact ⟨rfl, rfl⟩

theorem eq_nil (ao bo : Option Addr) (ca cb : Nat) (w : World) :
    Calls Tryz.prog 14 #[.slice ao 0 ca, .slice bo 0 cb] w fun e w' => e = .returned (.bool true) ∧ w' = w := by
  go_enter Tryz.func14, Tryz.ntmps14
  go_wp2
  refine wp_loop_rounds 1 ?_
  rw [rounds_succ]
  go_wp2
  go_ret
  exact ⟨rfl, rfl⟩

set_option maxHeartbeats 1000000 in
theorem eq_core (ba oa bb ob n ca cb : Nat) (f g : Nat → Int) (w : World) (hn : n ≤ maxLen)
    (hf : ∀ j, j < n → w.cell? ⟨ba, oa + j, none⟩ = some (.int .u8 (f j))) (hg : ∀ j, j < n → w.cell? ⟨bb, ob + j, none⟩ = some (.int .u8 (g j))) :
    Calls Tryz.prog 14 #[.slice (some ⟨ba, oa, none⟩) n ca, .slice (some ⟨bb, ob, none⟩) n cb] w fun e w' => (∃ b, e = .returned (.bool b) ∧ (b = true ↔ ∀ j, j < n → f j = g j)) ∧ ∃ k, w' = w.drewN k := by
  unfold maxLen at hn
  have HF := hide hf
  have HG := hide hg
  clear hf hg
  go_enter Tryz.func14, Tryz.ntmps14
  go_wp2
  go_loopw [5] (fun i wr => ∃ k q : Nat, k ≤ n ∧ i = .int .i64 k ∧ wr = w.drewN q ∧ ∀ j, j < k → f j = g j) (fun i _ => n - (intOf i).toNat)
  case atStart => exact ⟨0, 0, Nat.zero_le _, rfl, rfl, fun j hj => absurd hj (Nat.not_lt_zero j)⟩
  case round =>
    obtain ⟨k, q, hk, rfl, rfl, hall⟩ := hrel
    have HA := hide hall
    clear hall
    by_cases hlt : k < n
    · have hfk := (unhide HF) k hlt
      have hgk := (unhide HG) k hlt
      generalize hx : f k = x at hfk
      generalize hy : g k = y at hgk
      have HX := hide hx
      have HY := hide hy
      clear hx hy
      by_cases hxy : x = y
      · have hb : (x == y) = true := beq_iff_eq.2 hxy
        have HE := hide hxy
        clear hxy
        go_wp2
        go_quiet (fail)
        go_wp2
        go_roundw
        case rel => exact ⟨k + 1, _, by omega, by go_num, rfl, fun j hj => by
          rcases Nat.lt_succ_iff_lt_or_eq.1 hj with h | h
          · exact (unhide HA) j h
          · rw [h, unhide HX, unhide HY]; exact unhide HE⟩
        case measure => simp [intOf]; omega
      · have hb : (x == y) = false := beq_eq_false_iff_ne.2 hxy
        go_wp2
        go_quiet (fail)
        go_wp2
        go_ret
        refine ⟨⟨_, rfl, ?_⟩, q + nq, drewN_drewN _ _ _⟩
        constructor
        · intro h; cases h
        · intro h; exact absurd ((unhide HX).symm.trans ((h k hlt).trans (unhide HY))) hxy
    · go_wp2
      go_ret
      exact ⟨⟨_, rfl, fun _ j hj => (unhide HA) j (by omega), fun _ => rfl⟩, _, rfl⟩

theorem eq_any (va vb : Value) (xs ys : List Int) (w : World) (ha : Byt w va xs) (hb : Byt w vb ys) :
    Calls Tryz.prog 14 #[va, vb] w fun e w' => e = .returned (.bool (decide (xs = ys))) ∧ ∃ k, w' = w.drewN k := by
  obtain ⟨ao, ca, rfl, hla, _, ha⟩ := ha
  obtain ⟨bo, cb, rfl, _, _, hb⟩ := hb
  by_cases hl : xs.length = ys.length
  · rcases ha with rfl | ⟨ba, oa, rfl, hca⟩
    · have hb0 : ys = [] := List.length_eq_zero_iff.1 hl.symm
      subst hb0
      refine (eq_nil _ _ _ _ _).mono ?_
      rintro e w' ⟨rfl, rfl⟩
      exact ⟨by simp, 0, rfl⟩
    · rcases hb with rfl | ⟨bb, ob, rfl, hcb⟩
      · have ha0 : xs = [] := List.length_eq_zero_iff.1 hl
        subst ha0
        refine (eq_nil _ _ _ _ _).mono ?_
        rintro e w' ⟨rfl, rfl⟩
        exact ⟨by simp, 0, rfl⟩
      · rw [← hl] at hcb ⊢
        refine (eq_core ba oa bb ob xs.length ca cb (fun j => xs.getD j 0) (fun j => ys.getD j 0) w (Nat.le_trans hla.1 hla.2) hca hcb).mono ?_
        rintro e w' ⟨⟨b, rfl, hbb⟩, k, rfl⟩
        refine ⟨?_, k, rfl⟩
        have : (b = true) ↔ xs = ys := by
          rw [hbb]
          constructor
          · intro h
            apply List.ext_getElem hl
            intro i h1 h2
            have := h i h1
            rw [List.getD_eq_getElem?_getD, List.getD_eq_getElem?_getD, List.getElem?_eq_getElem h1, List.getElem?_eq_getElem h2] at this
            exact this
          · rintro rfl j _; rfl
        rw [show b = decide (xs = ys) from by rw [Bool.eq_iff_iff, this]; simp]
  · refine (eq_len ao bo xs.length ys.length ca cb w hl).mono ?_
    rintro e w' ⟨rfl, rfl⟩
    refine ⟨?_, 0, rfl⟩
    rw [show decide (xs = ys) = false from decide_eq_false (fun h => hl (by rw [h]))]
end Go.Proofs.YtmmhdhpocjnlbaaGreatDoor
