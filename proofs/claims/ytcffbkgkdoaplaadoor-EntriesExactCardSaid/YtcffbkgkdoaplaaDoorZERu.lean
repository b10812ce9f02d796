/- Proved here: dovecoteref15.Runs: whether entries go on behind an index and a term. Helper contracts. -/
import Derived.Test.YtcffbkgkdoaplaaDoorZEGo
namespace Go.Proofs.YtcffbkgkdoaplaaDoor.Et
open Go.RowKit Nt
set_option maxRecDepth 100000

set_option maxHeartbeats 4000000 in
theorem runs_core (i0 t0 : Int) (b off cap : Nat) (l : List En) (n : Nat) (w : World) (hn : l.length = n) (hmx : n ≤ 3518437208780) (hi : 0 ≤ i0) (hi2 : i0 ≤ 1099511628800) (hl : EnAt w b off l) :
    Calls Tryd.prog 33 #[.slice (some ⟨b, off, none⟩) n cap, .int .i64 i0, .int .i64 t0] w fun e w' => e = .returned (.bool (decide (GoOn i0 t0 l))) ∧ Below w.heap.size w w' := by
  have HL := hide hl
  have HN := hide hn
  clear hl hn
  obtain ⟨d, hd⟩ : ∃ d, d = decide (GoOn i0 t0 l) := ⟨_, rfl⟩
  have HD := hide hd
  rw [← hd]
  clear hd
  go_enter Tryd.func33, Tryd.ntmps33
  go_wp2
  go_loopw [2, 7] (fun tm ii wr => ∃ k : Nat, k ≤ n ∧ ii = .int .i64 k ∧ tm = .int .i64 (tmB t0 l k) ∧ Hid (∀ j, j < k → GoAt i0 t0 l j) ∧ Hid (Below w.heap.size w wr)) (fun _ ii _ => n - (intOf ii).toNat)
  case atStart => exact ⟨0, Nat.zero_le _, rfl, rfl, fun j hj => absurd hj (Nat.not_lt_zero j), Below.refl _ _⟩
  case round =>
    obtain ⟨k, hk, rfl, rfl, HALL, HB⟩ := hrel
    generalize htm : tmB t0 l k = tm
    have HTM := hide htm
    clear htm
    by_cases hlt : k < n
    · obtain ⟨h0, h1, h2, h3⟩ := ((unhide HL).below (unhide HB)) k (by rw [unhide HN]; exact hlt)
      have HT1 : Hid (tmB t0 l (k + 1) = (en0 l k).2.1) := rfl
      obtain ⟨x, y, z, s, hp⟩ : ∃ x y z s, en0 l k = (x, y, z, s) := ⟨_, _, _, _, rfl⟩
      rw [hp] at h0 h1 h2 h3 HT1
      simp only at h0 h1 h2 h3 HT1
      have HP := hide hp
      have hsz := (unhide HB).size
      clear hp
      have HNO : Hid (¬ GoAt i0 t0 l k → false = d) := fun hh => ((unhide HD).trans (decide_eq_false (fun hg => hh (hg k (by rw [unhide HN]; exact hlt))))).symm
      have HGA : Hid (GoAt i0 t0 l k ↔ x = i0 + 1 + (k : Int) ∧ tm ≤ y ∧ OkE (x, y, z, s)) := by
        show _ ↔ _
        unfold GoAt
        rw [unhide HP, unhide HTM]
      by_cases e3 : OkE (x, y, z, s)
      · have HE3 := hide (decide_eq_true e3)
        have HE4 := hide e3
        clear e3
        go_wp2_with fail
        refine (mayE_any x y z s _).mono ?_
        rintro e w2 ⟨rfl, hb2⟩
        rw [unhide HE3]
        have HB2 : Hid (Below w.heap.size w w2) := bnx (unhide HB) hb2
        replace h0 := (hb2.cell (p := ⟨b, off + k * 4, none⟩) (cell_lt h0)).trans h0
        replace h1 := (hb2.cell (p := ⟨b, off + k * 4 + 1, none⟩) (cell_lt h1)).trans h1
        clear hb2 h2 h3 HE3
        by_cases e1 : x = i0 + 1 + (k : Int)
        · by_cases e2 : y < tm
          · have HF : Hid (false = d) := unhide HNO (fun h => by have := ((unhide HGA).1 h).2.1; omega)
            clear HGA HE4 HNO HP
            subst e1
            go_wp2
            go_ret
            exact ⟨ret_bool (unhide HF), unhide HB2⟩
          · have HG2 : Hid (∀ j, j < k + 1 → GoAt i0 t0 l j) := goOn_step (unhide HALL) ((unhide HGA).2 ⟨by omega, by omega, unhide HE4⟩)
            clear HNO HGA HE4 HP
            subst e1
            go_wp2
            go_roundw
            case rel => exact ⟨k + 1, by omega, by go_num, by rw [unhide HT1], HG2, HB2⟩
            case measure => simp [intOf]; omega
        · have HF : Hid (false = d) := unhide HNO (fun h => by have := ((unhide HGA).1 h).1; omega)
          clear HGA HE4 HNO HP
          go_wp2
          go_ret
          exact ⟨ret_bool (unhide HF), unhide HB2⟩
      · have HE3 := hide (decide_eq_false e3)
        have HF : Hid (false = d) := unhide HNO (fun h => e3 ((unhide HGA).1 h).2.2)
        clear e3 HGA HNO HP
        go_wp2_with fail
        refine (mayE_any x y z s _).mono ?_
        rintro e w2 ⟨rfl, hb2⟩
        rw [unhide HE3]
        have HB2 : Hid (Below w.heap.size w w2) := bnx (unhide HB) hb2
        clear hb2
        go_wp2
        go_ret
        exact ⟨ret_bool (unhide HF), unhide HB2⟩
    · obtain rfl : k = n := by omega
      have HF : Hid (true = d) := by
        show _ = _
        rw [unhide HD]
        exact (decide_eq_true (p := GoOn i0 t0 l) (fun j hj => unhide HALL j (by rw [← unhide HN]; exact hj))).symm
      go_wp2
      go_ret
      exact ⟨ret_bool (unhide HF), unhide HB⟩
theorem runs_nil0 (i0 t0 : Int) (ao : Option Addr) (cap : Nat) (w : World) : Calls Tryd.prog 33 #[.slice ao 0 cap, .int .i64 i0, .int .i64 t0] w fun e w' => e = .returned (.bool true) ∧ w' = w := by
  go_enter Tryd.func33, Tryd.ntmps33
  go_wp2
  refine wp_loop_rounds 1 ?_
  rw [rounds_succ]
  go_wp2
  go_ret
  exact ⟨rfl, rfl⟩
theorem runs_any (i0 t0 : Int) (ao : Option Addr) (n cap : Nat) (l : List En) (w : World) (h : Es w ao n cap l) (hi : 0 ≤ i0) (hi2 : i0 ≤ 1099511628800) :
    Calls Tryd.prog 33 #[.slice ao n cap, .int .i64 i0, .int .i64 t0] w fun e w' => e = .returned (.bool (decide (GoOn i0 t0 l))) ∧ Below w.heap.size w w' := by
  obtain ⟨h1, h2, h3, h4, h5⟩ := h
  rcases h5 with rfl | ⟨b, off, rfl, hc⟩
  · refine (runs_nil0 i0 t0 ao cap w).mono ?_
    rintro e w' ⟨rfl, rfl⟩
    have hl : l = [] := List.length_eq_zero_iff.1 h1
    subst hl
    exact ⟨ret_bool (decide_eq_true (goOn_nil i0 t0)).symm, Below.refl _ _⟩
  · exact runs_core i0 t0 b off cap l n w h1 h4 hi hi2 hc
end Go.Proofs.YtcffbkgkdoaplaaDoor.Et
