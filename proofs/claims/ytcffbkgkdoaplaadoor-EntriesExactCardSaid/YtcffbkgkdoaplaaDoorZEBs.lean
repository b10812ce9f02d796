/- Proved here: the contracts of entries.isTerm, isBase, isEntry and of dovecoteref15.MayEntry: which may be. Helper contracts. -/
import Derived.Test.YtcffbkgkdoaplaaDoorZEPl
import Derived.Test.YtcffbkgkdoaplaaDoorZECi
namespace Go.Proofs.YtcffbkgkdoaplaaDoor.Et
open Go.RowKit Nt
set_option maxRecDepth 100000

theorem ret_b {a b : Bool} {w w' : World} (h : a = b) (hw : Below w.heap.size w w') : Ending.returned (.bool a) = .returned (.bool b) ∧ Below w.heap.size w w' := ⟨by rw [h], hw⟩
theorem isTerm_any (n : Int) (w : World) : Calls Tryd.prog 47 #[.int .i64 n] w fun e w' => e = .returned (.bool (decide (IsTerm n))) ∧ w' = w := by
  by_cases h1 : 0 ≤ n
  · by_cases h2 : n < 1099511627776
    · rw [decide_eq_true (p := IsTerm n) ⟨h1, h2⟩]
      go_enter Tryd.func47, Tryd.ntmps47
      go_wp2
      go_ret
      exact ⟨rfl, rfl⟩
    · rw [decide_eq_false (p := IsTerm n) (fun h => h2 h.2)]
      go_enter Tryd.func47, Tryd.ntmps47
      go_wp2
      go_ret
      exact ⟨rfl, rfl⟩
  · rw [decide_eq_false (p := IsTerm n) (fun h => h1 h.1)]
    go_enter Tryd.func47, Tryd.ntmps47
    go_wp2
    go_ret
    exact ⟨rfl, rfl⟩
theorem isBase_any (i t : Int) (w : World) : Calls Tryd.prog 46 #[.int .i64 i, .int .i64 t] w fun e w' => e = .returned (.bool (decide (IsBase i t))) ∧ w' = w := by
  by_cases h1 : 0 ≤ i
  · by_cases h2 : i ≤ 1099511625728
    · have e : decide (IsBase i t) = decide (IsTerm t) := decide_eq_decide.2 ⟨fun h => h.2.2, fun h => ⟨h1, h2, h⟩⟩
      rw [e]
      by_cases ht : IsTerm t
      · have HT := hide (decide_eq_true ht)
        rw [unhide HT]
        clear ht e
        go_enter Tryd.func46, Tryd.ntmps46
        go_wp2_with fail
        refine (isTerm_any t w).mono ?_
        rintro e w' ⟨rfl, rfl⟩
        rw [unhide HT]
        go_wp2
        go_ret
        exact ⟨rfl, rfl⟩
      · have HT := hide (decide_eq_false ht)
        rw [unhide HT]
        clear ht e
        go_enter Tryd.func46, Tryd.ntmps46
        go_wp2_with fail
        refine (isTerm_any t w).mono ?_
        rintro e w' ⟨rfl, rfl⟩
        rw [unhide HT]
        go_wp2
        go_ret
        exact ⟨rfl, rfl⟩
    · rw [decide_eq_false (p := IsBase i t) (fun h => h2 h.2.1)]
      go_enter Tryd.func46, Tryd.ntmps46
      go_wp2
      go_ret
      exact ⟨rfl, rfl⟩
  · rw [decide_eq_false (p := IsBase i t) (fun h => h1 h.1)]
    go_enter Tryd.func46, Tryd.ntmps46
    go_wp2
    go_ret
    exact ⟨rfl, rfl⟩
set_option maxHeartbeats 2000000 in
theorem isEntry_any (i t k : Int) (s : ByteArray) (w : World) : Calls Tryd.prog 53 #[.agg #[.int .i64 i, .int .i64 t, .int .i64 k, .string s]] w fun e w' => e = .returned (.bool (decide (OkE (i, t, k, s)))) ∧ Below w.heap.size w w' := by
  by_cases h1 : 1 ≤ i
  · by_cases h2 : i ≤ 1099511627776
    · by_cases h3 : 0 ≤ t
      · by_cases h4 : t < 1099511627776
        · by_cases h5 : 0 ≤ k
          · by_cases h6 : k ≤ 2
            · by_cases h7 : s.size ≤ 4096
              · rw [decide_eq_true (p := OkE (i, t, k, s)) ⟨h1, h2, ⟨h3, h4⟩, h5, h6, h7⟩]
                have HT := hide (decide_eq_true (p := IsTerm t) ⟨h3, h4⟩)
                have h7d : decide ((s.size : Int) ≤ 4096) = true := decide_eq_true (by omega)
                go_enter Tryd.func53, Tryd.ntmps53
                go_wp2_with fail
                refine (isTerm_any t _).mono ?_
                rintro e w' ⟨rfl, rfl⟩
                rw [unhide HT]
                go_wp2
                go_ret
                exact ⟨rfl, (Below.refl _ _).alloc (Nat.le_refl _) _⟩
              · rw [decide_eq_false (p := OkE (i, t, k, s)) (fun h => h7 h.2.2.2.2.2)]
                have HT := hide (decide_eq_true (p := IsTerm t) ⟨h3, h4⟩)
                have h7d : decide ((s.size : Int) ≤ 4096) = false := decide_eq_false (by omega)
                go_enter Tryd.func53, Tryd.ntmps53
                go_wp2_with fail
                refine (isTerm_any t _).mono ?_
                rintro e w' ⟨rfl, rfl⟩
                rw [unhide HT]
                go_wp2
                go_ret
                exact ⟨rfl, (Below.refl _ _).alloc (Nat.le_refl _) _⟩
            · rw [decide_eq_false (p := OkE (i, t, k, s)) (fun h => h6 h.2.2.2.2.1)]
              have HT := hide (decide_eq_true (p := IsTerm t) ⟨h3, h4⟩)
              go_enter Tryd.func53, Tryd.ntmps53
              go_wp2_with fail
              refine (isTerm_any t _).mono ?_
              rintro e w' ⟨rfl, rfl⟩
              rw [unhide HT]
              go_wp2
              go_ret
              exact ⟨rfl, (Below.refl _ _).alloc (Nat.le_refl _) _⟩
          · rw [decide_eq_false (p := OkE (i, t, k, s)) (fun h => h5 h.2.2.2.1)]
            have HT := hide (decide_eq_true (p := IsTerm t) ⟨h3, h4⟩)
            go_enter Tryd.func53, Tryd.ntmps53
            go_wp2_with fail
            refine (isTerm_any t _).mono ?_
            rintro e w' ⟨rfl, rfl⟩
            rw [unhide HT]
            go_wp2
            go_ret
            exact ⟨rfl, (Below.refl _ _).alloc (Nat.le_refl _) _⟩
        · rw [decide_eq_false (p := OkE (i, t, k, s)) (fun h => h4 h.2.2.1.2)]
          have HT := hide (decide_eq_false (p := IsTerm t) (fun h => h4 h.2))
          go_enter Tryd.func53, Tryd.ntmps53
          go_wp2_with fail
          refine (isTerm_any t _).mono ?_
          rintro e w' ⟨rfl, rfl⟩
          rw [unhide HT]
          go_wp2
          go_ret
          exact ⟨rfl, (Below.refl _ _).alloc (Nat.le_refl _) _⟩
      · rw [decide_eq_false (p := OkE (i, t, k, s)) (fun h => h3 h.2.2.1.1)]
        have HT := hide (decide_eq_false (p := IsTerm t) (fun h => h3 h.1))
        go_enter Tryd.func53, Tryd.ntmps53
        go_wp2_with fail
        refine (isTerm_any t _).mono ?_
        rintro e w' ⟨rfl, rfl⟩
        rw [unhide HT]
        go_wp2
        go_ret
        exact ⟨rfl, (Below.refl _ _).alloc (Nat.le_refl _) _⟩
    · rw [decide_eq_false (p := OkE (i, t, k, s)) (fun h => h2 h.2.1)]
      go_enter Tryd.func53, Tryd.ntmps53
      go_wp2
      go_ret
      exact ⟨rfl, (Below.refl _ _).alloc (Nat.le_refl _) _⟩
  · rw [decide_eq_false (p := OkE (i, t, k, s)) (fun h => h1 h.1)]
    go_enter Tryd.func53, Tryd.ntmps53
    go_wp2
    go_ret
    exact ⟨rfl, (Below.refl _ _).alloc (Nat.le_refl _) _⟩
set_option maxHeartbeats 2000000 in
theorem mayE_any (i t k : Int) (s : ByteArray) (w : World) : Calls Tryd.prog 51 #[.agg #[.int .i64 i, .int .i64 t, .int .i64 k, .string s]] w fun e w' => e = .returned (.bool (decide (OkE (i, t, k, s)))) ∧ Below w.heap.size w w' := by
  by_cases h1 : 1 ≤ i
  · by_cases h2 : i ≤ 1099511627776
    · by_cases h3 : 0 ≤ t
      · by_cases h4 : t < 1099511627776
        · by_cases h5 : 0 ≤ k
          · by_cases h6 : k ≤ 2
            · by_cases h7 : s.size ≤ 4096
              · rw [decide_eq_true (p := OkE (i, t, k, s)) ⟨h1, h2, ⟨h3, h4⟩, h5, h6, h7⟩]
                have h7d : decide ((s.size : Int) ≤ 4096) = true := decide_eq_true (by omega)
                go_enter Tryd.func51, Tryd.ntmps51
                go_wp2
                go_ret
                exact ⟨rfl, (Below.refl _ _).alloc (Nat.le_refl _) _⟩
              · rw [decide_eq_false (p := OkE (i, t, k, s)) (fun h => h7 h.2.2.2.2.2)]
                have h7d : decide ((s.size : Int) ≤ 4096) = false := decide_eq_false (by omega)
                go_enter Tryd.func51, Tryd.ntmps51
                go_wp2
                go_ret
                exact ⟨rfl, (Below.refl _ _).alloc (Nat.le_refl _) _⟩
            · rw [decide_eq_false (p := OkE (i, t, k, s)) (fun h => h6 h.2.2.2.2.1)]
              go_enter Tryd.func51, Tryd.ntmps51
              go_wp2
              go_ret
              exact ⟨rfl, (Below.refl _ _).alloc (Nat.le_refl _) _⟩
          · rw [decide_eq_false (p := OkE (i, t, k, s)) (fun h => h5 h.2.2.2.1)]
            go_enter Tryd.func51, Tryd.ntmps51
            go_wp2
            go_ret
            exact ⟨rfl, (Below.refl _ _).alloc (Nat.le_refl _) _⟩
        · rw [decide_eq_false (p := OkE (i, t, k, s)) (fun h => h4 h.2.2.1.2)]
          go_enter Tryd.func51, Tryd.ntmps51
          go_wp2
          go_ret
          exact ⟨rfl, (Below.refl _ _).alloc (Nat.le_refl _) _⟩
      · rw [decide_eq_false (p := OkE (i, t, k, s)) (fun h => h3 h.2.2.1.1)]
        go_enter Tryd.func51, Tryd.ntmps51
        go_wp2
        go_ret
        exact ⟨rfl, (Below.refl _ _).alloc (Nat.le_refl _) _⟩
    · rw [decide_eq_false (p := OkE (i, t, k, s)) (fun h => h2 h.2.1)]
      go_enter Tryd.func51, Tryd.ntmps51
      go_wp2
      go_ret
      exact ⟨rfl, (Below.refl _ _).alloc (Nat.le_refl _) _⟩
  · rw [decide_eq_false (p := OkE (i, t, k, s)) (fun h => h1 h.1)]
    go_enter Tryd.func51, Tryd.ntmps51
    go_wp2
    go_ret
    exact ⟨rfl, (Below.refl _ _).alloc (Nat.le_refl _) _⟩
end Go.Proofs.YtcffbkgkdoaplaaDoor.Et
