/- Proved here: entries.isLog and last, dovecoteref15.May and Last: which logs may be, and where they end. Helper contracts. -/
import Derived.Test.YtcffbkgkdoaplaaDoorZERu
namespace Go.Proofs.YtcffbkgkdoaplaaDoor.Et
open Go.RowKit Nt
set_option maxRecDepth 100000

/-- a log as a value -/
def lgv (b t : Int) (ao : Option Addr) (n cap : Nat) : Value := .agg #[.int .i64 b, .int .i64 t, .slice ao n cap]
theorem may_dec {b t : Int} {l : List En} {n : Nat} (hn : l.length = n) : (IsBase b t → n ≤ 512 → decide (May ⟨b, t, l⟩) = decide (GoOn b t l)) ∧ (¬ IsBase b t → decide (May ⟨b, t, l⟩) = false) ∧ (¬ n ≤ 512 → decide (May ⟨b, t, l⟩) = false) := by
  subst hn
  exact ⟨fun h1 h2 => decide_eq_decide.2 ⟨fun h => h.2.2, fun h => ⟨h1, h2, h⟩⟩, fun h1 => decide_eq_false (fun h => h1 h.1), fun h2 => decide_eq_false (fun h => h2 h.2.1)⟩
set_option maxHeartbeats 2000000 in
theorem isLog_any (b t : Int) (ao : Option Addr) (n cap : Nat) (l : List En) (w : World) (h : Es w ao n cap l) :
    Calls Tryd.prog 35 #[.agg #[.int .i64 b, .int .i64 t, .slice ao n cap]] w fun e w' => e = .returned (.bool (decide (May ⟨b, t, l⟩))) ∧ Below w.heap.size w w' := by
  obtain ⟨k1, k2, k3⟩ := may_dec (b := b) (t := t) h.1
  have HE := hide h
  have HB0 : Hid (Below w.heap.size w (w.alloc (.cells #[.int .i64 b, .int .i64 t, .slice ao n cap] 25))) := (Below.refl _ _).alloc (Nat.le_refl _) _
  obtain ⟨d, hd⟩ : ∃ d, d = decide (May ⟨b, t, l⟩) := ⟨_, rfl⟩
  rw [← hd] at k1 k2 k3 ⊢
  by_cases h1 : IsBase b t
  · have HT := hide (decide_eq_true h1)
    by_cases h2 : n ≤ 512
    · have HF : Hid (decide (GoOn b t l) = d) := (k1 h1 h2).symm
      have hb1 : 0 ≤ b := h1.1
      have hb2 : b ≤ 1099511625728 := h1.2.1
      clear k1 k2 k3 hd h h1
      go_enter Tryd.func35, Tryd.ntmps35
      go_wp2_with fail
      refine (isBase_any b t _).mono ?_
      rintro e w' ⟨rfl, rfl⟩
      rw [unhide HT]
      go_wp2_with fail
      refine (goOn_any b t ao n cap l _ ((unhide HE).below (unhide HB0)) (by omega) (by omega)).mono ?_
      rintro e w2 ⟨rfl, hb⟩
      rw [unhide HF]
      have HB : Hid (Below w.heap.size w w2) := bnx (unhide HB0) hb
      clear hb
      cases d
      · go_wp2
        go_ret
        exact ⟨rfl, unhide HB⟩
      · go_wp2
        go_ret
        exact ⟨rfl, unhide HB⟩
    · have HF : Hid (false = d) := (k3 h2).symm
      clear k1 k2 k3 hd h h1
      go_enter Tryd.func35, Tryd.ntmps35
      go_wp2_with fail
      refine (isBase_any b t _).mono ?_
      rintro e w' ⟨rfl, rfl⟩
      rw [unhide HT]
      go_wp2
      go_ret
      exact ⟨ret_bool (unhide HF), unhide HB0⟩
  · have HT := hide (decide_eq_false h1)
    have HF : Hid (false = d) := (k2 h1).symm
    clear k1 k2 k3 hd h h1
    go_enter Tryd.func35, Tryd.ntmps35
    go_wp2_with fail
    refine (isBase_any b t _).mono ?_
    rintro e w' ⟨rfl, rfl⟩
    rw [unhide HT]
    go_wp2
    go_ret
    exact ⟨ret_bool (unhide HF), unhide HB0⟩
set_option maxHeartbeats 2000000 in
theorem may_any (b t : Int) (ao : Option Addr) (n cap : Nat) (l : List En) (w : World) (h : Es w ao n cap l) :
    Calls Tryd.prog 8 #[.agg #[.int .i64 b, .int .i64 t, .slice ao n cap]] w fun e w' => e = .returned (.bool (decide (May ⟨b, t, l⟩))) ∧ Below w.heap.size w w' := by
  obtain ⟨k1, k2, k3⟩ := may_dec (b := b) (t := t) h.1
  have HE := hide h
  have HB0 : Hid (Below w.heap.size w (w.alloc (.cells #[.int .i64 b, .int .i64 t, .slice ao n cap] 25))) := (Below.refl _ _).alloc (Nat.le_refl _) _
  obtain ⟨d, hd⟩ : ∃ d, d = decide (May ⟨b, t, l⟩) := ⟨_, rfl⟩
  rw [← hd] at k1 k2 k3 ⊢
  by_cases c1 : 0 ≤ b
  · by_cases c2 : b ≤ 1099511625728
    · by_cases c3 : 0 ≤ t
      · by_cases c4 : t < 1099511627776
        · have h1 : IsBase b t := ⟨c1, c2, c3, c4⟩
          by_cases h2 : n ≤ 512
          · have HF : Hid (decide (GoOn b t l) = d) := (k1 h1 h2).symm
            clear k1 k2 k3 hd h h1
            go_enter Tryd.func8, Tryd.ntmps8
            go_wp2_with fail
            refine (runs_any b t ao n cap l _ ((unhide HE).below (unhide HB0)) (by omega) (by omega)).mono ?_
            rintro e w2 ⟨rfl, hb⟩
            rw [unhide HF]
            have HB : Hid (Below w.heap.size w w2) := bnx (unhide HB0) hb
            clear hb
            cases d
            · go_wp2
              go_ret
              exact ⟨rfl, unhide HB⟩
            · go_wp2
              go_ret
              exact ⟨rfl, unhide HB⟩
          · have HF : Hid (false = d) := (k3 h2).symm
            clear k1 k2 k3 hd h h1
            go_enter Tryd.func8, Tryd.ntmps8
            go_wp2
            go_ret
            exact ⟨ret_bool (unhide HF), unhide HB0⟩
        · have HF : Hid (false = d) := (k2 (fun h => c4 h.2.2.2)).symm
          clear k1 k2 k3 hd h
          go_enter Tryd.func8, Tryd.ntmps8
          go_wp2
          go_ret
          exact ⟨ret_bool (unhide HF), unhide HB0⟩
      · have HF : Hid (false = d) := (k2 (fun h => c3 h.2.2.1)).symm
        clear k1 k2 k3 hd h
        go_enter Tryd.func8, Tryd.ntmps8
        go_wp2
        go_ret
        exact ⟨ret_bool (unhide HF), unhide HB0⟩
    · have HF : Hid (false = d) := (k2 (fun h => c2 h.2.1)).symm
      clear k1 k2 k3 hd h
      go_enter Tryd.func8, Tryd.ntmps8
      go_wp2
      go_ret
      exact ⟨ret_bool (unhide HF), unhide HB0⟩
  · have HF : Hid (false = d) := (k2 (fun h => c1 h.1)).symm
    clear k1 k2 k3 hd h
    go_enter Tryd.func8, Tryd.ntmps8
    go_wp2
    go_ret
    exact ⟨ret_bool (unhide HF), unhide HB0⟩
end Go.Proofs.YtcffbkgkdoaplaaDoor.Et
