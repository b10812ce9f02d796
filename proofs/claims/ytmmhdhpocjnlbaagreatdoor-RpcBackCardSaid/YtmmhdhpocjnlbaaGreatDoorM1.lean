/- Proved here: helpers, one text behind the other. -/
import Derived.Test.YtmmhdhpocjnlbaaGreatDoorZEPl
import Derived.Test.YtmmhdhpocjnlbaaGreatDoorZECi
/- Proved here: the contracts of entries.isTerm, isBase, isEntry and of dovecoteref15.MayEntry: which may be. Helper contracts. -/
namespace Go.Proofs.YtmmhdhpocjnlbaaGreatDoor.Et
open Go.RowKit Nt
set_option maxRecDepth 100000

theorem ret_b {a b : Bool} {w w' : World} (h : a = b) (hw : Below w.heap.size w w') : Ending.returned (.bool a) = .returned (.bool b) ∧ Below w.heap.size w w' := ⟨by rw [h], hw⟩
theorem isTerm_any (n : Int) (w : World) : Calls Tryz.prog 61 #[.int .i64 n] w fun e w' => e = .returned (.bool (decide (IsTerm n))) ∧ w' = w := by
  by_cases h1 : 0 ≤ n
  · by_cases h2 : n < 1099511627776
    · rw [decide_eq_true (p := IsTerm n) ⟨h1, h2⟩]
      go_enter Tryz.func61, Tryz.ntmps61
      go_wp2
      go_ret
      exact ⟨rfl, rfl⟩
    · rw [decide_eq_false (p := IsTerm n) (fun h => h2 h.2)]
      go_enter Tryz.func61, Tryz.ntmps61
      go_wp2
      go_ret
      exact ⟨rfl, rfl⟩
  · rw [decide_eq_false (p := IsTerm n) (fun h => h1 h.1)]
    go_enter Tryz.func61, Tryz.ntmps61
    go_wp2
    go_ret
    exact ⟨rfl, rfl⟩
theorem isBase_any (i t : Int) (w : World) : Calls Tryz.prog 80 #[.int .i64 i, .int .i64 t] w fun e w' => e = .returned (.bool (decide (IsBase i t))) ∧ w' = w := by
  by_cases h1 : 0 ≤ i
  · by_cases h2 : i ≤ 1099511625728
    · have e : decide (IsBase i t) = decide (IsTerm t) := decide_eq_decide.2 ⟨fun h => h.2.2, fun h => ⟨h1, h2, h⟩⟩
      rw [e]
      by_cases ht : IsTerm t
      · have HT := hide (decide_eq_true ht)
        rw [unhide HT]
        clear ht e
        go_enter Tryz.func80, Tryz.ntmps80
        go_wp2_with fail
        refine (isTerm_any t w).mono ?_
        rintro e w' ⟨rfl, rfl⟩
        rw [unhide HT]
        go_wp2
        go_ret
        exact ⟨rfl, rfl⟩
      · have HT := hide (decide_eq_false ht)
        rw [unhide HT]
        clear ht e
        go_enter Tryz.func80, Tryz.ntmps80
        go_wp2_with fail
        refine (isTerm_any t w).mono ?_
        rintro e w' ⟨rfl, rfl⟩
        rw [unhide HT]
        go_wp2
        go_ret
        exact ⟨rfl, rfl⟩
    · rw [decide_eq_false (p := IsBase i t) (fun h => h2 h.2.1)]
      go_enter Tryz.func80, Tryz.ntmps80
      go_wp2
      go_ret
      exact ⟨rfl, rfl⟩
  · rw [decide_eq_false (p := IsBase i t) (fun h => h1 h.1)]
    go_enter Tryz.func80, Tryz.ntmps80
    go_wp2
    go_ret
    exact ⟨rfl, rfl⟩
set_option maxHeartbeats 2000000 in
theorem isEntry_any (i t k : Int) (s : ByteArray) (w : World) : Calls Tryz.prog 74 #[.agg #[.int .i64 i, .int .i64 t, .int .i64 k, .string s]] w fun e w' => e = .returned (.bool (decide (OkE (i, t, k, s)))) ∧ Below w.heap.size w w' := by
  by_cases h1 : 1 ≤ i
  · by_cases h2 : i ≤ 1099511627776
    · by_cases h3 : 0 ≤ t
      · by_cases h4 : t < 1099511627776
        · by_cases h5 : 0 ≤ k
          · by_cases h6 : k ≤ 2
            · by_cases h7 : s.size ≤ 4096
              · rw [decide_eq_true (p := OkE (i, t, k, s)) ⟨h1, h2, ⟨h3, h4⟩, h5, h6, h7⟩]
                have HT := hide (decide_eq_true (p := IsTerm t) ⟨h3, h4⟩)
                have h7d : decide ((s.size : Int) ≤ 4096) = true := decide_eq_true (by omega)
                go_enter Tryz.func74, Tryz.ntmps74
                go_wp2_with fail
                refine (isTerm_any t _).mono ?_
                rintro e w' ⟨rfl, rfl⟩
                rw [unhide HT]
                go_wp2
                go_ret
                exact ⟨rfl, (Below.refl _ _).alloc (Nat.le_refl _) _⟩
              · rw [decide_eq_false (p := OkE (i, t, k, s)) (fun h => h7 h.2.2.2.2.2)]
                have HT := hide (decide_eq_true (p := IsTerm t) ⟨h3, h4⟩)
                have h7d : decide ((s.size : Int) ≤ 4096) = false := decide_eq_false (by omega)
                go_enter Tryz.func74, Tryz.ntmps74
                go_wp2_with fail
                refine (isTerm_any t _).mono ?_
                rintro e w' ⟨rfl, rfl⟩
                rw [unhide HT]
                go_wp2
                go_ret
                exact ⟨rfl, (Below.refl _ _).alloc (Nat.le_refl _) _⟩
            · rw [decide_eq_false (p := OkE (i, t, k, s)) (fun h => h6 h.2.2.2.2.1)]
              have HT := hide (decide_eq_true (p := IsTerm t) ⟨h3, h4⟩)
              go_enter Tryz.func74, Tryz.ntmps74
              go_wp2_with fail
              refine (isTerm_any t _).mono ?_
              rintro e w' ⟨rfl, rfl⟩
              rw [unhide HT]
              go_wp2
              go_ret
              exact ⟨rfl, (Below.refl _ _).alloc (Nat.le_refl _) _⟩
          · rw [decide_eq_false (p := OkE (i, t, k, s)) (fun h => h5 h.2.2.2.1)]
            have HT := hide (decide_eq_true (p := IsTerm t) ⟨h3, h4⟩)
            go_enter Tryz.func74, Tryz.ntmps74
            go_wp2_with fail
            refine (isTerm_any t _).mono ?_
            rintro e w' ⟨rfl, rfl⟩
            rw [unhide HT]
            go_wp2
            go_ret
            exact ⟨rfl, (Below.refl _ _).alloc (Nat.le_refl _) _⟩
        · rw [decide_eq_false (p := OkE (i, t, k, s)) (fun h => h4 h.2.2.1.2)]
          have HT := hide (decide_eq_false (p := IsTerm t) (fun h => h4 h.2))
          go_enter Tryz.func74, Tryz.ntmps74
          go_wp2_with fail
          refine (isTerm_any t _).mono ?_
          rintro e w' ⟨rfl, rfl⟩
          rw [unhide HT]
          go_wp2
          go_ret
          exact ⟨rfl, (Below.refl _ _).alloc (Nat.le_refl _) _⟩
      · rw [decide_eq_false (p := OkE (i, t, k, s)) (fun h => h3 h.2.2.1.1)]
        have HT := hide (decide_eq_false (p := IsTerm t) (fun h => h3 h.1))
        go_enter Tryz.func74, Tryz.ntmps74
        go_wp2_with fail
        refine (isTerm_any t _).mono ?_
        rintro e w' ⟨rfl, rfl⟩
        rw [unhide HT]
        go_wp2
        go_ret
        exact ⟨rfl, (Below.refl _ _).alloc (Nat.le_refl _) _⟩
    · rw [decide_eq_false (p := OkE (i, t, k, s)) (fun h => h2 h.2.1)]
      go_enter Tryz.func74, Tryz.ntmps74
      go_wp2
      go_ret
      exact ⟨rfl, (Below.refl _ _).alloc (Nat.le_refl _) _⟩
  · rw [decide_eq_false (p := OkE (i, t, k, s)) (fun h => h1 h.1)]
    go_enter Tryz.func74, Tryz.ntmps74
    go_wp2
    go_ret
    exact ⟨rfl, (Below.refl _ _).alloc (Nat.le_refl _) _⟩
set_option maxHeartbeats 2000000 in
theorem mayE_any (i t k : Int) (s : ByteArray) (w : World) : Calls Tryz.prog 31 #[.agg #[.int .i64 i, .int .i64 t, .int .i64 k, .string s]] w fun e w' => e = .returned (.bool (decide (OkE (i, t, k, s)))) ∧ Below w.heap.size w w' := by
  by_cases h1 : 1 ≤ i
  · by_cases h2 : i ≤ 1099511627776
    · by_cases h3 : 0 ≤ t
      · by_cases h4 : t < 1099511627776
        · by_cases h5 : 0 ≤ k
          · by_cases h6 : k ≤ 2
            · by_cases h7 : s.size ≤ 4096
              · rw [decide_eq_true (p := OkE (i, t, k, s)) ⟨h1, h2, ⟨h3, h4⟩, h5, h6, h7⟩]
                have h7d : decide ((s.size : Int) ≤ 4096) = true := decide_eq_true (by omega)
                go_enter Tryz.func31, Tryz.ntmps31
                go_wp2
                go_ret
                exact ⟨rfl, (Below.refl _ _).alloc (Nat.le_refl _) _⟩
              · rw [decide_eq_false (p := OkE (i, t, k, s)) (fun h => h7 h.2.2.2.2.2)]
                have h7d : decide ((s.size : Int) ≤ 4096) = false := decide_eq_false (by omega)
                go_enter Tryz.func31, Tryz.ntmps31
                go_wp2
                go_ret
                exact ⟨rfl, (Below.refl _ _).alloc (Nat.le_refl _) _⟩
            · rw [decide_eq_false (p := OkE (i, t, k, s)) (fun h => h6 h.2.2.2.2.1)]
              go_enter Tryz.func31, Tryz.ntmps31
              go_wp2
              go_ret
              exact ⟨rfl, (Below.refl _ _).alloc (Nat.le_refl _) _⟩
          · rw [decide_eq_false (p := OkE (i, t, k, s)) (fun h => h5 h.2.2.2.1)]
            go_enter Tryz.func31, Tryz.ntmps31
            go_wp2
            go_ret
            exact ⟨rfl, (Below.refl _ _).alloc (Nat.le_refl _) _⟩
        · rw [decide_eq_false (p := OkE (i, t, k, s)) (fun h => h4 h.2.2.1.2)]
          go_enter Tryz.func31, Tryz.ntmps31
          go_wp2
          go_ret
          exact ⟨rfl, (Below.refl _ _).alloc (Nat.le_refl _) _⟩
      · rw [decide_eq_false (p := OkE (i, t, k, s)) (fun h => h3 h.2.2.1.1)]
        go_enter Tryz.func31, Tryz.ntmps31
        go_wp2
        go_ret
        exact ⟨rfl, (Below.refl _ _).alloc (Nat.le_refl _) _⟩
    · rw [decide_eq_false (p := OkE (i, t, k, s)) (fun h => h2 h.2.1)]
      go_enter Tryz.func31, Tryz.ntmps31
      go_wp2
      go_ret
      exact ⟨rfl, (Below.refl _ _).alloc (Nat.le_refl _) _⟩
  · rw [decide_eq_false (p := OkE (i, t, k, s)) (fun h => h1 h.1)]
    go_enter Tryz.func31, Tryz.ntmps31
    go_wp2
    go_ret
    exact ⟨rfl, (Below.refl _ _).alloc (Nat.le_refl _) _⟩
end Go.Proofs.YtmmhdhpocjnlbaaGreatDoor.Et
/- Proved here: entries.goOn: whether entries go on behind an index and a term. Helper contracts. -/
namespace Go.Proofs.YtmmhdhpocjnlbaaGreatDoor.Et
open Go.RowKit Nt
set_option maxRecDepth 100000

/-- a list of entries in memory, as a slice of n that may hold cap -/
def Es (w : World) (ao : Option Addr) (n cap : Nat) (l : List En) : Prop := l.length = n ∧ n ≤ cap ∧ (cap ≤ maxLen ∧ (ao = none → cap = 0)) ∧ n ≤ 3518437208780 ∧ (n = 0 ∨ ∃ b off, ao = some ⟨b, off, none⟩ ∧ EnAt w b off l)
theorem Es.below {w w' : World} {ao : Option Addr} {n cap : Nat} {l : List En} (h : Es w ao n cap l) (hb : Below w.heap.size w w') : Es w' ao n cap l := by
  obtain ⟨h1, h2, h3, h4, h5⟩ := h
  refine ⟨h1, h2, h3, h4, ?_⟩
  rcases h5 with h5 | ⟨b, off, e, hc⟩
  · exact .inl h5
  · exact .inr ⟨b, off, e, hc.below hb⟩
theorem Es.ens {w : World} {ao : Option Addr} {n cap : Nat} {l : List En} (h : Es w ao n cap l) : Ens w (.slice ao n cap) l := by
  obtain ⟨h1, h2, h3, h4, h5⟩ := h
  refine ⟨ao, cap, by rw [h1], ?_⟩
  rcases h5 with h5 | h5
  · exact .inl (List.length_eq_zero_iff.1 (h1.trans h5))
  · exact .inr h5
theorem goOn_step {i t : Int} {l : List En} {k : Nat} (h : ∀ j, j < k → GoAt i t l j) (h2 : GoAt i t l k) : ∀ j, j < k + 1 → GoAt i t l j := fun j hj => by
  rcases Nat.lt_succ_iff_lt_or_eq.1 hj with h3 | h3
  · exact h j h3
  · rw [h3]; exact h2
set_option maxHeartbeats 4000000 in
theorem goOn_core (i0 t0 : Int) (b off cap : Nat) (l : List En) (n : Nat) (w : World) (hn : l.length = n) (hmx : n ≤ 3518437208780) (hi : 0 ≤ i0) (hi2 : i0 ≤ 1099511628800) (hl : EnAt w b off l) :
    Calls Tryz.prog 62 #[.int .i64 i0, .int .i64 t0, .slice (some ⟨b, off, none⟩) n cap] w fun e w' => e = .returned (.bool (decide (GoOn i0 t0 l))) ∧ Below w.heap.size w w' := by
  have HL := hide hl
  have HN := hide hn
  clear hl hn
  obtain ⟨d, hd⟩ : ∃ d, d = decide (GoOn i0 t0 l) := ⟨_, rfl⟩
  have HD := hide hd
  rw [← hd]
  clear hd
  go_enter Tryz.func62, Tryz.ntmps62
  go_wp2
  go_loopw [0, 1, 11] (fun ix tm ii wr => ∃ k : Nat, k ≤ n ∧ ii = .int .i64 k ∧ ix = .int .i64 (i0 + (k : Int)) ∧ tm = .int .i64 (tmB t0 l k) ∧ Hid (∀ j, j < k → GoAt i0 t0 l j) ∧ Hid (Below w.heap.size w wr)) (fun _ _ ii _ => n - (intOf ii).toNat)
  case atStart => exact ⟨0, Nat.zero_le _, rfl, by simp, rfl, fun j hj => absurd hj (Nat.not_lt_zero j), Below.refl _ _⟩
  case round =>
    obtain ⟨k, hk, rfl, rfl, rfl, HALL, HB⟩ := hrel
    generalize htm : tmB t0 l k = tm
    have HTM := hide htm
    clear htm
    by_cases hlt : k < n
    · obtain ⟨h0, h1, h2, h3⟩ := ((unhide HL).below (unhide HB)) k (by rw [unhide HN]; exact hlt)
      have HT1 : Hid (tmB t0 l (k + 1) = (en0 l k).2.1) := rfl
      obtain ⟨x, y, z, s, hp⟩ : ∃ x y z s, en0 l k = (x, y, z, s) := ⟨_, _, _, _, rfl⟩
      rw [hp] at h0 h1 h2 h3 HT1
      simp only at h0 h1 h2 h3 HT1
      have HP := hide hp
      have hsz := (unhide HB).size
      clear hp
      have HNO : Hid (¬ GoAt i0 t0 l k → false = d) := fun hh => ((unhide HD).trans (decide_eq_false (fun hg => hh (hg k (by rw [unhide HN]; exact hlt))))).symm
      have HGA : Hid (GoAt i0 t0 l k ↔ x = i0 + 1 + (k : Int) ∧ tm ≤ y ∧ OkE (x, y, z, s)) := by
        show _ ↔ _
        unfold GoAt
        rw [unhide HP, unhide HTM]
      by_cases e1 : x = i0 + (k : Int) + 1
      · subst e1
        by_cases e2 : y < tm
        · have HF : Hid (false = d) := unhide HNO (fun h => by have := ((unhide HGA).1 h).2.1; omega)
          go_wp2
          go_ret
          exact ⟨ret_bool (unhide HF), (unhide HB).alloc hsz _⟩
        · by_cases e3 : OkE (i0 + (k : Int) + 1, y, z, s)
          · have HG2 : Hid (∀ j, j < k + 1 → GoAt i0 t0 l j) := goOn_step (unhide HALL) ((unhide HGA).2 ⟨by omega, by omega, e3⟩)
            have HE3 := hide (decide_eq_true e3)
            clear HNO HGA e3
            go_wp2_with fail
            refine (isEntry_any _ y z s _).mono ?_
            rintro e w2 ⟨rfl, hb2⟩
            rw [unhide HE3]
            have HB2 : Hid (Below w.heap.size w w2) := bnx ((unhide HB).alloc hsz _) hb2
            have hw1 : wr.heap.size < w2.heap.size := by have := hb2.size; simp at this; omega
            have c1 : w2.cell? ⟨wr.heap.size, 1, none⟩ = some (.int .i64 y) := (hb2.cell (by simp)).trans (by simp)
            clear hb2
            go_wp2
            go_roundw
            case rel => exact ⟨k + 1, by omega, by go_num, by go_num, by rw [unhide HT1], HG2, HB2⟩
            case measure => simp [intOf]; omega
          · have HE3 := hide (decide_eq_false e3)
            have HF : Hid (false = d) := unhide HNO (fun h => e3 ((unhide HGA).1 h).2.2)
            clear HNO HGA e3
            go_wp2_with fail
            refine (isEntry_any _ y z s _).mono ?_
            rintro e w2 ⟨rfl, hb2⟩
            rw [unhide HE3]
            have HB2 : Hid (Below w.heap.size w w2) := bnx ((unhide HB).alloc hsz _) hb2
            clear hb2
            go_wp2
            go_ret
            exact ⟨ret_bool (unhide HF), unhide HB2⟩
      · have HF : Hid (false = d) := unhide HNO (fun h => by have := ((unhide HGA).1 h).1; omega)
        go_wp2
        go_ret
        exact ⟨ret_bool (unhide HF), (unhide HB).alloc hsz _⟩
    · obtain rfl : k = n := by omega
      have HF : Hid (true = d) := by
        show _ = _
        rw [unhide HD]
        exact (decide_eq_true (p := GoOn i0 t0 l) (fun j hj => unhide HALL j (by rw [← unhide HN]; exact hj))).symm
      go_wp2
      go_ret
      exact ⟨ret_bool (unhide HF), unhide HB⟩
theorem goOn_nil0 (i0 t0 : Int) (ao : Option Addr) (cap : Nat) (w : World) : Calls Tryz.prog 62 #[.int .i64 i0, .int .i64 t0, .slice ao 0 cap] w fun e w' => e = .returned (.bool true) ∧ w' = w := by
  go_enter Tryz.func62, Tryz.ntmps62
  go_wp2
  refine wp_loop_rounds 1 ?_
  rw [rounds_succ]
  go_wp2
  go_ret
  exact ⟨rfl, rfl⟩
theorem goOn_any (i0 t0 : Int) (ao : Option Addr) (n cap : Nat) (l : List En) (w : World) (h : Es w ao n cap l) (hi : 0 ≤ i0) (hi2 : i0 ≤ 1099511628800) :
    Calls Tryz.prog 62 #[.int .i64 i0, .int .i64 t0, .slice ao n cap] w fun e w' => e = .returned (.bool (decide (GoOn i0 t0 l))) ∧ Below w.heap.size w w' := by
  obtain ⟨h1, h2, h3, h4, h5⟩ := h
  rcases h5 with rfl | ⟨b, off, rfl, hc⟩
  · refine (goOn_nil0 i0 t0 ao cap w).mono ?_
    rintro e w' ⟨rfl, rfl⟩
    have hl : l = [] := List.length_eq_zero_iff.1 h1
    subst hl
    exact ⟨ret_bool (decide_eq_true (goOn_nil i0 t0)).symm, Below.refl _ _⟩
  · exact goOn_core i0 t0 b off cap l n w h1 h4 hi hi2 hc
end Go.Proofs.YtmmhdhpocjnlbaaGreatDoor.Et
/- Proved here: dovecoteref15.Runs: whether entries go on behind an index and a term. Helper contracts. -/
namespace Go.Proofs.YtmmhdhpocjnlbaaGreatDoor.Et
open Go.RowKit Nt
set_option maxRecDepth 100000

set_option maxHeartbeats 4000000 in
theorem runs_core (i0 t0 : Int) (b off cap : Nat) (l : List En) (n : Nat) (w : World) (hn : l.length = n) (hmx : n ≤ 3518437208780) (hi : 0 ≤ i0) (hi2 : i0 ≤ 1099511628800) (hl : EnAt w b off l) :
    Calls Tryz.prog 19 #[.slice (some ⟨b, off, none⟩) n cap, .int .i64 i0, .int .i64 t0] w fun e w' => e = .returned (.bool (decide (GoOn i0 t0 l))) ∧ Below w.heap.size w w' := by
  have HL := hide hl
  have HN := hide hn
  clear hl hn
  obtain ⟨d, hd⟩ : ∃ d, d = decide (GoOn i0 t0 l) := ⟨_, rfl⟩
  have HD := hide hd
  rw [← hd]
  clear hd
  go_enter Tryz.func19, Tryz.ntmps19
  go_wp2
  go_loopw [2, 7] (fun tm ii wr => ∃ k : Nat, k ≤ n ∧ ii = .int .i64 k ∧ tm = .int .i64 (tmB t0 l k) ∧ Hid (∀ j, j < k → GoAt i0 t0 l j) ∧ Hid (Below w.heap.size w wr)) (fun _ ii _ => n - (intOf ii).toNat)
  case atStart => exact ⟨0, Nat.zero_le _, rfl, rfl, fun j hj => absurd hj (Nat.not_lt_zero j), Below.refl _ _⟩
  case round =>
    obtain ⟨k, hk, rfl, rfl, HALL, HB⟩ := hrel
    generalize htm : tmB t0 l k = tm
    have HTM := hide htm
    clear htm
    by_cases hlt : k < n
    · obtain ⟨h0, h1, h2, h3⟩ := ((unhide HL).below (unhide HB)) k (by rw [unhide HN]; exact hlt)
      have HT1 : Hid (tmB t0 l (k + 1) = (en0 l k).2.1) := rfl
      obtain ⟨x, y, z, s, hp⟩ : ∃ x y z s, en0 l k = (x, y, z, s) := ⟨_, _, _, _, rfl⟩
      rw [hp] at h0 h1 h2 h3 HT1
      simp only at h0 h1 h2 h3 HT1
      have HP := hide hp
      have hsz := (unhide HB).size
      clear hp
      have HNO : Hid (¬ GoAt i0 t0 l k → false = d) := fun hh => ((unhide HD).trans (decide_eq_false (fun hg => hh (hg k (by rw [unhide HN]; exact hlt))))).symm
      have HGA : Hid (GoAt i0 t0 l k ↔ x = i0 + 1 + (k : Int) ∧ tm ≤ y ∧ OkE (x, y, z, s)) := by
        show _ ↔ _
        unfold GoAt
        rw [unhide HP, unhide HTM]
      by_cases e3 : OkE (x, y, z, s)
      · have HE3 := hide (decide_eq_true e3)
        have HE4 := hide e3
        clear e3
        go_wp2_with fail
        refine (mayE_any x y z s _).mono ?_
        rintro e w2 ⟨rfl, hb2⟩
        rw [unhide HE3]
        have HB2 : Hid (Below w.heap.size w w2) := bnx (unhide HB) hb2
        replace h0 := (hb2.cell (p := ⟨b, off + k * 4, none⟩) (cell_lt h0)).trans h0
        replace h1 := (hb2.cell (p := ⟨b, off + k * 4 + 1, none⟩) (cell_lt h1)).trans h1
        clear hb2 h2 h3 HE3
        by_cases e1 : x = i0 + 1 + (k : Int)
        · by_cases e2 : y < tm
          · have HF : Hid (false = d) := unhide HNO (fun h => by have := ((unhide HGA).1 h).2.1; omega)
            clear HGA HE4 HNO HP
            subst e1
            go_wp2
            go_ret
            exact ⟨ret_bool (unhide HF), unhide HB2⟩
          · have HG2 : Hid (∀ j, j < k + 1 → GoAt i0 t0 l j) := goOn_step (unhide HALL) ((unhide HGA).2 ⟨by omega, by omega, unhide HE4⟩)
            clear HNO HGA HE4 HP
            subst e1
            go_wp2
            go_roundw
            case rel => exact ⟨k + 1, by omega, by go_num, by rw [unhide HT1], HG2, HB2⟩
            case measure => simp [intOf]; omega
        · have HF : Hid (false = d) := unhide HNO (fun h => by have := ((unhide HGA).1 h).1; omega)
          clear HGA HE4 HNO HP
          go_wp2
          go_ret
          exact ⟨ret_bool (unhide HF), unhide HB2⟩
      · have HE3 := hide (decide_eq_false e3)
        have HF : Hid (false = d) := unhide HNO (fun h => e3 ((unhide HGA).1 h).2.2)
        clear e3 HGA HNO HP
        go_wp2_with fail
        refine (mayE_any x y z s _).mono ?_
        rintro e w2 ⟨rfl, hb2⟩
        rw [unhide HE3]
        have HB2 : Hid (Below w.heap.size w w2) := bnx (unhide HB) hb2
        clear hb2
        go_wp2
        go_ret
        exact ⟨ret_bool (unhide HF), unhide HB2⟩
    · obtain rfl : k = n := by omega
      have HF : Hid (true = d) := by
        show _ = _
        rw [unhide HD]
        exact (decide_eq_true (p := GoOn i0 t0 l) (fun j hj => unhide HALL j (by rw [← unhide HN]; exact hj))).symm
      go_wp2
      go_ret
      exact ⟨ret_bool (unhide HF), unhide HB⟩
theorem runs_nil0 (i0 t0 : Int) (ao : Option Addr) (cap : Nat) (w : World) : Calls Tryz.prog 19 #[.slice ao 0 cap, .int .i64 i0, .int .i64 t0] w fun e w' => e = .returned (.bool true) ∧ w' = w := by
  go_enter Tryz.func19, Tryz.ntmps19
  go_wp2
  refine wp_loop_rounds 1 ?_
  rw [rounds_succ]
  go_wp2
  go_ret
  exact ⟨rfl, rfl⟩
theorem runs_any (i0 t0 : Int) (ao : Option Addr) (n cap : Nat) (l : List En) (w : World) (h : Es w ao n cap l) (hi : 0 ≤ i0) (hi2 : i0 ≤ 1099511628800) :
    Calls Tryz.prog 19 #[.slice ao n cap, .int .i64 i0, .int .i64 t0] w fun e w' => e = .returned (.bool (decide (GoOn i0 t0 l))) ∧ Below w.heap.size w w' := by
  obtain ⟨h1, h2, h3, h4, h5⟩ := h
  rcases h5 with rfl | ⟨b, off, rfl, hc⟩
  · refine (runs_nil0 i0 t0 ao cap w).mono ?_
    rintro e w' ⟨rfl, rfl⟩
    have hl : l = [] := List.length_eq_zero_iff.1 h1
    subst hl
    exact ⟨ret_bool (decide_eq_true (goOn_nil i0 t0)).symm, Below.refl _ _⟩
  · exact runs_core i0 t0 b off cap l n w h1 h4 hi hi2 hc
end Go.Proofs.YtmmhdhpocjnlbaaGreatDoor.Et
/- Proved here: entries.isLog and last, dovecoteref15.May and Last: which logs may be, and where they end. Helper contracts. -/
namespace Go.Proofs.YtmmhdhpocjnlbaaGreatDoor.Et
open Go.RowKit Nt
set_option maxRecDepth 100000

/-- a log as a value -/
def lgv (b t : Int) (ao : Option Addr) (n cap : Nat) : Value := .agg #[.int .i64 b, .int .i64 t, .slice ao n cap]
theorem may_dec {b t : Int} {l : List En} {n : Nat} (hn : l.length = n) : (IsBase b t → n ≤ 512 → decide (May ⟨b, t, l⟩) = decide (GoOn b t l)) ∧ (¬ IsBase b t → decide (May ⟨b, t, l⟩) = false) ∧ (¬ n ≤ 512 → decide (May ⟨b, t, l⟩) = false) := by
  subst hn
  exact ⟨fun h1 h2 => decide_eq_decide.2 ⟨fun h => h.2.2, fun h => ⟨h1, h2, h⟩⟩, fun h1 => decide_eq_false (fun h => h1 h.1), fun h2 => decide_eq_false (fun h => h2 h.2.1)⟩
set_option maxHeartbeats 2000000 in
theorem isLog_any (b t : Int) (ao : Option Addr) (n cap : Nat) (l : List En) (w : World) (h : Es w ao n cap l) :
    Calls Tryz.prog 73 #[.agg #[.int .i64 b, .int .i64 t, .slice ao n cap]] w fun e w' => e = .returned (.bool (decide (May ⟨b, t, l⟩))) ∧ Below w.heap.size w w' := by
  obtain ⟨k1, k2, k3⟩ := may_dec (b := b) (t := t) h.1
  have HE := hide h
  have HB0 : Hid (Below w.heap.size w (w.alloc (.cells #[.int .i64 b, .int .i64 t, .slice ao n cap] 85))) := (Below.refl _ _).alloc (Nat.le_refl _) _
  obtain ⟨d, hd⟩ : ∃ d, d = decide (May ⟨b, t, l⟩) := ⟨_, rfl⟩
  rw [← hd] at k1 k2 k3 ⊢
  by_cases h1 : IsBase b t
  · have HT := hide (decide_eq_true h1)
    by_cases h2 : n ≤ 512
    · have HF : Hid (decide (GoOn b t l) = d) := (k1 h1 h2).symm
      have hb1 : 0 ≤ b := h1.1
      have hb2 : b ≤ 1099511625728 := h1.2.1
      clear k1 k2 k3 hd h h1
      go_enter Tryz.func73, Tryz.ntmps73
      go_wp2_with fail
      refine (isBase_any b t _).mono ?_
      rintro e w' ⟨rfl, rfl⟩
      rw [unhide HT]
      go_wp2_with fail
      refine (goOn_any b t ao n cap l _ ((unhide HE).below (unhide HB0)) (by omega) (by omega)).mono ?_
      rintro e w2 ⟨rfl, hb⟩
      rw [unhide HF]
      have HB : Hid (Below w.heap.size w w2) := bnx (unhide HB0) hb
      clear hb
      cases d
      · go_wp2
        go_ret
        exact ⟨rfl, unhide HB⟩
      · go_wp2
        go_ret
        exact ⟨rfl, unhide HB⟩
    · have HF : Hid (false = d) := (k3 h2).symm
      clear k1 k2 k3 hd h h1
      go_enter Tryz.func73, Tryz.ntmps73
      go_wp2_with fail
      refine (isBase_any b t _).mono ?_
      rintro e w' ⟨rfl, rfl⟩
      rw [unhide HT]
      go_wp2
      go_ret
      exact ⟨ret_bool (unhide HF), unhide HB0⟩
  · have HT := hide (decide_eq_false h1)
    have HF : Hid (false = d) := (k2 h1).symm
    clear k1 k2 k3 hd h h1
    go_enter Tryz.func73, Tryz.ntmps73
    go_wp2_with fail
    refine (isBase_any b t _).mono ?_
    rintro e w' ⟨rfl, rfl⟩
    rw [unhide HT]
    go_wp2
    go_ret
    exact ⟨ret_bool (unhide HF), unhide HB0⟩
end Go.Proofs.YtmmhdhpocjnlbaaGreatDoor.Et
/- Proved here: entries.last and dovecoteref15.Last: where a log that may be ends. Helper contracts. -/
namespace Go.Proofs.YtmmhdhpocjnlbaaGreatDoor.Et
open Go.RowKit Nt
set_option maxRecDepth 100000

theorem tup2 {a b a' b' : Int} (h : a = a') (h2 : b = b') : Ending.returned (.tuple #[.int .i64 a, .int .i64 b]) = .returned (.tuple #[.int .i64 a', .int .i64 b']) := by rw [h, h2]
theorem drew_below {w w1 : World} (h : Below w.heap.size w w1) (k : Nat) : Below w.heap.size w (w1.drewN k) := below_drewN h k
set_option maxHeartbeats 2000000 in
theorem last_any (b t : Int) (ao : Option Addr) (n cap : Nat) (l : List En) (w : World) (h : Es w ao n cap l) (hm : May ⟨b, t, l⟩) :
    Calls Tryz.prog 81 #[.agg #[.int .i64 b, .int .i64 t, .slice ao n cap]] w fun e w' => e = .returned (.tuple #[.int .i64 (lastI ⟨b, t, l⟩), .int .i64 (lastT ⟨b, t, l⟩)]) ∧ Below w.heap.size w w' := by
  have HB0 : Hid (Below w.heap.size w (w.alloc (.cells #[.int .i64 b, .int .i64 t, .slice ao n cap] 85))) := (Below.refl _ _).alloc (Nat.le_refl _) _
  obtain ⟨h1, h2, h3, h4, h5⟩ := h
  rcases h5 with rfl | ⟨bb, off, rfl, hc⟩
  · have hl : l = [] := List.length_eq_zero_iff.1 h1
    subst hl
    clear hm h1
    go_enter Tryz.func81, Tryz.ntmps81
    go_wp2
    go_quiet (fail)
    go_wp2
    go_ret2
    exact ⟨tup2 (by simp [lastI]) rfl, drew_below (unhide HB0) _⟩
  · rcases n with _ | m
    · have hl : l = [] := List.length_eq_zero_iff.1 h1
      subst hl
      clear hm h1 hc
      go_enter Tryz.func81, Tryz.ntmps81
      go_wp2
      go_quiet (fail)
      go_wp2
      go_ret2
      exact ⟨tup2 (by simp [lastI]) rfl, drew_below (unhide HB0) _⟩
    · have HI : Hid ((en0 l m).1 = lastI ⟨b, t, l⟩) := by
        show _ = _
        have := hm.idx m (by show m < l.length; omega)
        unfold lastI
        show (en0 l m).1 = b + (l.length : Nat)
        rw [h1]
        have e : (en0 l m).1 = b + 1 + (m : Nat) := this
        omega
      have HT : Hid ((en0 l m).2.1 = lastT ⟨b, t, l⟩) := by
        show _ = _
        unfold lastT
        show (en0 l m).2.1 = tmB t l l.length
        rw [h1]
        rfl
      obtain ⟨c0, c1, _, _⟩ := (hc.below (unhide HB0)) m (by omega)
      have hw : IntKind.i64.wrap (((m + 1 : Nat) : Int) - 1) = (m : Int) := by rw [IntKind.wrap_i64]; omega
      have hmx : m + 1 ≤ 3518437208780 := h4
      generalize (en0 l m).1 = x at c0 HI
      generalize (en0 l m).2.1 = y at c1 HT
      clear hm h1 hc h2 h3 h4
      go_enter Tryz.func81, Tryz.ntmps81
      go_wp2
      go_quiet (fail)
      go_wp2
      go_ret2
      exact ⟨tup2 (unhide HI) (unhide HT), drew_below (unhide HB0) _⟩
end Go.Proofs.YtmmhdhpocjnlbaaGreatDoor.Et
/- Proved here: entries.termAt and dovecoteref15.Term: the term of an index of a log that may be. Helper contracts. -/
namespace Go.Proofs.YtmmhdhpocjnlbaaGreatDoor.Et
open Go.RowKit Nt
set_option maxRecDepth 100000

theorem termAt_none {L : Lo} {i : Int} (h : i < L.b ∨ lastI L < i) : termAt L i = none := if_pos h
theorem termAt_some {L : Lo} {i : Int} (h1 : L.b ≤ i) (h2 : i ≤ lastI L) : termAt L i = some (tmB L.t L.es (i - L.b).toNat) := if_neg (by omega)
/-- what termAt tells of an index -/
def tmRes : Option Int → Value
  | none => .tuple #[.int .i64 0, .iface 61 (.int .i64 8)]
  | some t => .tuple #[.int .i64 t, .nilIface]
def tmRes2 : Option Int → Value
  | none => .tuple #[.int .i64 0, .bool false]
  | some t => .tuple #[.int .i64 t, .bool true]
theorem tmR_some {o : Option Int} {t : Int} (h : o = some t) : Ending.returned (.tuple #[.int .i64 t, .nilIface]) = .returned (tmRes o) := by rw [h]; rfl
theorem tmR2_some {o : Option Int} {t : Int} (h : o = some t) : Ending.returned (.tuple #[.int .i64 t, .bool true]) = .returned (tmRes2 o) := by rw [h]; rfl
theorem tmR_none {o : Option Int} (h : o = none) : Ending.returned (.tuple #[.int .i64 0, .iface 61 (.int .i64 8)]) = .returned (tmRes o) := by rw [h]; rfl
theorem tmR2_none {o : Option Int} (h : o = none) : Ending.returned (.tuple #[.int .i64 0, .bool false]) = .returned (tmRes2 o) := by rw [h]; rfl
set_option maxHeartbeats 4000000 in
theorem termAt_any (b t : Int) (ao : Option Addr) (n cap : Nat) (l : List En) (i : Int) (w : World) (h : Es w ao n cap l) (hm : May ⟨b, t, l⟩) :
    Calls Tryz.prog 75 #[.agg #[.int .i64 b, .int .i64 t, .slice ao n cap], .int .i64 i] w fun e w' => e = .returned (tmRes (termAt ⟨b, t, l⟩ i)) ∧ Below w.heap.size w w' := by
  have HB0 : Hid (Below w.heap.size w (w.alloc (.cells #[.int .i64 b, .int .i64 t, .slice ao n cap] 85))) := (Below.refl _ _).alloc (Nat.le_refl _) _
  have HE := hide h
  have HM := hide hm
  obtain ⟨I, hI⟩ : ∃ I, I = lastI ⟨b, t, l⟩ := ⟨_, rfl⟩
  have HI := hide hI
  have hIn : I = b + (n : Int) := by rw [hI]; unfold lastI; show b + (l.length : Int) = _; rw [h.1]
  have hb1 : 0 ≤ b := hm.1.1
  have hb2 : b ≤ 1099511625728 := hm.1.2.1
  obtain ⟨d, hd⟩ : ∃ d, d = termAt ⟨b, t, l⟩ i := ⟨_, rfl⟩
  have HNN : Hid (i < b ∨ I < i → d = none) := fun h => by rw [hd]; exact termAt_none (by rw [← hI]; exact h)
  have HSS : Hid (b ≤ i → i ≤ I → d = some (tmB t l (i - b).toNat)) := fun h1 h2 => by rw [hd]; exact termAt_some h1 (by rw [← hI]; exact h2)
  rw [← hd]
  clear hd hI h hm
  have HL := fun W (hW : Below w.heap.size w W) => last_any b t ao n cap l W ((unhide HE).below hW) (unhide HM)
  rw [← unhide HI] at HL
  have HLS := hide HL
  clear HL
  by_cases h1 : i < b
  · have HF : Hid (d = none) := unhide HNN (.inl h1)
    clear HNN HSS hIn
    go_enter Tryz.func75, Tryz.ntmps75
    go_wp2_with fail
    refine (unhide HLS _ (unhide HB0)).mono ?_
    rintro e w2 ⟨rfl, hb⟩
    have HB : Hid (Below w.heap.size w w2) := bnx (unhide HB0) hb
    have c0 : w2.cell? ⟨w.heap.size, 0, none⟩ = some (.int .i64 b) := (hb.cell (by simp)).trans (by simp)
    clear hb
    go_wp2
    go_ret2
    exact ⟨tmR_none (unhide HF), unhide HB⟩
  · by_cases h2 : I < i
    · have HF : Hid (d = none) := unhide HNN (.inr h2)
      clear HNN HSS hIn
      go_enter Tryz.func75, Tryz.ntmps75
      go_wp2_with fail
      refine (unhide HLS _ (unhide HB0)).mono ?_
      rintro e w2 ⟨rfl, hb⟩
      have HB : Hid (Below w.heap.size w w2) := bnx (unhide HB0) hb
      have c0 : w2.cell? ⟨w.heap.size, 0, none⟩ = some (.int .i64 b) := (hb.cell (by simp)).trans (by simp)
      clear hb
      go_wp2
      go_ret2
      exact ⟨tmR_none (unhide HF), unhide HB⟩
    · have HF0 : Hid (d = some (tmB t l (i - b).toNat)) := unhide HSS (by omega) (by omega)
      by_cases h3 : i = b
      · have HF : Hid (d = some t) := by
          show _ = _
          rw [unhide HF0, h3, Int.sub_self]; rfl
        clear HNN HSS hIn HF0
        subst h3
        go_enter Tryz.func75, Tryz.ntmps75
        go_wp2_with fail
        refine (unhide HLS _ (unhide HB0)).mono ?_
        rintro e w2 ⟨rfl, hb⟩
        have HB : Hid (Below w.heap.size w w2) := bnx (unhide HB0) hb
        have c0 : w2.cell? ⟨w.heap.size, 0, none⟩ = some (.int .i64 i) := (hb.cell (by simp)).trans (by simp)
        have c1 : w2.cell? ⟨w.heap.size, 1, none⟩ = some (.int .i64 t) := (hb.cell (by simp)).trans (by simp)
        clear hb
        go_wp2
        go_ret2
        exact ⟨tmR_some (unhide HF), unhide HB⟩
      · obtain ⟨k, hk⟩ : ∃ k : Nat, i = b + 1 + (k : Int) := ⟨(i - b - 1).toNat, by omega⟩
        have hkn : k < n := by omega
        obtain ⟨k1, k2, k3, k4, k5⟩ := unhide HE
        rcases k5 with k5 | ⟨bb, off, rfl, hc⟩
        · omega
        have HF : Hid (d = some (en0 l k).2.1) := by
          show _ = _
          rw [unhide HF0, show (i - b).toNat = k + 1 by omega]; rfl
        have HC : Hid (∀ W, Below w.heap.size w W → W.cell? ⟨bb, off + k * 4 + 1, none⟩ = some (.int .i64 (en0 l k).2.1)) := fun W hW => ((hc.below hW) k (by omega)).2.1
        generalize (en0 l k).2.1 = y at HF HC
        clear HNN HSS HF0 k1 k2 k3 hc
        subst hk
        go_enter Tryz.func75, Tryz.ntmps75
        go_wp2_with fail
        refine (unhide HLS _ (unhide HB0)).mono ?_
        rintro e w2 ⟨rfl, hb⟩
        have HB : Hid (Below w.heap.size w w2) := bnx (unhide HB0) hb
        have c0 : w2.cell? ⟨w.heap.size, 0, none⟩ = some (.int .i64 b) := (hb.cell (by simp)).trans (by simp)
        have c2 : w2.cell? ⟨w.heap.size, 2, none⟩ = some (.slice (some ⟨bb, off, none⟩) n cap) := (hb.cell (by simp)).trans (by simp)
        have cy : w2.cell? ⟨bb, off + ((b + 1 + (k : Int) - b).toNat - 1) * 4 + 1, none⟩ = some (.int .i64 y) := by
          rw [show (b + 1 + (k : Int) - b).toNat - 1 = k by omega]
          exact unhide HC _ (unhide HB)
        have hi1 : wrap64 (b + 1 + (k : Int) - b - 1) = (k : Int) := by unfold wrap64; omega
        have hi0 : wrap64 (b + 1 + (k : Int) - b) = 1 + (k : Int) := by unfold wrap64; omega
        have hi2 : wrap64 (1 + (k : Int) - 1) = (k : Int) := by unfold wrap64; omega
        have h3d : (b + 1 + (k : Int) == b) = false := beq_eq_false_iff_ne.2 (by omega)
        clear hb
        go_wp2
        go_ret2
        exact ⟨tmR_some (unhide HF), unhide HB⟩
end Go.Proofs.YtmmhdhpocjnlbaaGreatDoor.Et
/- Proved here: entries.upTo and above: pieces of a log's list. Helper contracts. -/
namespace Go.Proofs.YtmmhdhpocjnlbaaGreatDoor.Et
open Go.RowKit Nt
set_option maxRecDepth 100000

theorem Es.lo {w : World} {ao : Option Addr} {n cap : Nat} {l : List En} (h : Es w ao n cap l) (k : Nat) (hk : k ≤ n) : Es w ao k cap (l.take k) := by
  obtain ⟨h1, h2, h3, h4, h5⟩ := h
  refine ⟨by rw [List.length_take]; omega, by omega, h3, by omega, ?_⟩
  rcases h5 with h5 | ⟨b, off, e, hc⟩
  · exact .inl (by omega)
  · refine .inr ⟨b, off, e, fun j hj => ?_⟩
    rw [List.length_take] at hj
    rw [en0_take _ _ _ (by omega)]
    exact hc j (by omega)
theorem Es.hi {w : World} {ao : Option Addr} {n cap : Nat} {l : List En} (h : Es w ao n cap l) (k : Nat) (hk : k ≤ n) : Es w (hiA ao 4 cap k) (n - k) (cap - k) (l.drop k) := by
  obtain ⟨h1, h2, h3, h4, h5⟩ := h
  refine ⟨by rw [List.length_drop]; omega, by omega, ⟨by omega, fun e => ?_⟩, by omega, ?_⟩
  · unfold hiA at e
    split at e
    · omega
    · cases ao with
      | none => have := h3.2 rfl; omega
      | some a => cases e
  · by_cases hc : cap = k
    · exact .inl (by omega)
    · rcases h5 with h5 | ⟨b, off, e, hcc⟩
      · exact .inl (by omega)
      · refine .inr ⟨b, off + k * 4, by unfold hiA; rw [if_neg hc, e]; simp [Addr.add], fun j hj => ?_⟩
        rw [List.length_drop] at hj
        rw [en0_drop]
        have := hcc (k + j) (by omega)
        rw [show off + k * 4 + j * 4 = off + (k + j) * 4 by omega]
        exact this
set_option maxHeartbeats 2000000 in
theorem upTo_any (b t : Int) (ao : Option Addr) (n cap k : Nat) (w : World) (hk : k ≤ n) (hn : n ≤ cap) (hmx : n ≤ 3518437208780) :
    Calls Tryz.prog 84 #[.agg #[.int .i64 b, .int .i64 t, .slice ao n cap], .int .i64 (b + (k : Int))] w fun e w' => e = .returned (.slice ao k cap) ∧ Below w.heap.size w w' := by
  have HB0 : Hid (Below w.heap.size w (w.alloc (.cells #[.int .i64 b, .int .i64 t, .slice ao n cap] 85))) := (Below.refl _ _).alloc (Nat.le_refl _) _
  have hi0 : wrap64 (b + (k : Int) - b) = (k : Int) := by unfold wrap64; omega
  have hi1 : b + (k : Int) - b = (k : Int) := by omega
  have hkc : k ≤ cap := by omega
  go_enter Tryz.func84, Tryz.ntmps84
  go_wp2
  go_ret
  exact ⟨rfl, unhide HB0⟩
end Go.Proofs.YtmmhdhpocjnlbaaGreatDoor.Et
