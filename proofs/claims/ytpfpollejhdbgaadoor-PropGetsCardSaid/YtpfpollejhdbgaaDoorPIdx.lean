/- Proved here: slices.Index, slices.Contains, prop.oneOf and dovecoteref0.In tell whether a number stands in a slice of numbers. Helper contracts. -/
import Derived.Test.YtpfpollejhdbgaaDoorPPlain
import Derived.Handy
namespace Go.Proofs.YtpfpollejhdbgaaDoor
open Go.RowKit
set_option maxRecDepth 100000

/-- the value v reads in the world w as the numbers xs -/
def Ints (w : World) (v : Value) (xs : List Int) : Prop :=
  ∃ ao cap, v = .slice ao xs.length cap ∧ xs.length ≤ maxLen ∧ (xs = [] ∨ ∃ b off, ao = some ⟨b, off, none⟩ ∧ ∀ j, j < xs.length → w.cell? ⟨b, off + j, none⟩ = some (.int .i64 (xs.getD j 0)))
theorem ints_lit (w : World) (xs : List Int) (n : Nat) (hn : xs.length = n) (h : n ≤ 100) (t : TypeId) : Ints (w.alloc (.cells (xs.map (Value.int .i64)).toArray t)) (.slice (some ⟨w.heap.size, 0, none⟩) n n) xs := by
  subst hn
  refine ⟨_, _, rfl, by unfold maxLen; omega, .inr ⟨_, _, rfl, fun j hj => ?_⟩⟩
  rw [World.cell?_alloc_at _ _ _ _ rfl]
  simp [hj]
theorem mem_getD (xs : List Int) (v : Int) : (∃ j, j < xs.length ∧ xs.getD j 0 = v) ↔ v ∈ xs := by
  rw [List.mem_iff_getElem]
  constructor
  · rintro ⟨j, hj, h⟩; exact ⟨j, hj, by rw [List.getD_eq_getElem?_getD, List.getElem?_eq_getElem hj] at h; exact h⟩
  · rintro ⟨j, hj, h⟩; exact ⟨j, hj, by rw [List.getD_eq_getElem?_getD, List.getElem?_eq_getElem hj]; exact h⟩

set_option maxHeartbeats 1000000 in
theorem index_core (b off n cap : Nat) (f : Nat → Int) (v : Int) (w : World) (hn : n ≤ maxLen) (hf : ∀ j, j < n → w.cell? ⟨b, off + j, none⟩ = some (.int .i64 (f j))) :
    Calls Tryd.prog 86 #[.slice (some ⟨b, off, none⟩) n cap, .int .i64 v] w fun e w' => (∃ r : Int, e = .returned (.int .i64 r) ∧ (0 ≤ r ↔ ∃ j, j < n ∧ f j = v)) ∧ w' = w := by
  unfold maxLen at hn
  have HF := hide hf
  clear hf
  go_enter Tryd.func86, Tryd.ntmps86
  go_wp2
  go_loop [8] (fun i => ∃ k : Nat, k ≤ n ∧ i = .int .i64 k ∧ Hid (∀ j, j < k → f j ≠ v)) (fun i => n - (intOf i).toNat)
  case atStart => exact ⟨0, Nat.zero_le _, rfl, fun j hj => absurd hj (Nat.not_lt_zero j)⟩
  case round =>
    obtain ⟨k, hk, rfl, HA⟩ := hrel
    by_cases hlt : k < n
    · have hfk := (unhide HF) k hlt
      generalize hx : f k = x at hfk
      have HX := hide hx
      clear hx
      by_cases hxy : v = x
      · have hb : (v == x) = true := beq_iff_eq.2 hxy
        have HE := hide hxy
        clear hxy
        go_wp2
        go_ret
        exact ⟨⟨_, rfl, fun _ => ⟨k, hlt, (unhide HX).trans (unhide HE).symm⟩, fun _ => by omega⟩, rfl⟩
      · have hb : (v == x) = false := beq_eq_false_iff_ne.2 hxy
        have HE := hide hxy
        clear hxy
        go_wp2
        go_round
        case rel => exact ⟨k + 1, by omega, by go_num, fun j hj => by
          rcases Nat.lt_succ_iff_lt_or_eq.1 hj with h | h
          · exact (unhide HA) j h
          · rw [h, unhide HX]; exact fun h => (unhide HE) h.symm⟩
        case measure => simp [intOf]; omega
    · go_wp2
      go_ret
      exact ⟨⟨_, rfl, fun h => absurd h (by omega), fun ⟨j, hj, h⟩ => absurd h ((unhide HA) j (by omega))⟩, rfl⟩
theorem index_nil (ao : Option Addr) (cap : Nat) (v : Int) (w : World) : Calls Tryd.prog 86 #[.slice ao 0 cap, .int .i64 v] w fun e w' => e = .returned (.int .i64 (-1)) ∧ w' = w := by
  go_enter Tryd.func86, Tryd.ntmps86
  go_wp2
  refine wp_loop_rounds 1 ?_
  rw [rounds_succ]
  go_wp2
  go_ret
  exact ⟨rfl, rfl⟩
theorem index_any (vx : Value) (xs : List Int) (v : Int) (w : World) (h : Ints w vx xs) :
    Calls Tryd.prog 86 #[vx, .int .i64 v] w fun e w' => (∃ r : Int, e = .returned (.int .i64 r) ∧ Hid (decide (0 ≤ r) = decide (v ∈ xs))) ∧ w' = w := by
  obtain ⟨ao, cap, rfl, hl, hcase⟩ := h
  rcases hcase with rfl | ⟨b, off, rfl, hc⟩
  · refine (index_nil ao cap v w).mono ?_
    rintro e w' ⟨rfl, rfl⟩
    exact ⟨⟨_, rfl, by show decide _ = decide _; simp⟩, rfl⟩
  · refine (index_core b off xs.length cap (fun j => xs.getD j 0) v w hl hc).mono ?_
    rintro e w' ⟨⟨r, rfl, hr⟩, rfl⟩
    rw [mem_getD] at hr
    exact ⟨⟨r, rfl, by show decide _ = decide _; rw [decide_eq_decide]; exact hr⟩, rfl⟩
theorem oneOf_any (vx : Value) (xs : List Int) (v : Int) (w : World) (h : Ints w vx xs) :
    Calls Tryd.prog 67 #[.int .i64 v, vx] w fun e w' => e = .returned (.bool (decide (v ∈ xs))) ∧ w' = w := by
  have H := hide h
  clear h
  have hc : Calls Tryd.prog 82 #[vx, .int .i64 v] w fun e w' => e = .returned (.bool (decide (v ∈ xs))) ∧ w' = w := by
    go_enter Tryd.func82, Tryd.ntmps82
    go_wp2_with (go_at_call 86; refine (index_any vx xs v _ (unhide H)).mono ?_; rintro e w' ⟨⟨r, rfl, hr⟩, rfl⟩)
    go_ret
    exact ⟨ret_bool (unhide hr), rfl⟩
  go_enter Tryd.func67, Tryd.ntmps67
  go_wp2_with (go_at_call 82; refine hc.mono ?_; rintro e w' ⟨rfl, rfl⟩)
  go_ret
  exact ⟨rfl, rfl⟩
theorem oneOf_use (vx : Value) (xs : List Int) (v : Int) (w : World) (h : Ints w vx xs) :
    Calls Tryd.prog 67 #[.int .i64 v, vx] w fun e w' => (∃ b : Bool, e = .returned (.bool b) ∧ Hid (b = decide (v ∈ xs))) ∧ w' = w := by
  refine (oneOf_any vx xs v w h).mono ?_
  rintro e w' ⟨rfl, rfl⟩
  exact ⟨⟨_, rfl, rfl⟩, rfl⟩

set_option maxHeartbeats 1000000 in
theorem in_core (b off n cap : Nat) (f : Nat → Int) (v : Int) (w : World) (hn : n ≤ maxLen) (hf : ∀ j, j < n → w.cell? ⟨b, off + j, none⟩ = some (.int .i64 (f j))) :
    Calls Tryd.prog 25 #[.slice (some ⟨b, off, none⟩) n cap, .int .i64 v] w fun e w' => (∃ r : Int, e = .returned (.int .i64 r) ∧ (0 ≤ r ↔ ∃ j, j < n ∧ f j = v)) ∧ w' = w := by
  unfold maxLen at hn
  have HF := hide hf
  clear hf
  go_enter Tryd.func25, Tryd.ntmps25
  go_wp2
  go_loop [5] (fun i => ∃ k : Nat, k ≤ n ∧ i = .int .i64 k ∧ Hid (∀ j, j < k → f j ≠ v)) (fun i => n - (intOf i).toNat)
  case atStart => exact ⟨0, Nat.zero_le _, rfl, fun j hj => absurd hj (Nat.not_lt_zero j)⟩
  case round =>
    obtain ⟨k, hk, rfl, HA⟩ := hrel
    by_cases hlt : k < n
    · have hfk := (unhide HF) k hlt
      generalize hx : f k = x at hfk
      have HX := hide hx
      clear hx
      by_cases hxy : x = v
      · have hb : (x == v) = true := beq_iff_eq.2 hxy
        have HE := hide hxy
        clear hxy
        go_wp2
        go_ret
        exact ⟨⟨_, rfl, fun _ => ⟨k, hlt, (unhide HX).trans (unhide HE)⟩, fun _ => by omega⟩, rfl⟩
      · have hb : (x == v) = false := beq_eq_false_iff_ne.2 hxy
        have HE := hide hxy
        clear hxy
        go_wp2
        go_round
        case rel => exact ⟨k + 1, by omega, by go_num, fun j hj => by
          rcases Nat.lt_succ_iff_lt_or_eq.1 hj with h | h
          · exact (unhide HA) j h
          · rw [h, unhide HX]; exact unhide HE⟩
        case measure => simp [intOf]; omega
    · go_wp2
      go_ret
      exact ⟨⟨_, rfl, fun h => absurd h (by omega), fun ⟨j, hj, h⟩ => absurd h ((unhide HA) j (by omega))⟩, rfl⟩
theorem in_nil (ao : Option Addr) (cap : Nat) (v : Int) (w : World) : Calls Tryd.prog 25 #[.slice ao 0 cap, .int .i64 v] w fun e w' => e = .returned (.int .i64 (-1)) ∧ w' = w := by
  go_enter Tryd.func25, Tryd.ntmps25
  go_wp2
  refine wp_loop_rounds 1 ?_
  rw [rounds_succ]
  go_wp2
  go_ret
  exact ⟨rfl, rfl⟩
theorem in_any (vx : Value) (xs : List Int) (v : Int) (w : World) (h : Ints w vx xs) :
    Calls Tryd.prog 25 #[vx, .int .i64 v] w fun e w' => (∃ r : Int, e = .returned (.int .i64 r) ∧ Hid (decide (r < 0) = !decide (v ∈ xs))) ∧ w' = w := by
  have key : ∀ r : Int, (0 ≤ r ↔ v ∈ xs) → Hid (decide (r < 0) = !decide (v ∈ xs)) := fun r hr => by
    show decide _ = !decide _
    by_cases hm : v ∈ xs
    · have := hr.2 hm
      simp [hm]; omega
    · have : ¬ 0 ≤ r := fun h => hm (hr.1 h)
      simp [hm]; omega
  obtain ⟨ao, cap, rfl, hl, hcase⟩ := h
  rcases hcase with rfl | ⟨b, off, rfl, hc⟩
  · refine (in_nil ao cap v w).mono ?_
    rintro e w' ⟨rfl, rfl⟩
    exact ⟨⟨_, rfl, key _ (by simp)⟩, rfl⟩
  · refine (in_core b off xs.length cap (fun j => xs.getD j 0) v w hl hc).mono ?_
    rintro e w' ⟨⟨r, rfl, hr⟩, rfl⟩
    rw [mem_getD] at hr
    exact ⟨⟨r, rfl, key r hr⟩, rfl⟩
end Go.Proofs.YtpfpollejhdbgaaDoor
