/- Proved here: entries.upTo and above: pieces of a log's list. Helper contracts. -/
import Derived.Test.YtcffbkgkdoaplaaDoorZETm
namespace Go.Proofs.YtcffbkgkdoaplaaDoor.Et
open Go.RowKit Nt
set_option maxRecDepth 100000

theorem Es.lo {w : World} {ao : Option Addr} {n cap : Nat} {l : List En} (h : Es w ao n cap l) (k : Nat) (hk : k ≤ n) : Es w ao k cap (l.take k) := by
  obtain ⟨h1, h2, h3, h4, h5⟩ := h
  refine ⟨by rw [List.length_take]; omega, by omega, h3, by omega, ?_⟩
  rcases h5 with h5 | ⟨b, off, e, hc⟩
  · exact .inl (by omega)
  · refine .inr ⟨b, off, e, fun j hj => ?_⟩
    rw [List.length_take] at hj
    rw [en0_take _ _ _ (by omega)]
    exact hc j (by omega)
theorem Es.hi {w : World} {ao : Option Addr} {n cap : Nat} {l : List En} (h : Es w ao n cap l) (k : Nat) (hk : k ≤ n) : Es w (hiA ao 4 cap k) (n - k) (cap - k) (l.drop k) := by
  obtain ⟨h1, h2, h3, h4, h5⟩ := h
  refine ⟨by rw [List.length_drop]; omega, by omega, ⟨by omega, fun e => ?_⟩, by omega, ?_⟩
  · unfold hiA at e
    split at e
    · omega
    · cases ao with
      | none => have := h3.2 rfl; omega
      | some a => cases e
  · by_cases hc : cap = k
    · exact .inl (by omega)
    · rcases h5 with h5 | ⟨b, off, e, hcc⟩
      · exact .inl (by omega)
      · refine .inr ⟨b, off + k * 4, by unfold hiA; rw [if_neg hc, e]; simp [Addr.add], fun j hj => ?_⟩
        rw [List.length_drop] at hj
        rw [en0_drop]
        have := hcc (k + j) (by omega)
        rw [show off + k * 4 + j * 4 = off + (k + j) * 4 by omega]
        exact this
set_option maxHeartbeats 2000000 in
theorem upTo_any (b t : Int) (ao : Option Addr) (n cap k : Nat) (w : World) (hk : k ≤ n) (hn : n ≤ cap) (hmx : n ≤ 3518437208780) :
    Calls Tryd.prog 43 #[.agg #[.int .i64 b, .int .i64 t, .slice ao n cap], .int .i64 (b + (k : Int))] w fun e w' => e = .returned (.slice ao k cap) ∧ Below w.heap.size w w' := by
  have HB0 : Hid (Below w.heap.size w (w.alloc (.cells #[.int .i64 b, .int .i64 t, .slice ao n cap] 25))) := (Below.refl _ _).alloc (Nat.le_refl _) _
  have hi0 : wrap64 (b + (k : Int) - b) = (k : Int) := by unfold wrap64; omega
  have hi1 : b + (k : Int) - b = (k : Int) := by omega
  have hkc : k ≤ cap := by omega
  go_enter Tryd.func43, Tryd.ntmps43
  go_wp2
  go_ret
  exact ⟨rfl, unhide HB0⟩
set_option maxHeartbeats 2000000 in
theorem above_any (b t : Int) (ao : Option Addr) (n cap k : Nat) (w : World) (hk : k ≤ n) (hn : n ≤ cap) (hmx : n ≤ 3518437208780) :
    Calls Tryd.prog 44 #[.agg #[.int .i64 b, .int .i64 t, .slice ao n cap], .int .i64 (b + (k : Int))] w fun e w' => e = .returned (.slice (hiA ao 4 cap k) (n - k) (cap - k)) ∧ Below w.heap.size w w' := by
  have hi0 : wrap64 (b + (k : Int) - b) = (k : Int) := by unfold wrap64; omega
  have hi1 : b + (k : Int) - b = (k : Int) := by omega
  have hkc : k ≤ cap := by omega
  unfold hiA
  by_cases hc : cap = k
  · rw [if_pos hc]
    obtain rfl : k = cap := hc.symm
    obtain rfl : k = n := by omega
    rw [Nat.sub_self]
    clear hc
    go_enter Tryd.func44, Tryd.ntmps44
    go_wp2
    go_ret
    exact ⟨rfl, (Below.refl _ _).alloc (Nat.le_refl _) _⟩
  · rw [if_neg hc]
    go_enter Tryd.func44, Tryd.ntmps44
    go_wp2
    go_ret
    exact ⟨rfl, (Below.refl _ _).alloc (Nat.le_refl _) _⟩
end Go.Proofs.YtcffbkgkdoaplaaDoor.Et
