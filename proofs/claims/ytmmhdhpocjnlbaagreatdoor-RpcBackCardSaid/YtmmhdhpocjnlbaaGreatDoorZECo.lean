/- Proved here: slices.Grow of nothing and slices.Concat of lists of entries: memory of its own. Helper contracts. -/
import Derived.Test.YtmmhdhpocjnlbaaGreatDoorM1
import Derived.Lib.AppendZerosOnto
namespace Go.Proofs.YtmmhdhpocjnlbaaGreatDoor.Et
open Go.RowKit Nt
set_option maxRecDepth 100000

theorem Es.cin {w : World} {ao : Option Addr} {n cap : Nat} {l : List En} (h : Es w ao n cap l) : CIn w (.slice ao n cap) n 4 (ecs l) := by
  obtain ⟨h1, h2, h3, h4, h5⟩ := h
  refine ⟨by rw [ecs_length, h1], ao, cap, rfl, ?_⟩
  rcases h5 with h5 | ⟨b, off, e, hc⟩
  · cases ao with
    | none => exact .inl ⟨rfl, h5, h3.2 rfl⟩
    | some a =>
      have hl : l = [] := List.length_eq_zero_iff.1 (h1.trans h5)
      subst hl
      exact .inr ⟨a, rfl, fun j u hj => by simp [ecs] at hj⟩
  · subst e
    exact .inr ⟨_, rfl, ecs_cell hc⟩
theorem ecs_app (l m : List En) : ecs (l ++ m) = ecs l ++ ecs m := by unfold ecs; rw [List.flatMap_append]
theorem Es.own {w : World} {B : Nat} {e : TypeId} {v : Value} {n : Nat} {l : List En} (h : w.ownsRow B e 4 v n (ecs l)) (hl : l.length = n) (hn : n ≤ 3518437208780) : ∃ ao cap, v = .slice ao n cap ∧ Es w ao n cap l := by
  have hh := h
  rcases h.2 with ⟨rfl, h0⟩ | ⟨g, cap, cur, rfl, hB, hg, hnc, hcm, rest⟩
  · exact ⟨none, 0, by rw [h0], hl, by omega, ⟨by unfold maxLen; omega, fun _ => rfl⟩, hn, .inl h0⟩
  · refine ⟨_, cap, rfl, hl, hnc, ⟨hcm, fun e => by cases e⟩, hn, .inr ⟨g, 0, rfl, ?_⟩⟩
    subst hl
    obtain ⟨ao', cap', e1, e2⟩ := ens_of_owns hh
    simp only [Value.slice.injEq] at e1
    obtain ⟨rfl, _, rfl⟩ := e1
    rcases e2 with rfl | ⟨b, off, e, hc⟩
    · intro k hk; simp at hk
    · cases e
      exact hc
set_option maxHeartbeats 2000000 in
theorem grow_nil (n : Nat) (w : World) (hn : n ≤ 1000000) : Calls Tryz.prog 85 #[.slice none 0 0, .int .i64 (n : Int)] w fun e w' => ∃ v, e = .returned v ∧ Hid (w'.ownsRow w.heap.size 56 4 v 0 []) ∧ Hid (Below w.heap.size w w') := by
  obtain ⟨i0, hi, hz0, hz1, hz2⟩ := info_parts infoEnt
  rcases n with _ | m
  · go_enter Tryz.func85, Tryz.ntmps85
    go_wp2
    go_ret
    exact ⟨_, rfl, World.ownsRow_nil _ _ _ _, Below.refl _ _⟩
  · have hr : ∀ ty, (Builtin.append_ #[24, 3] ty #[.slice none 0 0, .int .i64 ((m + 1 : Nat) : Int)]).run Tryz.prog w = _ := fun ty => Lib.run_append_nil_zeros (P := Tryz.prog) w 24 3 ty 56 i0 _ .i64 .i64 Tryz.underlying24 Tryz.underlying3 hi hz0 (m + 1) (by omega) (by rw [hz1]; omega) (by omega) (by rw [hz2]; omega)
    have hG := grownCap_ge w (m + 1) 0 56
    have hG2 := grownCap_le_maxLen w (m + 1) 0 56 (by unfold maxLen; omega)
    have HOW : Hid (∀ k, k = grownCap w (m + 1) 0 56 → (w.drew.alloc (.cells (Builtin.zeroCells (Value.agg #[.int .i64 0, .int .i64 0, .int .i64 0, .string ⟨#[]⟩]).cells (m + 1) ++ Builtin.zeroCells (Value.agg #[.int .i64 0, .int .i64 0, .int .i64 0, .string ⟨#[]⟩]).cells (k - (m + 1))) 56)).ownsRow w.heap.size 56 4 (.slice (some ⟨w.heap.size, 0, none⟩) 0 k) 0 [] ∧ Below w.heap.size w (w.drew.alloc (.cells (Builtin.zeroCells (Value.agg #[.int .i64 0, .int .i64 0, .int .i64 0, .string ⟨#[]⟩]).cells (m + 1) ++ Builtin.zeroCells (Value.agg #[.int .i64 0, .int .i64 0, .int .i64 0, .string ⟨#[]⟩]).cells (k - (m + 1))) 56))) := fun k hk => by
      subst hk
      refine ⟨?_, (Below.refl w.heap.size w).drew.alloc (Nat.le_refl _) _⟩
      exact World.ownsRow_made (base := w.heap.size) (e := 56) (size := 4) w.drew _ (grownCap w (m + 1) 0 56) (Nat.le_refl _) hG2 (by rw [Array.size_append, size_zeroCells, size_zeroCells]; show (m + 1) * 4 + (_ - (m + 1)) * 4 = _; omega)
    generalize hk : grownCap w (m + 1) 0 56 = G at hr hG hG2
    have HK := hide hk
    clear hk
    have hpos : ((m + 1 : Nat) : Int) > 0 := by omega
    go_enter Tryz.func85, Tryz.ntmps85
    go_wp2_with (at_builtin; refine Lib.wpList_append_run _ rfl _ _ _ _ rfl _ _ rfl rfl _ _ (hr _) ?_)
    go_ret
    obtain ⟨k1, k2⟩ := unhide HOW G (unhide HK).symm
    exact ⟨_, rfl, k1, k2⟩
end Go.Proofs.YtmmhdhpocjnlbaaGreatDoor.Et
