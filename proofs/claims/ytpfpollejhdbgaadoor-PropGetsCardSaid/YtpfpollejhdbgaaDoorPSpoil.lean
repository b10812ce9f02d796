/- Proved here: dovecotelaw0.Props, handed a slice in memory of the caller's own, writes into that memory alone. Helper contract. -/
import Derived.Test.YtpfpollejhdbgaaDoorPEqP
namespace Go.Proofs.YtpfpollejhdbgaaDoor
open Go.RowKit
set_option maxRecDepth 100000

theorem owns_cell {w : World} {B g n cap : Nat} {ys : List Value} (h : w.ownsRow B 49 4 (.slice (some ⟨g, 0, none⟩) n cap) n ys) (i : Nat) (hi : i < n * 4) : ∃ v, w.cell? ⟨g, i, none⟩ = some v ∧ w.frozen? ⟨g, i, none⟩ = false := by
  have hl : ys.length = n * 4 := h.1
  exact ⟨_, by rw [h.cellAt i (by omega), List.getElem?_eq_getElem (by omega)], h.frozenAt i⟩
set_option maxHeartbeats 2000000 in
theorem props_own (B g n cap : Nat) (zs : List Value) (w : World) (hB : B ≤ w.heap.size) (hn : n ≤ 1000000)
    (hown : w.ownsRow B 49 4 (.slice (some ⟨g, 0, none⟩) n cap) n zs) :
    Calls Tryd.prog 23 #[.slice (some ⟨g, 0, none⟩) n cap] w fun e w' => e = .returned (.tuple #[]) ∧ Below B w w' := by
  obtain ⟨i0, hi, hz0, hz1, hz2⟩ := info_parts Tryd.infoProp
  have hgB : B ≤ g := (hown.lt g rfl).1
  have HO := hide hown
  clear hown
  go_enter Tryd.func23, Tryd.ntmps23
  go_wp2
  go_loopw [2] (fun i wr => ∃ (k : Nat) (ys : List Value), k ≤ n ∧ i = .int .i64 k ∧ Hid (wr.ownsRow B 49 4 (.slice (some ⟨g, 0, none⟩) n cap) n ys) ∧ Below B w wr) (fun i _ => n - (intOf i).toNat)
  case atStart => exact ⟨0, zs, Nat.zero_le _, rfl, HO, Below.refl _ _⟩
  case round =>
    obtain ⟨k, ys, hk, rfl, hown, hbel⟩ := hrel
    by_cases hlt : k < n
    · obtain ⟨v0, c0, f0⟩ := owns_cell (unhide hown) (k * 4) (by omega)
      obtain ⟨v1, c1, f1⟩ := owns_cell (unhide hown) (k * 4 + 1) (by omega)
      obtain ⟨v2, c2, f2⟩ := owns_cell (unhide hown) (k * 4 + 2) (by omega)
      obtain ⟨v3, c3, f3⟩ := owns_cell (unhide hown) (k * 4 + 3) (by omega)
      go_wp2
      go_roundw
      case rel =>
        have hs := ((((unhide hown).stored (k * 4) (.int .i64 (-9))).1.stored (k * 4 + 1) (.int .i64 0)).1.stored (k * 4 + 2) (.string ⟨#[]⟩)).1.stored (k * 4 + 3) (.string ⟨#[]⟩)
        exact ⟨k + 1, _, by omega, by go_num, hs.1, (((hbel.setCell hgB _).setCell hgB _).setCell hgB _).setCell hgB _⟩
      case measure => simp [intOf]; omega
    · have hown1 := unhide hown
      clear hown HO
      go_wp2_with (first
        | (at_builtin; refine wpList_append_own _ rfl _ _ 23 rfl B 49 i0 _ 4 48 Tryd.underlying23 hi hz0 hz1 hz2 rfl (by decide) _ _ _ rfl (hown1.alloc _) ⟨wr.heap.size, 0, none⟩ 1 1 [.int .i64 0, .int .i64 0, .string ⟨#[]⟩, .string ⟨#[]⟩] rfl rfl (four_cell _ _ _ _ _ _) (four_one _ _ _ _) (by unfold maxLen; omega) (by omega) (by have := hbel.size; simp; omega) ?_)
        | go_in)
      intro v' w1 hown' hgrow _
      have hb1 : Below B w w1 := (hbel.alloc (by have := hbel.size; omega) _).grown hgrow (by have := hbel.size; simp; omega) (fun k hk => (hown1.lt k hk).1)
      clear hgrow hown1 hbel hown'
      go_wp2
      go_end0
      exact ⟨rfl, hb1⟩
theorem props_nil (w : World) : Calls Tryd.prog 23 #[.slice none 0 0] w fun e w' => e = .returned (.tuple #[]) ∧ Below w.heap.size w w' := by
  obtain ⟨i0, hi, hz0, hz1, hz2⟩ := info_parts Tryd.infoProp
  go_enter Tryd.func23, Tryd.ntmps23
  go_wp2
  refine wp_loop_rounds 1 ?_
  rw [rounds_succ]
  go_wp2_with (first
    | (at_builtin; refine wpList_append_own _ rfl _ _ 23 rfl w.heap.size 49 i0 _ 4 48 Tryd.underlying23 hi hz0 hz1 hz2 rfl (by decide) _ _ _ rfl (World.ownsRow_nil _ _ _ _) ⟨w.heap.size, 0, none⟩ 1 1 [.int .i64 0, .int .i64 0, .string ⟨#[]⟩, .string ⟨#[]⟩] rfl rfl (four_cell _ _ _ _ _ _) (four_one _ _ _ _) (by unfold maxLen; omega) (by omega) (by simp) ?_)
    | go_in)
  intro v' w1 hown' hgrow _
  have hb1 : Below w.heap.size w w1 := ((Below.refl _ _).alloc (Nat.le_refl _) _).grown hgrow (by simp) (fun k hk => by simp [Value.ownBlock] at hk)
  clear hgrow hown'
  go_wp2
  go_end0
  exact ⟨rfl, hb1⟩
theorem props_any (B : Nat) (v : Value) (n : Nat) (zs : List Value) (w : World) (hB : B ≤ w.heap.size) (hn : n ≤ 1000000) (hown : w.ownsRow B 49 4 v n zs) : Calls Tryd.prog 23 #[v] w fun e w' => e = .returned (.tuple #[]) ∧ Below B w w' := by
  rcases hown.2 with ⟨hv, h0⟩ | ⟨g, cap, cur, hv, hrest⟩
  · subst hv
    refine (props_nil w).mono ?_
    rintro e w' ⟨rfl, hb⟩
    exact ⟨rfl, hb.mono hB⟩
  · subst hv
    exact props_own B g n cap zs w hB hn hown
end Go.Proofs.YtpfpollejhdbgaaDoor
