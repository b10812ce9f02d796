/- Proved here: dovecotelaw0.Bytes, handed a slice in memory of the caller's own, writes into that memory alone. Helper contract. -/
import Derived.Test.YtckdmknmhjdicaaDoorTPut
namespace Go.Proofs.YtckdmknmhjdicaaDoor
open Go.RowKit

theorem set_map (zs : List Int) (k : Nat) (z : Int) : (zs.map (Value.int .u8)).set k (Value.int .u8 z) = (zs.set k z).map (Value.int .u8) := by
  rw [List.map_set]

set_option maxHeartbeats 1000000 in
theorem bytes_any (B g n cap : Nat) (zs : List Int) (w : World) (hB : B ≤ w.heap.size) (hn : n + 1 ≤ 140737488355328)
    (hown : w.ownsRow B 5 1 (.slice (some ⟨g, 0, none⟩) n cap) n (zs.map (Value.int .u8))) :
    Calls Tryd.prog 14 #[.slice (some ⟨g, 0, none⟩) n cap] w fun e w' => e = .returned (.tuple #[]) ∧ Below B w w' := by
  obtain ⟨i0, hi, hz0, hz1, hz2⟩ := info_parts Tryd.infoU8
  have hgB : B ≤ g := (hown.lt g rfl).1
  have hzl : zs.length = n := by have := hown.1; simpa using this
  clear hzl
  have HO := hide hown
  clear hown
  go_enter Tryd.func14, Tryd.ntmps14
  go_wp2
  go_loopw [2] (fun i wr => ∃ (k : Nat) (ys : List Int), k ≤ n ∧ i = .int .i64 k ∧ Hid (wr.ownsRow B 5 1 (.slice (some ⟨g, 0, none⟩) n cap) n (ys.map (Value.int .u8))) ∧ Below B w wr) (fun i _ => n - (intOf i).toNat)
  case atStart => exact ⟨0, zs, Nat.zero_le _, rfl, HO, Below.refl _ _⟩
  case round =>
    obtain ⟨k, ys, hk, rfl, hown, hbel⟩ := hrel
    by_cases hlt : k < n
    · have hl : ys.length = n := by have := (unhide hown).1; simpa using this
      have hc : wr.cell? ⟨g, k, none⟩ = some (.int .u8 (ys.getD k 0)) := by
        rw [(unhide hown).cellAt k (by omega), List.getElem?_map, List.getElem?_eq_getElem (by omega), List.getD_eq_getElem?_getD, List.getElem?_eq_getElem (by omega)]
        rfl
      have hf : wr.frozen? ⟨g, k, none⟩ = false := (unhide hown).frozenAt k
      generalize ys.getD k 0 = y at hc
      clear hl
      go_wp2
      go_roundw
      case rel =>
        have hs := (unhide hown).stored k (.int .u8 (bits .xor .u8 y 85))
        rw [set_map] at hs
        exact ⟨k + 1, _, by omega, by go_num, hs.1, hbel.setCell hgB _⟩
      case measure => simp [intOf]; omega
    · have hown1 := unhide hown
      clear hown HO
      go_wp2_with (first
        | (at_builtin; refine wpList_append_own _ rfl _ _ 24 rfl B 5 i0 (.int .u8 0) 1 1 Tryd.underlying24 hi hz0 hz1 hz2 rfl (by decide) _ _ _ rfl (hown1.alloc _) ⟨wr.heap.size, 0, none⟩ 1 1 [.int .u8 5] rfl rfl (one_cell _ _ _) (one_one _ _) (by unfold maxLen; omega) (by omega) (by have := hbel.size; simp; omega) ?_)
        | go_in)
      intro v' w1 hown' hgrow _
      have hb1 : Below B w w1 := (hbel.alloc (by have := hbel.size; omega) _).grown hgrow (by have := hbel.size; simp; omega) (fun k hk => (hown1.lt k hk).1)
      clear hgrow hown1 hbel hown'
      go_wp2
      go_end0
      exact ⟨rfl, hb1⟩
end Go.Proofs.YtckdmknmhjdicaaDoor
