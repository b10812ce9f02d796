/- Proved here: dovecoteref0's CopyBytes, EqBytes and dovecotelaw0's Within, at bytes as plain numbers. Helper contracts. -/
import Derived.Test.YtlomlhnmkhngjaaZCRef
import Derived.Laws.AppendOwn
import Derived.Deep.QuietTactic
import Derived.Handy
namespace Go.Proofs.Ytlomlhnmkhngjaa.C
open Go.RowKit
set_option maxRecDepth 100000

theorem Nbs.below {w w' : World} {v : Value} {l : List Nat} (h : Nbs w v l) (hb : Below w.heap.size w w') : Nbs w' v l := by
  obtain ⟨ao, cap, h1, h2, h3, h4⟩ := h
  refine ⟨ao, cap, h1, h2, h3, ?_⟩
  rcases h4 with h4 | ⟨b, off, e, hc⟩
  · exact .inl h4
  · exact .inr ⟨b, off, e, fun j hj => (hb.cell (cell_lt (hc j hj))).trans (hc j hj)⟩
/-- a byte's cell -/
abbrev bc (x : Nat) : Value := .int .u8 (x : Int)
theorem nbs_of_owns {w : World} {B : Nat} {e : TypeId} {v : Value} {l : List Nat} (h : w.ownsRow B e 1 v l.length (l.map bc)) (hr : ∀ x ∈ l, x < 256) : Nbs w v l := by
  rcases h.2 with ⟨rfl, h1⟩ | ⟨g, cap, cur, rfl, hB, hg, hnc, hcm, hcs, htake⟩
  · have : l = [] := List.length_eq_zero_iff.1 h1
    subst this
    exact ⟨none, 0, rfl, ⟨by simp, by simp⟩, hr, .inl rfl⟩
  · refine ⟨_, cap, rfl, ⟨hnc, hcm⟩, hr, .inr ⟨g, 0, rfl, fun j hj => ?_⟩⟩
    rw [Nat.zero_add, h.cellAt j (by omega), List.getElem?_map, List.getElem?_eq_getElem hj, List.getD_eq_getElem?_getD, List.getElem?_eq_getElem hj]
    rfl
theorem infoU8 : (Try.prog.info? 5).map (fun i => (i.zero, i.size, i.bytes)) = some (some (.int .u8 0), 1, 1) := by kernel_rfl
theorem take_snocN (l : List Nat) (k : Nat) (h : k < l.length) : l.take (k + 1) = l.take k ++ [l.getD k 0] := by
  rw [List.take_add_one, List.getD_eq_getElem?_getD, List.getElem?_eq_getElem h]; rfl
set_option maxHeartbeats 4000000 in
theorem copy_core (b off cap : Nat) (l : List Nat) (len : Nat) (w : World) (hlen : l.length = len) (hmx : len ≤ 140737488351232) (hc : ∀ j, j < l.length → w.cell? ⟨b, off + j, none⟩ = some (.int .u8 ((l.getD j 0 : Nat) : Int))) :
    Calls Try.prog 5 #[.slice (some ⟨b, off, none⟩) len cap] w fun e w' => ∃ v, e = .returned v ∧ Hid (w'.ownsRow w.heap.size 5 1 v len (l.map bc)) ∧ Below w.heap.size w w' := by
  obtain ⟨i0, hi, hz0, hz1, hz2⟩ := info_parts infoU8
  have HC := hide hc
  have HLEN := hide hlen
  clear hc hlen
  go_enter Try.func5, Try.ntmps5
  go_wp2
  go_loopw [3, 4] (fun v i wr => ∃ k : Nat, k ≤ len ∧ i = .int .i64 k ∧ Hid (wr.ownsRow w.heap.size 5 1 v k ((l.take k).map bc)) ∧ Below w.heap.size w wr) (fun _ i _ => len - (intOf i).toNat)
  case atStart => exact ⟨0, Nat.zero_le _, rfl, World.ownsRow_nil _ _ _ _, Below.refl _ _⟩
  case round =>
    obtain ⟨k, hk, rfl, HOWN, hbel⟩ := hrel
    by_cases hlt : k < len
    · have hkl : k < l.length := by rw [unhide HLEN]; exact hlt
      have h0 := (hbel.cell (cell_lt ((unhide HC) k hkl))).trans ((unhide HC) k hkl)
      have HTS := hide (take_snocN l k hkl)
      generalize l.getD k 0 = x at h0 HTS
      have HBEL := hide hbel
      have hsz := hbel.size
      clear hbel hkl
      go_wp2_with (first
        | (at_builtin; refine wpList_append_own _ rfl _ _ 24 rfl w.heap.size 5 i0 _ 1 1 Try.underlying24 hi hz0 hz1 hz2 rfl (by decide) _ _ _ rfl ((unhide HOWN).alloc _) ⟨wr.heap.size, 0, none⟩ 1 1 [bc x] rfl rfl (one_cell _ _ _) (one_one _ _) (by unfold maxLen; omega) (by omega) (by simp; omega) ?_)
        | go_in)
      intro v' w1 hown' hgrow _
      have HB1 : Hid (Below w.heap.size w w1) := ((unhide HBEL).alloc hsz _).grown hgrow (by simp; omega) (fun k hk => ((unhide HOWN).lt k hk).1)
      have HO1 : Hid (w1.ownsRow w.heap.size 5 1 v' (k + 1) ((l.take (k + 1)).map bc)) := by show World.ownsRow _ _ _ _ _ _ _; rw [unhide HTS, List.map_append, List.map_take]; exact hown'
      clear hgrow hown'
      go_wp2
      go_roundw
      case rel => exact ⟨k + 1, by omega, by go_num, HO1, unhide HB1⟩
      case measure => simp [intOf]; omega
    · obtain rfl : k = len := by omega
      have HO1 : Hid (wr.ownsRow w.heap.size 5 1 u3 k (l.map bc)) := by
        show World.ownsRow _ _ _ _ _ _ _
        have := unhide HOWN
        rw [List.take_of_length_le (Nat.le_of_eq (unhide HLEN))] at this
        exact this
      go_wp2
      go_ret
      exact ⟨_, rfl, HO1, hbel⟩
theorem copy_any (v : Value) (l : List Nat) (w : World) (h : Nbs w v l) (hmx : l.length ≤ 140737488351232) : Calls Try.prog 5 #[v] w fun e w' => ∃ v', e = .returned v' ∧ Hid (w'.ownsRow w.heap.size 5 1 v' l.length (l.map bc)) ∧ Below w.heap.size w w' := by
  obtain ⟨ao, cap, rfl, _, hr, rfl | ⟨b, off, rfl, hc⟩⟩ := h
  · go_enter Try.func5, Try.ntmps5
    go_wp2
    refine wp_loop_rounds 1 ?_
    rw [rounds_succ]
    go_wp2
    go_ret
    exact ⟨_, rfl, World.ownsRow_nil _ _ _ _, Below.refl _ _⟩
  · exact copy_core b off cap l _ w rfl hmx hc
end Go.Proofs.Ytlomlhnmkhngjaa.C
