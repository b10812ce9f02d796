/- Proved here: messages in rows of one's own; dovecoteref0.CopyMessage and CopyMessages, slices.Clone of properties and retain.own copy to memory of their own. Helper contracts. -/
import Derived.Test.YtknbgnoahfeigaaGreatDoorZMMsg
import Derived.Lib.SliceRun
namespace Go.Proofs.YtknbgnoahfeigaaGreatDoor.M
open Go.RowKit
set_option maxRecDepth 100000

theorem copyp_own (v : Value) (l : List Pr) (w : World) (h : Prp w v l) (hmx : l.length ≤ 2932031007317) : Calls Tryz.prog 35 #[v] w fun e w' => ∃ v, e = .returned v ∧ Hid (w'.ownsRow w.heap.size 83 4 v l.length (pcs l)) ∧ Below w.heap.size w w' := by
  obtain ⟨ao, cap, rfl, hc⟩ := h
  rcases hc with rfl | ⟨b, off, rfl, hc⟩
  · refine (copyp_nil ao cap w).mono ?_
    rintro e w' ⟨rfl, rfl⟩
    exact ⟨_, rfl, World.ownsRow_nil _ _ _ _, Below.refl _ _⟩
  · exact copyp_core b off cap l _ w rfl hmx hc
theorem pcs_one (l : List Pr) : ∀ u ∈ pcs l, u.oneCell' = true := by
  intro u hu
  unfold pcs at hu
  rw [List.mem_flatMap] at hu
  obtain ⟨p, _, hp⟩ := hu
  simp at hp
  rcases hp with rfl | rfl | rfl | rfl <;> rfl
theorem pcs_cell {w : World} {b off : Nat} {l : List Pr} (h : PrAt w b off l) : ∀ j u, (pcs l)[j]? = some u → w.cell? ((⟨b, off, none⟩ : Addr).add j) = some u := by
  intro j u hj
  have hjl := (List.getElem?_eq_some_iff.1 hj).1
  rw [pcs_length] at hjl
  have hk : j / 4 < l.length := by omega
  obtain ⟨g0, g1, g2, g3⟩ := pcs_get l (j / 4) hk
  obtain ⟨h0, h1, h2, h3⟩ := h (j / 4) hk
  have ea : (⟨b, off, none⟩ : Addr).add j = ⟨b, off + j, none⟩ := by simp [Addr.add]
  rw [ea]
  have hm : j % 4 = 0 ∨ j % 4 = 1 ∨ j % 4 = 2 ∨ j % 4 = 3 := by omega
  rcases hm with e | e | e | e
  · have ej : j = j / 4 * 4 := by omega
    rw [← ej] at g0 h0
    rw [h0, ← hj, g0]
  · have ej : j = j / 4 * 4 + 1 := by omega
    rw [← ej] at g1
    rw [Nat.add_assoc, ← ej] at h1
    rw [h1, ← hj, g1]
  · have ej : j = j / 4 * 4 + 2 := by omega
    rw [← ej] at g2
    rw [Nat.add_assoc, ← ej] at h2
    rw [h2, ← hj, g2]
  · have ej : j = j / 4 * 4 + 3 := by omega
    rw [← ej] at g3
    rw [Nat.add_assoc, ← ej] at h3
    rw [h3, ← hj, g3]
theorem clonep_nil (n c : Nat) (w : World) : Calls Tryz.prog 55 #[.slice none n c] w fun e w' => e = .returned (.slice none 0 0) ∧ w' = w := by
  have q : ∀ (w : World) (a : Option Addr) (n c n' c' : Nat), (binOp .eql 24 (.slice a n c) (.slice none n' c')).run Tryz.prog w = .ok (.bool a.isNone) w := fun w a n c n' c' => Lib.run_eql_slice_nil w _ _ a n c n' c' Tryz.underlying24
  go_enter Tryz.func55, Tryz.ntmps55
  go_wp2
  go_ret
  exact ⟨rfl, rfl⟩
set_option maxHeartbeats 2000000 in
theorem clonep_some (a : Addr) (c : Nat) (l : List Pr) (len : Nat) (w : World) (hlen : l.length = len) (hmx : len ≤ 2932031007317) (h : ∀ j u, (pcs l)[j]? = some u → w.cell? (a.add j) = some u) :
    Calls Tryz.prog 55 #[.slice (some a) len c] w fun e w' => ∃ v, e = .returned v ∧ Hid (w'.ownsRow w.heap.size 83 4 v len (pcs l)) ∧ Below w.heap.size w w' := by
  have q : ∀ (w : World) (a : Option Addr) (n c n' c' : Nat), (binOp .eql 24 (.slice a n c) (.slice none n' c')).run Tryz.prog w = .ok (.bool a.isNone) w := fun w a n c n' c' => Lib.run_eql_slice_nil w _ _ a n c n' c' Tryz.underlying24
  obtain ⟨i0, hi, hz0, hz1, hz2⟩ := info_parts infoProp
  have HL : Hid ((pcs l).length = len * 4) := by show _ = _; rw [pcs_length, hlen]
  have HC := hide h
  have HO := hide (pcs_one l)
  clear h hlen
  go_enter Tryz.func55, Tryz.ntmps55
  go_wp2_with (first
    | (at_builtin; refine wpList_append_own _ rfl _ _ 24 rfl w.heap.size 83 i0 _ 4 48 Tryz.underlying24 hi hz0 hz1 hz2 rfl (by decide) _ _ _ rfl (World.ownsRow_made w #[] 0 (Nat.le_refl _) (Nat.zero_le _) rfl) a len c (pcs l) rfl (unhide HL) ?qc2 (unhide HO) (by unfold maxLen; omega) (by omega) (by simp) ?_)
    | go_in)
  case qc2 =>
    intro j u hj
    refine Lib.cell?_alloc_some _ ?_
    exact (unhide HC) j u hj
  intro v' w1 hown hgrow _
  have HOW : Hid (w1.ownsRow w.heap.size 83 4 v' len (pcs l)) := by show World.ownsRow _ _ _ _ _ _ _; simpa using hown
  have HB : Hid (Below w.heap.size w w1) := ((Below.refl _ w).alloc (Nat.le_refl _) _).grown hgrow (by simp) (by intro k hk; simp [Value.ownBlock] at hk; omega)
  clear hown hgrow
  go_wp2
  go_ret
  exact ⟨v', rfl, unhide HOW, unhide HB⟩
theorem clonep_any (ao : Option Addr) (cap : Nat) (l : List Pr) (w : World) (h : Pok w ao cap l) : Calls Tryz.prog 55 #[.slice ao l.length cap] w fun e w' => ∃ v, e = .returned v ∧ Hid (w'.ownsRow w.heap.size 83 4 v l.length (pcs l)) ∧ Below w.heap.size w w' := by
  obtain ⟨⟨ao', cap', e, hc⟩, hmx⟩ := h
  cases e
  cases ao with
  | none =>
    rcases hc with rfl | ⟨b, off, e, _⟩
    · refine (clonep_nil _ _ w).mono ?_
      rintro e w' ⟨rfl, rfl⟩
      exact ⟨_, rfl, World.ownsRow_nil _ _ _ _, Below.refl _ _⟩
    · cases e
  | some a =>
    refine clonep_some a cap l _ w rfl hmx ?_
    rcases hc with rfl | ⟨b, off, e, hc⟩
    · intro j u hj; simp [pcs] at hj
    · cases e
      exact pcs_cell hc
theorem cell_set (w : World) (p q : Addr) (v : Value) (h : (w.cell? q).isSome = true) : (w.setCell p v).cell? q = if p = q then some v else w.cell? q := by
  by_cases e : p = q
  · subst e
    rw [if_pos rfl]
    exact World.cell?_setCell_same' w p v h
  · rw [if_neg e]
    exact World.cell?_setCell_other _ _ _ _ e
theorem cell_new (w : World) (cs : Array Value) (t : TypeId) (k j : Nat) (v : Value) (h : cs[j]? = some v) (e : k = w.heap.size) : (w.alloc (.cells cs t)).cell? ⟨k, j, none⟩ = some v := by
  subst e
  simp [h]
theorem frz_new (w : World) (cs : Array Value) (t : TypeId) (k j : Nat) (e : k = w.heap.size) : (w.alloc (.cells cs t)).frozen? ⟨k, j, none⟩ = false := by
  subst e
  simp
theorem frz_old (w : World) (o : Obj) (k j : Nat) (e : k < w.heap.size) (h : w.frozen? ⟨k, j, none⟩ = false) : (w.alloc o).frozen? ⟨k, j, none⟩ = false := (World.frozen?_alloc_old _ _ _ (Nat.ne_of_lt e)).trans h
theorem owns_slice {w : World} {B : Nat} {e : TypeId} {s : Nat} {v : Value} {n : Nat} {xs : List Value} (h : w.ownsRow B e s v n xs) : ∃ ao cap, v = .slice ao n cap := by
  rcases h.2 with ⟨h1, h2⟩ | ⟨g, cap, cur, hv, rest⟩
  · exact ⟨none, 0, by rw [h1, h2]⟩
  · exact ⟨_, cap, hv⟩
/-- a return of a message that lies in memory -/
theorem res_m {fn : Func} {a : Tmp} (h : fn.results = #[.cell a 26]) {tmps : Array Value} {w : World} {B : Nat} {v0 v1 v2 v3 v4 v5 v6 : Value} (ha : tmps[a]?.getD undef = .pointer (some ⟨B, 0, none⟩)) (c0 : w.cell? ⟨B, 0, none⟩ = some v0) (c1 : w.cell? ⟨B, 1, none⟩ = some v1) (c2 : w.cell? ⟨B, 2, none⟩ = some v2) (c3 : w.cell? ⟨B, 3, none⟩ = some v3) (c4 : w.cell? ⟨B, 4, none⟩ = some v4) (c5 : w.cell? ⟨B, 5, none⟩ = some v5) (c6 : w.cell? ⟨B, 6, none⟩ = some v6) :
    (results fn tmps).run Tryz.prog w = .ok (.agg #[v0, v1, v2, v3, v4, v5, v6]) w := by
  simp [results, h, ha, go_sem, c0, c1, c2, c3, c4, c5, c6]
theorem owns_low {w : World} {B : Nat} {e : TypeId} {s : Nat} {v u : Value} {n : Nat} {xs : List Value} {p : Addr} (h : w.ownsRow B e s v n xs) (hp : p.block < B) : (w.setCell p u).ownsRow B e s v n xs := by
  refine ⟨h.1, ?_⟩
  rcases h.2 with h1 | ⟨g, cap, cur, hv, hB, hg, rest⟩
  · exact .inl h1
  · exact .inr ⟨g, cap, cur, hv, hB, (Below.heap_setCell _ _ _ _ (by omega)).trans hg, rest⟩
set_option maxHeartbeats 4000000 in
theorem copym_any (m : Mg) (ao : Option Addr) (cap : Nat) (w : World) (h : Pok w ao cap m.props) :
    Calls Tryz.prog 13 #[mval m (.slice ao m.props.length cap)] w fun e w' => ∃ s, e = .returned (mval m s) ∧ Hid (w'.ownsRow w.heap.size 83 4 s m.props.length (pcs m.props)) ∧ Below w.heap.size w w' := by
  have HA := hide h
  clear h
  obtain ⟨t, p, q, r, f, u, l⟩ := m
  dsimp only at HA ⊢
  go_enter Tryz.func13, Tryz.ntmps13
  go_wp2_with fail
  refine (copyp_own _ l _ ((unhide HA).1.below (by go_grown)) (unhide HA).2).mono ?_
  rintro e w1 ⟨sv, rfl, HS, hb1⟩
  have HB1 : Hid (Below w.heap.size w w1) := bnx (by go_grown) hb1
  have q0 : w1.cell? ⟨w.heap.size + 1 + 1, 0, none⟩ = some (.string t) := (hb1.cell (p := ⟨w.heap.size + 1 + 1, 0, none⟩) (by simp <;> omega)).trans (cell_new _ _ _ _ _ _ rfl (by simp))
  have q1 : w1.cell? ⟨w.heap.size + 1 + 1, 1, none⟩ = some (.string p) := (hb1.cell (p := ⟨w.heap.size + 1 + 1, 1, none⟩) (by simp <;> omega)).trans (cell_new _ _ _ _ _ _ rfl (by simp))
  have q2 : w1.cell? ⟨w.heap.size + 1 + 1, 2, none⟩ = some (.int .i64 q) := (hb1.cell (p := ⟨w.heap.size + 1 + 1, 2, none⟩) (by simp <;> omega)).trans (cell_new _ _ _ _ _ _ rfl (by simp))
  have q3 : w1.cell? ⟨w.heap.size + 1 + 1, 3, none⟩ = some (.bool r) := (hb1.cell (p := ⟨w.heap.size + 1 + 1, 3, none⟩) (by simp <;> omega)).trans (cell_new _ _ _ _ _ _ rfl (by simp))
  have q4 : w1.cell? ⟨w.heap.size + 1 + 1, 4, none⟩ = some (.string f) := (hb1.cell (p := ⟨w.heap.size + 1 + 1, 4, none⟩) (by simp <;> omega)).trans (cell_new _ _ _ _ _ _ rfl (by simp))
  have q5 : w1.cell? ⟨w.heap.size + 1 + 1, 5, none⟩ = some (.int .i64 u) := (hb1.cell (p := ⟨w.heap.size + 1 + 1, 5, none⟩) (by simp <;> omega)).trans (cell_new _ _ _ _ _ _ rfl (by simp))
  have q6 : w1.cell? ⟨w.heap.size + 1 + 1, 6, none⟩ = some (.slice ao l.length cap) := (hb1.cell (p := ⟨w.heap.size + 1 + 1, 6, none⟩) (by simp <;> omega)).trans (cell_new _ _ _ _ _ _ rfl (by simp))
  have z0 : w1.cell? ⟨w.heap.size + 1, 0, none⟩ = some (.string ⟨#[]⟩) := (hb1.cell (p := ⟨w.heap.size + 1, 0, none⟩) (by simp <;> omega)).trans (Lib.cell?_alloc_some _ (cell_new _ _ _ _ _ _ rfl (by simp)))
  have f0 : w1.frozen? ⟨w.heap.size + 1, 0, none⟩ = false := (hb1.frozen (p := ⟨w.heap.size + 1, 0, none⟩) (by simp <;> omega)).trans (frz_old _ _ _ _ (by simp <;> omega) (frz_new _ _ _ _ _ (by simp)))
  have z1 : w1.cell? ⟨w.heap.size + 1, 1, none⟩ = some (.string ⟨#[]⟩) := (hb1.cell (p := ⟨w.heap.size + 1, 1, none⟩) (by simp <;> omega)).trans (Lib.cell?_alloc_some _ (cell_new _ _ _ _ _ _ rfl (by simp)))
  have f1 : w1.frozen? ⟨w.heap.size + 1, 1, none⟩ = false := (hb1.frozen (p := ⟨w.heap.size + 1, 1, none⟩) (by simp <;> omega)).trans (frz_old _ _ _ _ (by simp <;> omega) (frz_new _ _ _ _ _ (by simp)))
  have z2 : w1.cell? ⟨w.heap.size + 1, 2, none⟩ = some (.int .i64 0) := (hb1.cell (p := ⟨w.heap.size + 1, 2, none⟩) (by simp <;> omega)).trans (Lib.cell?_alloc_some _ (cell_new _ _ _ _ _ _ rfl (by simp)))
  have f2 : w1.frozen? ⟨w.heap.size + 1, 2, none⟩ = false := (hb1.frozen (p := ⟨w.heap.size + 1, 2, none⟩) (by simp <;> omega)).trans (frz_old _ _ _ _ (by simp <;> omega) (frz_new _ _ _ _ _ (by simp)))
  have z3 : w1.cell? ⟨w.heap.size + 1, 3, none⟩ = some (.bool false) := (hb1.cell (p := ⟨w.heap.size + 1, 3, none⟩) (by simp <;> omega)).trans (Lib.cell?_alloc_some _ (cell_new _ _ _ _ _ _ rfl (by simp)))
  have f3 : w1.frozen? ⟨w.heap.size + 1, 3, none⟩ = false := (hb1.frozen (p := ⟨w.heap.size + 1, 3, none⟩) (by simp <;> omega)).trans (frz_old _ _ _ _ (by simp <;> omega) (frz_new _ _ _ _ _ (by simp)))
  have z4 : w1.cell? ⟨w.heap.size + 1, 4, none⟩ = some (.string ⟨#[]⟩) := (hb1.cell (p := ⟨w.heap.size + 1, 4, none⟩) (by simp <;> omega)).trans (Lib.cell?_alloc_some _ (cell_new _ _ _ _ _ _ rfl (by simp)))
  have f4 : w1.frozen? ⟨w.heap.size + 1, 4, none⟩ = false := (hb1.frozen (p := ⟨w.heap.size + 1, 4, none⟩) (by simp <;> omega)).trans (frz_old _ _ _ _ (by simp <;> omega) (frz_new _ _ _ _ _ (by simp)))
  have z5 : w1.cell? ⟨w.heap.size + 1, 5, none⟩ = some (.int .i64 0) := (hb1.cell (p := ⟨w.heap.size + 1, 5, none⟩) (by simp <;> omega)).trans (Lib.cell?_alloc_some _ (cell_new _ _ _ _ _ _ rfl (by simp)))
  have f5 : w1.frozen? ⟨w.heap.size + 1, 5, none⟩ = false := (hb1.frozen (p := ⟨w.heap.size + 1, 5, none⟩) (by simp <;> omega)).trans (frz_old _ _ _ _ (by simp <;> omega) (frz_new _ _ _ _ _ (by simp)))
  have z6 : w1.cell? ⟨w.heap.size + 1, 6, none⟩ = some (.slice none 0 0) := (hb1.cell (p := ⟨w.heap.size + 1, 6, none⟩) (by simp <;> omega)).trans (Lib.cell?_alloc_some _ (cell_new _ _ _ _ _ _ rfl (by simp)))
  have f6 : w1.frozen? ⟨w.heap.size + 1, 6, none⟩ = false := (hb1.frozen (p := ⟨w.heap.size + 1, 6, none⟩) (by simp <;> omega)).trans (frz_old _ _ _ _ (by simp <;> omega) (frz_new _ _ _ _ _ (by simp)))
  have g6 : w1.frozen? ⟨w.heap.size + 1 + 1, 6, none⟩ = false := (hb1.frozen (p := ⟨w.heap.size + 1 + 1, 6, none⟩) (by simp <;> omega)).trans (frz_new _ _ _ _ _ (by simp))
  have HS2 : Hid (w1.ownsRow (w.heap.size + 3) 83 4 sv l.length (pcs l)) := by have := unhide HS; show World.ownsRow _ _ _ _ _ _ _; simpa [Nat.add_assoc] using this
  clear hb1 HS
  obtain ⟨so, sc, rfl⟩ := owns_slice (unhide HS2)
  go_wp2
  (try simp only [Exit.inBlock, Exit.then])
  refine bodyPost_ret (res_m (B := w.heap.size + 1) (v0 := .string t) (v1 := .string p) (v2 := .int .i64 q) (v3 := .bool r) (v4 := .string f) (v5 := .int .i64 u) (v6 := .slice so l.length sc) rfl rfl ?c0 ?c1 ?c2 ?c3 ?c4 ?c5 ?c6) rfl ?_
  case c0 => simp (maxDischargeDepth := 16) [cell_set, z0]
  case c1 => simp (maxDischargeDepth := 16) [cell_set, z1]
  case c2 => simp (maxDischargeDepth := 16) [cell_set, z2]
  case c3 => simp (maxDischargeDepth := 16) [cell_set, z3]
  case c4 => simp (maxDischargeDepth := 16) [cell_set, z4]
  case c5 => simp (maxDischargeDepth := 16) [cell_set, z5]
  case c6 => simp (maxDischargeDepth := 16) [cell_set, z6]
  exact ⟨_, rfl, owns_mono (owns_low (owns_low (owns_low (owns_low (owns_low (owns_low (owns_low (owns_low (unhide HS2) (by simp <;> omega)) (by simp <;> omega)) (by simp <;> omega)) (by simp <;> omega)) (by simp <;> omega)) (by simp <;> omega)) (by simp <;> omega)) (by simp <;> omega)) (by omega), by have := unhide HB1; go_grown⟩
set_option maxHeartbeats 4000000 in
theorem own_any (m : Mg) (ao : Option Addr) (cap : Nat) (w : World) (h : Pok w ao cap m.props) :
    Calls Tryz.prog 39 #[mval m (.slice ao m.props.length cap)] w fun e w' => ∃ s, e = .returned (mval m s) ∧ Hid (w'.ownsRow w.heap.size 83 4 s m.props.length (pcs m.props)) ∧ Below w.heap.size w w' := by
  have HA := hide h
  clear h
  obtain ⟨t, p, q, r, f, u, l⟩ := m
  dsimp only at HA ⊢
  go_enter Tryz.func39, Tryz.ntmps39
  go_wp2_with fail
  refine (clonep_any ao cap l _ ((unhide HA).below (by go_grown))).mono ?_
  rintro e w1 ⟨sv, rfl, HS, hb1⟩
  have HB1 : Hid (Below w.heap.size w w1) := bnx (by go_grown) hb1
  have q0 : w1.cell? ⟨w.heap.size, 0, none⟩ = some (.string t) := (hb1.cell (p := ⟨w.heap.size, 0, none⟩) (by simp <;> omega)).trans (Lib.cell?_alloc_some _ (cell_new _ _ _ _ _ _ rfl (by simp)))
  have q1 : w1.cell? ⟨w.heap.size, 1, none⟩ = some (.string p) := (hb1.cell (p := ⟨w.heap.size, 1, none⟩) (by simp <;> omega)).trans (Lib.cell?_alloc_some _ (cell_new _ _ _ _ _ _ rfl (by simp)))
  have q2 : w1.cell? ⟨w.heap.size, 2, none⟩ = some (.int .i64 q) := (hb1.cell (p := ⟨w.heap.size, 2, none⟩) (by simp <;> omega)).trans (Lib.cell?_alloc_some _ (cell_new _ _ _ _ _ _ rfl (by simp)))
  have q3 : w1.cell? ⟨w.heap.size, 3, none⟩ = some (.bool r) := (hb1.cell (p := ⟨w.heap.size, 3, none⟩) (by simp <;> omega)).trans (Lib.cell?_alloc_some _ (cell_new _ _ _ _ _ _ rfl (by simp)))
  have q4 : w1.cell? ⟨w.heap.size, 4, none⟩ = some (.string f) := (hb1.cell (p := ⟨w.heap.size, 4, none⟩) (by simp <;> omega)).trans (Lib.cell?_alloc_some _ (cell_new _ _ _ _ _ _ rfl (by simp)))
  have q5 : w1.cell? ⟨w.heap.size, 5, none⟩ = some (.int .i64 u) := (hb1.cell (p := ⟨w.heap.size, 5, none⟩) (by simp <;> omega)).trans (Lib.cell?_alloc_some _ (cell_new _ _ _ _ _ _ rfl (by simp)))
  have q6 : w1.cell? ⟨w.heap.size, 6, none⟩ = some (.slice ao l.length cap) := (hb1.cell (p := ⟨w.heap.size, 6, none⟩) (by simp <;> omega)).trans (Lib.cell?_alloc_some _ (cell_new _ _ _ _ _ _ rfl (by simp)))
  have z0 : w1.cell? ⟨w.heap.size + 1, 0, none⟩ = some (.string ⟨#[]⟩) := (hb1.cell (p := ⟨w.heap.size + 1, 0, none⟩) (by simp <;> omega)).trans (cell_new _ _ _ _ _ _ rfl (by simp))
  have f0 : w1.frozen? ⟨w.heap.size + 1, 0, none⟩ = false := (hb1.frozen (p := ⟨w.heap.size + 1, 0, none⟩) (by simp <;> omega)).trans (frz_new _ _ _ _ _ (by simp))
  have z1 : w1.cell? ⟨w.heap.size + 1, 1, none⟩ = some (.string ⟨#[]⟩) := (hb1.cell (p := ⟨w.heap.size + 1, 1, none⟩) (by simp <;> omega)).trans (cell_new _ _ _ _ _ _ rfl (by simp))
  have f1 : w1.frozen? ⟨w.heap.size + 1, 1, none⟩ = false := (hb1.frozen (p := ⟨w.heap.size + 1, 1, none⟩) (by simp <;> omega)).trans (frz_new _ _ _ _ _ (by simp))
  have z2 : w1.cell? ⟨w.heap.size + 1, 2, none⟩ = some (.int .i64 0) := (hb1.cell (p := ⟨w.heap.size + 1, 2, none⟩) (by simp <;> omega)).trans (cell_new _ _ _ _ _ _ rfl (by simp))
  have f2 : w1.frozen? ⟨w.heap.size + 1, 2, none⟩ = false := (hb1.frozen (p := ⟨w.heap.size + 1, 2, none⟩) (by simp <;> omega)).trans (frz_new _ _ _ _ _ (by simp))
  have z3 : w1.cell? ⟨w.heap.size + 1, 3, none⟩ = some (.bool false) := (hb1.cell (p := ⟨w.heap.size + 1, 3, none⟩) (by simp <;> omega)).trans (cell_new _ _ _ _ _ _ rfl (by simp))
  have f3 : w1.frozen? ⟨w.heap.size + 1, 3, none⟩ = false := (hb1.frozen (p := ⟨w.heap.size + 1, 3, none⟩) (by simp <;> omega)).trans (frz_new _ _ _ _ _ (by simp))
  have z4 : w1.cell? ⟨w.heap.size + 1, 4, none⟩ = some (.string ⟨#[]⟩) := (hb1.cell (p := ⟨w.heap.size + 1, 4, none⟩) (by simp <;> omega)).trans (cell_new _ _ _ _ _ _ rfl (by simp))
  have f4 : w1.frozen? ⟨w.heap.size + 1, 4, none⟩ = false := (hb1.frozen (p := ⟨w.heap.size + 1, 4, none⟩) (by simp <;> omega)).trans (frz_new _ _ _ _ _ (by simp))
  have z5 : w1.cell? ⟨w.heap.size + 1, 5, none⟩ = some (.int .i64 0) := (hb1.cell (p := ⟨w.heap.size + 1, 5, none⟩) (by simp <;> omega)).trans (cell_new _ _ _ _ _ _ rfl (by simp))
  have f5 : w1.frozen? ⟨w.heap.size + 1, 5, none⟩ = false := (hb1.frozen (p := ⟨w.heap.size + 1, 5, none⟩) (by simp <;> omega)).trans (frz_new _ _ _ _ _ (by simp))
  have z6 : w1.cell? ⟨w.heap.size + 1, 6, none⟩ = some (.slice none 0 0) := (hb1.cell (p := ⟨w.heap.size + 1, 6, none⟩) (by simp <;> omega)).trans (cell_new _ _ _ _ _ _ rfl (by simp))
  have f6 : w1.frozen? ⟨w.heap.size + 1, 6, none⟩ = false := (hb1.frozen (p := ⟨w.heap.size + 1, 6, none⟩) (by simp <;> omega)).trans (frz_new _ _ _ _ _ (by simp))
  have g6 : w1.frozen? ⟨w.heap.size, 6, none⟩ = false := (hb1.frozen (p := ⟨w.heap.size, 6, none⟩) (by simp <;> omega)).trans (frz_old _ _ _ _ (by simp <;> omega) (frz_new _ _ _ _ _ (by simp)))
  have HS2 : Hid (w1.ownsRow (w.heap.size + 2) 83 4 sv l.length (pcs l)) := by have := unhide HS; show World.ownsRow _ _ _ _ _ _ _; simpa [Nat.add_assoc] using this
  clear hb1 HS
  obtain ⟨so, sc, rfl⟩ := owns_slice (unhide HS2)
  go_wp2
  (try simp only [Exit.inBlock, Exit.then])
  refine bodyPost_ret (res_m (B := w.heap.size + 1) (v0 := .string t) (v1 := .string p) (v2 := .int .i64 q) (v3 := .bool r) (v4 := .string f) (v5 := .int .i64 u) (v6 := .slice so l.length sc) rfl rfl ?c0 ?c1 ?c2 ?c3 ?c4 ?c5 ?c6) rfl ?_
  case c0 => simp (maxDischargeDepth := 16) [cell_set, z0]
  case c1 => simp (maxDischargeDepth := 16) [cell_set, z1]
  case c2 => simp (maxDischargeDepth := 16) [cell_set, z2]
  case c3 => simp (maxDischargeDepth := 16) [cell_set, z3]
  case c4 => simp (maxDischargeDepth := 16) [cell_set, z4]
  case c5 => simp (maxDischargeDepth := 16) [cell_set, z5]
  case c6 => simp (maxDischargeDepth := 16) [cell_set, z6]
  exact ⟨_, rfl, owns_mono (owns_low (owns_low (owns_low (owns_low (owns_low (owns_low (owns_low (owns_low (unhide HS2) (by simp <;> omega)) (by simp <;> omega)) (by simp <;> omega)) (by simp <;> omega)) (by simp <;> omega)) (by simp <;> omega)) (by simp <;> omega)) (by simp <;> omega)) (by omega), by have := unhide HB1; go_grown⟩
theorem infoMsg : (Tryz.prog.info? 26).map (fun i => (i.zero, i.size, i.bytes)) = some (some (.agg #[.string ⟨#[]⟩, .string ⟨#[]⟩, .int .i64 0, .bool false, .string ⟨#[]⟩, .int .i64 0, .slice none 0 0]), 7, 96) := by kernel_rfl
theorem seven_cell (w : World) (a b c d e f g : Value) (t : TypeId) : ∀ j u, [a, b, c, d, e, f, g][j]? = some u → (w.alloc (.cells #[a, b, c, d, e, f, g] t)).cell? ((⟨w.heap.size, 0, none⟩ : Addr).add j) = some u := by
  intro j u hj
  match j, hj with
  | 0, hj => simp at hj; subst hj; simp [Addr.add]
  | 1, hj => simp at hj; subst hj; simp [Addr.add]
  | 2, hj => simp at hj; subst hj; simp [Addr.add]
  | 3, hj => simp at hj; subst hj; simp [Addr.add]
  | 4, hj => simp at hj; subst hj; simp [Addr.add]
  | 5, hj => simp at hj; subst hj; simp [Addr.add]
  | 6, hj => simp at hj; subst hj; simp [Addr.add]
theorem seven_one (m : Mg) (ao : Option Addr) (n c : Nat) : ∀ u ∈ mcs m (.slice ao n c), u.oneCell' = true := by
  intro u hu; simp at hu; rcases hu with rfl | rfl | rfl | rfl | rfl | rfl | rfl <;> rfl
abbrev Mq := Mg × Value
def mrow (qs : List Mq) : List Value := qs.flatMap fun q => mcs q.1 q.2
/-- messages in a row of one's own, their properties too -/
structure OwnMs (w : World) (B : Nat) (v : Value) (qs : List Mq) : Prop where
  row : w.ownsRow B 26 7 v qs.length (mrow qs)
  prp : ∀ q ∈ qs, w.ownsRow B 83 4 q.2 q.1.props.length (pcs q.1.props) ∧ q.1.props.length ≤ 2932031007317
theorem OwnMs.nil (w : World) (B : Nat) : OwnMs w B (.slice none 0 0) [] := ⟨World.ownsRow_nil _ _ _ _, fun q h => by simp at h⟩
theorem OwnMs.below {w w' : World} {B : Nat} {v : Value} {qs : List Mq} (h : OwnMs w B v qs) (hb : Below w.heap.size w w') : OwnMs w' B v qs := ⟨owns_below h.row hb, fun q hq => ⟨owns_below (h.prp q hq).1 hb, (h.prp q hq).2⟩⟩
theorem OwnMs.mono {w : World} {B B' : Nat} {v : Value} {qs : List Mq} (h : OwnMs w B v qs) (hB : B' ≤ B) : OwnMs w B' v qs := ⟨owns_mono h.row hB, fun q hq => ⟨owns_mono (h.prp q hq).1 hB, (h.prp q hq).2⟩⟩
theorem OwnMs.blk {w : World} {B : Nat} {v : Value} {qs : List Mq} (h : OwnMs w B v qs) : ∀ g, v.ownBlock = some g → B ≤ g ∧ ∃ cur fz, w.heap[g]? = some (.cells cur 26 fz) := by
  intro g hg
  rcases h.row.2 with ⟨rfl, _⟩ | ⟨g', cap, cur, rfl, hB, hgg, _⟩
  · cases hg
  · cases hg
    exact ⟨hB, cur, _, hgg⟩
theorem owns_ty {w w' : World} {B : Nat} {e t : TypeId} {s : Nat} {v : Value} {n : Nat} {xs : List Value} {row : Option Nat} (h : w.ownsRow B e s v n xs) (hg : w.grownBy w' row) (ht : ∀ g, row = some g → ∃ cur fz, w.heap[g]? = some (.cells cur t fz)) (hne : e ≠ t) : w'.ownsRow B e s v n xs := by
  refine ⟨h.1, ?_⟩
  rcases h.2 with h1 | ⟨g, cap, cur, hv, hB, hgg, rest⟩
  · exact .inl h1
  · refine .inr ⟨g, cap, cur, hv, hB, ?_, rest⟩
    rw [hg.block g (Array.getElem?_eq_some_iff.1 hgg).1 (fun er => by
      obtain ⟨cur', fz, k⟩ := ht g er.symm
      rw [hgg] at k
      simp only [Option.some.injEq, Obj.cells.injEq] at k
      exact hne k.2.1)]
    exact hgg
theorem mrow_app (a b : List Mq) : mrow (a ++ b) = mrow a ++ mrow b := by unfold mrow; rw [List.flatMap_append]
/-- onto such a row comes another such: its cells are appended -/
theorem OwnMs.app {w w' : World} {B : Nat} {v v' : Value} {qs ps : List Mq} (h : OwnMs w B v qs) (hp : ∀ q ∈ ps, w.ownsRow B 83 4 q.2 q.1.props.length (pcs q.1.props) ∧ q.1.props.length ≤ 2932031007317) (hg : w.grownBy w' v.ownBlock) (ho : w'.ownsRow B 26 7 v' (qs.length + ps.length) (mrow qs ++ mrow ps)) : OwnMs w' B v' (qs ++ ps) := by
  have ht : ∀ g, v.ownBlock = some g → ∃ cur fz, w.heap[g]? = some (.cells cur 26 fz) := fun g e => (h.blk g e).2
  refine ⟨?_, fun q hq => ?_⟩
  · rw [List.length_append, mrow_app]
    exact ho
  · rcases List.mem_append.1 hq with hq | hq
    · exact ⟨owns_ty (h.prp q hq).1 hg ht (by decide), (h.prp q hq).2⟩
    · exact ⟨owns_ty (hp q hq).1 hg ht (by decide), (hp q hq).2⟩
theorem mrow_get (qs : List Mq) : ∀ k q, qs[k]? = some q → ∀ j, j < 7 → (mrow qs)[k * 7 + j]? = (mcs q.1 q.2)[j]? := by
  induction qs with
  | nil => intro k q hk; simp at hk
  | cons p l ih =>
    intro k q hk j hj
    have e : mrow (p :: l) = mcs p.1 p.2 ++ mrow l := rfl
    rw [e]
    rcases k with _ | k
    · simp at hk
      subst hk
      rw [List.getElem?_append_left (by simp; omega)]
      simp
    · have hl : (mcs p.1 p.2).length = 7 := rfl
      rw [List.getElem?_append_right (by omega), hl, show (k + 1) * 7 + j - 7 = k * 7 + j from by omega]
      exact ih k q (by simpa using hk) j hj
theorem OwnMs.mgs {w : World} {B : Nat} {v : Value} {qs : List Mq} (h : OwnMs w B v qs) : Mgs w v (qs.map (·.1)) := by
  rcases h.row.2 with ⟨rfl, h1⟩ | ⟨g, cap, cur, rfl, hB, hg, hnc, hcm, hcs, htake⟩
  · have : qs = [] := List.length_eq_zero_iff.1 h1
    subst this
    exact Mgs.nil w
  · refine ⟨_, cap, by rw [List.length_map], ⟨by rw [List.length_map]; exact hnc, hcm⟩, .inr ⟨g, 0, rfl, fun k hk => ?_⟩⟩
    rw [List.length_map] at hk
    obtain ⟨q, hq⟩ : ∃ q, qs[k]? = some q := ⟨_, List.getElem?_eq_getElem hk⟩
    have e : (qs.map (·.1)).getD k mg0 = q.1 := by rw [List.getD_eq_getElem?_getD, List.getElem?_map, hq]; rfl
    rw [e]
    have hp := h.prp q (List.mem_of_getElem? hq)
    obtain ⟨ao, c, hs⟩ := owns_slice hp.1
    refine ⟨ao, c, ?_, ?_⟩
    · have key : ∀ j u, j < 7 → (mcs q.1 q.2)[j]? = some u → w.cell? ⟨g, 0 + k * 7 + j, none⟩ = some u := fun j u hj hu => by
        rw [Nat.zero_add, h.row.cellAt (k * 7 + j) (by omega), mrow_get qs k q hq j hj]; exact hu
      refine ⟨key 0 _ (by omega) rfl, key 1 _ (by omega) rfl, key 2 _ (by omega) rfl, key 3 _ (by omega) rfl, key 4 _ (by omega) rfl, key 5 _ (by omega) rfl, ?_⟩
      rw [← hs]
      exact key 6 _ (by omega) rfl
    · exact ⟨by rw [← hs]; exact prp_of_owns hp.1, hp.2⟩
theorem take_snoc (l : List Mg) (k : Nat) (h : k < l.length) : l.take (k + 1) = l.take k ++ [l.getD k mg0] := by
  rw [List.take_add_one, List.getD_eq_getElem?_getD, List.getElem?_eq_getElem h]; rfl
set_option maxHeartbeats 4000000 in
theorem copyms_core (b off cap : Nat) (l : List Mg) (len : Nat) (w : World) (hlen : l.length = len) (hmx : len ≤ 1000000000) (hl : MgAt w b off l) :
    Calls Tryz.prog 11 #[.slice (some ⟨b, off, none⟩) len cap] w fun e w' => ∃ v qs, e = .returned v ∧ Hid (OwnMs w' w.heap.size v qs ∧ qs.map (·.1) = l) ∧ Below w.heap.size w w' := by
  obtain ⟨i0, hi, hz0, hz1, hz2⟩ := info_parts infoMsg
  have HL := hide hl
  have HLEN := hide hlen
  clear hl hlen
  go_enter Tryz.func11, Tryz.ntmps11
  go_wp2
  go_loopw [3, 4] (fun v i wr => ∃ (k : Nat) (qs : List Mq), k ≤ len ∧ i = .int .i64 k ∧ Hid (OwnMs wr w.heap.size v qs ∧ qs.map (·.1) = l.take k ∧ qs.length = k) ∧ Hid (Below w.heap.size w wr)) (fun _ i _ => len - (intOf i).toNat)
  case atStart => exact ⟨0, [], Nat.zero_le _, rfl, ⟨OwnMs.nil _ _, rfl, rfl⟩, Below.refl _ _⟩
  case round =>
    obtain ⟨k, qs, hk, rfl, HOWN, HBEL⟩ := hrel
    by_cases hlt : k < len
    · have HLTk : Hid (k < l.length) := by show _ < _; rw [unhide HLEN]; exact hlt
      obtain ⟨ao, c, ⟨h0, h1, h2, h3, h4, h5, h6⟩, hp⟩ := (unhide HL).below (unhide HBEL) k (unhide HLTk)
      have HTS := hide (take_snoc l k (unhide HLTk))
      generalize l.getD k mg0 = u at h0 h1 h2 h3 h4 h5 h6 hp HTS
      have HP := hide hp
      clear hp
      have hsz := (unhide HBEL).size
      have hql : qs.length = k := (unhide HOWN).2.2
      have HQL := hide hql
      clear hql
      go_wp2_with (first
        | (go_at_call 13; refine (copym_any u ao c _ (unhide HP)).mono ?_; rintro e w2 ⟨sv, rfl, HS, hb2⟩; obtain ⟨so, sc, rfl⟩ := owns_slice (unhide HS); have HO2 := hide ((unhide HOWN).1.below hb2); have hsz2 := hb2.size; have HB2 := hide hb2; clear hb2)
        | (at_builtin; refine wpList_append_own _ rfl _ _ 23 rfl w.heap.size 26 i0 _ 7 96 Tryz.underlying23 hi hz0 hz1 hz2 rfl (by decide) _ _ _ rfl ((unhide HO2).row.alloc _) ⟨w2.heap.size, 0, none⟩ 1 1 (mcs u (.slice so u.props.length sc)) rfl rfl (seven_cell _ _ _ _ _ _ _ _ _) (seven_one _ _ _ _) (by rw [unhide HQL]; unfold maxLen; omega) (by rw [unhide HQL]; omega) (by simp; omega) ?_)
        | go_in)
      intro v' w1 hown' hgrow _
      have HB1 : Hid (Below w.heap.size w w1) := (((unhide HBEL).trans ((unhide HB2).mono hsz)).alloc (by omega) _).grown hgrow (by simp; omega) (fun k hk => ((unhide HO2).blk k hk).1)
      have HO1 : Hid (OwnMs w1 w.heap.size v' (qs ++ [(u, Value.slice so u.props.length sc)]) ∧ (qs ++ [(u, Value.slice so u.props.length sc)]).map (·.1) = l.take (k + 1) ∧ (qs ++ [(u, Value.slice so u.props.length sc)]).length = k + 1) := by
        refine ⟨OwnMs.app ((unhide HO2).below ((Below.refl _ _).alloc (Nat.le_refl _) _)) ?_ hgrow (by simpa [mrow] using hown'), ?_, ?_⟩
        · intro q hq
          obtain rfl := List.mem_singleton.1 hq
          exact ⟨owns_mono ((unhide HS).alloc _) (by omega), (unhide HP).2⟩
        · rw [unhide HTS, List.map_append, (unhide HOWN).2.1]; rfl
        · simp [unhide HQL]
      clear hgrow hown'
      go_wp2
      go_roundw
      case rel => exact ⟨k + 1, _, by omega, by go_num, HO1, HB1⟩
      case measure => simp [intOf]; omega
    · obtain rfl : k = len := by omega
      have HO1 : Hid (OwnMs wr w.heap.size u3 qs ∧ qs.map (·.1) = l) := by
        refine ⟨(unhide HOWN).1, ?_⟩
        rw [(unhide HOWN).2.1, List.take_of_length_le (Nat.le_of_eq (unhide HLEN))]
      go_wp2
      go_ret
      exact ⟨_, _, rfl, HO1, unhide HBEL⟩
theorem copyms_nil (ao : Option Addr) (cap : Nat) (w : World) : Calls Tryz.prog 11 #[.slice ao 0 cap] w fun e w' => e = .returned (.slice none 0 0) ∧ w' = w := by
  go_enter Tryz.func11, Tryz.ntmps11
  go_wp2
  refine wp_loop_rounds 1 ?_
  rw [rounds_succ]
  go_wp2
  go_ret
  exact ⟨rfl, rfl⟩
theorem copyms_any (v : Value) (l : List Mg) (w : World) (h : Mgs w v l) (hmx : l.length ≤ 1000000000) : Calls Tryz.prog 11 #[v] w fun e w' => ∃ v qs, e = .returned v ∧ Hid (OwnMs w' w.heap.size v qs ∧ qs.map (·.1) = l) ∧ Below w.heap.size w w' := by
  obtain ⟨ao, cap, rfl, _, hc⟩ := h
  rcases hc with rfl | ⟨b, off, rfl, hc⟩
  · refine (copyms_nil ao cap w).mono ?_
    rintro e w' ⟨rfl, rfl⟩
    exact ⟨_, [], rfl, ⟨OwnMs.nil _ _, rfl⟩, Below.refl _ _⟩
  · exact copyms_core b off cap l _ w rfl hmx hc
end Go.Proofs.YtknbgnoahfeigaaGreatDoor.M
