/- Proved here: slices.Clone of entries and of numbers, CopyEntries: memory of their own. Helper contracts. -/
import Derived.Test.YtfgelagmjjjlgaaZNEn
import Derived.Test.YtfgelagmjjjlgaaZNNm
import Derived.Lib.SliceRun
namespace Go.Proofs.Ytfgelagmjjjlgaa.Nt
open Go.RowKit
set_option maxRecDepth 100000

theorem ecs_one (l : List En) : ∀ u ∈ ecs l, u.oneCell' = true := by
  intro u hu
  unfold ecs at hu
  rw [List.mem_flatMap] at hu
  obtain ⟨p, _, hp⟩ := hu
  simp at hp
  rcases hp with rfl | rfl | rfl | rfl <;> rfl
theorem ecs_cell {w : World} {b off : Nat} {l : List En} (h : EnAt w b off l) : ∀ j u, (ecs l)[j]? = some u → w.cell? ((⟨b, off, none⟩ : Addr).add j) = some u := by
  intro j u hj
  have hjl := (List.getElem?_eq_some_iff.1 hj).1
  rw [ecs_length] at hjl
  have hk : j / 4 < l.length := by omega
  obtain ⟨g0, g1, g2, g3⟩ := ecs_get l (j / 4) hk
  obtain ⟨h0, h1, h2, h3⟩ := h (j / 4) hk
  have ea : (⟨b, off, none⟩ : Addr).add j = ⟨b, off + j, none⟩ := by simp [Addr.add]
  rw [ea]
  have hm : j % 4 = 0 ∨ j % 4 = 1 ∨ j % 4 = 2 ∨ j % 4 = 3 := by omega
  rcases hm with e | e | e | e
  · have ej : j = j / 4 * 4 := by omega
    rw [← ej] at g0 h0
    rw [h0, ← hj, g0]
  · have ej : j = j / 4 * 4 + 1 := by omega
    rw [← ej] at g1
    rw [Nat.add_assoc, ← ej] at h1
    rw [h1, ← hj, g1]
  · have ej : j = j / 4 * 4 + 2 := by omega
    rw [← ej] at g2
    rw [Nat.add_assoc, ← ej] at h2
    rw [h2, ← hj, g2]
  · have ej : j = j / 4 * 4 + 3 := by omega
    rw [← ej] at g3
    rw [Nat.add_assoc, ← ej] at h3
    rw [h3, ← hj, g3]
theorem clone_nil (n c : Nat) (w : World) : Calls Try.prog 37 #[.slice none n c] w fun e w' => e = .returned (.slice none 0 0) ∧ w' = w := by
  have q : ∀ (w : World) (a : Option Addr) (n c n' c' : Nat), (binOp .eql 31 (.slice a n c) (.slice none n' c')).run Try.prog w = .ok (.bool a.isNone) w := fun w a n c n' c' => Lib.run_eql_slice_nil w _ _ a n c n' c' Try.underlying31
  go_enter Try.func37, Try.ntmps37
  go_wp2
  go_ret
  exact ⟨rfl, rfl⟩
set_option maxHeartbeats 2000000 in
theorem clone_some (a : Addr) (c : Nat) (l : List En) (len : Nat) (w : World) (hlen : l.length = len) (hmx : len ≤ 3518437208780) (h : ∀ j u, (ecs l)[j]? = some u → w.cell? (a.add j) = some u) :
    Calls Try.prog 37 #[.slice (some a) len c] w fun e w' => ∃ v, e = .returned v ∧ Hid (w'.ownsRow w.heap.size 63 4 v len (ecs l)) ∧ Below w.heap.size w w' := by
  have q : ∀ (w : World) (a : Option Addr) (n c n' c' : Nat), (binOp .eql 31 (.slice a n c) (.slice none n' c')).run Try.prog w = .ok (.bool a.isNone) w := fun w a n c n' c' => Lib.run_eql_slice_nil w _ _ a n c n' c' Try.underlying31
  obtain ⟨i0, hi, hz0, hz1, hz2⟩ := info_parts infoEnt
  have HL : Hid ((ecs l).length = len * 4) := by show _ = _; rw [ecs_length, hlen]
  have HC := hide h
  have HO := hide (ecs_one l)
  clear h hlen
  go_enter Try.func37, Try.ntmps37
  go_wp2_with (first
    | (at_builtin; refine wpList_append_own _ rfl _ _ 31 rfl w.heap.size 63 i0 _ 4 40 Try.underlying31 hi hz0 hz1 hz2 rfl (by decide) _ _ _ rfl (World.ownsRow_made w #[] 0 (Nat.le_refl _) (Nat.zero_le _) rfl) a len c (ecs l) rfl (unhide HL) ?qc2 (unhide HO) (by unfold maxLen; omega) (by omega) (by simp) ?_)
    | go_in)
  case qc2 =>
    intro j u hj
    refine Lib.cell?_alloc_some _ ?_
    exact (unhide HC) j u hj
  intro v' w1 hown hgrow _
  have HOW : Hid (w1.ownsRow w.heap.size 63 4 v' len (ecs l)) := by show World.ownsRow _ _ _ _ _ _ _; simpa using hown
  have HB : Hid (Below w.heap.size w w1) := ((Below.refl _ w).alloc (Nat.le_refl _) _).grown hgrow (by simp) (by intro k hk; simp [Value.ownBlock] at hk; omega)
  clear hown hgrow
  go_wp2
  go_ret
  exact ⟨v', rfl, unhide HOW, unhide HB⟩
theorem clone_any (ao : Option Addr) (cap : Nat) (l : List En) (w : World) (h : Ens w (.slice ao l.length cap) l) (hmx : l.length ≤ 3518437208780) : Calls Try.prog 37 #[.slice ao l.length cap] w fun e w' => ∃ v, e = .returned v ∧ Hid (w'.ownsRow w.heap.size 63 4 v l.length (ecs l)) ∧ Below w.heap.size w w' := by
  obtain ⟨ao', cap', e, hc⟩ := h
  cases e
  cases ao with
  | none =>
    rcases hc with rfl | ⟨b, off, e, _⟩
    · refine (clone_nil _ _ w).mono ?_
      rintro e w' ⟨rfl, rfl⟩
      exact ⟨_, rfl, World.ownsRow_nil _ _ _ _, Below.refl _ _⟩
    · cases e
  | some a =>
    refine clone_some a cap l _ w rfl hmx ?_
    rcases hc with rfl | ⟨b, off, e, hc⟩
    · intro j u hj; simp [ecs] at hj
    · cases e
      exact ecs_cell hc
theorem cope_own (v : Value) (l : List En) (w : World) (h : Ens w v l) (hmx : l.length ≤ 3518437208780) : Calls Try.prog 28 #[v] w fun e w' => ∃ v, e = .returned v ∧ Hid (w'.ownsRow w.heap.size 63 4 v l.length (ecs l)) ∧ Below w.heap.size w w' := by
  obtain ⟨ao, cap, rfl, hc⟩ := h
  rcases hc with rfl | ⟨b, off, rfl, hc⟩
  · refine (cope_nil ao cap w).mono ?_
    rintro e w' ⟨rfl, rfl⟩
    exact ⟨_, rfl, World.ownsRow_nil _ _ _ _, Below.refl _ _⟩
  · exact cope_core b off cap l _ w rfl hmx hc
theorem ncs_one (l : List Int) : ∀ u ∈ l.map (Value.int .i64), u.oneCell' = true := by
  intro u hu
  rw [List.mem_map] at hu
  obtain ⟨p, _, rfl⟩ := hu
  rfl
theorem ncs_cell {w : World} {b off : Nat} {l : List Int} (h : ∀ j, j < l.length → w.cell? ⟨b, off + j, none⟩ = some (.int .i64 (l.getD j 0))) : ∀ j u, (l.map (Value.int .i64))[j]? = some u → w.cell? ((⟨b, off, none⟩ : Addr).add j) = some u := by
  intro j u hj
  have hjl := (List.getElem?_eq_some_iff.1 hj).1
  rw [List.length_map] at hjl
  have ea : (⟨b, off, none⟩ : Addr).add j = ⟨b, off + j, none⟩ := by simp [Addr.add]
  rw [ea, h j hjl, ← hj, List.getElem?_map, List.getElem?_eq_getElem hjl, List.getD_eq_getElem?_getD, List.getElem?_eq_getElem hjl]
  rfl
theorem clonei_nil (n c : Nat) (w : World) : Calls Try.prog 38 #[.slice none n c] w fun e w' => e = .returned (.slice none 0 0) ∧ w' = w := by
  have q : ∀ (w : World) (a : Option Addr) (n c n' c' : Nat), (binOp .eql 28 (.slice a n c) (.slice none n' c')).run Try.prog w = .ok (.bool a.isNone) w := fun w a n c n' c' => Lib.run_eql_slice_nil w _ _ a n c n' c' Try.underlying28
  go_enter Try.func38, Try.ntmps38
  go_wp2
  go_ret
  exact ⟨rfl, rfl⟩
set_option maxHeartbeats 2000000 in
theorem clonei_some (a : Addr) (c : Nat) (l : List Int) (len : Nat) (w : World) (hlen : l.length = len) (hmx : len ≤ 17592186043904) (h : ∀ j u, (l.map (Value.int .i64))[j]? = some u → w.cell? (a.add j) = some u) :
    Calls Try.prog 38 #[.slice (some a) len c] w fun e w' => ∃ v, e = .returned v ∧ Hid (w'.ownsRow w.heap.size 3 1 v len (l.map (Value.int .i64))) ∧ Below w.heap.size w w' := by
  have q : ∀ (w : World) (a : Option Addr) (n c n' c' : Nat), (binOp .eql 28 (.slice a n c) (.slice none n' c')).run Try.prog w = .ok (.bool a.isNone) w := fun w a n c n' c' => Lib.run_eql_slice_nil w _ _ a n c n' c' Try.underlying28
  obtain ⟨i0, hi, hz0, hz1, hz2⟩ := info_parts infoN
  have HL : Hid ((l.map (Value.int .i64)).length = len * 1) := by show _ = _; rw [List.length_map, hlen]; omega
  have HC := hide h
  have HO := hide (ncs_one l)
  clear h hlen
  go_enter Try.func38, Try.ntmps38
  go_wp2_with (first
    | (at_builtin; refine wpList_append_own _ rfl _ _ 28 rfl w.heap.size 3 i0 _ 1 8 Try.underlying28 hi hz0 hz1 hz2 rfl (by decide) _ _ _ rfl (World.ownsRow_made w #[] 0 (Nat.le_refl _) (Nat.zero_le _) rfl) a len c (l.map (Value.int .i64)) rfl (unhide HL) ?qc2 (unhide HO) (by unfold maxLen; omega) (by omega) (by simp) ?_)
    | go_in)
  case qc2 =>
    intro j u hj
    refine Lib.cell?_alloc_some _ ?_
    exact (unhide HC) j u hj
  intro v' w1 hown hgrow _
  have HOW : Hid (w1.ownsRow w.heap.size 3 1 v' len (l.map (Value.int .i64))) := by show World.ownsRow _ _ _ _ _ _ _; simpa using hown
  have HB : Hid (Below w.heap.size w w1) := ((Below.refl _ w).alloc (Nat.le_refl _) _).grown hgrow (by simp) (by intro k hk; simp [Value.ownBlock] at hk; omega)
  clear hown hgrow
  go_wp2
  go_ret
  exact ⟨v', rfl, unhide HOW, unhide HB⟩
theorem clonei_any (ao : Option Addr) (cap : Nat) (l : List Int) (w : World) (h : Nms w (.slice ao l.length cap) l) (hmx : l.length ≤ 17592186043904) : Calls Try.prog 38 #[.slice ao l.length cap] w fun e w' => ∃ v, e = .returned v ∧ Hid (w'.ownsRow w.heap.size 3 1 v l.length (l.map (Value.int .i64))) ∧ Below w.heap.size w w' := by
  obtain ⟨ao', cap', e, _, hc⟩ := h
  cases e
  cases ao with
  | none =>
    rcases hc with rfl | ⟨b, off, e, _⟩
    · refine (clonei_nil _ _ w).mono ?_
      rintro e w' ⟨rfl, rfl⟩
      exact ⟨_, rfl, World.ownsRow_nil _ _ _ _, Below.refl _ _⟩
    · cases e
  | some a =>
    refine clonei_some a cap l _ w rfl hmx ?_
    rcases hc with rfl | ⟨b, off, e, hc⟩
    · intro j u hj; simp at hj
    · cases e
      exact ncs_cell hc
theorem clone_v (v : Value) (l : List En) (w : World) (h : Ens w v l) (hmx : l.length ≤ 3518437208780) : Calls Try.prog 37 #[v] w fun e w' => ∃ v, e = .returned v ∧ Hid (w'.ownsRow w.heap.size 63 4 v l.length (ecs l)) ∧ Below w.heap.size w w' := by
  obtain ⟨ao, cap, e, hc⟩ := h
  subst e
  exact clone_any ao cap l w ⟨ao, cap, rfl, hc⟩ hmx
theorem clonei_v (v : Value) (l : List Int) (w : World) (h : Nms w v l) (hmx : l.length ≤ 17592186043904) : Calls Try.prog 38 #[v] w fun e w' => ∃ v, e = .returned v ∧ Hid (w'.ownsRow w.heap.size 3 1 v l.length (l.map (Value.int .i64))) ∧ Below w.heap.size w w' := by
  obtain ⟨ao, cap, e, hb, hc⟩ := h
  subst e
  exact clonei_any ao cap l w ⟨ao, cap, rfl, hb, hc⟩ hmx
end Go.Proofs.Ytfgelagmjjjlgaa.Nt
