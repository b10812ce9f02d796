/- Proved here: dovecoteref0.EqNumbers tells whether two lists of numbers are one, CopyNumbers copies them to memory of their own. Helper contracts. -/
import Derived.Test.YtmmhdhpocjnlbaaGreatDoorZNFr
namespace Go.Proofs.YtmmhdhpocjnlbaaGreatDoor.Nt
open Go.RowKit
set_option maxRecDepth 100000

/-- the value reads as the list -/
def Nms (w : World) (v : Value) (l : List Int) : Prop :=
  ∃ ao cap, v = .slice ao l.length cap ∧ (l.length ≤ cap ∧ cap ≤ maxLen) ∧ (l = [] ∨ ∃ b off, ao = some ⟨b, off, none⟩ ∧ ∀ j, j < l.length → w.cell? ⟨b, off + j, none⟩ = some (.int .i64 (l.getD j 0)))
theorem nms_of_owns {w : World} {B : Nat} {e : TypeId} {v : Value} {l : List Int} (h : w.ownsRow B e 1 v l.length (l.map (Value.int .i64))) : Nms w v l := by
  rcases h.2 with ⟨rfl, h1⟩ | ⟨g, cap, cur, rfl, hB, hg, h1, h2, h3, h4⟩
  · have : l = [] := List.length_eq_zero_iff.1 h1
    subst this
    exact ⟨none, 0, rfl, by simp, .inl rfl⟩
  · refine ⟨_, cap, rfl, ⟨h1, h2⟩, .inr ⟨g, 0, rfl, fun j hj => ?_⟩⟩
    rw [Nat.zero_add, h.cellAt j (by omega), List.getElem?_map, List.getElem?_eq_getElem hj, List.getD_eq_getElem?_getD, List.getElem?_eq_getElem hj]
    rfl
theorem eqn_len (ao bo : Option Addr) (n m ca cb : Nat) (w : World) (h : n ≠ m) :
    Calls Tryz.prog 29 #[.slice ao n ca, .slice bo m cb] w fun e w' => e = .returned (.bool false) ∧ w' = w := by
  have h1 : ((n : Int) == (m : Int)) = false := beq_eq_false_iff_ne.2 (by omega)
  go_enter Tryz.func29, Tryz.ntmps29
  go_wp2
  go_ret
  exact ⟨rfl, rfl⟩

theorem eqn_nil (ao bo : Option Addr) (ca cb : Nat) (w : World) :
    Calls Tryz.prog 29 #[.slice ao 0 ca, .slice bo 0 cb] w fun e w' => e = .returned (.bool true) ∧ w' = w := by
  go_enter Tryz.func29, Tryz.ntmps29
  go_wp2
  refine wp_loop_rounds 1 ?_
  rw [rounds_succ]
  go_wp2
  go_ret
  exact ⟨rfl, rfl⟩

set_option maxHeartbeats 1000000 in
theorem eqn_core (ba oa bb ob n ca cb : Nat) (f g : Nat → Int) (w : World) (hn : n ≤ maxLen)
    (hf : ∀ j, j < n → w.cell? ⟨ba, oa + j, none⟩ = some (.int .i64 (f j))) (hg : ∀ j, j < n → w.cell? ⟨bb, ob + j, none⟩ = some (.int .i64 (g j))) :
    Calls Tryz.prog 29 #[.slice (some ⟨ba, oa, none⟩) n ca, .slice (some ⟨bb, ob, none⟩) n cb] w fun e w' => (∃ b, e = .returned (.bool b) ∧ (b = true ↔ ∀ j, j < n → f j = g j)) ∧ ∃ k, w' = w.drewN k := by
  unfold maxLen at hn
  have HF := hide hf
  have HG := hide hg
  clear hf hg
  go_enter Tryz.func29, Tryz.ntmps29
  go_wp2
  go_loopw [5] (fun i wr => ∃ k q : Nat, k ≤ n ∧ i = .int .i64 k ∧ wr = w.drewN q ∧ ∀ j, j < k → f j = g j) (fun i _ => n - (intOf i).toNat)
  case atStart => exact ⟨0, 0, Nat.zero_le _, rfl, rfl, fun j hj => absurd hj (Nat.not_lt_zero j)⟩
  case round =>
    obtain ⟨k, q, hk, rfl, rfl, hall⟩ := hrel
    have HA := hide hall
    clear hall
    by_cases hlt : k < n
    · have hfk := (unhide HF) k hlt
      have hgk := (unhide HG) k hlt
      generalize hx : f k = x at hfk
      generalize hy : g k = y at hgk
      have HX := hide hx
      have HY := hide hy
      clear hx hy
      by_cases hxy : x = y
      · have hb : (x == y) = true := beq_iff_eq.2 hxy
        have HE := hide hxy
        clear hxy
        go_wp2
        go_quiet (fail)
        go_wp2
        go_roundw
        case rel => exact ⟨k + 1, _, by omega, by go_num, rfl, fun j hj => by
          rcases Nat.lt_succ_iff_lt_or_eq.1 hj with h | h
          · exact (unhide HA) j h
          · rw [h, unhide HX, unhide HY]; exact unhide HE⟩
        case measure => simp [intOf]; omega
      · have hb : (x == y) = false := beq_eq_false_iff_ne.2 hxy
        go_wp2
        go_quiet (fail)
        go_wp2
        go_ret
        refine ⟨⟨_, rfl, ?_⟩, q + nq, drewN_drewN _ _ _⟩
        constructor
        · intro h; cases h
        · intro h; exact absurd ((unhide HX).symm.trans ((h k hlt).trans (unhide HY))) hxy
    · go_wp2
      go_ret
      exact ⟨⟨_, rfl, fun _ j hj => (unhide HA) j (by omega), fun _ => rfl⟩, _, rfl⟩

theorem eqn_any (va vb : Value) (xs ys : List Int) (w : World) (ha : Nms w va xs) (hb : Nms w vb ys) :
    Calls Tryz.prog 29 #[va, vb] w fun e w' => e = .returned (.bool (decide (xs = ys))) ∧ ∃ k, w' = w.drewN k := by
  obtain ⟨ao, ca, rfl, hla, ha⟩ := ha
  obtain ⟨bo, cb, rfl, _, hb⟩ := hb
  by_cases hl : xs.length = ys.length
  · rcases ha with rfl | ⟨ba, oa, rfl, hca⟩
    · have hb0 : ys = [] := List.length_eq_zero_iff.1 hl.symm
      subst hb0
      refine (eqn_nil _ _ _ _ _).mono ?_
      rintro e w' ⟨rfl, rfl⟩
      exact ⟨by simp, 0, rfl⟩
    · rcases hb with rfl | ⟨bb, ob, rfl, hcb⟩
      · have ha0 : xs = [] := List.length_eq_zero_iff.1 hl
        subst ha0
        refine (eqn_nil _ _ _ _ _).mono ?_
        rintro e w' ⟨rfl, rfl⟩
        exact ⟨by simp, 0, rfl⟩
      · rw [← hl] at hcb ⊢
        refine (eqn_core ba oa bb ob xs.length ca cb (fun j => xs.getD j 0) (fun j => ys.getD j 0) w (Nat.le_trans hla.1 hla.2) hca hcb).mono ?_
        rintro e w' ⟨⟨b, rfl, hbb⟩, k, rfl⟩
        refine ⟨?_, k, rfl⟩
        have : (b = true) ↔ xs = ys := by
          rw [hbb]
          constructor
          · intro h
            apply List.ext_getElem hl
            intro i h1 h2
            have := h i h1
            rw [List.getD_eq_getElem?_getD, List.getD_eq_getElem?_getD, List.getElem?_eq_getElem h1, List.getElem?_eq_getElem h2] at this
            exact this
          · rintro rfl j _; rfl
        rw [show b = decide (xs = ys) from by rw [Bool.eq_iff_iff, this]; simp]
  · refine (eqn_len ao bo xs.length ys.length ca cb w hl).mono ?_
    rintro e w' ⟨rfl, rfl⟩
    refine ⟨?_, 0, rfl⟩
    rw [show decide (xs = ys) = false from decide_eq_false (fun h => hl (by rw [h]))]
theorem take_snocD {α : Type} (l : List α) (d : α) (k : Nat) (h : k < l.length) : l.take (k + 1) = l.take k ++ [l.getD k d] := by
  rw [List.take_succ_eq_append_getElem h, List.getD_eq_getElem?_getD, List.getElem?_eq_getElem h]; rfl
theorem infoN : (Tryz.prog.info? 3).map (fun i => (i.zero, i.size, i.bytes)) = some (some (.int .i64 0), 1, 8) := by kernel_rfl
set_option maxHeartbeats 4000000 in
theorem cpn_core (b off cap : Nat) (l : List Int) (len : Nat) (w : World) (hlen : l.length = len) (hmx : len ≤ 17592186043904) (hl : ∀ j, j < l.length → w.cell? ⟨b, off + j, none⟩ = some (.int .i64 (l.getD j 0))) :
    Calls Tryz.prog 23 #[.slice (some ⟨b, off, none⟩) len cap] w fun e w' => ∃ v, e = .returned v ∧ Hid (w'.ownsRow w.heap.size 3 1 v len (l.map (Value.int .i64))) ∧ Below w.heap.size w w' := by
  obtain ⟨i0, hi, hz0, hz1, hz2⟩ := info_parts infoN
  have HL := hide hl
  have HLEN := hide hlen
  clear hl hlen
  go_enter Tryz.func23, Tryz.ntmps23
  go_wp2
  go_loopw [3, 4] (fun v i wr => ∃ k : Nat, k ≤ len ∧ i = .int .i64 k ∧ Hid (wr.ownsRow w.heap.size 3 1 v k ((l.take k).map (Value.int .i64))) ∧ Below w.heap.size w wr) (fun _ i _ => len - (intOf i).toNat)
  case atStart => exact ⟨0, Nat.zero_le _, rfl, World.ownsRow_nil _ _ _ _, Below.refl _ _⟩
  case round =>
    obtain ⟨k, hk, rfl, HOWN, hbel⟩ := hrel
    by_cases hlt : k < len
    · have HLTk : Hid (k < l.length) := by show _ < _; rw [unhide HLEN]; exact hlt
      have hat := (unhide HL) k (unhide HLTk)
      have HPS : Hid ((l.take (k + 1)).map (Value.int .i64) = (l.take k).map (Value.int .i64) ++ [.int .i64 (l.getD k 0)]) := by show _ = _; rw [take_snocD l 0 k (unhide HLTk)]; rw [List.map_append]; rfl
      have hc1 := (hbel.cell (p := ⟨b, off + k, none⟩) (cell_lt hat)).trans hat
      generalize l.getD k 0 = x at hc1 HPS hat
      have HBEL := hide hbel
      have hsz := hbel.size
      clear hat hbel
      go_wp2_with (first
        | (at_builtin; refine wpList_append_own _ rfl _ _ 25 rfl w.heap.size 3 i0 _ 1 8 Tryz.underlying25 hi hz0 hz1 hz2 rfl (by decide) _ _ _ rfl ((unhide HOWN).alloc _) ⟨wr.heap.size, 0, none⟩ 1 1 [.int .i64 x] rfl rfl (one_cell _ _ _) (fun u hu => by simp at hu; subst hu; rfl) (by unfold maxLen; omega) (by omega) (by simp; omega) ?_)
        | go_in)
      intro v' w1 hown' hgrow _
      have HB1 : Hid (Below w.heap.size w w1) := ((unhide HBEL).alloc hsz _).grown hgrow (by simp; omega) (fun k hk => ((unhide HOWN).lt k hk).1)
      have HO1 : Hid (w1.ownsRow w.heap.size 3 1 v' (k + 1) ((l.take (k + 1)).map (Value.int .i64))) := by show World.ownsRow _ _ _ _ _ _ _; rw [unhide HPS]; first | exact hown' | (rw [List.map_take]; exact hown')
      clear hgrow hown'
      go_wp2
      go_roundw
      case rel => exact ⟨k + 1, by omega, by go_num, HO1, unhide HB1⟩
      case measure => simp [intOf]; omega
    · obtain rfl : k = len := by omega
      have HO1 : Hid (wr.ownsRow w.heap.size 3 1 u3 k (l.map (Value.int .i64))) := by
        show World.ownsRow _ _ _ _ _ _ _
        have := unhide HOWN
        rw [List.take_of_length_le (Nat.le_of_eq (unhide HLEN))] at this
        exact this
      go_wp2
      go_ret
      exact ⟨_, rfl, HO1, hbel⟩
theorem cpn_nil (ao : Option Addr) (cap : Nat) (w : World) : Calls Tryz.prog 23 #[.slice ao 0 cap] w fun e w' => e = .returned (.slice none 0 0) ∧ w' = w := by
  go_enter Tryz.func23, Tryz.ntmps23
  go_wp2
  refine wp_loop_rounds 1 ?_
  rw [rounds_succ]
  go_wp2
  go_ret
  exact ⟨rfl, rfl⟩
theorem cpn_any (v : Value) (l : List Int) (w : World) (h : Nms w v l) (hmx : l.length ≤ 17592186043904) : Calls Tryz.prog 23 #[v] w fun e w' => ∃ v, e = .returned v ∧ Hid (Nms w' v l) ∧ Below w.heap.size w w' := by
  obtain ⟨ao, cap, rfl, -, hc⟩ := h
  rcases hc with rfl | ⟨b, off, rfl, hc⟩
  · refine (cpn_nil ao cap w).mono ?_
    rintro e w' ⟨rfl, rfl⟩
    exact ⟨_, rfl, ⟨none, 0, rfl, by simp, .inl rfl⟩, Below.refl _ _⟩
  · refine (cpn_core b off cap l _ w rfl hmx hc).mono ?_
    rintro e w' ⟨v', rfl, ho, hb⟩
    exact ⟨v', rfl, nms_of_owns (unhide ho), hb⟩
theorem cpn_own (v : Value) (l : List Int) (w : World) (h : Nms w v l) (hmx : l.length ≤ 17592186043904) : Calls Tryz.prog 23 #[v] w fun e w' => ∃ v, e = .returned v ∧ Hid (w'.ownsRow w.heap.size 3 1 v l.length (l.map (Value.int .i64))) ∧ Below w.heap.size w w' := by
  obtain ⟨ao, cap, rfl, -, hc⟩ := h
  rcases hc with rfl | ⟨b, off, rfl, hc⟩
  · refine (cpn_nil ao cap w).mono ?_
    rintro e w' ⟨rfl, rfl⟩
    exact ⟨_, rfl, World.ownsRow_nil _ _ _ _, Below.refl _ _⟩
  · exact cpn_core b off cap l _ w rfl hmx hc
theorem Nms.below {w w' : World} {v : Value} {l : List Int} (h : Nms w v l) (hb : Below w.heap.size w w') : Nms w' v l := by
  obtain ⟨ao, cap, h1, h2, h3⟩ := h
  refine ⟨ao, cap, h1, h2, ?_⟩
  rcases h3 with h3 | ⟨b, off, e, hc⟩
  · exact .inl h3
  · exact .inr ⟨b, off, e, fun j hj => (hb.cell (p := ⟨b, off + j, none⟩) (cell_lt (hc j hj))).trans (hc j hj)⟩
end Go.Proofs.YtmmhdhpocjnlbaaGreatDoor.Nt
