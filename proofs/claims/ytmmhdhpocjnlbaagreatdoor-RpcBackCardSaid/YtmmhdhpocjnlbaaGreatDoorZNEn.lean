/- Proved here: entries in memory; dovecoteref0.CopyEntries copies them to memory of its own, EqProps tells whether two lists are one. Helper contracts. -/
import Derived.Test.YtmmhdhpocjnlbaaGreatDoorZNFr
import Derived.Laws.StructEq
import Derived.Handy
namespace Go.Proofs.YtmmhdhpocjnlbaaGreatDoor.Nt
open Go.RowKit
set_option maxRecDepth 100000

theorem ret_bool {a b : Bool} (h : a = b) : Ending.returned (.bool a) = .returned (.bool b) := by rw [h]
abbrev En := Int × Int × Int × ByteArray
abbrev e0 : En := (0, 0, 0, ⟨#[]⟩)
def en0 (l : List En) (i : Nat) : En := l.getD i e0
theorem take_snocE (l : List En) (k : Nat) (h : k < l.length) : l.take (k + 1) = l.take k ++ [en0 l k] := by
  unfold en0
  rw [List.take_add_one, List.getD_eq_getElem?_getD, List.getElem?_eq_getElem h]; rfl
/-- entries in memory -/
def EnAt (w : World) (b off : Nat) (l : List En) : Prop := ∀ k, k < l.length → w.cell? ⟨b, off + k * 4, none⟩ = some (.int .i64 (en0 l k).1) ∧ w.cell? ⟨b, off + k * 4 + 1, none⟩ = some (.int .i64 (en0 l k).2.1) ∧ w.cell? ⟨b, off + k * 4 + 2, none⟩ = some (.int .i64 (en0 l k).2.2.1) ∧ w.cell? ⟨b, off + k * 4 + 3, none⟩ = some (.string (en0 l k).2.2.2)
theorem EnAt.below {w w' : World} {b off : Nat} {l : List En} (h : EnAt w b off l) (hb : Below w.heap.size w w') : EnAt w' b off l := fun k hk => by
  obtain ⟨h0, h1, h2, h3⟩ := h k hk
  have hl := cell_lt h0
  exact ⟨(hb.cell (p := ⟨b, off + k * 4, none⟩) hl).trans h0, (hb.cell (p := ⟨b, off + k * 4 + 1, none⟩) hl).trans h1, (hb.cell (p := ⟨b, off + k * 4 + 2, none⟩) hl).trans h2, (hb.cell (p := ⟨b, off + k * 4 + 3, none⟩) hl).trans h3⟩
/-- the value v reads in the world w as the properties l -/
def Ens (w : World) (v : Value) (l : List En) : Prop := ∃ ao cap, v = .slice ao l.length cap ∧ (l = [] ∨ ∃ b off, ao = some ⟨b, off, none⟩ ∧ EnAt w b off l)
theorem Ens.below {w w' : World} {v : Value} {l : List En} (h : Ens w v l) (hb : Below w.heap.size w w') : Ens w' v l := by
  obtain ⟨ao, cap, h1, h2⟩ := h
  refine ⟨ao, cap, h1, ?_⟩
  rcases h2 with h2 | ⟨b, off, e, hc⟩
  · exact .inl h2
  · exact .inr ⟨b, off, e, hc.below hb⟩
theorem Ens.form {w : World} {v : Value} {l : List En} (h : Ens w v l) : ∃ ao cap, v = .slice ao l.length cap := by
  obtain ⟨ao, cap, h1, _⟩ := h
  exact ⟨ao, cap, h1⟩
/-- a list's cells, four a property -/
def ecs (l : List En) : List Value := l.flatMap fun p => [.int .i64 p.1, .int .i64 p.2.1, .int .i64 p.2.2.1, .string p.2.2.2]
theorem infoEnt : (Tryz.prog.info? 56).map (fun i => (i.zero, i.size, i.bytes)) = some (some (.agg #[.int .i64 0, .int .i64 0, .int .i64 0, .string ⟨#[]⟩]), 4, 40) := by kernel_rfl
theorem ecs_length (l : List En) : (ecs l).length = l.length * 4 := by
  induction l with
  | nil => rfl
  | cons p l ih => unfold ecs at *; rw [List.flatMap_cons, List.length_append, ih]; simp; omega
theorem ecs_get (l : List En) : ∀ k, k < l.length → (ecs l)[k * 4]? = some (.int .i64 (en0 l k).1) ∧ (ecs l)[k * 4 + 1]? = some (.int .i64 (en0 l k).2.1) ∧ (ecs l)[k * 4 + 2]? = some (.int .i64 (en0 l k).2.2.1) ∧ (ecs l)[k * 4 + 3]? = some (.string (en0 l k).2.2.2) := by
  induction l with
  | nil => intro k hk; simp at hk
  | cons p l ih =>
    intro k hk
    have e : ecs (p :: l) = [.int .i64 p.1, .int .i64 p.2.1, .int .i64 p.2.2.1, .string p.2.2.2] ++ ecs l := rfl
    rw [e]
    rcases k with _ | k
    · exact ⟨rfl, rfl, rfl, rfl⟩
    · have h := ih k (by simpa using hk)
      have ea : en0 (p :: l) (k + 1) = en0 l k := by unfold en0; rw [List.getD_cons_succ]
      rw [ea]
      refine ⟨?_, ?_, ?_, ?_⟩
      · rw [List.getElem?_append_right (by simp; omega)]; rw [show (k + 1) * 4 - [Value.int .i64 p.1, .int .i64 p.2.1, .int .i64 p.2.2.1, .string p.2.2.2].length = k * 4 from by simp; omega]; exact h.1
      · rw [List.getElem?_append_right (by simp; omega)]; rw [show (k + 1) * 4 + 1 - [Value.int .i64 p.1, .int .i64 p.2.1, .int .i64 p.2.2.1, .string p.2.2.2].length = k * 4 + 1 from by simp; omega]; exact h.2.1
      · rw [List.getElem?_append_right (by simp; omega)]; rw [show (k + 1) * 4 + 2 - [Value.int .i64 p.1, .int .i64 p.2.1, .int .i64 p.2.2.1, .string p.2.2.2].length = k * 4 + 2 from by simp; omega]; exact h.2.2.1
      · rw [List.getElem?_append_right (by simp; omega)]; rw [show (k + 1) * 4 + 3 - [Value.int .i64 p.1, .int .i64 p.2.1, .int .i64 p.2.2.1, .string p.2.2.2].length = k * 4 + 3 from by simp; omega]; exact h.2.2.2
theorem ens_of_owns {w : World} {B : Nat} {e : TypeId} {v : Value} {l : List En} (h : w.ownsRow B e 4 v l.length (ecs l)) : Ens w v l := by
  rcases h.2 with ⟨rfl, h1⟩ | ⟨g, cap, cur, rfl, hB, hg, rest⟩
  · have : l = [] := List.length_eq_zero_iff.1 h1
    subst this
    exact ⟨none, 0, rfl, .inl rfl⟩
  · refine ⟨_, cap, rfl, .inr ⟨g, 0, rfl, fun k hk => ?_⟩⟩
    obtain ⟨h0, h1, h2, h3⟩ := ecs_get l k hk
    refine ⟨?_, ?_, ?_, ?_⟩
    · rw [Nat.zero_add, h.cellAt (k * 4) (by omega)]; exact h0
    · rw [Nat.zero_add, h.cellAt (k * 4 + 1) (by omega)]; exact h1
    · rw [Nat.zero_add, h.cellAt (k * 4 + 2) (by omega)]; exact h2
    · rw [Nat.zero_add, h.cellAt (k * 4 + 3) (by omega)]; exact h3
theorem ecs_snoc (l : List En) (k : Nat) (h : k < l.length) : ecs (l.take (k + 1)) = ecs (l.take k) ++ [.int .i64 (en0 l k).1, .int .i64 (en0 l k).2.1, .int .i64 (en0 l k).2.2.1, .string (en0 l k).2.2.2] := by
  rw [take_snocE l k h]
  unfold ecs
  rw [List.flatMap_append]
  rfl
theorem four_cell (w : World) (a b c d : Value) (t : TypeId) : ∀ j u, [a, b, c, d][j]? = some u → (w.alloc (.cells #[a, b, c, d] t)).cell? ((⟨w.heap.size, 0, none⟩ : Addr).add j) = some u := by
  intro j u hj
  match j, hj with
  | 0, hj => simp at hj; subst hj; simp [Addr.add]
  | 1, hj => simp at hj; subst hj; simp [Addr.add]
  | 2, hj => simp at hj; subst hj; simp [Addr.add]
  | 3, hj => simp at hj; subst hj; simp [Addr.add]
theorem four_one (a b c : Int) (d : ByteArray) : ∀ u ∈ [Value.int .i64 a, .int .i64 b, .int .i64 c, .string d], u.oneCell' = true := by
  intro u hu; simp at hu; rcases hu with rfl | rfl | rfl | rfl <;> rfl
set_option maxHeartbeats 4000000 in
theorem cope_core (b off cap : Nat) (l : List En) (len : Nat) (w : World) (hlen : l.length = len) (hmx : len ≤ 3518437208780) (hl : EnAt w b off l) :
    Calls Tryz.prog 22 #[.slice (some ⟨b, off, none⟩) len cap] w fun e w' => ∃ v, e = .returned v ∧ Hid (w'.ownsRow w.heap.size 56 4 v len (ecs l)) ∧ Below w.heap.size w w' := by
  obtain ⟨i0, hi, hz0, hz1, hz2⟩ := info_parts infoEnt
  have HL := hide hl
  have HLEN := hide hlen
  clear hl hlen
  go_enter Tryz.func22, Tryz.ntmps22
  go_wp2
  go_loopw [3, 4] (fun v i wr => ∃ k : Nat, k ≤ len ∧ i = .int .i64 k ∧ Hid (wr.ownsRow w.heap.size 56 4 v k (ecs (l.take k))) ∧ Below w.heap.size w wr) (fun _ i _ => len - (intOf i).toNat)
  case atStart => exact ⟨0, Nat.zero_le _, rfl, World.ownsRow_nil _ _ _ _, Below.refl _ _⟩
  case round =>
    obtain ⟨k, hk, rfl, HOWN, hbel⟩ := hrel
    by_cases hlt : k < len
    · have HLTk : Hid (k < l.length) := by show _ < _; rw [unhide HLEN]; exact hlt
      obtain ⟨h0, h1, h2, h3⟩ := ((unhide HL).below hbel) k (unhide HLTk)
      have HPS := hide (ecs_snoc l k (unhide HLTk))
      obtain ⟨id, n, s, t, hp⟩ : ∃ id n s t, en0 l k = (id, n, s, t) := ⟨_, _, _, _, rfl⟩
      rw [hp] at h0 h1 h2 h3 HPS
      simp only at h0 h1 h2 h3
      have HBEL := hide hbel
      have hsz := hbel.size
      clear hp hbel
      go_wp2_with (first
        | (at_builtin; refine wpList_append_own _ rfl _ _ 24 rfl w.heap.size 56 i0 _ 4 40 Tryz.underlying24 hi hz0 hz1 hz2 rfl (by decide) _ _ _ rfl ((unhide HOWN).alloc _) ⟨wr.heap.size, 0, none⟩ 1 1 [.int .i64 id, .int .i64 n, .int .i64 s, .string t] rfl rfl (four_cell _ _ _ _ _ _) (four_one _ _ _ _) (by unfold maxLen; omega) (by omega) (by simp; omega) ?_)
        | go_in)
      intro v' w1 hown' hgrow _
      have HB1 : Hid (Below w.heap.size w w1) := ((unhide HBEL).alloc hsz _).grown hgrow (by simp; omega) (fun k hk => ((unhide HOWN).lt k hk).1)
      have HO1 : Hid (w1.ownsRow w.heap.size 56 4 v' (k + 1) (ecs (l.take (k + 1)))) := by show World.ownsRow _ _ _ _ _ _ _; rw [unhide HPS]; exact hown'
      clear hgrow hown'
      go_wp2
      go_roundw
      case rel => exact ⟨k + 1, by omega, by go_num, HO1, unhide HB1⟩
      case measure => simp [intOf]; omega
    · obtain rfl : k = len := by omega
      have HO1 : Hid (wr.ownsRow w.heap.size 56 4 u3 k (ecs l)) := by
        show World.ownsRow _ _ _ _ _ _ _
        have := unhide HOWN
        rw [List.take_of_length_le (Nat.le_of_eq (unhide HLEN))] at this
        exact this
      go_wp2
      go_ret
      exact ⟨_, rfl, HO1, hbel⟩
theorem cope_nil (ao : Option Addr) (cap : Nat) (w : World) : Calls Tryz.prog 22 #[.slice ao 0 cap] w fun e w' => e = .returned (.slice none 0 0) ∧ w' = w := by
  go_enter Tryz.func22, Tryz.ntmps22
  go_wp2
  refine wp_loop_rounds 1 ?_
  rw [rounds_succ]
  go_wp2
  go_ret
  exact ⟨rfl, rfl⟩
theorem cope_any (v : Value) (l : List En) (w : World) (h : Ens w v l) (hmx : l.length ≤ 3518437208780) : Calls Tryz.prog 22 #[v] w fun e w' => ∃ v, e = .returned v ∧ Hid (Ens w' v l) ∧ Below w.heap.size w w' := by
  obtain ⟨ao, cap, rfl, hc⟩ := h
  rcases hc with rfl | ⟨b, off, rfl, hc⟩
  · refine (cope_nil ao cap w).mono ?_
    rintro e w' ⟨rfl, rfl⟩
    exact ⟨_, rfl, ⟨none, 0, rfl, .inl rfl⟩, Below.refl _ _⟩
  · refine (cope_core b off cap l _ w rfl hmx hc).mono ?_
    rintro e w' ⟨v', rfl, ho, hb⟩
    exact ⟨v', rfl, ens_of_owns (unhide ho), hb⟩

theorem eqgE : Tryz.prog.eqGuardType Tryz.prog.depth 56 = false := by kernel_rfl
theorem stoodE : Tryz.prog.stoodInHeld 56 = false := by kernel_rfl
theorem undE : Tryz.prog.underlying 56 = some (.struct (Tryz.prog.fieldsOf 56)) := by kernel_rfl
def same (p q : En) : Bool := (p.1 == q.1 && p.2.1 == q.2.1 && p.2.2.1 == q.2.2.1 && p.2.2.2.toList == q.2.2.2.toList)
theorem neqE (id n s id' n' s' : Int) (t t' : ByteArray) (w : World) : (binOp .neq 56 (.agg #[.int .i64 id, .int .i64 n, .int .i64 s, .string t]) (.agg #[.int .i64 id', .int .i64 n', .int .i64 s', .string t'])).run Tryz.prog w = .ok (.bool (!(same (id, n, s, t) (id', n', s', t')))) w := by
  rw [run_neq_struct, run_equalIn_struct w 9999 56 _ _ undE stoodE]
  rw [show Tryz.prog.fieldsOf 56 = _ from rfl]
  simp [Program.fieldsOf, Tryz.underlying56, Op.eqFields, go_sem]
  unfold same
  by_cases h1 : id = id'
  · by_cases h2 : n = n'
    · by_cases h3 : s = s'
      · by_cases h4 : t.toList = t'.toList
        · simp [h1, h2, h3, h4]
        · simp [h1, h2, h3, h4]
      · simp [h1, h2, h3]
    · simp [h1, h2]
  · simp [h1]
theorem toList_inj {a b : ByteArray} (h : a.toList = b.toList) : a = b := by
  rw [ByteArray.toList_eq, ByteArray.toList_eq] at h
  obtain ⟨⟨x⟩⟩ := a
  obtain ⟨⟨y⟩⟩ := b
  simp at h
  rw [h]
theorem same_iff (p q : En) : same p q = true ↔ p = q := by
  obtain ⟨a, b, c, d⟩ := p
  obtain ⟨a', b', c', d'⟩ := q
  unfold same
  constructor
  · intro h
    simp only [Bool.and_eq_true, beq_iff_eq] at h
    obtain ⟨⟨⟨h1, h2⟩, h3⟩, h4⟩ := h
    rw [h1, h2, h3, toList_inj h4]
  · rintro h
    injection h with h1 h
    injection h with h2 h
    injection h with h3 h4
    subst h1 h2 h3 h4
    simp
set_option maxHeartbeats 4000000 in
theorem eqe_core (ba oa bb ob ca cb : Nat) (l m : List En) (len : Nat) (w : World) (hl : l.length = len) (hm : m.length = len) (hmx : len ≤ 140737488351232) (ha : EnAt w ba oa l) (hb : EnAt w bb ob m) :
    Calls Tryz.prog 28 #[.slice (some ⟨ba, oa, none⟩) len ca, .slice (some ⟨bb, ob, none⟩) len cb] w fun e w' => (∃ b, e = .returned (.bool b) ∧ (b = true ↔ ∀ j, j < len → en0 l j = en0 m j)) ∧ ∃ k, w' = w.drewN k := by
  have HL := hide hl
  have HM := hide hm
  have HA := hide ha
  have HB := hide hb
  clear hl hm ha hb
  go_enter Tryz.func28, Tryz.ntmps28
  go_wp2
  go_loopw [5] (fun i wr => ∃ k q : Nat, k ≤ len ∧ i = .int .i64 k ∧ wr = w.drewN q ∧ Hid (∀ j, j < k → en0 l j = en0 m j)) (fun i _ => len - (intOf i).toNat)
  case atStart => exact ⟨0, 0, Nat.zero_le _, rfl, rfl, fun j hj => absurd hj (Nat.not_lt_zero j)⟩
  case round =>
    obtain ⟨k, q, hk, rfl, rfl, HALL⟩ := hrel
    by_cases hlt : k < len
    · obtain ⟨h0, h1, h2, h3⟩ := (unhide HA) k (by rw [unhide HL]; exact hlt)
      obtain ⟨g0, g1, g2, g3⟩ := (unhide HB) k (by rw [unhide HM]; exact hlt)
      obtain ⟨id, n, s, t, hp⟩ : ∃ id n s t, en0 l k = (id, n, s, t) := ⟨_, _, _, _, rfl⟩
      obtain ⟨id', n', s', t', hp'⟩ : ∃ id n s t, en0 m k = (id, n, s, t) := ⟨_, _, _, _, rfl⟩
      rw [hp] at h0 h1 h2 h3
      rw [hp'] at g0 g1 g2 g3
      simp only at h0 h1 h2 h3 g0 g1 g2 g3
      have HP := hide hp
      have HP' := hide hp'
      clear hp hp'
      have qg := eqgE
      have qn := fun W => neqE id n s id' n' s' t t' W
      generalize hsb : same (id, n, s, t) (id', n', s', t') = sb at qn
      have HSB := hide hsb
      clear hsb
      cases sb
      · have HNE : Hid (en0 l k ≠ en0 m k) := fun e => by
          rw [unhide HP, unhide HP'] at e
          have := (same_iff _ _).2 e
          rw [unhide HSB] at this
          cases this
        go_wp2
        go_quiet (fail)
        go_wp2
        go_ret
        refine ⟨⟨_, rfl, ?_⟩, q + nq, drewN_drewN _ _ _⟩
        constructor
        · intro h; cases h
        · intro h; exact absurd (h k hlt) (unhide HNE)
      · have HE : Hid (en0 l k = en0 m k) := by
          show _ = _
          rw [unhide HP, unhide HP']
          exact (same_iff _ _).1 (unhide HSB)
        go_wp2
        go_quiet (fail)
        go_wp2
        go_roundw
        case rel => exact ⟨k + 1, _, by omega, by go_num, rfl, fun j hj => by
          rcases Nat.lt_succ_iff_lt_or_eq.1 hj with h | h
          · exact (unhide HALL) j h
          · rw [h]; exact unhide HE⟩
        case measure => simp [intOf]; omega
    · go_wp2
      go_ret
      exact ⟨⟨_, rfl, fun _ j hj => (unhide HALL) j (by omega), fun _ => rfl⟩, _, rfl⟩
theorem eqe_len (ao bo : Option Addr) (n m ca cb : Nat) (w : World) (h : n ≠ m) :
    Calls Tryz.prog 28 #[.slice ao n ca, .slice bo m cb] w fun e w' => e = .returned (.bool false) ∧ w' = w := by
  have h1 : ((n : Int) == (m : Int)) = false := beq_eq_false_iff_ne.2 (by omega)
  go_enter Tryz.func28, Tryz.ntmps28
  go_wp2
  go_ret
  exact ⟨rfl, rfl⟩
theorem eqe_nil (ao bo : Option Addr) (ca cb : Nat) (w : World) :
    Calls Tryz.prog 28 #[.slice ao 0 ca, .slice bo 0 cb] w fun e w' => e = .returned (.bool true) ∧ w' = w := by
  go_enter Tryz.func28, Tryz.ntmps28
  go_wp2
  refine wp_loop_rounds 1 ?_
  rw [rounds_succ]
  go_wp2
  go_ret
  exact ⟨rfl, rfl⟩
theorem en0_ext {l m : List En} (hl : l.length = m.length) (h : ∀ j, j < l.length → en0 l j = en0 m j) : l = m := by
  apply List.ext_getElem hl
  intro i h1 h2
  have := h i h1
  unfold en0 at this
  rw [List.getD_eq_getElem?_getD, List.getD_eq_getElem?_getD, List.getElem?_eq_getElem h1, List.getElem?_eq_getElem h2] at this
  exact this
/-- two lists that are one -/
theorem eqe_same (va vb : Value) (l : List En) (w : World) (ha : Ens w va l) (hb : Ens w vb l) (hmx : l.length ≤ 140737488351232) :
    Calls Tryz.prog 28 #[va, vb] w fun e w' => e = .returned (.bool true) ∧ Below w.heap.size w w' := by
  obtain ⟨ao, ca, rfl, ha⟩ := ha
  obtain ⟨bo, cb, rfl, hb⟩ := hb
  rcases ha with rfl | ⟨ba, oa, rfl, hca⟩
  · refine (eqe_nil _ _ _ _ _).mono ?_
    rintro e w' ⟨rfl, rfl⟩
    exact ⟨rfl, Below.refl _ _⟩
  · rcases hb with rfl | ⟨bb, ob, rfl, hcb⟩
    · refine (eqe_nil _ _ _ _ _).mono ?_
      rintro e w' ⟨rfl, rfl⟩
      exact ⟨rfl, Below.refl _ _⟩
    · refine (eqe_core ba oa bb ob ca cb l l _ w rfl rfl hmx hca hcb).mono ?_
      rintro e w' ⟨⟨b, rfl, hbb⟩, k, rfl⟩
      refine ⟨ret_bool (hbb.2 (fun _ _ => rfl)), below_drewN (Below.refl _ _) k⟩
theorem eqe_any (va vb : Value) (l m : List En) (w : World) (ha : Ens w va l) (hb : Ens w vb m) (hmx : l.length ≤ 140737488351232) :
    Calls Tryz.prog 28 #[va, vb] w fun e w' => (∃ b, e = .returned (.bool b) ∧ (b = true ↔ l = m)) ∧ ∃ k, w' = w.drewN k := by
  obtain ⟨ao, ca, rfl, ha⟩ := ha
  obtain ⟨bo, cb, rfl, hb⟩ := hb
  by_cases hl : l.length = m.length
  · rcases ha with rfl | ⟨ba, oa, rfl, hca⟩
    · obtain rfl : m = [] := List.length_eq_zero_iff.1 hl.symm
      refine (eqe_nil _ _ _ _ _).mono ?_
      rintro e w' ⟨rfl, rfl⟩
      exact ⟨⟨true, rfl, by simp⟩, 0, rfl⟩
    · rcases hb with rfl | ⟨bb, ob, rfl, hcb⟩
      · obtain rfl : l = [] := List.length_eq_zero_iff.1 hl
        refine (eqe_nil _ _ _ _ _).mono ?_
        rintro e w' ⟨rfl, rfl⟩
        exact ⟨⟨true, rfl, by simp⟩, 0, rfl⟩
      · rw [← hl]
        refine (eqe_core ba oa bb ob ca cb l m l.length w rfl hl.symm hmx hca hcb).mono ?_
        rintro e w' ⟨⟨b, rfl, hbb⟩, k, rfl⟩
        exact ⟨⟨b, rfl, hbb.trans ⟨fun h => en0_ext hl h, fun h j _ => by rw [h]⟩⟩, k, rfl⟩
  · refine (eqe_len ao bo l.length m.length ca cb w hl).mono ?_
    rintro e w' ⟨rfl, rfl⟩
    exact ⟨⟨false, rfl, by constructor; (intro h; cases h); (intro h; exact absurd (by rw [h]) hl)⟩, 0, rfl⟩
end Go.Proofs.YtmmhdhpocjnlbaaGreatDoor.Nt
