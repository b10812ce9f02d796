/- Proved here: helpers, one text behind the other. -/
import Derived.Test.YtdjpllmgjmnolaaGreatDoorM1
/- Proved here: a list in order with one row more, another, or without one; such lists in memory: appended, cut, and a row's subscription set. Helper laws. -/
namespace Go.Proofs.YtdjpllmgjmnolaaGreatDoor.Y
open Go.RowKit Go.Maps
set_option maxRecDepth 100000

theorem lt_left {x y z : Rw} (h1 : x.c = y.c) (h2 : x.s.f = y.s.f) : lt x z ↔ lt y z := by unfold lt cf; rw [h1, h2]
theorem lt_right {x y z : Rw} (h1 : x.c = y.c) (h2 : x.s.f = y.s.f) : lt z x ↔ lt z y := by unfold lt cf; rw [h1, h2]
theorem getD_mem {R : List Rw} {k : Nat} (h : k < R.length) : R.getD k default ∈ R := by
  rw [List.getD_eq_getElem?_getD, List.getElem?_eq_getElem h]; exact List.getElem_mem h
theorem mem_getD_ex {R : List Rw} {x : Rw} (h : x ∈ R) : ∃ j, j < R.length ∧ R.getD j default = x := by
  obtain ⟨j, hj, e⟩ := List.getElem_of_mem h
  exact ⟨j, hj, by rw [List.getD_eq_getElem?_getD, List.getElem?_eq_getElem hj]; exact e⟩
theorem srt_at {R : List Rw} (h : Srt R) {i j : Nat} (hij : i < j) (hj : j < R.length) : lt (R.getD i default) (R.getD j default) := by
  rw [Srt, List.pairwise_iff_getElem] at h
  have k := h i j (by omega) hj hij
  rw [List.getD_eq_getElem?_getD, List.getElem?_eq_getElem (by omega), List.getD_eq_getElem?_getD, List.getElem?_eq_getElem hj]
  exact k
theorem find_had {R : List Rw} {c f : ByteArray} {k : Nat} {there : Bool} (hs : Srt R) (h : FindIs R c f k there) : there = true ↔ hadS (fun x => x ∈ R) c f := by
  obtain ⟨h1, h2, h3, h4⟩ := h
  rw [h4]
  constructor
  · rintro ⟨hk, e1, e2⟩
    exact ⟨_, getD_mem hk, e1, e2⟩
  · rintro ⟨x, hx, e1, e2⟩
    obtain ⟨j, hj, rfl⟩ := mem_getD_ex hx
    have hnl : ¬ lt (R.getD j default) (fr0 c f) := fun e => by
      have := (lt_left (z := fr0 c f) (y := fr0 c f) e1 e2).1 e
      exact lt_irrefl _ this
    have hjk : k ≤ j := by
      rcases Nat.lt_or_ge j k with h | h
      · exact absurd (h2 j h) hnl
      · exact h
    rcases Nat.lt_or_eq_of_le hjk with h | h
    · have k1 := srt_at hs h hj
      exact absurd ((lt_right (x := R.getD j default) (y := fr0 c f) e1 e2).1 k1) (h3 (by omega))
    · subst h
      exact ⟨hj, e1, e2⟩
/-- what stands from there on is not less -/
theorem find_up {R : List Rw} {c f : ByteArray} {k : Nat} {there : Bool} (hs : Srt R) (h : FindIs R c f k there) {j : Nat} (hkj : k ≤ j) (hj : j < R.length) : ¬ lt (R.getD j default) (fr0 c f) := by
  intro e
  rcases Nat.lt_or_eq_of_le hkj with h1 | h1
  · exact h.2.2.1 (by omega) (lt_trans (srt_at hs h1 hj) e)
  · subst h1
    exact h.2.2.1 hj e
theorem mem_take_ex {R : List Rw} {k : Nat} {x : Rw} (h : x ∈ R.take k) : ∃ j, j < k ∧ j < R.length ∧ R.getD j default = x := by
  obtain ⟨j, hj, e⟩ := List.getElem_of_mem h
  rw [List.length_take] at hj
  rw [List.getElem_take] at e
  exact ⟨j, by omega, by omega, by rw [List.getD_eq_getElem?_getD, List.getElem?_eq_getElem (by omega)]; exact e⟩
theorem mem_drop_ex {R : List Rw} {k : Nat} {x : Rw} (h : x ∈ R.drop k) : ∃ j, k ≤ j ∧ j < R.length ∧ R.getD j default = x := by
  obtain ⟨j, hj, e⟩ := List.getElem_of_mem h
  rw [List.length_drop] at hj
  rw [List.getElem_drop] at e
  exact ⟨k + j, by omega, by omega, by rw [List.getD_eq_getElem?_getD, List.getElem?_eq_getElem (by omega)]; exact e⟩
theorem take_in {R : List Rw} {k j : Nat} (hj : j < k) (hR : j < R.length) : R.getD j default ∈ R.take k := by
  rw [List.getD_eq_getElem?_getD, List.getElem?_eq_getElem hR]
  exact List.mem_take_iff_getElem.2 ⟨j, by omega, rfl⟩
theorem drop_in {R : List Rw} {k j : Nat} (hj : k ≤ j) (hR : j < R.length) : R.getD j default ∈ R.drop k := by
  rw [List.getD_eq_getElem?_getD, List.getElem?_eq_getElem hR]
  exact List.mem_drop_iff_getElem.2 ⟨j - k, by omega, by congr 1; omega⟩
theorem srt_cut {R : List Rw} (h : Srt R) (k m : Nat) (hkm : k ≤ m) : Srt (R.take k ++ R.drop m) := by
  refine List.pairwise_append.2 ⟨h.sublist (List.take_sublist _ _), h.sublist (List.drop_sublist _ _), fun x hx y hy => ?_⟩
  obtain ⟨i, hi, hiR, rfl⟩ := mem_take_ex hx
  obtain ⟨j, hj, hjR, rfl⟩ := mem_drop_ex hy
  exact srt_at h (by omega) hjR
/-- without the one that was found -/
theorem del_is {R : List Rw} {c f : ByteArray} {k : Nat} (hs : Srt R) (h : FindIs R c f k true) : Srt (R.take k ++ R.drop (k + 1)) ∧ (fun x => x ∈ R.take k ++ R.drop (k + 1)) = delS (fun x => x ∈ R) c f ∧ (R.take k ++ R.drop (k + 1)).length + 1 = R.length := by
  have hf := h.2.2.2.1 rfl
  refine ⟨srt_cut hs k (k + 1) (by omega), ?_, by simp only [List.length_append, List.length_take, List.length_drop]; omega⟩
  funext x
  refine propext ⟨fun hx => ?_, fun hx => ?_⟩
  · rcases List.mem_append.1 hx with hx | hx
    · obtain ⟨j, hj, hjR, rfl⟩ := mem_take_ex hx
      exact ⟨getD_mem hjR, fun e => absurd ((lt_left (z := fr0 c f) (y := fr0 c f) e.1 e.2).1 (h.2.1 j hj)) (lt_irrefl _)⟩
    · obtain ⟨j, hj, hjR, rfl⟩ := mem_drop_ex hx
      refine ⟨getD_mem hjR, fun e => ?_⟩
      have k1 := srt_at hs (show k < j by omega) hjR
      have k2 := (lt_right (z := R.getD k default) (x := R.getD j default) (y := R.getD k default) (e.1.trans hf.2.1.symm) (e.2.trans hf.2.2.symm)).1 k1
      exact lt_irrefl _ k2
  · obtain ⟨hx, hn⟩ := hx
    obtain ⟨j, hj, rfl⟩ := mem_getD_ex hx
    rcases Nat.lt_trichotomy j k with h1 | h1 | h1
    · exact List.mem_append.2 (.inl (take_in h1 hj))
    · subst h1
      exact absurd ⟨hf.2.1, hf.2.2⟩ hn
    · exact List.mem_append.2 (.inr (drop_in (by omega) hj))
/-- with one more -/
theorem ins_is {R : List Rw} {k : Nat} {y : Rw} (hs : Srt R) (h : FindIs R y.c y.s.f k false) : Srt (R.take k ++ [y] ++ R.drop k) ∧ (fun x => x ∈ R.take k ++ [y] ++ R.drop k) = insS (fun x => x ∈ R) y ∧ (R.take k ++ [y] ++ R.drop k).length = R.length + 1 := by
  have hno : ¬ hadS (fun x => x ∈ R) y.c y.s.f := fun e => by have := (find_had hs h).2 e; cases this
  have hk := h.1
  have hlo : ∀ j, j < k → lt (R.getD j default) y := fun j hj => (lt_right (x := fr0 y.c y.s.f) (y := y) rfl rfl).1 (h.2.1 j hj)
  have hup : ∀ j, k ≤ j → j < R.length → lt y (R.getD j default) := fun j hj hjR => by
    have k1 := find_up hs h hj hjR
    by_cases k2 : lt y (R.getD j default)
    · exact k2
    · exfalso
      have k3 : ¬ lt (R.getD j default) y := fun e => k1 ((lt_right (x := y) (y := fr0 y.c y.s.f) rfl rfl).1 e)
      obtain ⟨e1, e2⟩ := not_lt_zero k3 k2
      exact hno ⟨_, getD_mem hjR, e1, e2⟩
  refine ⟨?_, ?_, by simp only [List.length_append, List.length_take, List.length_drop, List.length_cons, List.length_nil]; omega⟩
  · rw [List.append_assoc]
    refine List.pairwise_append.2 ⟨hs.sublist (List.take_sublist _ _), ?_, fun x hx z hz => ?_⟩
    · rw [List.singleton_append]
      refine List.pairwise_cons.2 ⟨fun z hz => ?_, hs.sublist (List.drop_sublist _ _)⟩
      obtain ⟨j, hj, hjR, rfl⟩ := mem_drop_ex hz
      exact hup j hj hjR
    · obtain ⟨i, hi, hiR, rfl⟩ := mem_take_ex hx
      rcases List.mem_append.1 hz with hz | hz
      · rw [List.mem_singleton.1 hz]; exact hlo i hi
      · obtain ⟨j, hj, hjR, rfl⟩ := mem_drop_ex hz
        exact srt_at hs (by omega) hjR
  · funext x
    refine propext ⟨fun hx => ?_, fun hx => ?_⟩
    · rcases List.mem_append.1 hx with hx | hx
      · rcases List.mem_append.1 hx with hx | hx
        · obtain ⟨j, hj, hjR, rfl⟩ := mem_take_ex hx
          exact .inr ⟨getD_mem hjR, fun e => hno ⟨_, getD_mem hjR, e.1, e.2⟩⟩
        · exact .inl (List.mem_singleton.1 hx)
      · obtain ⟨j, hj, hjR, rfl⟩ := mem_drop_ex hx
        exact .inr ⟨getD_mem hjR, fun e => hno ⟨_, getD_mem hjR, e.1, e.2⟩⟩
    · rcases hx with rfl | ⟨hx, _⟩
      · simp
      · obtain ⟨j, hj, rfl⟩ := mem_getD_ex hx
        rcases Nat.lt_or_ge j k with h1 | h1
        · exact List.mem_append.2 (.inl (List.mem_append.2 (.inl (take_in h1 hj))))
        · exact List.mem_append.2 (.inr (drop_in h1 hj))
/-- with another in its place -/
theorem rep_is {R : List Rw} {k : Nat} {y : Rw} (hs : Srt R) (h : FindIs R y.c y.s.f k true) : Srt (R.take k ++ [y] ++ R.drop (k + 1)) ∧ (fun x => x ∈ R.take k ++ [y] ++ R.drop (k + 1)) = insS (fun x => x ∈ R) y ∧ (R.take k ++ [y] ++ R.drop (k + 1)).length = R.length := by
  have hf := h.2.2.2.1 rfl
  obtain ⟨hd1, hd2, hd3⟩ := del_is hs h
  refine ⟨?_, ?_, by simp only [List.length_append, List.length_take, List.length_drop, List.length_cons, List.length_nil]; omega⟩
  · rw [List.append_assoc]
    have hp := List.pairwise_append.1 hd1
    refine List.pairwise_append.2 ⟨hp.1, ?_, fun x hx z hz => ?_⟩
    · rw [List.singleton_append]
      refine List.pairwise_cons.2 ⟨fun z hz => ?_, hp.2.1⟩
      obtain ⟨j, hj, hjR, rfl⟩ := mem_drop_ex hz
      exact (lt_left (x := R.getD k default) (y := y) hf.2.1 hf.2.2).1 (srt_at hs (by omega) hjR)
    · obtain ⟨i, hi, hiR, rfl⟩ := mem_take_ex hx
      rcases List.mem_append.1 hz with hz | hz
      · rw [List.mem_singleton.1 hz]
        exact (lt_right (x := R.getD k default) (y := y) hf.2.1 hf.2.2).1 (srt_at hs hi hf.1)
      · exact hp.2.2 _ hx _ hz
  · funext x
    have e := congrFun hd2 x
    simp only [delS] at e
    refine propext ⟨fun hx => ?_, fun hx => ?_⟩
    · rcases List.mem_append.1 hx with hx | hx
      · rcases List.mem_append.1 hx with hx | hx
        · exact .inr (e.mp (List.mem_append.2 (.inl hx)))
        · exact .inl (List.mem_singleton.1 hx)
      · exact .inr (e.mp (List.mem_append.2 (.inr hx)))
    · rcases hx with rfl | hx
      · simp
      · rcases List.mem_append.1 (e.mpr hx) with h1 | h1
        · exact List.mem_append.2 (.inl (List.mem_append.2 (.inl h1)))
        · exact List.mem_append.2 (.inr h1)

/-! rows in memory -/
theorem getD_take {L : List Rw} {k j : Nat} (h : j < k) : (L.take k).getD j default = L.getD j default := by
  rw [List.getD_eq_getElem?_getD, List.getElem?_take, if_pos h, List.getD_eq_getElem?_getD]
theorem getD_drop {L : List Rw} {k j : Nat} : (L.drop k).getD j default = L.getD (k + j) default := by
  rw [List.getD_eq_getElem?_getD, List.getElem?_drop, List.getD_eq_getElem?_getD]
theorem rows_take {w : World} {ao : Option Addr} {n cap : Nat} {L : List Rw} (h : RowsIn w (.slice ao n cap) L) (k : Nat) (hk : k ≤ n) : RowsIn w (.slice ao k cap) (L.take k) := by
  obtain ⟨ao', cap', e, ⟨h1, h2⟩, h3⟩ := h
  simp only [Value.slice.injEq] at e
  obtain ⟨rfl, rfl, rfl⟩ := e
  have hl : (L.take k).length = k := by rw [List.length_take]; omega
  refine ⟨ao, cap, by rw [hl], ⟨by omega, h2⟩, ?_⟩
  rcases h3 with ⟨e, rfl, ec⟩ | ⟨g, off, e, hc⟩
  · exact .inl ⟨e, by simp, ec⟩
  · exact .inr ⟨g, off, e, fun j hj => by rw [hl] at hj; rw [getD_take hj]; exact hc j (by omega)⟩
theorem rows_drop {w : World} {g off n cap : Nat} {L : List Rw} (h : RowsIn w (.slice (some ⟨g, off, none⟩) n cap) L) (k : Nat) (hk : k ≤ n) : RowsIn w (.slice (if cap = k then some ⟨g, off, none⟩ else some ⟨g, off + k * 6, none⟩) (n - k) (cap - k)) (L.drop k) := by
  obtain ⟨ao', cap', e, ⟨h1, h2⟩, h3⟩ := h
  simp only [Value.slice.injEq] at e
  obtain ⟨rfl, rfl, rfl⟩ := e
  have hl : (L.drop k).length = L.length - k := List.length_drop
  refine ⟨_, _, by rw [hl], ⟨by omega, by omega⟩, ?_⟩
  by_cases e0 : L.length = k
  · have hnil : L.drop k = [] := List.drop_of_length_le (by omega)
    rw [hnil]
    by_cases ec : cap = k
    · rw [if_pos ec]; exact .inr ⟨g, off, rfl, fun j hj => absurd hj (Nat.not_lt_zero _)⟩
    · rw [if_neg ec]; exact .inr ⟨g, off + k * 6, rfl, fun j hj => absurd hj (Nat.not_lt_zero _)⟩
  · rw [if_neg (by omega)]
    rcases h3 with ⟨e, _⟩ | ⟨g', off', e, hc⟩
    · cases e
    · simp only [Option.some.injEq, Addr.mk.injEq, and_true] at e
      obtain ⟨rfl, rfl⟩ := e
      refine .inr ⟨g, off + k * 6, rfl, fun j hj => ?_⟩
      rw [hl] at hj
      rw [getD_drop, show off + k * 6 + j * 6 = off + (k + j) * 6 from by omega]
      exact hc (k + j) (by omega)
theorem rows_cells {w : World} {g off : Nat} {L : List Rw} (hc : ∀ k, k < L.length → RwAt w g (off + k * 6) (L.getD k default)) : ∀ j u, (hrow L)[j]? = some u → w.cell? ((⟨g, off, none⟩ : Addr).add j) = some u := fun j u hj => by
  have hlt : j < L.length * 6 := by
    have := (List.getElem?_eq_some_iff.1 hj).1
    rw [hrow_len] at this
    exact this
  rw [hrow_get L j hlt] at hj
  have k := hc (j / 6) (by omega)
  have e : off + j = off + j / 6 * 6 + j % 6 := by omega
  have hm : j % 6 < 6 := Nat.mod_lt _ (by decide)
  rw [show (⟨g, off, none⟩ : Addr).add j = ⟨g, off + j, none⟩ from by simp [Addr.add], e]
  generalize j % 6 = m at hj hm
  obtain ⟨k0, k1, k2, k3, k4, k5⟩ := k
  match m, hm, hj with
  | 0, _, hj => rw [← hj]; exact k0
  | 1, _, hj => rw [← hj]; exact k1
  | 2, _, hj => rw [← hj]; exact k2
  | 3, _, hj => rw [← hj]; exact k3
  | 4, _, hj => rw [← hj]; exact k4
  | 5, _, hj => rw [← hj]; exact k5
theorem hrow_one_cell (L : List Rw) : ∀ u ∈ hrow L, u.oneCell' = true := fun u hu => by
  obtain ⟨r, _, hr⟩ := List.mem_flatMap.1 hu
  exact six_one r u hr
/-- rows are appended to rows of one's own -/
theorem app_rows (w : World) (base : Nat) (ty : TypeId) (v vx : Value) (A B : List Rw) (hown : w.ownsRow base 37 6 v A.length (hrow A)) (hB : RowsIn w vx B) (hn : A.length + B.length ≤ 1000000) (hbase : base ≤ w.heap.size) :
    ∃ v' w', Sem.run Tryz.prog (Builtin.append_ #[26, 26] ty #[v, vx]) w = .ok v' w' ∧ w'.ownsRow base 37 6 v' (A ++ B).length (hrow (A ++ B)) ∧ w.grownBy w' v.ownBlock ∧ (v'.ownBlock = v.ownBlock ∨ v'.ownBlock = some w.heap.size) := by
  obtain ⟨i0, hi, hz0, hz1, hz2⟩ := info_parts infoHit
  obtain ⟨ao, cap, rfl, hcap, h3⟩ := hB
  rw [hrow_app, List.length_append]
  rcases h3 with ⟨rfl, rfl, rfl⟩ | ⟨g, off, rfl, hc⟩
  · refine ⟨v, w, run_append_owned_none (P := Tryz.prog) (w := w) base 26 ty 37 i0 6 Tryz.underlying26 hi v _ _ hown, ?_, ⟨rfl, rfl, rfl, Nat.le_refl _, fun _ _ _ => rfl⟩, .inl rfl⟩
    simpa [hrow] using hown
  · obtain ⟨v', w', k1, k2, k3, _, k5⟩ := run_append_own_at (P := Tryz.prog) w base 26 ty 37 i0 _ 6 56 Tryz.underlying26 hi hz0 hz1 hz2 rfl (by decide) v A.length (hrow A) hown ⟨g, off, none⟩ B.length cap (hrow B) (hrow_len B) (rows_cells hc) (hrow_one_cell B) (by unfold maxLen; omega) (by omega) hbase
    exact ⟨v', w', k1, k2, k3, k5⟩
theorem wpList_app_rows (w : World) {ops : Array Oper} {rest : List Oper} {o : Oper} {a : Act} {Q : Exit → Act → World → Prop} (hgd : o.guard = none) (s x : Operand) (ho : o.op = .call { callee := .builtin .append, args := #[s, x], argTypes := #[26, 26] })
    (base : Nat) (v vx : Value) (A B : List Rw) (hs : a.eval s = v) (hx : a.eval x = vx) (hown : w.ownsRow base 37 6 v A.length (hrow A)) (hB : RowsIn w vx B) (hn : A.length + B.length ≤ 1000000) (hbase : base ≤ w.heap.size)
    (h : ∀ v' w', w'.ownsRow base 37 6 v' (A ++ B).length (hrow (A ++ B)) → w.grownBy w' v.ownBlock → (v'.ownBlock = v.ownBlock ∨ v'.ownBlock = some w.heap.size) → wpList Tryz.prog ops Q rest (a.put o.dst v') w') : wpList Tryz.prog ops Q (o :: rest) a w := by
  refine wpList_plain hgd fun K hK => ?_
  obtain ⟨v', w', hr, h2, h3, h4⟩ := app_rows w base o.type v vx A B hown hB hn hbase
  unfold Oper.wp execOp
  simp only [ho, resolve, invoke, builtin, Sem.run_bind, Sem.run_pure, Result.andThen_ok, List.map_toArray, List.map_cons, List.map_nil, hs, hx, hr]
  exact hK _ _ (h v' w' h2 h3 h4)
/-- a cell of a row of one's own is set -/
theorem owns_set {w : World} {B g n cap : Nat} {xs : List Value} (h : w.ownsRow B 37 6 (.slice (some ⟨g, 0, none⟩) n cap) n xs) (j : Nat) (u : Value) (hj : j < n * 6) : (w.setCell ⟨g, j, none⟩ u).ownsRow B 37 6 (.slice (some ⟨g, 0, none⟩) n cap) n (xs.set j u) := by
  refine ⟨by rw [List.length_set]; exact h.1, ?_⟩
  rcases h.2 with ⟨e, _⟩ | ⟨g', cap', cur, e, hB, hg, h1, h2, h3, h4⟩
  · cases e
  · simp only [Value.slice.injEq, Option.some.injEq, Addr.mk.injEq, and_true, true_and] at e
    obtain ⟨rfl, rfl⟩ := e
    have hjc : j < cur.size := by rw [h3]; have := Nat.mul_le_mul_right 6 h1; omega
    refine .inr ⟨g, cap, cur.set j u hjc, rfl, hB, set_heap hg j u hjc, h1, h2, by simp [h3], ?_⟩
    rw [← h4]
    simp [Array.toList_set, List.take_set]
theorem owns_cell {w : World} {B g n cap : Nat} {xs : List Value} (h : w.ownsRow B 37 6 (.slice (some ⟨g, 0, none⟩) n cap) n xs) (j : Nat) (hj : j < n * 6) : (∃ v, w.cell? ⟨g, j, none⟩ = some v) ∧ w.frozen? ⟨g, j, none⟩ = false := by
  have hl : xs.length = n * 6 := h.1
  exact ⟨⟨_, by rw [h.cellAt j (by omega), List.getElem?_eq_getElem (by omega)]⟩, h.frozenAt j⟩
theorem hrow_mid (A B : List Rw) (u y : Rw) (hc : u.c = y.c) : (((((hrow (A ++ [u] ++ B)).set (A.length * 6 + 1) (.string y.s.f)).set (A.length * 6 + 2) (.int .i64 y.s.q)).set (A.length * 6 + 3) (.bool y.s.nl)).set (A.length * 6 + 4) (.bool y.s.ap)).set (A.length * 6 + 5) (.int .i64 y.s.h) = hrow (A ++ [y] ++ B) := by
  rw [List.append_assoc, List.append_assoc, hrow_app, hrow_app A, hrow_app, hrow_app, hrow_one, hrow_one]
  have hl := hrow_len A
  have st : ∀ (Q : List Value) (i : Nat) (v : Value), (hrow A ++ Q).set (A.length * 6 + i) v = hrow A ++ Q.set i v := fun Q i v => by rw [List.set_append, if_neg (by omega), hl, Nat.add_sub_cancel_left]
  rw [st, st, st, st, st]
  simp [rcs, hc]
end Go.Proofs.YtdjpllmgjmnolaaGreatDoor.Y
/- Proved here: how the index and the statement's own list go together from act to act. Helper laws. -/
namespace Go.Proofs.YtdjpllmgjmnolaaGreatDoor.Y
open Go.RowKit Go.Maps
set_option maxRecDepth 100000

/-- the index and the list beside it, behind some acts -/
structure LR (w wr : World) (T : Nat) (r : Value) (R : List Rw) (F : Nat → Prop) (M : Nat) : Prop where
  tr : TR wr T (fun x => x ∈ R) R.length F M
  srt : Srt R
  row : wr.ownsRow w.heap.size 37 6 r R.length (hrow R)
  sep : ∀ g, r.ownBlock = some g → ¬ F g
  low : ∀ k, F k → w.heap.size ≤ k
  bel : Below w.heap.size w wr
theorem TR.lt {w : World} {T : Nat} {S : Rw → Prop} {n : Int} {F : Nat → Prop} {M : Nat} (h : TR w T S n F M) : ∀ k, F k → k < w.heap.size := by
  obtain ⟨G, h⟩ := h
  exact h.low
theorem owns_fr {w w' : World} {B : Nat} {e : TypeId} {s : Nat} {v : Value} {n : Nat} {xs : List Value} {F : Nat → Prop} (h : w.ownsRow B e s v n xs) (hf : Fr F w w') (hs : ∀ g, v.ownBlock = some g → ¬ F g) : w'.ownsRow B e s v n xs := by
  refine ⟨h.1, ?_⟩
  rcases h.2 with h1 | ⟨g, cap, cur, hv, hB, hg, rest⟩
  · exact .inl h1
  · exact .inr ⟨g, cap, cur, hv, hB, by rw [hf.block g (Array.getElem?_eq_some_iff.1 hg).1 (hs g (by rw [hv]; rfl))]; exact hg, rest⟩
/-- a row of one's own that is new since a world -/
def NR (w5 w : World) (v : Value) (L : List Rw) : Prop := w.ownsRow w5.heap.size 37 6 v L.length (hrow L) ∧ Below w5.heap.size w5 w
theorem NR.nil (w5 : World) : NR w5 w5 (.slice none 0 0) [] := ⟨World.ownsRow_nil _ _ _ _, Below.refl _ _⟩
theorem NR.lit (w5 : World) : NR w5 (w5.alloc (.cells #[] 37)) (.slice (some ⟨w5.heap.size, 0, none⟩) 0 0) [] :=
  ⟨World.ownsRow_lit w5 #[] 0 (Nat.le_refl _) (Nat.zero_le _) (by simp), (Below.refl _ _).alloc (Nat.le_refl _) _⟩
theorem NR.bel {w5 w w' : World} {v : Value} {L : List Rw} (h : NR w5 w v L) (hb : Below w.heap.size w w') : NR w5 w' v L := ⟨owns_below h.1 hb, h.2.trans (hb.mono h.2.size)⟩
theorem NR.blk {w5 w : World} {v : Value} {L : List Rw} (h : NR w5 w v L) : ∀ g, v.ownBlock = some g → w5.heap.size ≤ g := fun g hg => by
  rcases h.1.2 with ⟨e, _⟩ | ⟨g', cap, cur, e, hB, _⟩
  · rw [e] at hg; cases hg
  · have e' : g' = g := by rw [e] at hg; exact Option.some.inj hg
    subst e'; exact hB
theorem wpList_nr (w5 w : World) {ops : Array Oper} {rest : List Oper} {o : Oper} {a : Act} {Q : Exit → Act → World → Prop} (hgd : o.guard = none) (s x : Operand) (ho : o.op = .call { callee := .builtin .append, args := #[s, x], argTypes := #[26, 26] })
    (v vx : Value) (A B : List Rw) (hs : a.eval s = v) (hx : a.eval x = vx) (hown : NR w5 w v A) (hB : RowsIn w vx B) (hn : A.length + B.length ≤ 1000000)
    (h : ∀ v' w', Hid (NR w5 w' v' (A ++ B)) → Hid (w.grownBy w' v.ownBlock) → wpList Tryz.prog ops Q rest (a.put o.dst v') w') : wpList Tryz.prog ops Q (o :: rest) a w :=
  wpList_app_rows w hgd s x ho w5.heap.size v vx A B hs hx hown.1 hB hn hown.2.size (fun v' w' h1 h2 _ => h v' w' ⟨h1, hown.2.grown h2 hown.2.size (hown.blk)⟩ h2)
theorem LR.bel2 {w wr w2 : World} {T : Nat} {r : Value} {R : List Rw} {F : Nat → Prop} {M : Nat} (h : LR w wr T r R F M) (hb : Below wr.heap.size wr w2) : LR w w2 T r R F M :=
  ⟨h.tr.below hb, h.srt, owns_below h.row hb, h.sep, h.low, h.bel.trans (hb.mono h.bel.size)⟩
theorem LR.more {w wr : World} {T : Nat} {r : Value} {R : List Rw} {F : Nat → Prop} {M M' : Nat} (h : LR w wr T r R F M) (hM : M ≤ M') : LR w wr T r R F M' := by
  obtain ⟨⟨G, h1⟩, h2, h3, h4, h5, h6⟩ := h
  exact ⟨⟨G, h1.more hM⟩, h2, h3, h4, h5, h6⟩
theorem LR.ok {w wr : World} {T : Nat} {r : Value} {R : List Rw} {F : Nat → Prop} {M : Nat} (h : LR w wr T r R F M) : ∀ x ∈ R, RwOk x := by
  obtain ⟨G, h1⟩ := h.tr
  exact fun x hx => (h1.row x hx).1
theorem LR.shape {w wr : World} {T : Nat} {r : Value} {R : List Rw} {F : Nat → Prop} {M : Nat} (h : LR w wr T r R F M) : ∃ ao c, r = .slice ao R.length c := by
  obtain ⟨ao, cap, e, _⟩ := rows_in rfl h.row
  exact ⟨ao, cap, e⟩
theorem LR.blk {w wr : World} {T n c : Nat} {ao : Option Addr} {R : List Rw} {F : Nat → Prop} {M : Nat} (h : LR w wr T (.slice ao n c) R F M) (h0 : 0 < R.length) : (∃ g, ao = some ⟨g, 0, none⟩) ∧ R.length ≤ c := by
  rcases h.row.2 with ⟨_, e⟩ | ⟨g, cap, cur, e, _, _, h1, _⟩
  · rw [List.length_eq_zero_iff.1 e] at h0; cases h0
  · simp only [Value.slice.injEq] at e
    obtain ⟨rfl, _, rfl⟩ := e
    exact ⟨⟨g, rfl⟩, h1⟩
/-- Remove, where nothing was -/
theorem LR.rem0 {w w2 w3 : World} {T : Nat} {r : Value} {R : List Rw} {F : Nat → Prop} {M : Nat} {c f : ByteArray} (h : LR w w2 T r R F M) (hh : HadIs false (fun x => x ∈ R) c f) (ht : TR w3 T (delS (fun x => x ∈ R) c f) R.length F M) (hf : Fr F w2 w3) : LR w w3 T r R F M := by
  have hno : ¬ hadS (fun x => x ∈ R) c f := fun e => by have := hh.2 e; cases this
  rw [delS_not hno] at ht
  exact ⟨ht, h.srt, owns_fr h.row hf h.sep, h.sep, h.low, below_fr h.bel hf h.low h.bel.size⟩
/-- a new list, in a row that is new -/
theorem LR.new {w w2 w3 w5 : World} {T : Nat} {r v' : Value} {R R' : List Rw} {F F' : Nat → Prop} {M M' : Nat} {S' : Rw → Prop} {n' : Int} (h : LR w w2 T r R F M) (ht : TR w3 T S' n' F' M') (hf : Fr F w2 w3) (he : Ext F F' w2) (hb : Below w3.heap.size w3 w5) (hS : (fun x => x ∈ R') = S') (hn : n' = R'.length) (hs : Srt R') (ho : w5.ownsRow w.heap.size 37 6 v' R'.length (hrow R')) (hv : ∀ g, v'.ownBlock = some g → w3.heap.size ≤ g) : LR w w5 T v' R' F' M' := by
  subst hS hn
  have hlow : ∀ k, F' k → w.heap.size ≤ k := fun k hk => by
    rcases he.2 k hk with h1 | h1
    · exact h.low k h1
    · exact Nat.le_trans h.bel.size h1
  refine ⟨ht.below hb, hs, ho, fun g hg e => absurd (ht.lt g e) (by have := hv g hg; omega), hlow, ?_⟩
  exact (below_fr h.bel hf h.low h.bel.size).trans (hb.mono (Nat.le_trans h.bel.size hf.size))
theorem LR.fresh {w w2 w3 w5 : World} {T : Nat} {r v' : Value} {R R' : List Rw} {F F' : Nat → Prop} {M M' : Nat} {S' : Rw → Prop} {n' : Int} (h : LR w w2 T r R F M) (ht : TR w3 T S' n' F' M') (hf : Fr F w2 w3) (he : Ext F F' w2) (hS : (fun x => x ∈ R') = S') (hn : n' = R'.length) (hs : Srt R') (hN : NR w3 w5 v' R') : LR w w5 T v' R' F' M' :=
  h.new ht hf he hN.2 hS hn hs (by refine ⟨hN.1.1, ?_⟩; rcases hN.1.2 with e | ⟨g, cap, cur, e, hB, rest⟩; exact .inl e; exact .inr ⟨g, cap, cur, e, Nat.le_trans (Nat.le_trans h.bel.size hf.size) hB, rest⟩) hN.blk
/-- the list's own row is set -/
theorem LR.set {w w2 w3 w5 : World} {T : Nat} {r : Value} {R R' : List Rw} {F F' : Nat → Prop} {M M' : Nat} {S' : Rw → Prop} {n' : Int} (h : LR w w2 T r R F M) (ht : TR w3 T S' n' F' M') (hf : Fr F w2 w3) (he : Ext F F' w2) (hb : Fr (fun k => r.ownBlock = some k) w3 w5) (hS : (fun x => x ∈ R') = S') (hn : n' = R'.length) (hs : Srt R') (ho : w5.ownsRow w.heap.size 37 6 r R'.length (hrow R')) : LR w w5 T r R' F' M' := by
  subst hS hn
  have hlow : ∀ k, F' k → w.heap.size ≤ k := fun k hk => by
    rcases he.2 k hk with h1 | h1
    · exact h.low k h1
    · exact Nat.le_trans h.bel.size h1
  have hsep : ∀ g, r.ownBlock = some g → w.heap.size ≤ g ∧ ¬ F' g := fun g hg => by
    rcases h.row.2 with ⟨e, _⟩ | ⟨g', cap, cur, e, hB, hgg, _⟩
    · rw [e] at hg; cases hg
    · have e' : g' = g := by rw [e] at hg; exact Option.some.inj hg
      subst e'
      refine ⟨hB, fun e2 => ?_⟩
      rcases he.2 g' e2 with h1 | h1
      · exact h.sep g' hg h1
      · have := (Array.getElem?_eq_some_iff.1 hgg).1; omega
  refine ⟨ht.fr hb (fun k hk e => (hsep k e).2 hk), hs, ho, fun g hg => (hsep g hg).2, hlow, ?_⟩
  exact below_fr (below_fr h.bel hf h.low h.bel.size) hb (fun i e => (hsep i e).1) (Nat.le_trans h.bel.size hf.size)
/-- an act in a block of its own -/
def BoxAt (w : World) (X : Nat) (a : Ac) : Prop := AcAt w X 0 a
theorem BoxAt.fr {w w' : World} {F : Nat → Prop} {X : Nat} {a : Ac} (h : BoxAt w X a) (hf : Fr F w w') (hX : ¬ F X) : BoxAt w' X a := by
  obtain ⟨h0, h1, h2, h3, h4, h5, h6, h7⟩ := h
  exact ⟨hf.cell hX h0, hf.cell hX h1, hf.cell hX h2, hf.cell hX h3, hf.cell hX h4, hf.cell hX h5, hf.cell hX h6, hf.cell hX h7⟩
end Go.Proofs.YtdjpllmgjmnolaaGreatDoor.Y
/- Proved here: what the walk of TrieExact asks of lists and rows. Helper laws. -/
namespace Go.Proofs.YtdjpllmgjmnolaaGreatDoor.Y
open Go.RowKit Go.Maps
set_option maxRecDepth 100000

theorem rows_nil (w : World) : RowsIn w (.slice none 0 0) [] := ⟨none, 0, rfl, ⟨Nat.le_refl _, Nat.zero_le _⟩, .inl ⟨rfl, rfl, rfl⟩⟩
theorem rows_lit (w : World) (u : Rw) : RowsIn (w.alloc (rO u)) (.slice (some ⟨w.heap.size, 0, none⟩) 1 1) [u] := by
  refine ⟨_, 1, rfl, ⟨Nat.le_refl _, by unfold maxLen; omega⟩, .inr ⟨_, 0, rfl, fun k hk => ?_⟩⟩
  have h0 : k = 0 := by simp at hk; exact hk
  subst h0
  refine ⟨?_, ?_, ?_, ?_, ?_, ?_⟩ <;> simp
theorem name_pos {s : ByteArray} (h : isName s.data.toList = true) : 0 < s.size := by
  rcases Nat.eq_zero_or_pos s.size with e | e
  · have e2 : s.data.toList = [] := List.length_eq_zero_iff.1 e
    rw [e2] at h
    exact absurd h (by decide)
  · exact e
theorem take_yes {R : List Rw} {P : Rw → Bool} {j : Nat} {u : Rw} (hj : j < R.length) (hu : R.getD j default = u) (hp : P u = true) : (R.take (j + 1)).filter P = (R.take j).filter P ++ [u] := by
  rw [List.getD_eq_getElem?_getD, List.getElem?_eq_getElem hj, Option.getD_some] at hu
  rw [List.take_succ_eq_append_getElem hj, List.filter_append, hu]
  simp [hp]
theorem take_no {R : List Rw} {P : Rw → Bool} {j : Nat} {u : Rw} (hj : j < R.length) (hu : R.getD j default = u) (hp : P u = false) : (R.take (j + 1)).filter P = (R.take j).filter P := by
  rw [List.getD_eq_getElem?_getD, List.getElem?_eq_getElem hj, Option.getD_some] at hu
  rw [List.take_succ_eq_append_getElem hj, List.filter_append, hu]
  simp [hp]
theorem mid_is {R : List Rw} {k : Nat} (hk : k < R.length) : R = R.take k ++ [R.getD k default] ++ R.drop (k + 1) := by
  rw [List.getD_eq_getElem?_getD, List.getElem?_eq_getElem hk, Option.getD_some, List.append_assoc, List.singleton_append, List.getElem_cons_drop, List.take_append_drop]
theorem LR.some2 {w wr : World} {T n c : Nat} {ao : Option Addr} {R : List Rw} {F : Nat → Prop} {M : Nat} (h : LR w wr T (.slice ao n c) R F M) (h0 : 0 < R.length) : ∃ g of2, ao = some ⟨g, of2, none⟩ := by
  obtain ⟨⟨g, e⟩, _⟩ := h.blk h0
  exact ⟨g, 0, e⟩
theorem LR.at {w wr : World} {T n c g of2 : Nat} {R : List Rw} {F : Nat → Prop} {M : Nat} (h : LR w wr T (.slice (some ⟨g, of2, none⟩) n c) R F M) {j : Nat} (hj : j < R.length) : RwAt wr g (of2 + j * 6) (R.getD j default) := by
  obtain ⟨ao, cap, e, _, h3⟩ := rows_in rfl h.row
  simp only [Value.slice.injEq] at e
  obtain ⟨rfl, _, _⟩ := e
  rcases h3 with ⟨e, _⟩ | ⟨g', off', e, hc⟩
  · cases e
  · simp only [Option.some.injEq, Addr.mk.injEq, and_true] at e
    obtain ⟨rfl, rfl⟩ := e
    exact hc j hj
theorem LR.two {w wr : World} {T n c : Nat} {ao : Option Addr} {R : List Rw} {F : Nat → Prop} {M : Nat} (h : LR w wr T (.slice ao n c) R F M) : (ao = none ∧ R = [] ∧ n = 0 ∧ c = 0) ∨ ∃ g, ao = some ⟨g, 0, none⟩ ∧ R.length ≤ c := by
  rcases h.row.2 with ⟨e, e0⟩ | ⟨g, cap, cur, e, _, _, h1, _⟩
  · simp only [Value.slice.injEq] at e
    exact .inl ⟨e.1, List.length_eq_zero_iff.1 e0, e.2.1, e.2.2⟩
  · simp only [Value.slice.injEq] at e
    obtain ⟨rfl, _, rfl⟩ := e
    exact .inr ⟨g, rfl, h1⟩
theorem owns_some {w : World} {B n c : Nat} {ao : Option Addr} {xs : List Value} (h : w.ownsRow B 37 6 (.slice ao n c) n xs) (h0 : 0 < n) : ∃ g, ao = some ⟨g, 0, none⟩ ∧ B ≤ g ∧ n ≤ c := by
  rcases h.2 with ⟨_, e0⟩ | ⟨g, cap, cur, e, hB, _, h1, _⟩
  · omega
  · simp only [Value.slice.injEq] at e
    obtain ⟨rfl, _, rfl⟩ := e
    exact ⟨g, rfl, hB, h1⟩
theorem frS {F : Nat → Prop} {a b : World} {g : Nat} (h : Fr F a b) (hF : F g) (j : Nat) (u : Value) : Fr F a (b.setCell ⟨g, j, none⟩ u) :=
  h.trans ⟨rfl, rfl, rfl, by simp [World.setCell], fun k _ hn => Below.heap_setCell _ _ _ _ (fun e => hn (by have e' : k = g := e; rw [e']; exact hF))⟩
theorem fr5 (F : Nat → Prop) {g : Nat} (hF : F g) (w : World) (j1 j2 j3 j4 j5 : Nat) (u1 u2 u3 u4 u5 : Value) : Fr F w (((((w.setCell ⟨g, j1, none⟩ u1).setCell ⟨g, j2, none⟩ u2).setCell ⟨g, j3, none⟩ u3).setCell ⟨g, j4, none⟩ u4).setCell ⟨g, j5, none⟩ u5) :=
  frS (F := F) (frS (F := F) (frS (F := F) (frS (F := F) (frS (F := F) (Fr.refl F w) hF _ _) hF _ _) hF _ _) hF _ _) hF _ _
theorem BoxAt.bel {w w' : World} {X : Nat} {a : Ac} (h : BoxAt w X a) (hb : Below w.heap.size w w') : BoxAt w' X a := h.fr (Fr.of_below (F := fun _ => False) hb) (fun e => e)
/-- the row that was found has another subscription -/
theorem set_row {w : World} {B g c : Nat} {R : List Rw} {k : Nat} {y : Rw} (h : w.ownsRow B 37 6 (.slice (some ⟨g, 0, none⟩) R.length c) R.length (hrow R)) (hk : k < R.length) (hc : (R.getD k default).c = y.c) :
    (((((w.setCell ⟨g, k * 6 + 1, none⟩ (.string y.s.f)).setCell ⟨g, k * 6 + 2, none⟩ (.int .i64 y.s.q)).setCell ⟨g, k * 6 + 3, none⟩ (.bool y.s.nl)).setCell ⟨g, k * 6 + 4, none⟩ (.bool y.s.ap)).setCell ⟨g, k * 6 + 5, none⟩ (.int .i64 y.s.h)).ownsRow B 37 6 (.slice (some ⟨g, 0, none⟩) R.length c) (R.take k ++ [y] ++ R.drop (k + 1)).length (hrow (R.take k ++ [y] ++ R.drop (k + 1))) := by
  have e := hrow_mid (R.take k) (R.drop (k + 1)) (R.getD k default) y hc
  rw [← mid_is hk, List.length_take, Nat.min_eq_left (Nat.le_of_lt hk)] at e
  have hl : (R.take k ++ [y] ++ R.drop (k + 1)).length = R.length := by simp only [List.length_append, List.length_take, List.length_drop, List.length_cons, List.length_nil]; omega
  rw [hl, ← e]
  exact owns_set (owns_set (owns_set (owns_set (owns_set h (k * 6 + 1) _ (by omega)) (k * 6 + 2) _ (by omega)) (k * 6 + 3) _ (by omega)) (k * 6 + 4) _ (by omega)) (k * 6 + 5) _ (by omega)
end Go.Proofs.YtdjpllmgjmnolaaGreatDoor.Y
