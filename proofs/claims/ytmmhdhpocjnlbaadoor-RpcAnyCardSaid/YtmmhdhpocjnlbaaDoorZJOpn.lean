/- Proved here: what a readable argument of RpcAny is in memory. Helpers. -/
import Derived.Test.YtmmhdhpocjnlbaaDoorRows
import Derived.Test.YtmmhdhpocjnlbaaDoorZJWy
import Derived.ProofKit
import Derived.SizedLaws
import Derived.Deep.SlicePairs
import Derived.ChangeSame
import Derived.ChangeVars
import Derived.JoinedOf
import Derived.RowKit
import Derived.RowKitTokens
import Derived.LaidLaws
import Derived.LaidHandle
import Derived.Stop.Joined
namespace Go.Proofs.YtmmhdhpocjnlbaaDoor.Jr
open Go.ChangeShapes Go.WideShapes Go.ChangeAt Go.RowKit Go.Deep
set_option maxRecDepth 100000

theorem cellsCs : Tryd.prog.cellsOf 24 = 2 := by kernel_rfl
theorem cellsBss : Tryd.prog.cellsOf 22 = 1 := by kernel_rfl
theorem cellsBs : Tryd.prog.cellsOf 26 = 1 := by kernel_rfl
theorem cellsU8 : Tryd.prog.cellsOf 5 = 1 := by kernel_rfl
theorem cellsInt : Tryd.prog.cellsOf 3 = 1 := by kernel_rfl
theorem bytesU8 : Tryd.prog.bytesOf 5 = 1 := by kernel_rfl
theorem weights_all_mem {H : Type} {P : Program} {e : TypeId} {ds : List (DataW H)} {d : DataW H} (h : d ∈ ds) : ∀ n ∈ d.weights P e, n ∈ DataW.weightsAll P e ds := by
  induction ds with
  | nil => cases h
  | cons x r ih =>
    intro n hn
    simp only [DataW.weightsAll, List.mem_append]
    rcases List.mem_cons.1 h with rfl | h
    · exact .inl hn
    · exact .inr (ih h n hn)
theorem byt_of_trod {H : Type} {enc : TypeId × Value → H} {W : World} {fuel : Nat} {v : Value} {d : DataW H} {ps : List MemPlace} (h : DataW.trod enc Tryd.prog W 0 (fun _ => true) true fuel 26 [v] = some (d, ps)) (hw : ∀ n ∈ d.weights Tryd.prog 26, n ≤ reachBytes) :
    ∃ bs, Byt W v bs ∧ bs.length ≤ 140737488351232 := by
  rcases open_ints Tryd.underlying26 Tryd.underlying5 cellsU8 h with ⟨hcs, hx⟩ | ⟨a, len, cap, zs, hcs, _, hl, hm, hz, hx, hcell, hwz⟩
  · simp at hcs
    subst hcs
    exact ⟨[], ⟨none, 0, rfl, ⟨by simp, by simp⟩, by intro j; simp, .inl rfl⟩, by simp⟩
  · simp at hcs
    subst hcs
    simp only [if_true] at hz
    simp only [Prod.mk.injEq] at hx
    obtain ⟨rfl, rfl⟩ := hx
    have hr : ∀ j, 0 ≤ (zs.take len).getD j 0 ∧ (zs.take len).getD j 0 ≤ 255 := by
      intro j
      by_cases hj : j < (zs.take len).length
      · have hmem : (zs.take len).getD j 0 ∈ zs := by
          rw [List.getD_eq_getElem?_getD, List.getElem?_eq_getElem hj]
          exact List.mem_of_mem_take (List.getElem_mem hj)
        have := hwz _ hmem
        have h1 : IntKind.u8.min = 0 := rfl
        have h2 : IntKind.u8.max = 255 := rfl
        simp only [Lit.wf, Bool.and_eq_true, decide_eq_true_eq] at this
        omega
      · rw [List.getD_eq_getElem?_getD, List.getElem?_eq_none (by omega)]; simp
    have hlen : (zs.take len).length = len := by rw [List.length_take]; omega
    refine ⟨zs.take len, ⟨some a, cap, by rw [hlen], ⟨by rw [hlen]; exact hl, hm⟩, hr, ?_⟩, ?_⟩
    · by_cases h0 : len = 0
      · exact .inl (by rw [h0]; rfl)
      · obtain ⟨b, off, spot⟩ := a
        have hspot : spot = none := by simpa [Addr.add] using World.cell?_spot (hcell 0 (by omega))
        subst hspot
        refine .inr ⟨b, off, rfl, fun j hj => ?_⟩
        rw [hlen] at hj
        rw [← add_plain, hcell j (by omega), List.getD_eq_getElem?_getD, List.getD_eq_getElem?_getD, List.getElem?_take, if_pos hj]
    · have := hw ((((lits (H := H) .u8 (zs.take len)).length + (lits (H := H) .u8 (zs.drop len)).length)) * Tryd.prog.bytesOf 5) (by simp [DataW.weights, Tryd.underlying26])
      rw [bytesU8] at this
      simp only [lits, List.length_map, List.length_take, List.length_drop, reachBytes] at this
      rw [hlen]
      omega
theorem cells_open {H : Type} {enc : TypeId × Value → H} {W : World} {v : Value} {d : DataW H} {ps : List MemPlace} (h : DataW.Trod enc Tryd.prog W 0 (fun _ => true) true 24 v d ps) (hs : ∃ cs, v = .agg cs ∧ cs.size = Tryd.prog.cellsOf 24)
    (hw : ∀ n ∈ d.weights Tryd.prog 24, n ≤ reachBytes) :
    ∃ ao len cap n0, v = .agg #[.slice ao len cap, .int .i64 n0] ∧ (len = 0 ∨ ∃ g off f, ao = some ⟨g, off, none⟩ ∧ BsIn W g off f len) := by
  obtain ⟨cs, rfl, hsz⟩ := hs
  rw [cellsCs] at hsz
  obtain ⟨v0, v1, rfl⟩ : ∃ v0 v1, cs = #[v0, v1] := by
    obtain ⟨l⟩ := cs
    match l, hsz with
    | [a, b], _ => exact ⟨a, b, rfl⟩
  obtain ⟨fuel, hf⟩ := h
  obtain ⟨xs, k, hk, hxy, hcl, hxl, hfl⟩ := DataW.trod_struct Tryd.underlying24 hf
  match xs, hxl with
  | [y0, y1], _ =>
    have g0 := hfl 0 _ rfl
    have g1 := hfl 1 _ rfl
    simp [cellsBss, cellsInt, Value.cells] at g0 g1
    obtain ⟨z1, hz1, _⟩ := DataW.trod_int Tryd.underlying3 g1
    simp at hz1
    subst hz1
    obtain ⟨d0, p0⟩ := y0
    simp only [Prod.mk.injEq] at hxy
    have hw0 : ∀ n ∈ d0.weights Tryd.prog 22, n ≤ reachBytes := fun n hn => hw n (by
      rw [hxy.1]
      simp only [DataW.weights, Tryd.underlying24, DataW.weightsEach, List.map, List.mem_append]
      left
      exact hn)
    rcases open_slice Tryd.underlying22 g0 with ⟨hcs, _⟩ | ⟨a, len, cap, m, n, D, Pl, hcs, _, hl, hm, hmm, hx, hel⟩
    · have := (List.cons.inj hcs).1
      subst this
      exact ⟨_, _, _, _, rfl, .inl rfl⟩
    · have := (List.cons.inj hcs).1
      subst this
      refine ⟨_, len, _, _, rfl, ?_⟩
      simp only [if_true] at hmm
      subst hmm
      rw [cellsBs] at hel
      by_cases h0 : len = 0
      · exact .inl h0
      right
      simp only [Prod.mk.injEq] at hx
      obtain ⟨rfl, _⟩ := hx
      have key : ∀ i, i < len → ∃ x : Value × List Int, W.cell? (a.add (i * 1)) = some x.1 ∧ Byt W x.1 x.2 ∧ x.2.length ≤ 140737488351232 := by
        intro i hi
        obtain ⟨cs', h1, h2⟩ := hel i (by omega)
        obtain ⟨_, hlen, hcell⟩ := World.cells?_some h1
        match cs', hlen with
        | [y], _ =>
          obtain ⟨bs, hb, hbl⟩ := byt_of_trod h2 (fun n hn => hw0 n (by
            have := weights_all_mem (P := Tryd.prog) (e := 26) (ds := (List.range len).map D) (d := D i) (List.mem_map.2 ⟨i, List.mem_range.2 hi, rfl⟩) n hn
            simp only [DataW.weights, Tryd.underlying22, List.mem_cons, List.mem_append]
            right; left
            exact this))
          have e0 := hcell 0 (by omega)
          exact ⟨(y, bs), by simpa [add_add] using e0, hb, hbl⟩
      obtain ⟨f, hf'⟩ := choose_lt key
      obtain ⟨b, off, spot⟩ := a
      have hspot : spot = none := by simpa [Addr.add] using World.cell?_spot (hf' 0 (by omega)).1
      subst hspot
      refine ⟨b, off, f, rfl, fun j hj => ?_⟩
      obtain ⟨e0, e1, e2⟩ := hf' j hj
      rw [add_plain, Nat.mul_one] at e0
      exact ⟨e0, e1, e2⟩
end Go.Proofs.YtmmhdhpocjnlbaaDoor.Jr
