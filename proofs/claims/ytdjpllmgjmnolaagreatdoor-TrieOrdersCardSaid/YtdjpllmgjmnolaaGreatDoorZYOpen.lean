/- Proved here: what a readable argument of the statements of layer 7 is in memory. Helpers. -/
import Derived.Test.YtdjpllmgjmnolaaGreatDoorRows
import Derived.Test.YtdjpllmgjmnolaaGreatDoorZYLx
import Derived.ProofKit
import Derived.SizedLaws
import Derived.Deep.SlicePairs
import Derived.ChangeSame
import Derived.ChangeVars
import Derived.JoinedOf
import Derived.RowKit
import Derived.RowKitTokens
import Derived.LaidLaws
import Derived.LaidHandle
import Derived.Stop.Joined
namespace Go.Proofs.YtdjpllmgjmnolaaGreatDoor.Y
open Go.ChangeShapes Go.WideShapes Go.ChangeAt Go.RowKit Go.Deep
set_option maxRecDepth 100000

theorem cellsAct : Tryz.prog.cellsOf 30 = 8 := by kernel_rfl
theorem cellsSub : Tryz.prog.cellsOf 28 = 5 := by kernel_rfl
theorem bytesAct : Tryz.prog.bytesOf 30 = 80 := by kernel_rfl
theorem cellsStr : Tryz.prog.cellsOf 9 = 1 := by kernel_rfl
theorem cellsInt : Tryz.prog.cellsOf 3 = 1 := by kernel_rfl
theorem cellsBool : Tryz.prog.cellsOf 4 = 1 := by kernel_rfl
theorem weights_all_mem {H : Type} {P : Program} {e : TypeId} {ds : List (DataW H)} {d : DataW H} (h : d ∈ ds) : ∀ n ∈ d.weights P e, n ∈ DataW.weightsAll P e ds := by
  induction ds with
  | nil => cases h
  | cons x r ih =>
    intro n hn
    simp only [DataW.weightsAll, List.mem_append]
    rcases List.mem_cons.1 h with rfl | h
    · exact .inl hn
    · exact .inr (ih h n hn)
/-- one subscription that reads -/
theorem sub_of_trod {H : Type} {enc : TypeId × Value → H} {W : World} {n : Nat} {cs : List Value} {d : DataW H} {ps : List MemPlace} (h : DataW.trod enc Tryz.prog W 0 (fun _ => true) true n 28 cs = some (d, ps)) (hw : ∀ n ∈ d.weights Tryz.prog 28, n ≤ reachBytes) :
    ∃ s : Sb, cs = [.string s.f, .int .i64 s.q, .bool s.nl, .bool s.ap, .int .i64 s.h] ∧ s.f.size ≤ 140737488351232 := by
  obtain ⟨xs, k, hk, hxy, hcl, hxl, hf⟩ := DataW.trod_struct Tryz.underlying28 h
  rw [cellsSub] at hcl
  match xs, hxl, cs, hcl with
  | [y0, y1, y2, y3, y4], _, [v0, v1, v2, v3, v4], _ =>
    have g0 := hf 0 _ rfl
    have g1 := hf 1 _ rfl
    have g2 := hf 2 _ rfl
    have g3 := hf 3 _ rfl
    have g4 := hf 4 _ rfl
    simp [cellsInt, cellsStr, cellsBool] at g0 g1 g2 g3 g4
    obtain ⟨z0, hz0, hy0, _⟩ := DataW.trod_string Tryz.underlying9 g0
    obtain ⟨z1, hz1, hy1, _⟩ := DataW.trod_int Tryz.underlying3 g1
    obtain ⟨z2, hz2, hy2⟩ := DataW.trod_bool Tryz.underlying4 g2
    obtain ⟨z3, hz3, hy3⟩ := DataW.trod_bool Tryz.underlying4 g3
    obtain ⟨z4, hz4, hy4, _⟩ := DataW.trod_int Tryz.underlying3 g4
    simp at hz0 hz1 hz2 hz3 hz4
    subst hz0 hz1 hz2 hz3 hz4
    simp only [Prod.mk.injEq] at hxy
    obtain ⟨rfl, _⟩ := hxy
    have w0 := hw z0.data.toList.length (by
      simp only [DataW.weights, Tryz.underlying28, DataW.weightsEach, List.map, List.mem_append, hy0]
      simp)
    simp only [reachBytes, Array.length_toList] at w0
    exact ⟨⟨z0, z1, z2, z3, z4⟩, rfl, w0⟩
/-- what a readable argument of layer 7's statements is -/
def ActsAt (W : World) (v : Value) : Prop :=
  ∃ ao len cap, v = .slice ao len cap ∧ (len = 0 ∨ ∃ b off, ao = some ⟨b, off, none⟩ ∧ len ≤ 140737488351232 ∧ ∃ az : Nat → Ac, (∀ k, k < len → (az k).c.size ≤ 140737488351232 ∧ (az k).s.f.size ≤ 140737488351232 ∧ (az k).nm.size ≤ 140737488351232) ∧ ∀ k, k < len → AcAt W b (off + k * 8) (az k))
theorem acts_open {H : Type} {enc : TypeId × Value → H} {W : World} {v : Value} {d : DataW H} {ps : List MemPlace} (h : DataW.Trod enc Tryz.prog W 0 (fun _ => true) true 22 v d ps) (hs : ∃ ao len cap, v = .slice ao len cap)
    (hw : ∀ n ∈ d.weights Tryz.prog 22, n ≤ reachBytes) : ActsAt W v := by
  obtain ⟨ao, len, cap, rfl⟩ := hs
  obtain ⟨fuel, hf⟩ := h
  refine ⟨ao, len, cap, rfl, ?_⟩
  rcases open_slice Tryz.underlying22 hf with ⟨hcs, hx⟩ | ⟨a, len', cap', m, n, D, Pl, hcs, _, hl, hm, hmm, hx, hel⟩
  · simp [Value.cells] at hcs
    obtain ⟨rfl, rfl, rfl⟩ := hcs
    exact .inl rfl
  · simp [Value.cells] at hcs
    obtain ⟨rfl, rfl, rfl⟩ := hcs
    simp only [if_true] at hmm
    subst hmm
    by_cases h0 : len = 0
    · exact .inl h0
    right
    simp only [Prod.mk.injEq] at hx
    obtain ⟨rfl, _⟩ := hx
    rw [cellsAct] at hel
    obtain ⟨b, off, spot⟩ := a
    have hspot : spot = none := by
      obtain ⟨cs', h1, _⟩ := hel 0 (by omega)
      obtain ⟨_, hlen, hcell⟩ := World.cells?_some h1
      have hc := hcell 0 (by omega)
      rw [List.getElem?_eq_getElem (by omega)] at hc
      simpa [Addr.add] using World.cell?_spot hc
    subst hspot
    have hlen : len ≤ 140737488351232 := by
      have := hw ((((List.range len).map D).length + ((List.range (m - len)).map fun j => D (len + j)).length) * Tryz.prog.bytesOf 30) (by simp [DataW.weights, Tryz.underlying22])
      rw [bytesAct] at this
      simp only [List.length_map, List.length_range, reachBytes] at this
      omega
    have key : ∀ i, i < len → ∃ x : Ac, (x.c.size ≤ 140737488351232 ∧ x.s.f.size ≤ 140737488351232 ∧ x.nm.size ≤ 140737488351232) ∧ AcAt W b (off + i * 8) x := by
      intro i hi
      obtain ⟨cs', h1, h2⟩ := hel i (by omega)
      obtain ⟨_, hlen, hcell⟩ := World.cells?_some h1
      obtain ⟨xs, k, hk, hxy, _, hxl, hfl⟩ := DataW.trod_struct Tryz.underlying30 h2
      match xs, hxl, cs', hlen with
      | [y0, y1, y2, y3], _, [v0, v1, v2, v3, v4, v5, v6, v7], _ =>
        have g0 := hfl 0 _ rfl
        have g1 := hfl 1 _ rfl
        have g2 := hfl 2 _ rfl
        have g3 := hfl 3 _ rfl
        simp [cellsInt, cellsStr, cellsSub] at g0 g1 g2 g3
        obtain ⟨z0, hz0, hy0, _⟩ := DataW.trod_int Tryz.underlying3 g0
        obtain ⟨z1, hz1, hy1, _⟩ := DataW.trod_string Tryz.underlying9 g1
        obtain ⟨z3, hz3, hy3, _⟩ := DataW.trod_string Tryz.underlying9 g3
        simp at hz0 hz1 hz3
        subst hz0 hz1 hz3
        obtain ⟨d2, p2'⟩ := y2
        simp only [Prod.mk.injEq] at hxy
        have hD : ∀ n, n ∈ (D i).weights Tryz.prog 30 → n ≤ reachBytes := fun n hn => hw n (by
          have := weights_all_mem (P := Tryz.prog) (e := 30) (ds := (List.range len).map D) (d := D i) (List.mem_map.2 ⟨i, List.mem_range.2 hi, rfl⟩) n hn
          simp only [DataW.weights, Tryz.underlying22, List.mem_cons, List.mem_append]
          right; left
          exact this)
        rw [hxy.1] at hD
        obtain ⟨ss, hsc, hsf⟩ := sub_of_trod g2 (fun n hn => hD n (by
          simp only [DataW.weights, Tryz.underlying30, DataW.weightsEach, List.map, List.mem_append]
          right; right; left
          exact hn))
        simp only [List.cons.injEq, and_true] at hsc
        obtain ⟨rfl, rfl, rfl, rfl, rfl⟩ := hsc
        have w1 := hD z1.data.toList.length (by
          simp only [DataW.weights, Tryz.underlying30, DataW.weightsEach, List.map, List.mem_append, hy1]
          simp)
        have w3 := hD z3.data.toList.length (by
          simp only [DataW.weights, Tryz.underlying30, DataW.weightsEach, List.map, List.mem_append, hy3]
          simp)
        simp only [reachBytes, Array.length_toList] at w1 w3
        have e0 := hcell 0 (by omega)
        have e1 := hcell 1 (by omega)
        have e2 := hcell 2 (by omega)
        have e3 := hcell 3 (by omega)
        have e4 := hcell 4 (by omega)
        have e5 := hcell 5 (by omega)
        have e6 := hcell 6 (by omega)
        have e7 := hcell 7 (by omega)
        rw [add_add, add_plain] at e0 e1 e2 e3 e4 e5 e6 e7
        exact ⟨⟨z0, z1, ss, z3⟩, ⟨w1, hsf, w3⟩, by simpa using e0, by simpa [Nat.add_assoc] using e1, by simpa [Nat.add_assoc] using e2, by simpa [Nat.add_assoc] using e3, by simpa [Nat.add_assoc] using e4, by simpa [Nat.add_assoc] using e5, by simpa [Nat.add_assoc] using e6, by simpa [Nat.add_assoc] using e7⟩
    obtain ⟨f, hf'⟩ := choose_lt key
    exact ⟨b, off, rfl, hlen, f, fun k hk => (hf' k hk).1, fun k hk => (hf' k hk).2⟩
end Go.Proofs.YtdjpllmgjmnolaaGreatDoor.Y
