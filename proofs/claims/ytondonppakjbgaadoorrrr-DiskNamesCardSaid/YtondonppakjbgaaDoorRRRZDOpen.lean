/- Proved here: what a readable argument of the statements of layer 10 is in memory. Helpers. -/
import Derived.Test.YtondonppakjbgaaDoorRRRRows
import Derived.Test.YtondonppakjbgaaDoorRRRZDLaw
import Derived.ProofKit
import Derived.SizedLaws
import Derived.Deep.SlicePairs
import Derived.ChangeSame
import Derived.ChangeVars
import Derived.JoinedOf
import Derived.RowKit
import Derived.RowKitTokens
import Derived.LaidLaws
import Derived.LaidHandle
import Derived.Stop.Joined
namespace Go.Proofs.YtondonppakjbgaaDoorRRR.D
open Go.ChangeShapes Go.WideShapes Go.ChangeAt Go.RowKit Go.Deep
set_option maxRecDepth 100000

theorem cellsAct : Tryd.prog.cellsOf 30 = 6 := by kernel_rfl
theorem cellsActs : Tryd.prog.cellsOf 23 = 1 := by kernel_rfl
theorem cellsFile : Tryd.prog.cellsOf 37 = 2 := by kernel_rfl
theorem cellsFiles : Tryd.prog.cellsOf 22 = 1 := by kernel_rfl
theorem cellsScr : Tryd.prog.cellsOf 25 = 2 := by kernel_rfl
theorem cellsStr : Tryd.prog.cellsOf 9 = 1 := by kernel_rfl
theorem cellsInt : Tryd.prog.cellsOf 3 = 1 := by kernel_rfl
theorem cellsInts : Tryd.prog.cellsOf 28 = 1 := by kernel_rfl
theorem cellsBytes : Tryd.prog.cellsOf 27 = 1 := by kernel_rfl
theorem slice_of {H : Type} {enc : TypeId × Value → H} {W : World} {n : Nat} {t e : TypeId} {v : Value} {x : DataW H × List MemPlace} (ht : Tryd.prog.underlying t = some (.slice e)) (h : DataW.trod enc Tryd.prog W 0 (fun _ => true) true n t [v] = some x) : ∃ a l c, v = .slice a l c := by
  rcases open_slice ht h with ⟨hcs, _⟩ | ⟨a, len, cap, m, n, D, Pl, hcs, _⟩
  · exact ⟨_, _, _, (List.cons.inj hcs).1⟩
  · exact ⟨_, _, _, (List.cons.inj hcs).1⟩
/-- one file that reads -/
theorem file_of_trod {H : Type} {enc : TypeId × Value → H} {W : World} {n : Nat} {cs : List Value} {x : DataW H × List MemPlace} (h : DataW.trod enc Tryd.prog W 0 (fun _ => true) true n 37 cs = some x) : ∃ s a l c, cs = [.string s, .slice a l c] := by
  obtain ⟨xs, k, hk, hxy, hcl, hxl, hf⟩ := DataW.trod_struct Tryd.underlying37 h
  rw [cellsFile] at hcl
  match xs, hxl, cs, hcl with
  | [y0, y1], _, [v0, v1], _ =>
    have g0 := hf 0 _ rfl
    have g1 := hf 1 _ rfl
    simp [cellsStr, cellsBytes] at g0 g1
    obtain ⟨z0, hz0, _⟩ := DataW.trod_string Tryd.underlying9 g0
    obtain ⟨a, l, c, rfl⟩ := slice_of Tryd.underlying27 g1
    simp at hz0
    subst hz0
    exact ⟨z0, a, l, c, rfl⟩
/-- one act that reads -/
theorem act_of_trod {H : Type} {enc : TypeId × Value → H} {W : World} {n : Nat} {cs : List Value} {x : DataW H × List MemPlace} (h : DataW.trod enc Tryd.prog W 0 (fun _ => true) true n 30 cs = some x) : ∃ i s s' j a l c a' l' c', cs = [.int .i64 i, .string s, .string s', .int .i64 j, .slice a l c, .slice a' l' c'] ∧ s.size ≤ maxLen := by
  obtain ⟨xs, k, hk, hxy, hcl, hxl, hf⟩ := DataW.trod_struct Tryd.underlying30 h
  rw [cellsAct] at hcl
  match xs, hxl, cs, hcl with
  | [y0, y1, y2, y3, y4, y5], _, [v0, v1, v2, v3, v4, v5], _ =>
    have g0 := hf 0 _ rfl
    have g1 := hf 1 _ rfl
    have g2 := hf 2 _ rfl
    have g3 := hf 3 _ rfl
    have g4 := hf 4 _ rfl
    have g5 := hf 5 _ rfl
    simp [cellsStr, cellsBytes, cellsInt, cellsInts] at g0 g1 g2 g3 g4 g5
    obtain ⟨z0, hz0, _⟩ := DataW.trod_int Tryd.underlying3 g0
    obtain ⟨z1, hz1, _, hs1⟩ := DataW.trod_string Tryd.underlying9 g1
    obtain ⟨z2, hz2, _⟩ := DataW.trod_string Tryd.underlying9 g2
    obtain ⟨z3, hz3, _⟩ := DataW.trod_int Tryd.underlying3 g3
    obtain ⟨a, l, c, rfl⟩ := slice_of Tryd.underlying27 g4
    obtain ⟨a', l', c', rfl⟩ := slice_of Tryd.underlying28 g5
    simp at hz0 hz1 hz2 hz3
    subst hz0 hz1 hz2 hz3
    exact ⟨z0, z1, z2, z3, a, l, c, a', l', c', rfl, hs1⟩
theorem scr_open {H : Type} {enc : TypeId × Value → H} {W : World} {v : Value} {d : DataW H} {ps : List MemPlace} (h : DataW.Trod enc Tryd.prog W 0 (fun _ => true) true 25 v d ps) (hs : ∃ cs, v = .agg cs ∧ cs.size = Tryd.prog.cellsOf 25) :
    ∃ fo fl fc lo len cap, v = .agg #[.slice fo fl fc, .slice lo len cap] ∧ Scr W fo lo fl len := by
  obtain ⟨cs, rfl, hsz⟩ := hs
  rw [cellsScr] at hsz
  obtain ⟨v0, v1, rfl⟩ : ∃ v0 v1, cs = #[v0, v1] := by
    obtain ⟨l⟩ := cs
    match l, hsz with
    | [a, b], _ => exact ⟨a, b, rfl⟩
  obtain ⟨fuel, hf⟩ := h
  obtain ⟨xs, k, hk, hxy, hcl, hxl, hfl⟩ := DataW.trod_struct Tryd.underlying25 hf
  match xs, hxl with
  | [y0, y1], _ =>
    have g0 := hfl 0 _ rfl
    have g1 := hfl 1 _ rfl
    simp [cellsFiles, cellsActs, Value.cells] at g0 g1
    have kF : ∃ fo fl fc, v0 = .slice fo fl fc ∧ fl ≤ maxLen ∧ (fl = 0 ∨ ∃ b off, fo = some ⟨b, off, none⟩ ∧ ∀ i, i < fl → ∃ a n c, W.cell? ⟨b, off + i * 2 + 1, none⟩ = some (.slice a n c)) := by
      rcases open_slice Tryd.underlying22 g0 with ⟨hcs, _⟩ | ⟨a, len, cap, m, n, D, Pl, hcs, _, hl, hm, hmm, hx, hel⟩
      · exact ⟨none, 0, 0, (List.cons.inj hcs).1, by simp, .inl rfl⟩
      · refine ⟨some a, len, cap, (List.cons.inj hcs).1, by omega, ?_⟩
        simp only [if_true] at hmm
        subst hmm
        rw [cellsFile] at hel
        by_cases h0 : len = 0
        · exact .inl h0
        right
        obtain ⟨b, off, spot⟩ := a
        have hspot : spot = none := by
          obtain ⟨cs', h1, h2⟩ := hel 0 (by omega)
          obtain ⟨s, a, l, c, rfl⟩ := file_of_trod h2
          obtain ⟨_, _, hcell⟩ := World.cells?_some h1
          simpa [Addr.add] using World.cell?_spot (hcell 0 (by omega))
        subst hspot
        refine ⟨b, off, rfl, fun i hi => ?_⟩
        obtain ⟨cs', h1, h2⟩ := hel i (by omega)
        obtain ⟨s, a, l, c, rfl⟩ := file_of_trod h2
        obtain ⟨_, _, hcell⟩ := World.cells?_some h1
        have e1 := hcell 1 (by omega)
        rw [add_add, add_plain] at e1
        exact ⟨a, l, c, by simpa [Nat.add_assoc] using e1⟩
    have kL : ∃ lo len cap, v1 = .slice lo len cap ∧ len ≤ maxLen ∧ (len = 0 ∨ ∃ b off, lo = some ⟨b, off, none⟩ ∧ ∀ i, i < len → ∃ s, Act W b (off + i * 6) s) := by
      rcases open_slice Tryd.underlying23 g1 with ⟨hcs, _⟩ | ⟨a, len, cap, m, n, D, Pl, hcs, _, hl, hm, hmm, hx, hel⟩
      · exact ⟨none, 0, 0, (List.cons.inj hcs).1, by simp, .inl rfl⟩
      · refine ⟨some a, len, cap, (List.cons.inj hcs).1, by omega, ?_⟩
        simp only [if_true] at hmm
        subst hmm
        rw [cellsAct] at hel
        by_cases h0 : len = 0
        · exact .inl h0
        right
        obtain ⟨b, off, spot⟩ := a
        have hspot : spot = none := by
          obtain ⟨cs', h1, h2⟩ := hel 0 (by omega)
          obtain ⟨i0, s, s', j0, a, l, c, a', l', c', rfl, _⟩ := act_of_trod h2
          obtain ⟨_, _, hcell⟩ := World.cells?_some h1
          simpa [Addr.add] using World.cell?_spot (hcell 0 (by omega))
        subst hspot
        refine ⟨b, off, rfl, fun i hi => ?_⟩
        obtain ⟨cs', h1, h2⟩ := hel i (by omega)
        obtain ⟨i0, s, s', j0, a, l, c, a', l', c', rfl, hs⟩ := act_of_trod h2
        obtain ⟨_, _, hcell⟩ := World.cells?_some h1
        have e1 := hcell 1 (by omega)
        have e4 := hcell 4 (by omega)
        have e5 := hcell 5 (by omega)
        rw [add_add, add_plain] at e1 e4 e5
        exact ⟨s, by simpa [Nat.add_assoc] using e1, hs, a, l, c, a', l', c', by simpa [Nat.add_assoc] using e4, by simpa [Nat.add_assoc] using e5⟩
    obtain ⟨fo, fl, fc, rfl, f1, f2⟩ := kF
    obtain ⟨lo, len, cap, rfl, l1, l2⟩ := kL
    exact ⟨fo, fl, fc, lo, len, cap, rfl, f1, l1, f2, l2⟩
end Go.Proofs.YtondonppakjbgaaDoorRRR.D
