/- Proved here: what a readable argument of the statements of layer 16 is in memory. Helpers. -/
import Derived.Test.YtnflgfpicigajaaDoorRows
import Derived.Test.YtnflgfpicigajaaDoorZULw
import Derived.ProofKit
import Derived.SizedLaws
import Derived.Deep.SlicePairs
import Derived.ChangeSame
import Derived.RowKit
import Derived.RowKitTokens
import Derived.Stop.Joined
import Derived.ChangeVars
import Derived.JoinedOf
import Derived.LaidLaws
import Derived.LaidHandle
namespace Go.Proofs.YtnflgfpicigajaaDoor.Qu
open Go.ChangeShapes Go.WideShapes Go.ChangeAt Go.RowKit Go.Deep Nt
set_option maxRecDepth 100000

theorem cellsAsk : Tryd.prog.cellsOf 25 = 5 := by kernel_rfl
theorem cellsInts : Tryd.prog.cellsOf 23 = 1 := by kernel_rfl
theorem cellsStr : Tryd.prog.cellsOf 9 = 1 := by kernel_rfl
theorem cellsInt : Tryd.prog.cellsOf 3 = 1 := by kernel_rfl
theorem bytesInt : Tryd.prog.bytesOf 3 = 8 := by kernel_rfl
theorem weights_all_mem {H : Type} {P : Program} {e : TypeId} {ds : List (DataW H)} {d : DataW H} (h : d ∈ ds) : ∀ n ∈ d.weights P e, n ∈ DataW.weightsAll P e ds := by
  induction ds with
  | nil => cases h
  | cons x r ih =>
    intro n hn
    simp only [DataW.weightsAll, List.mem_append]
    rcases List.mem_cons.1 h with rfl | h
    · exact .inl hn
    · exact .inr (ih h n hn)
theorem in0_map (f : Nat → Int) (len k : Nat) (h : k < len) : ((List.range len).map f).getD k 0 = f k := by
  rw [List.getD_eq_getElem?_getD, List.getElem?_map, List.getElem?_range h]
  rfl
/-- a list of numbers that reads -/
theorem ls_of_trod {H : Type} {enc : TypeId × Value → H} {W : World} {fuel : Nat} {v : Value} {d : DataW H} {ps : List MemPlace} (h : DataW.trod enc Tryd.prog W 0 (fun _ => true) true fuel 23 [v] = some (d, ps)) (hw : ∀ n ∈ d.weights Tryd.prog 23, n ≤ reachBytes) :
    ∃ (s : Sl) (l : List Int), v = .slice s.a s.n s.c ∧ LsS W s l := by
  rcases open_slice Tryd.underlying23 h with ⟨hcs, hx⟩ | ⟨a, len, cap, m, n, D, Pl, hcs, hb, hl, hm, hmm, hx, hel⟩
  · simp at hcs
    subst hcs
    exact ⟨⟨none, 0, 0⟩, [], rfl, rfl, Nat.le_refl _, ⟨by decide, fun _ => rfl⟩, by decide, .inl rfl⟩
  · simp at hcs
    subst hcs
    simp only [if_true] at hmm
    subst hmm
    simp only [Prod.mk.injEq] at hx
    obtain ⟨rfl, _⟩ := hx
    rw [cellsInt] at hel
    have key : ∀ i, i < len → ∃ p : Int, W.cells? 0 (a.add (i * 1)) 1 = some [.int .i64 p] := by
      intro i hi
      obtain ⟨cs', h1, h2⟩ := hel i (by omega)
      obtain ⟨_, hlen, _⟩ := World.cells?_some h1
      match cs', hlen with
      | [y], _ =>
        obtain ⟨z0, hz0, _, _⟩ := DataW.trod_int Tryd.underlying3 h2
        simp at hz0
        subst hz0
        exact ⟨z0, h1⟩
    obtain ⟨f, hf⟩ := choose_lt key
    refine ⟨⟨some a, len, m⟩, (List.range len).map f, rfl, by simp, by show len ≤ m; omega, ⟨by show m ≤ maxLen; omega, fun e => by cases e⟩, ?_, ?_⟩
    · have := hw ((((List.range len).map D).length + ((List.range (m - len)).map fun j => D (len + j)).length) * Tryd.prog.bytesOf 3) (by simp [DataW.weights, Tryd.underlying23])
      rw [bytesInt] at this
      simp only [List.length_map, List.length_range, reachBytes] at this
      show len ≤ 17592186043904
      omega
    · by_cases h0 : len = 0
      · exact .inl h0
      · obtain ⟨b, off, spot⟩ := a
        have hspot : spot = none := by
          obtain ⟨_, _, hcell⟩ := World.cells?_some (hf 0 (by omega))
          simpa [Addr.add] using World.cell?_spot (hcell 0 (by omega))
        subst hspot
        refine .inr ⟨b, off, rfl, fun k hk => ?_⟩
        rw [List.length_map, List.length_range] at hk
        rw [in0_map f len k hk]
        obtain ⟨_, _, hcell⟩ := World.cells?_some (hf k hk)
        have e0 := hcell 0 (by omega)
        rw [add_add, add_plain] at e0
        simpa using e0
instance : Inhabited Ak := ⟨⟨⟨none, 0, 0⟩, ⟨none, 0, 0⟩, ⟨none, 0, 0⟩, ⟨none, 0, 0⟩, ⟨#[]⟩, [], [], [], []⟩⟩
def AksAt (W : World) (v : Value) : Prop := ∃ ao len cap, v = .slice ao len cap ∧ len ≤ maxLen ∧ (len = 0 ∨ ∃ b off f, ao = some ⟨b, off, none⟩ ∧ AksIn W b off f len)
/-- a list of asks that reads -/
theorem asks_open {H : Type} {enc : TypeId × Value → H} {W : World} {v : Value} {d : DataW H} {ps : List MemPlace} (h : DataW.Trod enc Tryd.prog W 0 (fun _ => true) true 22 v d ps) (hs : ∃ ao len cap, v = .slice ao len cap)
    (hw : ∀ n ∈ d.weights Tryd.prog 22, n ≤ reachBytes) : AksAt W v := by
  obtain ⟨ao, len, cap, rfl⟩ := hs
  obtain ⟨fuel, hf⟩ := h
  rcases open_slice Tryd.underlying22 hf with ⟨hcs, hx⟩ | ⟨a, len', cap', m, n, D, Pl, hcs, _, hl, hm, hmm, hx, hel⟩
  · simp [Value.cells] at hcs
    obtain ⟨rfl, rfl, rfl⟩ := hcs
    exact ⟨_, _, _, rfl, by simp, .inl rfl⟩
  · simp [Value.cells] at hcs
    obtain ⟨rfl, rfl, rfl⟩ := hcs
    simp only [if_true] at hmm
    subst hmm
    by_cases h0 : len = 0
    · exact ⟨_, _, _, rfl, by omega, .inl h0⟩
    simp only [Prod.mk.injEq] at hx
    obtain ⟨rfl, _⟩ := hx
    rw [cellsAsk] at hel
    obtain ⟨b, off, spot⟩ := a
    have hspot : spot = none := by
      obtain ⟨cs', h1, _⟩ := hel 0 (by omega)
      obtain ⟨_, hlen, hcell⟩ := World.cells?_some h1
      have hc := hcell 0 (by omega)
      rw [List.getElem?_eq_getElem (by omega)] at hc
      simpa [Addr.add] using World.cell?_spot hc
    subst hspot
    have key : ∀ i, i < len → ∃ x : Ak, AkIs W b (off + i * 5) x := by
      intro i hi
      obtain ⟨cs', h1, h2⟩ := hel i (by omega)
      obtain ⟨_, hlen, hcell⟩ := World.cells?_some h1
      obtain ⟨xs, k, hk, hxy, _, hxl, hfl⟩ := DataW.trod_struct Tryd.underlying25 h2
      match xs, hxl, cs', hlen with
      | [y0, y1, y2, y3, y4], _, [v0, v1, v2, v3, v4], _ =>
        have g0 := hfl 0 _ rfl
        have g1 := hfl 1 _ rfl
        have g2 := hfl 2 _ rfl
        have g3 := hfl 3 _ rfl
        have g4 := hfl 4 _ rfl
        simp [cellsInts, cellsStr] at g0 g1 g2 g3 g4
        obtain ⟨z4, hz4, hy4, _⟩ := DataW.trod_string Tryd.underlying9 g4
        simp at hz4
        subst hz4
        obtain ⟨d0, p0⟩ := y0
        obtain ⟨d1, p1⟩ := y1
        obtain ⟨d2, p2⟩ := y2
        obtain ⟨d3, p3⟩ := y3
        obtain ⟨d4, p4⟩ := y4
        simp only [Prod.mk.injEq] at hxy
        have hD : ∀ n, n ∈ (D i).weights Tryd.prog 25 → n ≤ reachBytes := fun n hn => hw n (by
          have := weights_all_mem (P := Tryd.prog) (e := 25) (ds := (List.range len).map D) (d := D i) (List.mem_map.2 ⟨i, List.mem_range.2 hi, rfl⟩) n hn
          simp only [DataW.weights, Tryd.underlying22, List.mem_cons, List.mem_append]
          right; left
          exact this)
        rw [hxy.1] at hD
        simp only [Prod.mk.injEq] at hy4
        obtain ⟨rfl, _⟩ := hy4
        have HW : ∀ x ∈ [d0, d1, d2, d3], ∀ n ∈ x.weights Tryd.prog 23, n ≤ reachBytes := by
          intro x hx n hn
          refine hD n ?_
          simp only [DataW.weights, Tryd.underlying25, DataW.weightsEach, List.map, List.mem_append]
          simp only [List.mem_cons, List.mem_nil_iff, or_false] at hx
          rcases hx with rfl | rfl | rfl | rfl
          · left; exact hn
          · right; left; exact hn
          · right; right; left; exact hn
          · right; right; right; left; exact hn
        obtain ⟨s0, l0, rfl, hr0⟩ := ls_of_trod g0 (HW d0 (by simp))
        obtain ⟨s1, l1, rfl, hr1⟩ := ls_of_trod g1 (HW d1 (by simp))
        obtain ⟨s2, l2, rfl, hr2⟩ := ls_of_trod g2 (HW d2 (by simp))
        obtain ⟨s3, l3, rfl, hr3⟩ := ls_of_trod g3 (HW d3 (by simp))
        have hsz : z4.size ≤ 140737488355328 := by
          have := hD z4.data.toList.length (by
            simp only [DataW.weights, Tryd.underlying25, DataW.weightsEach, List.map, List.mem_append]
            simp)
          have h2 : z4.size ≤ 140737488351232 := by simpa [reachBytes] using this
          omega
        have e0 := hcell 0 (by omega)
        have e1 := hcell 1 (by omega)
        have e2 := hcell 2 (by omega)
        have e3 := hcell 3 (by omega)
        have e4 := hcell 4 (by omega)
        rw [add_add, add_plain] at e0 e1 e2 e3 e4
        exact ⟨⟨s0, s1, s2, s3, z4, l0, l1, l2, l3⟩, ⟨by simpa using e0, by simpa [Nat.add_assoc] using e1, by simpa [Nat.add_assoc] using e2, by simpa [Nat.add_assoc] using e3, by simpa [Nat.add_assoc] using e4⟩, ⟨hr0, hr1, hr2, hr3⟩, hsz⟩
    obtain ⟨f, hf'⟩ := choose_lt key
    exact ⟨_, _, _, rfl, by omega, .inr ⟨b, off, f, rfl, fun k hk => hf' k hk⟩⟩
end Go.Proofs.YtnflgfpicigajaaDoor.Qu
