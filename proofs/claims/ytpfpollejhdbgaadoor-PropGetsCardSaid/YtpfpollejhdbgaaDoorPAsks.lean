/- Proved here: what a readable argument of the statements of layer 3 is in memory, and that errors.errorType, as laid, is the handle of the type error. Helpers. -/
import Derived.Test.YtpfpollejhdbgaaDoorRows
import Derived.Test.YtpfpollejhdbgaaDoorBase
import Derived.Test.YtpfpollejhdbgaaDoorErrNum
import Derived.Test.YtpfpollejhdbgaaDoorPPut
import Derived.ProofKit
import Derived.SizedLaws
import Derived.Deep.SlicePairs
import Derived.ChangeSame
import Derived.ChangeVars
import Derived.JoinedOf
import Derived.RowKit
import Derived.RowKitTokens
import Derived.LaidLaws
import Derived.LaidHandle
import Derived.Stop.Joined
namespace Go.Proofs.YtpfpollejhdbgaaDoor
open Go.ChangeShapes Go.WideShapes Go.ChangeAt Go.RowKit Go.Deep
set_option maxRecDepth 100000

theorem Tryd.own : ownKnob Tryd.prog.godebug = none := by kernel_rfl
theorem Tryd.laidOut : laidOutB Tryd.prog = true := by kernel_rfl
theorem Tryd.et : Tryd.prog.globalNamed "errors.errorType" = some 0 := by kernel_rfl
theorem Tryd.rt : (Tryd.prog.cutTypes.find? (·.1 == "internal/reflectlite.rtype")).map (·.2) = some 122 := by kernel_rfl
theorem Tryd.oneRow : ((List.range 177).filter fun t => Tryd.prog.rowNamed t [101, 114, 114, 111, 114]) = [33] := by kernel_rfl
theorem Tryd.tsize : Tryd.prog.types.size = 177 := by kernel_rfl
theorem Tryd.cellsAsk : Tryd.prog.cellsOf 26 = 3 := by kernel_rfl
theorem Tryd.cellsProp : Tryd.prog.cellsOf 49 = 4 := by kernel_rfl
theorem Tryd.cellsProps : Tryd.prog.cellsOf 23 = 1 := by kernel_rfl
theorem Tryd.cellsStr : Tryd.prog.cellsOf 9 = 1 := by kernel_rfl
theorem Tryd.bytesProp : Tryd.prog.bytesOf 49 = 48 := by kernel_rfl
theorem Tryd.cellsInt : Tryd.prog.cellsOf 3 = 1 := by kernel_rfl
theorem Tryd.cellsBytes : Tryd.prog.cellsOf 24 = 1 := by kernel_rfl
theorem Tryd.cellsU8 : Tryd.prog.cellsOf 5 = 1 := by kernel_rfl
theorem Tryd.bytesU8 : Tryd.prog.bytesOf 5 = 1 := by kernel_rfl

def laidL : List (String × DataW Unit) := [("errors.errorType", Rows.laid_errors_errorType)]

theorem handle_of_laid {W : World} (h : laidMetH Tryd.prog laidL W) : Laid W := by
  have h' : laidMet Tryd.prog [] W ∧ handlesMet Tryd.prog laidL W := h
  obtain ⟨name, u, ty, e1, e2, e3, e4, e5⟩ := h'.2 _ (List.mem_singleton.2 rfl)
  have en : name = [101, 114, 114, 111, 114] := (Option.some.inj e1).symm
  subst en
  obtain rfl := Option.some.inj (Tryd.rt.symm.trans e2)
  have hm : ty ∈ (List.range 177).filter fun t => Tryd.prog.rowNamed t [101, 114, 114, 111, 114] := List.mem_filter.2 ⟨List.mem_range.2 (by rw [← Tryd.tsize]; exact e3), e4⟩
  rw [Tryd.oneRow] at hm
  obtain rfl := List.mem_singleton.1 hm
  have hh : typeHandle Tryd.prog 33 = .pointer (some ⟨1, 33, none⟩) := by kernel_rfl
  rw [hh] at e5
  unfold Laid
  simpa using World.var?_cell Tryd.et e5 0

theorem laidWorld_met (os : Os) (args : Array Value) : laidMetH Tryd.prog laidL (World.forCall ({ World.holding Tryd.prog os ⟨#[], #[], []⟩ with heap := (World.holding Tryd.prog os ⟨#[], #[], []⟩).heap.modify 0 fun | .cells _ t frozen => .cells #[.iface 122 (.agg #[.pointer (some ⟨1, 33, none⟩)])] t frozen | o => o } : World) (fun _ _ => 0) ⟨#[], args, []⟩).memory :=
  laidMetH_of_parts (laidMet_nil _ _) (by kernel_rfl)

theorem weights_all_mem {H : Type} {P : Program} {e : TypeId} {ds : List (DataW H)} {d : DataW H} (h : d ∈ ds) : ∀ n ∈ d.weights P e, n ∈ DataW.weightsAll P e ds := by
  induction ds with
  | nil => cases h
  | cons x r ih =>
    intro n hn
    simp only [DataW.weightsAll, List.mem_append]
    rcases List.mem_cons.1 h with rfl | h
    · exact .inl hn
    · exact .inr (ih h n hn)

/-- a byte slice that reads is a byte slice -/
theorem byt_of_trod {H : Type} {enc : TypeId × Value → H} {W : World} {fuel : Nat} {v : Value} {d : DataW H} {ps : List MemPlace} (h : DataW.trod enc Tryd.prog W 0 (fun _ => true) true fuel 24 [v] = some (d, ps)) :
    ∃ bs, Byt W v bs ∧ ((∀ n ∈ d.weights Tryd.prog 24, n ≤ reachBytes) → bs.length ≤ 140737488351232) := by
  rcases open_ints Tryd.underlying24 Tryd.underlying5 Tryd.cellsU8 h with ⟨hcs, hx⟩ | ⟨a, len, cap, zs, hcs, _, hl, hm, hz, hx, hcell, hwz⟩
  · simp at hcs
    subst hcs
    exact ⟨[], ⟨none, 0, rfl, ⟨by simp, by simp⟩, by intro j; simp, .inl rfl⟩, fun _ => by simp⟩
  · simp at hcs
    subst hcs
    simp only [if_true] at hz
    simp only [Prod.mk.injEq] at hx
    obtain ⟨rfl, rfl⟩ := hx
    have hr : ∀ j, 0 ≤ (zs.take len).getD j 0 ∧ (zs.take len).getD j 0 ≤ 255 := by
      intro j
      by_cases hj : j < (zs.take len).length
      · have hmem : (zs.take len).getD j 0 ∈ zs := by
          rw [List.getD_eq_getElem?_getD, List.getElem?_eq_getElem hj]
          exact List.mem_of_mem_take (List.getElem_mem hj)
        have := hwz _ hmem
        have h1 : IntKind.u8.min = 0 := rfl
        have h2 : IntKind.u8.max = 255 := rfl
        simp only [Lit.wf, Bool.and_eq_true, decide_eq_true_eq] at this
        omega
      · rw [List.getD_eq_getElem?_getD, List.getElem?_eq_none (by omega)]; simp
    have hlen : (zs.take len).length = len := by rw [List.length_take]; omega
    refine ⟨zs.take len, ⟨some a, cap, by rw [hlen], ⟨by rw [hlen]; exact hl, hm⟩, hr, ?_⟩, ?_⟩
    · by_cases h0 : len = 0
      · exact .inl (by rw [h0]; rfl)
      · obtain ⟨b, off, spot⟩ := a
        have hspot : spot = none := by simpa [Addr.add] using World.cell?_spot (hcell 0 (by omega))
        subst hspot
        refine .inr ⟨b, off, rfl, fun j hj => ?_⟩
        rw [hlen] at hj
        rw [← add_plain, hcell j (by omega), List.getD_eq_getElem?_getD, List.getD_eq_getElem?_getD, List.getElem?_take, if_pos hj]
    · intro hw
      have := hw ((((lits (H := H) .u8 (zs.take len)).length + (lits (H := H) .u8 (zs.drop len)).length)) * Tryd.prog.bytesOf 5) (by simp [DataW.weights, Tryd.underlying24])
      rw [Tryd.bytesU8] at this
      simp only [lits, List.length_map, List.length_take, List.length_drop, reachBytes] at this
      rw [hlen]
      omega

/-- texts and lists that a machine could hold -/
def Held (l : List Pr) : Prop := l.length ≤ 140737488351232 ∧ ∀ k, k < l.length → (at0 l k).2.2.1.size ≤ 140737488351232 ∧ (at0 l k).2.2.2.size ≤ 140737488351232
theorem Held.small {l : List Pr} (h : Held l) : Small l := fun k hk => by have := h.2 k hk; omega
theorem at0_map (f : Nat → Pr) (len k : Nat) (h : k < len) : at0 ((List.range len).map f) k = f k := by
  unfold at0
  rw [List.getD_eq_getElem?_getD, List.getElem?_map, List.getElem?_range h]
  rfl
/-- one property that reads -/
theorem prop_of_trod {H : Type} {enc : TypeId × Value → H} {W : World} {n : Nat} {cs : List Value} {d : DataW H} {ps : List MemPlace} (h : DataW.trod enc Tryd.prog W 0 (fun _ => true) true n 49 cs = some (d, ps)) :
    ∃ p : Pr, cs = [.int .i64 p.1, .int .i64 p.2.1, .string p.2.2.1, .string p.2.2.2] ∧ ((∀ n ∈ d.weights Tryd.prog 49, n ≤ reachBytes) → p.2.2.1.size ≤ 140737488351232 ∧ p.2.2.2.size ≤ 140737488351232) := by
  obtain ⟨xs, k, hk, hxy, hcl, hxl, hf⟩ := DataW.trod_struct Tryd.underlying49 h
  rw [Tryd.cellsProp] at hcl
  match xs, hxl, cs, hcl with
  | [y0, y1, y2, y3], _, [v0, v1, v2, v3], _ =>
    have g0 := hf 0 _ rfl
    have g1 := hf 1 _ rfl
    have g2 := hf 2 _ rfl
    have g3 := hf 3 _ rfl
    simp [Tryd.cellsInt, Tryd.cellsStr] at g0 g1 g2 g3
    obtain ⟨z0, hz0, hy0, _⟩ := DataW.trod_int Tryd.underlying3 g0
    obtain ⟨z1, hz1, hy1, _⟩ := DataW.trod_int Tryd.underlying3 g1
    obtain ⟨z2, hz2, hy2, _⟩ := DataW.trod_string Tryd.underlying9 g2
    obtain ⟨z3, hz3, hy3, _⟩ := DataW.trod_string Tryd.underlying9 g3
    simp at hz0 hz1 hz2 hz3
    subst hz0 hz1 hz2 hz3
    refine ⟨(z0, z1, z2, z3), rfl, fun hw => ?_⟩
    simp only [Prod.mk.injEq] at hxy
    obtain ⟨rfl, _⟩ := hxy
    have w2 := hw z2.data.toList.length (by
      simp only [DataW.weights, Tryd.underlying49, DataW.weightsEach, List.map, List.mem_append, hy0, hy1, hy2, hy3]
      simp)
    have w3 := hw z3.data.toList.length (by
      simp only [DataW.weights, Tryd.underlying49, DataW.weightsEach, List.map, List.mem_append, hy0, hy1, hy2, hy3]
      simp)
    simp only [reachBytes, Array.length_toList] at w2 w3
    exact ⟨w2, w3⟩
/-- a list of properties that reads -/
theorem prp_of_trod {H : Type} {enc : TypeId × Value → H} {W : World} {fuel : Nat} {v : Value} {d : DataW H} {ps : List MemPlace} (h : DataW.trod enc Tryd.prog W 0 (fun _ => true) true fuel 23 [v] = some (d, ps)) :
    ∃ l, Prp W v l ∧ ((∀ n ∈ d.weights Tryd.prog 23, n ≤ reachBytes) → Held l) := by
  rcases open_slice Tryd.underlying23 h with ⟨hcs, hx⟩ | ⟨a, len, cap, m, n, D, Pl, hcs, hb, hl, hm, hmm, hx, hel⟩
  · simp at hcs
    subst hcs
    exact ⟨[], ⟨none, 0, rfl, .inl rfl⟩, fun _ => ⟨by simp, fun k hk => by simp at hk⟩⟩
  · simp at hcs
    subst hcs
    simp only [if_true] at hmm
    subst hmm
    simp only [Prod.mk.injEq] at hx
    obtain ⟨rfl, _⟩ := hx
    rw [Tryd.cellsProp] at hel
    have key : ∀ i, i < len → ∃ p : Pr, W.cells? 0 (a.add (i * 4)) 4 = some [.int .i64 p.1, .int .i64 p.2.1, .string p.2.2.1, .string p.2.2.2] ∧ ((∀ n ∈ (D i).weights Tryd.prog 49, n ≤ reachBytes) → p.2.2.1.size ≤ 140737488351232 ∧ p.2.2.2.size ≤ 140737488351232) := by
      intro i hi
      obtain ⟨cs', h1, h2⟩ := hel i (by omega)
      obtain ⟨p, rfl, hp⟩ := prop_of_trod h2
      exact ⟨p, h1, hp⟩
    obtain ⟨f, hf⟩ := choose_lt key
    refine ⟨(List.range len).map f, ?_, ?_⟩
    · refine ⟨some a, m, by simp, ?_⟩
      by_cases h0 : len = 0
      · exact .inl (by rw [h0]; rfl)
      · obtain ⟨b, off, spot⟩ := a
        have hspot : spot = none := by
          obtain ⟨_, _, hcell⟩ := World.cells?_some (hf 0 (by omega)).1
          simpa [Addr.add] using World.cell?_spot (hcell 0 (by omega))
        subst hspot
        refine .inr ⟨b, off, rfl, fun k hk => ?_⟩
        rw [List.length_map, List.length_range] at hk
        rw [at0_map f len k hk]
        obtain ⟨_, _, hcell⟩ := World.cells?_some (hf k hk).1
        have e0 := hcell 0 (by omega)
        have e1 := hcell 1 (by omega)
        have e2 := hcell 2 (by omega)
        have e3 := hcell 3 (by omega)
        rw [add_add, add_plain] at e0 e1 e2 e3
        refine ⟨by simpa using e0, by simpa [Nat.add_assoc] using e1, by simpa [Nat.add_assoc] using e2, by simpa [Nat.add_assoc] using e3⟩
    · intro hw
      refine ⟨?_, fun k hk => ?_⟩
      · have := hw ((((List.range len).map D).length + ((List.range (m - len)).map fun j => D (len + j)).length) * Tryd.prog.bytesOf 49) (by simp [DataW.weights, Tryd.underlying23])
        rw [Tryd.bytesProp] at this
        simp only [List.length_map, List.length_range, reachBytes] at this
        simp only [List.length_map, List.length_range]
        omega
      · rw [List.length_map, List.length_range] at hk
        rw [at0_map f len k hk]
        refine (hf k hk).2 fun n hn => hw n ?_
        have := weights_all_mem (P := Tryd.prog) (e := 49) (ds := (List.range len).map D) (d := D k) (List.mem_map.2 ⟨k, List.mem_range.2 hk, rfl⟩) n hn
        simp only [DataW.weights, Tryd.underlying23, List.mem_cons, List.mem_append]
        right; left
        exact this
/-- one ask in memory -/
def AskAt (W : World) (b off : Nat) (vl : Value) (l : List Pr) (p : Int) (vb : Value) (bs : List Int) : Prop :=
  W.cell? ⟨b, off, none⟩ = some vl ∧ W.cell? ⟨b, off + 1, none⟩ = some (.int .i64 p) ∧ W.cell? ⟨b, off + 2, none⟩ = some vb ∧ Prp W vl l ∧ Held l ∧ Byt W vb bs ∧ bs.length ≤ 140737488351232 ∧ -9223372036854775808 ≤ p ∧ p ≤ 9223372036854775807
/-- what a readable argument of layer 3's statements is -/
def AsksAt (W : World) (v : Value) : Prop :=
  ∃ ao len cap, v = .slice ao len cap ∧ len ≤ maxLen ∧ (len = 0 ∨ ∃ b off, ao = some ⟨b, off, none⟩ ∧ ∃ (vl : Nat → Value) (ls : Nat → List Pr) (pl : Nat → Int) (vb : Nat → Value) (bs : Nat → List Int),
    ∀ k, k < len → AskAt W b (off + k * 3) (vl k) (ls k) (pl k) (vb k) (bs k))
theorem asks_open {H : Type} {enc : TypeId × Value → H} {W : World} {v : Value} {d : DataW H} {ps : List MemPlace} (h : DataW.Trod enc Tryd.prog W 0 (fun _ => true) true 22 v d ps) (hs : ∃ ao len cap, v = .slice ao len cap)
    (hw : ∀ n ∈ d.weights Tryd.prog 22, n ≤ reachBytes) : AsksAt W v := by
  obtain ⟨ao, len, cap, rfl⟩ := hs
  obtain ⟨fuel, hf⟩ := h
  refine ⟨ao, len, cap, rfl, ?_⟩
  rcases open_slice Tryd.underlying22 hf with ⟨hcs, hx⟩ | ⟨a, len', cap', m, n, D, Pl, hcs, _, hl, hm, hmm, hx, hel⟩
  · simp [Value.cells] at hcs
    obtain ⟨rfl, rfl, rfl⟩ := hcs
    exact ⟨by simp, .inl rfl⟩
  · simp [Value.cells] at hcs
    obtain ⟨rfl, rfl, rfl⟩ := hcs
    refine ⟨by omega, ?_⟩
    simp only [if_true] at hmm
    subst hmm
    by_cases h0 : len = 0
    · exact .inl h0
    right
    simp only [Prod.mk.injEq] at hx
    obtain ⟨rfl, _⟩ := hx
    rw [Tryd.cellsAsk] at hel
    obtain ⟨b, off, spot⟩ := a
    have hspot : spot = none := by
      obtain ⟨cs', h1, _⟩ := hel 0 (by omega)
      obtain ⟨_, hlen, hcell⟩ := World.cells?_some h1
      have hc := hcell 0 (by omega)
      rw [List.getElem?_eq_getElem (by omega)] at hc
      simpa [Addr.add] using World.cell?_spot hc
    subst hspot
    have key : ∀ i, i < len → ∃ x : Value × List Pr × Int × Value × List Int, AskAt W b (off + i * 3) x.1 x.2.1 x.2.2.1 x.2.2.2.1 x.2.2.2.2 := by
      intro i hi
      obtain ⟨cs', h1, h2⟩ := hel i (by omega)
      obtain ⟨_, hlen, hcell⟩ := World.cells?_some h1
      obtain ⟨xs, k, hk, hxy, _, hxl, hfl⟩ := DataW.trod_struct Tryd.underlying26 h2
      match xs, hxl, cs', hlen with
      | [y0, y1, y2], _, [v0, v1, v2], _ =>
        have g0 := hfl 0 _ rfl
        have g1 := hfl 1 _ rfl
        have g2 := hfl 2 _ rfl
        simp [Tryd.cellsInt, Tryd.cellsBytes, Tryd.cellsProps] at g0 g1 g2
        obtain ⟨z1, hz1, hy1, hzw⟩ := DataW.trod_int Tryd.underlying3 g1
        simp at hz1
        subst hz1
        obtain ⟨d0, p0'⟩ := y0
        obtain ⟨d2, p2'⟩ := y2
        obtain ⟨l, hpl, hhl⟩ := prp_of_trod g0
        obtain ⟨bs, hb, hbl⟩ := byt_of_trod g2
        have e0 := hcell 0 (by omega)
        have e1 := hcell 1 (by omega)
        have e2 := hcell 2 (by omega)
        rw [add_add, add_plain] at e0 e1 e2
        have h1' : IntKind.i64.min = -9223372036854775808 := rfl
        have h2' : IntKind.i64.max = 9223372036854775807 := rfl
        simp only [Lit.wf, Bool.and_eq_true, decide_eq_true_eq] at hzw
        simp only [Prod.mk.injEq] at hxy
        have hD : ∀ n, n ∈ (D i).weights Tryd.prog 26 → n ≤ reachBytes := fun n hn => hw n (by
          have := weights_all_mem (P := Tryd.prog) (e := 26) (ds := (List.range len).map D) (d := D i) (List.mem_map.2 ⟨i, List.mem_range.2 hi, rfl⟩) n hn
          simp only [DataW.weights, Tryd.underlying22, List.mem_cons, List.mem_append]
          right; left
          exact this)
        rw [hxy.1] at hD
        refine ⟨(v0, l, z1, v2, bs), by simpa using e0, by simpa [Nat.add_assoc] using e1, by simpa [Nat.add_assoc] using e2, hpl, hhl ?_, hb, hbl ?_, by show _ ≤ z1; omega, by show z1 ≤ _; omega⟩
        · intro n hn
          apply hD
          simp only [DataW.weights, Tryd.underlying26, DataW.weightsEach, List.map, List.mem_append]
          left
          exact hn
        · intro n hn
          apply hD
          simp only [DataW.weights, Tryd.underlying26, DataW.weightsEach, List.map, List.mem_append]
          right; right; left
          exact hn
    obtain ⟨f, hf'⟩ := choose_lt key
    exact ⟨b, off, rfl, fun k => (f k).1, fun k => (f k).2.1, fun k => (f k).2.2.1, fun k => (f k).2.2.2.1, fun k => (f k).2.2.2.2, fun k hk => hf' k hk⟩
end Go.Proofs.YtpfpollejhdbgaaDoor
