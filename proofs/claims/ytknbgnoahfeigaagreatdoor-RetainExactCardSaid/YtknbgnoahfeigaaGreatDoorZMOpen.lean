/- Proved here: what a readable argument of the statements of layer 8 is in memory. Helpers. -/
import Derived.Test.YtknbgnoahfeigaaGreatDoorRows
import Derived.Test.YtknbgnoahfeigaaGreatDoorZMAk
import Derived.ProofKit
import Derived.SizedLaws
import Derived.Deep.SlicePairs
import Derived.ChangeSame
import Derived.ChangeVars
import Derived.JoinedOf
import Derived.RowKit
import Derived.RowKitTokens
import Derived.LaidLaws
import Derived.LaidHandle
import Derived.Stop.Joined
namespace Go.Proofs.YtknbgnoahfeigaaGreatDoor.M
open Go.ChangeShapes Go.WideShapes Go.ChangeAt Go.RowKit Go.Deep
set_option maxRecDepth 100000

instance : Inhabited Mg := ⟨mg0⟩
instance : Inhabited Ak := ⟨ak0⟩
theorem cellsAsk : Tryz.prog.cellsOf 28 = 10 := by kernel_rfl
theorem cellsMsg : Tryz.prog.cellsOf 26 = 7 := by kernel_rfl
theorem cellsMsgs : Tryz.prog.cellsOf 23 = 1 := by kernel_rfl
theorem bytesMsg : Tryz.prog.bytesOf 26 = 96 := by kernel_rfl
theorem cellsProp : Tryz.prog.cellsOf 83 = 4 := by kernel_rfl
theorem cellsProps : Tryz.prog.cellsOf 24 = 1 := by kernel_rfl
theorem cellsStr : Tryz.prog.cellsOf 9 = 1 := by kernel_rfl
theorem bytesProp : Tryz.prog.bytesOf 83 = 48 := by kernel_rfl
theorem cellsInt : Tryz.prog.cellsOf 3 = 1 := by kernel_rfl
theorem cellsBool : Tryz.prog.cellsOf 4 = 1 := by kernel_rfl
theorem weights_all_mem {H : Type} {P : Program} {e : TypeId} {ds : List (DataW H)} {d : DataW H} (h : d ∈ ds) : ∀ n ∈ d.weights P e, n ∈ DataW.weightsAll P e ds := by
  induction ds with
  | nil => cases h
  | cons x r ih =>
    intro n hn
    simp only [DataW.weightsAll, List.mem_append]
    rcases List.mem_cons.1 h with rfl | h
    · exact .inl hn
    · exact .inr (ih h n hn)
theorem at0_map (f : Nat → Pr) (len k : Nat) (h : k < len) : at0 ((List.range len).map f) k = f k := by
  unfold at0
  rw [List.getD_eq_getElem?_getD, List.getElem?_map, List.getElem?_range h]
  rfl
/-- one property that reads -/
theorem prop_of_trod {H : Type} {enc : TypeId × Value → H} {W : World} {n : Nat} {cs : List Value} {d : DataW H} {ps : List MemPlace} (h : DataW.trod enc Tryz.prog W 0 (fun _ => true) true n 83 cs = some (d, ps)) :
    ∃ p : Pr, cs = [.int .i64 p.1, .int .i64 p.2.1, .string p.2.2.1, .string p.2.2.2] := by
  obtain ⟨xs, k, hk, hxy, hcl, hxl, hf⟩ := DataW.trod_struct Tryz.underlying83 h
  rw [cellsProp] at hcl
  match xs, hxl, cs, hcl with
  | [y0, y1, y2, y3], _, [v0, v1, v2, v3], _ =>
    have g0 := hf 0 _ rfl
    have g1 := hf 1 _ rfl
    have g2 := hf 2 _ rfl
    have g3 := hf 3 _ rfl
    simp [cellsInt, cellsStr] at g0 g1 g2 g3
    obtain ⟨z0, hz0, hy0, _⟩ := DataW.trod_int Tryz.underlying3 g0
    obtain ⟨z1, hz1, hy1, _⟩ := DataW.trod_int Tryz.underlying3 g1
    obtain ⟨z2, hz2, hy2, _⟩ := DataW.trod_string Tryz.underlying9 g2
    obtain ⟨z3, hz3, hy3, _⟩ := DataW.trod_string Tryz.underlying9 g3
    simp at hz0 hz1 hz2 hz3
    subst hz0 hz1 hz2 hz3
    exact ⟨(z0, z1, z2, z3), rfl⟩
/-- a list of properties that reads -/
theorem prp_of_trod {H : Type} {enc : TypeId × Value → H} {W : World} {fuel : Nat} {v : Value} {d : DataW H} {ps : List MemPlace} (h : DataW.trod enc Tryz.prog W 0 (fun _ => true) true fuel 24 [v] = some (d, ps)) (hw : ∀ n ∈ d.weights Tryz.prog 24, n ≤ reachBytes) :
    ∃ ao cap l, v = .slice ao l.length cap ∧ Pok W ao cap l := by
  rcases open_slice Tryz.underlying24 h with ⟨hcs, hx⟩ | ⟨a, len, cap, m, n, D, Pl, hcs, hb, hl, hm, hmm, hx, hel⟩
  · simp at hcs
    subst hcs
    exact ⟨none, 0, [], rfl, ⟨none, 0, rfl, .inl rfl⟩, by simp⟩
  · simp at hcs
    subst hcs
    simp only [if_true] at hmm
    subst hmm
    simp only [Prod.mk.injEq] at hx
    obtain ⟨rfl, _⟩ := hx
    rw [cellsProp] at hel
    have key : ∀ i, i < len → ∃ p : Pr, W.cells? 0 (a.add (i * 4)) 4 = some [.int .i64 p.1, .int .i64 p.2.1, .string p.2.2.1, .string p.2.2.2] := by
      intro i hi
      obtain ⟨cs', h1, h2⟩ := hel i (by omega)
      obtain ⟨p, rfl⟩ := prop_of_trod h2
      exact ⟨p, h1⟩
    obtain ⟨f, hf⟩ := choose_lt key
    refine ⟨some a, m, (List.range len).map f, by simp, ⟨some a, m, rfl, ?_⟩, ?_⟩
    · by_cases h0 : len = 0
      · exact .inl (by rw [h0]; rfl)
      · obtain ⟨b, off, spot⟩ := a
        have hspot : spot = none := by
          obtain ⟨_, _, hcell⟩ := World.cells?_some (hf 0 (by omega))
          simpa [Addr.add] using World.cell?_spot (hcell 0 (by omega))
        subst hspot
        refine .inr ⟨b, off, rfl, fun k hk => ?_⟩
        rw [List.length_map, List.length_range] at hk
        rw [at0_map f len k hk]
        obtain ⟨_, _, hcell⟩ := World.cells?_some (hf k hk)
        have e0 := hcell 0 (by omega)
        have e1 := hcell 1 (by omega)
        have e2 := hcell 2 (by omega)
        have e3 := hcell 3 (by omega)
        rw [add_add, add_plain] at e0 e1 e2 e3
        refine ⟨by simpa using e0, by simpa [Nat.add_assoc] using e1, by simpa [Nat.add_assoc] using e2, by simpa [Nat.add_assoc] using e3⟩
    · have := hw ((((List.range len).map D).length + ((List.range (m - len)).map fun j => D (len + j)).length) * Tryz.prog.bytesOf 83) (by simp [DataW.weights, Tryz.underlying24])
      rw [bytesProp] at this
      simp only [List.length_map, List.length_range, reachBytes] at this
      simp only [List.length_map, List.length_range]
      omega
/-- one message that reads -/
theorem msg_of_trod {H : Type} {enc : TypeId × Value → H} {W : World} {n : Nat} {cs : List Value} {d : DataW H} {ps : List MemPlace} (h : DataW.trod enc Tryz.prog W 0 (fun _ => true) true n 26 cs = some (d, ps)) (hw : ∀ n ∈ d.weights Tryz.prog 26, n ≤ reachBytes) :
    ∃ (m : Mg) (ao : Option Addr) (cap : Nat), cs = mcs m (.slice ao m.props.length cap) ∧ Pok W ao cap m.props ∧ m.topic.size ≤ 140737488351232 := by
  obtain ⟨xs, k, hk, hxy, hcl, hxl, hf⟩ := DataW.trod_struct Tryz.underlying26 h
  rw [cellsMsg] at hcl
  match xs, hxl, cs, hcl with
  | [y0, y1, y2, y3, y4, y5, y6], _, [v0, v1, v2, v3, v4, v5, v6], _ =>
    have g0 := hf 0 _ rfl
    have g1 := hf 1 _ rfl
    have g2 := hf 2 _ rfl
    have g3 := hf 3 _ rfl
    have g4 := hf 4 _ rfl
    have g5 := hf 5 _ rfl
    have g6 := hf 6 _ rfl
    simp [cellsInt, cellsStr, cellsBool, cellsProps] at g0 g1 g2 g3 g4 g5 g6
    obtain ⟨z0, hz0, hy0, _⟩ := DataW.trod_string Tryz.underlying9 g0
    obtain ⟨z1, hz1, hy1, _⟩ := DataW.trod_string Tryz.underlying9 g1
    obtain ⟨z2, hz2, hy2, _⟩ := DataW.trod_int Tryz.underlying3 g2
    obtain ⟨z3, hz3, hy3⟩ := DataW.trod_bool Tryz.underlying4 g3
    obtain ⟨z4, hz4, hy4, _⟩ := DataW.trod_string Tryz.underlying9 g4
    obtain ⟨z5, hz5, hy5, _⟩ := DataW.trod_int Tryz.underlying3 g5
    simp at hz0 hz1 hz2 hz3 hz4 hz5
    subst hz0 hz1 hz2 hz3 hz4 hz5
    simp only [Prod.mk.injEq] at hxy
    obtain ⟨rfl, _⟩ := hxy
    obtain ⟨d6, p6⟩ := y6
    obtain ⟨ao, cap, l, rfl, hp⟩ := prp_of_trod g6 (fun n hn => hw n (by
      simp only [DataW.weights, Tryz.underlying26, DataW.weightsEach, List.map, List.mem_append]
      right; right; right; right; right; right; left
      exact hn))
    refine ⟨⟨z0, z1, z2, z3, z4, z5, l⟩, ao, cap, rfl, hp, ?_⟩
    have w0 := hw z0.data.toList.length (by
      simp only [DataW.weights, Tryz.underlying26, DataW.weightsEach, List.map, List.mem_append, hy0]
      simp)
    simp only [reachBytes, Array.length_toList] at w0
    exact w0
theorem getD_map (f : Nat → Mg) (len k : Nat) (h : k < len) : ((List.range len).map f).getD k mg0 = f k := by
  rw [List.getD_eq_getElem?_getD, List.getElem?_map, List.getElem?_range h]
  rfl
/-- seven cells in a row -/
theorem c7_of {W : World} {b off i : Nat} {m : Mg} {s : Value} (h : W.cells? 0 ((⟨b, off, none⟩ : Addr).add i) 7 = some (mcs m s)) : C7 W b (off + i) m s := by
  obtain ⟨_, _, hcell⟩ := World.cells?_some h
  have e0 := hcell 0 (by omega)
  have e1 := hcell 1 (by omega)
  have e2 := hcell 2 (by omega)
  have e3 := hcell 3 (by omega)
  have e4 := hcell 4 (by omega)
  have e5 := hcell 5 (by omega)
  have e6 := hcell 6 (by omega)
  rw [add_add, add_plain] at e0 e1 e2 e3 e4 e5 e6
  exact ⟨by simpa using e0, by simpa [Nat.add_assoc] using e1, by simpa [Nat.add_assoc] using e2, by simpa [Nat.add_assoc] using e3, by simpa [Nat.add_assoc] using e4, by simpa [Nat.add_assoc] using e5, by simpa [Nat.add_assoc] using e6⟩
/-- a list of messages that reads -/
theorem msgs_of_trod {H : Type} {enc : TypeId × Value → H} {W : World} {fuel : Nat} {v : Value} {d : DataW H} {ps : List MemPlace} (h : DataW.trod enc Tryz.prog W 0 (fun _ => true) true fuel 23 [v] = some (d, ps)) (hw : ∀ n ∈ d.weights Tryz.prog 23, n ≤ reachBytes) :
    ∃ ao cap l, v = .slice ao l.length cap ∧ Mgs W (.slice ao l.length cap) l ∧ TopOk l ∧ l.length ≤ 140737488351232 := by
  rcases open_slice Tryz.underlying23 h with ⟨hcs, hx⟩ | ⟨a, len, cap, m, n, D, Pl, hcs, hb, hl, hm, hmm, hx, hel⟩
  · simp at hcs
    subst hcs
    exact ⟨none, 0, [], rfl, Mgs.nil W, fun i hi => by simp at hi, by simp⟩
  · simp at hcs
    subst hcs
    simp only [if_true] at hmm
    subst hmm
    simp only [Prod.mk.injEq] at hx
    obtain ⟨rfl, _⟩ := hx
    rw [cellsMsg] at hel
    have key : ∀ i, i < len → ∃ x : Mg × Option Addr × Nat, W.cells? 0 (a.add (i * 7)) 7 = some (mcs x.1 (.slice x.2.1 x.1.props.length x.2.2)) ∧ Pok W x.2.1 x.2.2 x.1.props ∧ x.1.topic.size ≤ 140737488351232 := by
      intro i hi
      obtain ⟨cs', h1, h2⟩ := hel i (by omega)
      obtain ⟨mm, ao, cp, rfl, hp, ht⟩ := msg_of_trod h2 (fun n hn => hw n (by
        have := weights_all_mem (P := Tryz.prog) (e := 26) (ds := (List.range len).map D) (d := D i) (List.mem_map.2 ⟨i, List.mem_range.2 hi, rfl⟩) n hn
        simp only [DataW.weights, Tryz.underlying23, List.mem_cons, List.mem_append]
        right; left
        exact this))
      exact ⟨(mm, ao, cp), h1, hp, ht⟩
    obtain ⟨f, hf⟩ := choose_lt key
    have hln : ((List.range len).map fun i => (f i).1).length = len := by simp
    refine ⟨some a, m, (List.range len).map fun i => (f i).1, by rw [hln], ⟨some a, m, rfl, ⟨by rw [hln]; exact hl, hm⟩, ?_⟩, ?_, ?_⟩
    · by_cases h0 : len = 0
      · exact .inl (by rw [h0]; rfl)
      · obtain ⟨b, off, spot⟩ := a
        have hspot : spot = none := by
          obtain ⟨_, _, hcell⟩ := World.cells?_some (hf 0 (by omega)).1
          simpa [Addr.add] using World.cell?_spot (hcell 0 (by omega))
        subst hspot
        refine .inr ⟨b, off, rfl, fun k hk => ?_⟩
        rw [hln] at hk
        rw [getD_map (fun i => (f i).1) len k hk]
        exact ⟨(f k).2.1, (f k).2.2, c7_of (hf k hk).1, (hf k hk).2.1⟩
    · intro i hi
      rw [hln] at hi
      rw [getD_map (fun i => (f i).1) len i hi]
      exact (hf i hi).2.2
    · have := hw ((((List.range len).map D).length + ((List.range (m - len)).map fun j => D (len + j)).length) * Tryz.prog.bytesOf 26) (by simp [DataW.weights, Tryz.underlying23])
      rw [bytesMsg] at this
      simp only [List.length_map, List.length_range, reachBytes] at this
      rw [hln]
      omega
/-- what a readable argument of layer 8's statements is -/
def AsksAt (W : World) (v : Value) : Prop :=
  ∃ ao len cap, v = .slice ao len cap ∧ len ≤ maxLen ∧ (len = 0 ∨ ∃ b off, ao = some ⟨b, off, none⟩ ∧ ∃ aks : Nat → Ak, AsksIn W b off aks len)
theorem asks_open {H : Type} {enc : TypeId × Value → H} {W : World} {v : Value} {d : DataW H} {ps : List MemPlace} (h : DataW.Trod enc Tryz.prog W 0 (fun _ => true) true 22 v d ps) (hs : ∃ ao len cap, v = .slice ao len cap)
    (hw : ∀ n ∈ d.weights Tryz.prog 22, n ≤ reachBytes) : AsksAt W v := by
  obtain ⟨ao, len, cap, rfl⟩ := hs
  obtain ⟨fuel, hf⟩ := h
  refine ⟨ao, len, cap, rfl, ?_⟩
  rcases open_slice Tryz.underlying22 hf with ⟨hcs, hx⟩ | ⟨a, len', cap', m, n, D, Pl, hcs, _, hl, hm, hmm, hx, hel⟩
  · simp [Value.cells] at hcs
    obtain ⟨rfl, rfl, rfl⟩ := hcs
    exact ⟨by simp, .inl rfl⟩
  · simp [Value.cells] at hcs
    obtain ⟨rfl, rfl, rfl⟩ := hcs
    refine ⟨by omega, ?_⟩
    simp only [if_true] at hmm
    subst hmm
    by_cases h0 : len = 0
    · exact .inl h0
    right
    simp only [Prod.mk.injEq] at hx
    obtain ⟨rfl, _⟩ := hx
    rw [cellsAsk] at hel
    obtain ⟨b, off, spot⟩ := a
    have hspot : spot = none := by
      obtain ⟨cs', h1, _⟩ := hel 0 (by omega)
      obtain ⟨_, hlen, hcell⟩ := World.cells?_some h1
      have hc := hcell 0 (by omega)
      rw [List.getElem?_eq_getElem (by omega)] at hc
      simpa [Addr.add] using World.cell?_spot hc
    subst hspot
    have key : ∀ i, i < len → ∃ x : Ak, AskIs W b (off + i * 10) x := by
      intro i hi
      obtain ⟨cs', h1, h2⟩ := hel i (by omega)
      obtain ⟨_, hlen, hcell⟩ := World.cells?_some h1
      obtain ⟨xs, k, hk, hxy, _, hxl, hfl⟩ := DataW.trod_struct Tryz.underlying28 h2
      match xs, hxl, cs', hlen with
      | [y0, y1, y2, y3], _, [v0, v1, v2, v3, v4, v5, v6, v7, v8, v9], _ =>
        have g0 := hfl 0 _ rfl
        have g1 := hfl 1 _ rfl
        have g2 := hfl 2 _ rfl
        have g3 := hfl 3 _ rfl
        simp [cellsInt, cellsStr, cellsMsgs, cellsMsg] at g0 g1 g2 g3
        obtain ⟨z2, hz2, hy2, _⟩ := DataW.trod_string Tryz.underlying9 g2
        obtain ⟨z3, hz3, hy3, _⟩ := DataW.trod_int Tryz.underlying3 g3
        simp at hz2 hz3
        subst hz2 hz3
        obtain ⟨d0, p0'⟩ := y0
        obtain ⟨d1, p1'⟩ := y1
        simp only [Prod.mk.injEq] at hxy
        have hD : ∀ n, n ∈ (D i).weights Tryz.prog 28 → n ≤ reachBytes := fun n hn => hw n (by
          have := weights_all_mem (P := Tryz.prog) (e := 28) (ds := (List.range len).map D) (d := D i) (List.mem_map.2 ⟨i, List.mem_range.2 hi, rfl⟩) n hn
          simp only [DataW.weights, Tryz.underlying22, List.mem_cons, List.mem_append]
          right; left
          exact this)
        rw [hxy.1] at hD
        obtain ⟨lo, lc, l, rfl, hml, htop, hll⟩ := msgs_of_trod g0 (fun n hn => hD n (by
          simp only [DataW.weights, Tryz.underlying28, DataW.weightsEach, List.map, List.mem_append]
          left
          exact hn))
        obtain ⟨mm, mo, mc, hmc, hmp, hmt⟩ := msg_of_trod g1 (fun n hn => hD n (by
          simp only [DataW.weights, Tryz.underlying28, DataW.weightsEach, List.map, List.mem_append]
          right; left
          exact hn))
        simp only [List.cons.injEq, and_true] at hmc
        obtain ⟨rfl, rfl, rfl, rfl, rfl, rfl, rfl⟩ := hmc
        have w2 := hD z2.data.toList.length (by
          simp only [DataW.weights, Tryz.underlying28, DataW.weightsEach, List.map, List.mem_append, hy2]
          simp)
        simp only [reachBytes, Array.length_toList] at w2
        have e0 := hcell 0 (by omega)
        have e1 := hcell 1 (by omega)
        have e2 := hcell 2 (by omega)
        have e3 := hcell 3 (by omega)
        have e4 := hcell 4 (by omega)
        have e5 := hcell 5 (by omega)
        have e6 := hcell 6 (by omega)
        have e7 := hcell 7 (by omega)
        have e8 := hcell 8 (by omega)
        have e9 := hcell 9 (by omega)
        rw [add_add, add_plain] at e0 e1 e2 e3 e4 e5 e6 e7 e8 e9
        exact ⟨⟨l, mm, z2, z3⟩, lo, lc, mo, mc, ⟨by simpa using e0, by simpa [Nat.add_assoc] using e1, by simpa [Nat.add_assoc] using e2, by simpa [Nat.add_assoc] using e3, by simpa [Nat.add_assoc] using e4, by simpa [Nat.add_assoc] using e5, by simpa [Nat.add_assoc] using e6, by simpa [Nat.add_assoc] using e7, by simpa [Nat.add_assoc] using e8, by simpa [Nat.add_assoc] using e9⟩, hml, hmp, htop, hmt, w2, hll⟩
    obtain ⟨f, hf'⟩ := choose_lt key
    exact ⟨b, off, rfl, f, fun k hk => hf' k hk⟩
end Go.Proofs.YtknbgnoahfeigaaGreatDoor.M
