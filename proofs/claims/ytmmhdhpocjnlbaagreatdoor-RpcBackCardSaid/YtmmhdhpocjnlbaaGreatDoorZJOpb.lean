/- Proved here: what a readable argument of RpcBack is in memory. Helpers. -/
import Derived.Test.YtmmhdhpocjnlbaaGreatDoorRows
import Derived.Test.YtmmhdhpocjnlbaaGreatDoorZJWz
import Derived.ProofKit
import Derived.SizedLaws
import Derived.Deep.SlicePairs
import Derived.ChangeSame
import Derived.ChangeVars
import Derived.JoinedOf
import Derived.RowKit
import Derived.RowKitTokens
import Derived.LaidLaws
import Derived.LaidHandle
import Derived.Stop.Joined
namespace Go.Proofs.YtmmhdhpocjnlbaaGreatDoor.Jr
open Go.ChangeShapes Go.WideShapes Go.ChangeAt Go.RowKit Go.Deep Nt Et Qu
set_option maxRecDepth 100000

theorem cellsRpc : Tryz.prog.cellsOf 27 = 11 := by kernel_rfl
theorem cellsEnt : Tryz.prog.cellsOf 56 = 4 := by kernel_rfl
theorem cellsEnts : Tryz.prog.cellsOf 24 = 1 := by kernel_rfl
theorem cellsInts : Tryz.prog.cellsOf 25 = 1 := by kernel_rfl
theorem cellsStr : Tryz.prog.cellsOf 9 = 1 := by kernel_rfl
theorem cellsInt : Tryz.prog.cellsOf 3 = 1 := by kernel_rfl
theorem cellsBool : Tryz.prog.cellsOf 4 = 1 := by kernel_rfl
theorem bytesEnt : Tryz.prog.bytesOf 56 = 40 := by kernel_rfl
theorem bytesInt : Tryz.prog.bytesOf 3 = 8 := by kernel_rfl
theorem weights_all_mem {H : Type} {P : Program} {e : TypeId} {ds : List (DataW H)} {d : DataW H} (h : d ∈ ds) : ∀ n ∈ d.weights P e, n ∈ DataW.weightsAll P e ds := by
  induction ds with
  | nil => cases h
  | cons x r ih =>
    intro n hn
    simp only [DataW.weightsAll, List.mem_append]
    rcases List.mem_cons.1 h with rfl | h
    · exact .inl hn
    · exact .inr (ih h n hn)
theorem en0_map (f : Nat → En) (len k : Nat) (h : k < len) : en0 ((List.range len).map f) k = f k := by
  unfold en0
  rw [List.getD_eq_getElem?_getD, List.getElem?_map, List.getElem?_range h]
  rfl
/-- one entry that reads -/
theorem ent_of_trod {H : Type} {enc : TypeId × Value → H} {W : World} {n : Nat} {cs : List Value} {d : DataW H} {ps : List MemPlace} (h : DataW.trod enc Tryz.prog W 0 (fun _ => true) true n 56 cs = some (d, ps)) :
    ∃ p : En, cs = [.int .i64 p.1, .int .i64 p.2.1, .int .i64 p.2.2.1, .string p.2.2.2] := by
  obtain ⟨xs, k, hk, hxy, hcl, hxl, hf⟩ := DataW.trod_struct Tryz.underlying56 h
  rw [cellsEnt] at hcl
  match xs, hxl, cs, hcl with
  | [y0, y1, y2, y3], _, [v0, v1, v2, v3], _ =>
    have g0 := hf 0 _ rfl
    have g1 := hf 1 _ rfl
    have g2 := hf 2 _ rfl
    have g3 := hf 3 _ rfl
    simp [cellsInt, cellsStr] at g0 g1 g2 g3
    obtain ⟨z0, hz0, hy0, _⟩ := DataW.trod_int Tryz.underlying3 g0
    obtain ⟨z1, hz1, hy1, _⟩ := DataW.trod_int Tryz.underlying3 g1
    obtain ⟨z2, hz2, hy2, _⟩ := DataW.trod_int Tryz.underlying3 g2
    obtain ⟨z3, hz3, hy3, _⟩ := DataW.trod_string Tryz.underlying9 g3
    simp at hz0 hz1 hz2 hz3
    subst hz0 hz1 hz2 hz3
    exact ⟨(z0, z1, z2, z3), rfl⟩
/-- a list of entries that reads -/
theorem es_of_trod {H : Type} {enc : TypeId × Value → H} {W : World} {fuel : Nat} {v : Value} {d : DataW H} {ps : List MemPlace} (h : DataW.trod enc Tryz.prog W 0 (fun _ => true) true fuel 24 [v] = some (d, ps)) (hw : ∀ n ∈ d.weights Tryz.prog 24, n ≤ reachBytes) :
    ∃ (s : Sl) (l : List En), v = .slice s.a s.n s.c ∧ Es W s.a s.n s.c l := by
  rcases open_slice Tryz.underlying24 h with ⟨hcs, hx⟩ | ⟨a, len, cap, m, n, D, Pl, hcs, hb, hl, hm, hmm, hx, hel⟩
  · simp at hcs
    subst hcs
    exact ⟨⟨none, 0, 0⟩, [], rfl, rfl, Nat.le_refl _, ⟨by decide, fun _ => rfl⟩, by decide, .inl rfl⟩
  · simp at hcs
    subst hcs
    simp only [if_true] at hmm
    subst hmm
    simp only [Prod.mk.injEq] at hx
    obtain ⟨rfl, _⟩ := hx
    rw [cellsEnt] at hel
    have key : ∀ i, i < len → ∃ p : En, W.cells? 0 (a.add (i * 4)) 4 = some [.int .i64 p.1, .int .i64 p.2.1, .int .i64 p.2.2.1, .string p.2.2.2] := by
      intro i hi
      obtain ⟨cs', h1, h2⟩ := hel i (by omega)
      obtain ⟨p, rfl⟩ := ent_of_trod h2
      exact ⟨p, h1⟩
    obtain ⟨f, hf⟩ := choose_lt key
    refine ⟨⟨some a, len, m⟩, (List.range len).map f, rfl, by simp, by omega, ⟨by omega, fun e => by cases e⟩, ?_, ?_⟩
    · have := hw ((((List.range len).map D).length + ((List.range (m - len)).map fun j => D (len + j)).length) * Tryz.prog.bytesOf 56) (by simp [DataW.weights, Tryz.underlying24])
      rw [bytesEnt] at this
      simp only [List.length_map, List.length_range, reachBytes] at this
      show len ≤ 3518437208780
      omega
    · by_cases h0 : len = 0
      · exact .inl h0
      · obtain ⟨b, off, spot⟩ := a
        have hspot : spot = none := by
          obtain ⟨_, _, hcell⟩ := World.cells?_some (hf 0 (by omega))
          simpa [Addr.add] using World.cell?_spot (hcell 0 (by omega))
        subst hspot
        refine .inr ⟨b, off, rfl, fun k hk => ?_⟩
        rw [List.length_map, List.length_range] at hk
        rw [en0_map f len k hk]
        obtain ⟨_, _, hcell⟩ := World.cells?_some (hf k hk)
        have e0 := hcell 0 (by omega)
        have e1 := hcell 1 (by omega)
        have e2 := hcell 2 (by omega)
        have e3 := hcell 3 (by omega)
        rw [add_add, add_plain] at e0 e1 e2 e3
        refine ⟨by simpa using e0, by simpa [Nat.add_assoc] using e1, by simpa [Nat.add_assoc] using e2, by simpa [Nat.add_assoc] using e3⟩
theorem in0_map (f : Nat → Int) (len k : Nat) (h : k < len) : ((List.range len).map f).getD k 0 = f k := by
  rw [List.getD_eq_getElem?_getD, List.getElem?_map, List.getElem?_range h]
  rfl
/-- a list of numbers that reads -/
theorem ls_of_trod {H : Type} {enc : TypeId × Value → H} {W : World} {fuel : Nat} {v : Value} {d : DataW H} {ps : List MemPlace} (h : DataW.trod enc Tryz.prog W 0 (fun _ => true) true fuel 25 [v] = some (d, ps)) (hw : ∀ n ∈ d.weights Tryz.prog 25, n ≤ reachBytes) :
    ∃ (s : Sl) (l : List Int), v = .slice s.a s.n s.c ∧ Ls W s.a s.n s.c l := by
  rcases open_slice Tryz.underlying25 h with ⟨hcs, hx⟩ | ⟨a, len, cap, m, n, D, Pl, hcs, hb, hl, hm, hmm, hx, hel⟩
  · simp at hcs
    subst hcs
    exact ⟨⟨none, 0, 0⟩, [], rfl, rfl, Nat.le_refl _, ⟨by decide, fun _ => rfl⟩, by decide, .inl rfl⟩
  · simp at hcs
    subst hcs
    simp only [if_true] at hmm
    subst hmm
    simp only [Prod.mk.injEq] at hx
    obtain ⟨rfl, _⟩ := hx
    rw [cellsInt] at hel
    have key : ∀ i, i < len → ∃ p : Int, W.cells? 0 (a.add (i * 1)) 1 = some [.int .i64 p] := by
      intro i hi
      obtain ⟨cs', h1, h2⟩ := hel i (by omega)
      obtain ⟨_, hlen, _⟩ := World.cells?_some h1
      match cs', hlen with
      | [y], _ =>
        obtain ⟨z0, hz0, _, _⟩ := DataW.trod_int Tryz.underlying3 h2
        simp at hz0
        subst hz0
        exact ⟨z0, h1⟩
    obtain ⟨f, hf⟩ := choose_lt key
    refine ⟨⟨some a, len, m⟩, (List.range len).map f, rfl, by simp, by show len ≤ m; omega, ⟨by show m ≤ maxLen; omega, fun e => by cases e⟩, ?_, ?_⟩
    · have := hw ((((List.range len).map D).length + ((List.range (m - len)).map fun j => D (len + j)).length) * Tryz.prog.bytesOf 3) (by simp [DataW.weights, Tryz.underlying25])
      rw [bytesInt] at this
      simp only [List.length_map, List.length_range, reachBytes] at this
      show len ≤ 17592186043904
      omega
    · by_cases h0 : len = 0
      · exact .inl h0
      · obtain ⟨b, off, spot⟩ := a
        have hspot : spot = none := by
          obtain ⟨_, _, hcell⟩ := World.cells?_some (hf 0 (by omega))
          simpa [Addr.add] using World.cell?_spot (hcell 0 (by omega))
        subst hspot
        refine .inr ⟨b, off, rfl, fun k hk => ?_⟩
        rw [List.length_map, List.length_range] at hk
        rw [in0_map f len k hk]
        obtain ⟨_, _, hcell⟩ := World.cells?_some (hf k hk)
        have e0 := hcell 0 (by omega)
        rw [add_add, add_plain] at e0
        simpa using e0
/-- one message that reads -/
theorem mq_of_trod {H : Type} {enc : TypeId × Value → H} {W : World} {n : Nat} {cs : List Value} {d : DataW H} {ps : List MemPlace} (h : DataW.trod enc Tryz.prog W 0 (fun _ => true) true n 27 cs = some (d, ps)) (hw : ∀ n ∈ d.weights Tryz.prog 27, n ≤ reachBytes) :
    ∃ q : Mq, cs = mcs q ∧ Rok W q := by
  obtain ⟨xs, k, hk, hxy, hcl, hxl, hf⟩ := DataW.trod_struct Tryz.underlying27 h
  rw [cellsRpc] at hcl
  match xs, hxl, cs, hcl with
  | [y0, y1, y2, y3, y4, y5, y6, y7, y8, y9, y10], _, [v0, v1, v2, v3, v4, v5, v6, v7, v8, v9, v10], _ =>
    have g0 := hf 0 _ rfl
    have g1 := hf 1 _ rfl
    have g2 := hf 2 _ rfl
    have g3 := hf 3 _ rfl
    have g4 := hf 4 _ rfl
    have g5 := hf 5 _ rfl
    have g6 := hf 6 _ rfl
    have g7 := hf 7 _ rfl
    have g8 := hf 8 _ rfl
    have g9 := hf 9 _ rfl
    have g10 := hf 10 _ rfl
    simp [cellsInt, cellsStr, cellsBool, cellsEnts, cellsInts] at g0 g1 g2 g3 g4 g5 g6 g7 g8 g9 g10
    obtain ⟨z0, hz0, _, _⟩ := DataW.trod_int Tryz.underlying3 g0
    obtain ⟨z1, hz1, _, _⟩ := DataW.trod_int Tryz.underlying3 g1
    obtain ⟨z2, hz2, _, _⟩ := DataW.trod_int Tryz.underlying3 g2
    obtain ⟨z3, hz3, _, _⟩ := DataW.trod_int Tryz.underlying3 g3
    obtain ⟨z4, hz4, _, _⟩ := DataW.trod_int Tryz.underlying3 g4
    obtain ⟨z5, hz5, _, _⟩ := DataW.trod_int Tryz.underlying3 g5
    obtain ⟨z6, hz6, _, _⟩ := DataW.trod_int Tryz.underlying3 g6
    obtain ⟨z7, hz7, _⟩ := DataW.trod_bool Tryz.underlying4 g7
    obtain ⟨z10, hz10, _, _⟩ := DataW.trod_string Tryz.underlying9 g10
    simp at hz0 hz1 hz2 hz3 hz4 hz5 hz6 hz7 hz10
    subst hz0 hz1 hz2 hz3 hz4 hz5 hz6 hz7 hz10
    obtain ⟨d8, p8⟩ := y8
    obtain ⟨d9, p9⟩ := y9
    simp only [Prod.mk.injEq] at hxy
    obtain ⟨rfl, _⟩ := hxy
    obtain ⟨s8, l8, rfl, h8⟩ := es_of_trod g8 (fun n hn => hw n (by
      simp only [DataW.weights, Tryz.underlying27, DataW.weightsEach, List.map, List.mem_append]
      iterate 8 right
      left
      exact hn))
    obtain ⟨s9, l9, rfl, h9⟩ := ls_of_trod g9 (fun n hn => hw n (by
      simp only [DataW.weights, Tryz.underlying27, DataW.weightsEach, List.map, List.mem_append]
      iterate 9 right
      left
      exact hn))
    exact ⟨⟨⟨z0, z1, z2, z3, z4, z5, z6, z7, l8, l9, z10⟩, s8.a, s8.n, s8.c, s9.a, s9.n, s9.c⟩, rfl, h8, h9⟩
def MqsAt (W : World) (v : Value) : Prop := ∃ ao len cap, v = .slice ao len cap ∧ (len = 0 ∨ ∃ g off f, ao = some ⟨g, off, none⟩ ∧ MqIn W g off f len)
/-- a list of messages that reads -/
theorem rpcs_open {H : Type} {enc : TypeId × Value → H} {W : World} {v : Value} {d : DataW H} {ps : List MemPlace} (h : DataW.Trod enc Tryz.prog W 0 (fun _ => true) true 22 v d ps) (hs : ∃ ao len cap, v = .slice ao len cap)
    (hw : ∀ n ∈ d.weights Tryz.prog 22, n ≤ reachBytes) : MqsAt W v := by
  obtain ⟨ao, len, cap, rfl⟩ := hs
  obtain ⟨fuel, hf⟩ := h
  rcases open_slice Tryz.underlying22 hf with ⟨hcs, hx⟩ | ⟨a, len', cap', m, n, D, Pl, hcs, _, hl, hm, hmm, hx, hel⟩
  · simp [Value.cells] at hcs
    obtain ⟨rfl, rfl, rfl⟩ := hcs
    exact ⟨_, _, _, rfl, .inl rfl⟩
  · simp [Value.cells] at hcs
    obtain ⟨rfl, rfl, rfl⟩ := hcs
    simp only [if_true] at hmm
    subst hmm
    by_cases h0 : len = 0
    · exact ⟨_, _, _, rfl, .inl h0⟩
    simp only [Prod.mk.injEq] at hx
    obtain ⟨rfl, _⟩ := hx
    rw [cellsRpc] at hel
    obtain ⟨b, off, spot⟩ := a
    have hspot : spot = none := by
      obtain ⟨cs', h1, _⟩ := hel 0 (by omega)
      obtain ⟨_, hlen, hcell⟩ := World.cells?_some h1
      have hc := hcell 0 (by omega)
      rw [List.getElem?_eq_getElem (by omega)] at hc
      simpa [Addr.add] using World.cell?_spot hc
    subst hspot
    have key : ∀ i, i < len → ∃ q : Mq, W.rangeAt b (off + i * 11) (mcs q) ∧ Rok W q := by
      intro i hi
      obtain ⟨cs', h1, h2⟩ := hel i (by omega)
      obtain ⟨_, hlen, hcell⟩ := World.cells?_some h1
      obtain ⟨q, rfl, hq⟩ := mq_of_trod h2 (fun n hn => hw n (by
        have := weights_all_mem (P := Tryz.prog) (e := 27) (ds := (List.range len).map D) (d := D i) (List.mem_map.2 ⟨i, List.mem_range.2 hi, rfl⟩) n hn
        simp only [DataW.weights, Tryz.underlying22, List.mem_cons, List.mem_append]
        right; left
        exact this))
      refine ⟨q, fun j u hj => ?_, hq⟩
      have hj11 : j < 11 := by
        have h3 := (List.getElem?_eq_some_iff.1 hj).1
        rwa [mcs_len] at h3
      have e0 := hcell j hj11
      rw [add_add, add_plain, hj, ← Nat.add_assoc] at e0
      exact e0
    obtain ⟨f, hf'⟩ := choose_lt key
    exact ⟨_, _, _, rfl, .inr ⟨b, off, f, rfl, fun k hk => hf' k hk⟩⟩
end Go.Proofs.YtmmhdhpocjnlbaaGreatDoor.Jr
