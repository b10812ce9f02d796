/- Proved here: what a readable argument of the statements of layer 14 is in memory. Helpers. -/
import Derived.Test.YtfgelagmjjjlgaaZNOpn
import Derived.Test.YtfgelagmjjjlgaaZNLg
namespace Go.Proofs.Ytfgelagmjjjlgaa.Nt
open Go.ChangeShapes Go.WideShapes Go.ChangeAt Go.RowKit Go.Deep
set_option maxRecDepth 100000

theorem cellsAct : Try.prog.cellsOf 35 = 14 := by kernel_rfl
theorem cellsRpc : Try.prog.cellsOf 33 = 11 := by kernel_rfl
theorem cellsEnt : Try.prog.cellsOf 63 = 4 := by kernel_rfl
theorem cellsEnts : Try.prog.cellsOf 31 = 1 := by kernel_rfl
theorem cellsInts : Try.prog.cellsOf 28 = 1 := by kernel_rfl
theorem cellsStr : Try.prog.cellsOf 9 = 1 := by kernel_rfl
theorem bytesEnt : Try.prog.bytesOf 63 = 40 := by kernel_rfl
theorem bytesInt : Try.prog.bytesOf 3 = 8 := by kernel_rfl
theorem cellsInt : Try.prog.cellsOf 3 = 1 := by kernel_rfl
theorem cellsBool : Try.prog.cellsOf 4 = 1 := by kernel_rfl
theorem weights_all_mem {H : Type} {P : Program} {e : TypeId} {ds : List (DataW H)} {d : DataW H} (h : d ∈ ds) : ∀ n ∈ d.weights P e, n ∈ DataW.weightsAll P e ds := by
  induction ds with
  | nil => cases h
  | cons x r ih =>
    intro n hn
    simp only [DataW.weightsAll, List.mem_append]
    rcases List.mem_cons.1 h with rfl | h
    · exact .inl hn
    · exact .inr (ih h n hn)
theorem en0_map (f : Nat → En) (len k : Nat) (h : k < len) : en0 ((List.range len).map f) k = f k := by
  unfold en0
  rw [List.getD_eq_getElem?_getD, List.getElem?_map, List.getElem?_range h]
  rfl
/-- one property that reads -/
theorem ent_of_trod {H : Type} {enc : TypeId × Value → H} {W : World} {n : Nat} {cs : List Value} {d : DataW H} {ps : List MemPlace} (h : DataW.trod enc Try.prog W 0 (fun _ => true) true n 63 cs = some (d, ps)) :
    ∃ p : En, cs = [.int .i64 p.1, .int .i64 p.2.1, .int .i64 p.2.2.1, .string p.2.2.2] := by
  obtain ⟨xs, k, hk, hxy, hcl, hxl, hf⟩ := DataW.trod_struct Try.underlying63 h
  rw [cellsEnt] at hcl
  match xs, hxl, cs, hcl with
  | [y0, y1, y2, y3], _, [v0, v1, v2, v3], _ =>
    have g0 := hf 0 _ rfl
    have g1 := hf 1 _ rfl
    have g2 := hf 2 _ rfl
    have g3 := hf 3 _ rfl
    simp [cellsInt, cellsStr] at g0 g1 g2 g3
    obtain ⟨z0, hz0, hy0, _⟩ := DataW.trod_int Try.underlying3 g0
    obtain ⟨z1, hz1, hy1, _⟩ := DataW.trod_int Try.underlying3 g1
    obtain ⟨z2, hz2, hy2, _⟩ := DataW.trod_int Try.underlying3 g2
    obtain ⟨z3, hz3, hy3, _⟩ := DataW.trod_string Try.underlying9 g3
    simp at hz0 hz1 hz2 hz3
    subst hz0 hz1 hz2 hz3
    exact ⟨(z0, z1, z2, z3), rfl⟩
/-- a list of properties that reads -/
theorem ens_of_trod {H : Type} {enc : TypeId × Value → H} {W : World} {fuel : Nat} {v : Value} {d : DataW H} {ps : List MemPlace} (h : DataW.trod enc Try.prog W 0 (fun _ => true) true fuel 31 [v] = some (d, ps)) (hw : ∀ n ∈ d.weights Try.prog 31, n ≤ reachBytes) :
    ∃ (s : Sl) (l : List En), v = s.v ∧ Ens W s.v l ∧ l.length ≤ 3518437208780 := by
  rcases open_slice Try.underlying31 h with ⟨hcs, hx⟩ | ⟨a, len, cap, m, n, D, Pl, hcs, hb, hl, hm, hmm, hx, hel⟩
  · simp at hcs
    subst hcs
    exact ⟨⟨none, 0, 0⟩, [], rfl, ⟨none, 0, rfl, .inl rfl⟩, by simp⟩
  · simp at hcs
    subst hcs
    simp only [if_true] at hmm
    subst hmm
    simp only [Prod.mk.injEq] at hx
    obtain ⟨rfl, _⟩ := hx
    rw [cellsEnt] at hel
    have key : ∀ i, i < len → ∃ p : En, W.cells? 0 (a.add (i * 4)) 4 = some [.int .i64 p.1, .int .i64 p.2.1, .int .i64 p.2.2.1, .string p.2.2.2] := by
      intro i hi
      obtain ⟨cs', h1, h2⟩ := hel i (by omega)
      obtain ⟨p, rfl⟩ := ent_of_trod h2
      exact ⟨p, h1⟩
    obtain ⟨f, hf⟩ := choose_lt key
    refine ⟨⟨some a, len, m⟩, (List.range len).map f, rfl, ⟨some a, m, by simp, ?_⟩, ?_⟩
    · by_cases h0 : len = 0
      · exact .inl (by rw [h0]; rfl)
      · obtain ⟨b, off, spot⟩ := a
        have hspot : spot = none := by
          obtain ⟨_, _, hcell⟩ := World.cells?_some (hf 0 (by omega))
          simpa [Addr.add] using World.cell?_spot (hcell 0 (by omega))
        subst hspot
        refine .inr ⟨b, off, rfl, fun k hk => ?_⟩
        rw [List.length_map, List.length_range] at hk
        rw [en0_map f len k hk]
        obtain ⟨_, _, hcell⟩ := World.cells?_some (hf k hk)
        have e0 := hcell 0 (by omega)
        have e1 := hcell 1 (by omega)
        have e2 := hcell 2 (by omega)
        have e3 := hcell 3 (by omega)
        rw [add_add, add_plain] at e0 e1 e2 e3
        refine ⟨by simpa using e0, by simpa [Nat.add_assoc] using e1, by simpa [Nat.add_assoc] using e2, by simpa [Nat.add_assoc] using e3⟩
    · have := hw ((((List.range len).map D).length + ((List.range (m - len)).map fun j => D (len + j)).length) * Try.prog.bytesOf 63) (by simp [DataW.weights, Try.underlying31])
      rw [bytesEnt] at this
      simp only [List.length_map, List.length_range, reachBytes] at this
      simp only [List.length_map, List.length_range]
      omega
/-- a list of numbers that reads -/
theorem ints_of_trod {H : Type} {enc : TypeId × Value → H} {W : World} {fuel : Nat} {v : Value} {d : DataW H} {ps : List MemPlace} (h : DataW.trod enc Try.prog W 0 (fun _ => true) true fuel 28 [v] = some (d, ps)) (hw : ∀ n ∈ d.weights Try.prog 28, n ≤ reachBytes) :
    ∃ (s : Sl) (l : List Int), v = s.v ∧ Nms W s.v l ∧ l.length ≤ 17592186043904 := by
  rcases open_slice Try.underlying28 h with ⟨hcs, hx⟩ | ⟨a, len, cap, m, n, D, Pl, hcs, hb, hl, hm, hmm, hx, hel⟩
  · simp at hcs
    subst hcs
    exact ⟨⟨none, 0, 0⟩, [], rfl, ⟨none, 0, rfl, by simp, .inl rfl⟩, by simp⟩
  · simp at hcs
    subst hcs
    simp only [if_true] at hmm
    subst hmm
    simp only [Prod.mk.injEq] at hx
    obtain ⟨rfl, _⟩ := hx
    rw [cellsInt] at hel
    have key : ∀ i, i < len → ∃ p : Int, W.cells? 0 (a.add (i * 1)) 1 = some [.int .i64 p] := by
      intro i hi
      obtain ⟨cs', h1, h2⟩ := hel i (by omega)
      obtain ⟨z0, hz0, hy0, _⟩ := DataW.trod_int Try.underlying3 h2
      subst hz0
      exact ⟨z0, h1⟩
    obtain ⟨f, hf⟩ := choose_lt key
    refine ⟨⟨some a, len, m⟩, (List.range len).map f, rfl, ⟨some a, m, by simp, by simpa using ⟨hl, hm⟩, ?_⟩, ?_⟩
    · by_cases h0 : len = 0
      · exact .inl (by rw [h0]; rfl)
      · obtain ⟨b, off, spot⟩ := a
        have hspot : spot = none := by
          obtain ⟨_, _, hcell⟩ := World.cells?_some (hf 0 (by omega))
          simpa [Addr.add] using World.cell?_spot (hcell 0 (by omega))
        subst hspot
        refine .inr ⟨b, off, rfl, fun k hk => ?_⟩
        rw [List.length_map, List.length_range] at hk
        rw [List.getD_eq_getElem?_getD, List.getElem?_map, List.getElem?_range hk]
        obtain ⟨_, _, hcell⟩ := World.cells?_some (hf k hk)
        have e0 := hcell 0 (by omega)
        rw [add_add, add_plain] at e0
        simpa using e0
    · have := hw ((((List.range len).map D).length + ((List.range (m - len)).map fun j => D (len + j)).length) * Try.prog.bytesOf 3) (by simp [DataW.weights, Try.underlying28])
      rw [bytesInt] at this
      simp only [List.length_map, List.length_range, reachBytes] at this
      simp only [List.length_map, List.length_range]
      omega
/-- one message that reads -/
theorem rpc_of_trod {H : Type} {enc : TypeId × Value → H} {W : World} {n : Nat} {cs : List Value} {d : DataW H} {ps : List MemPlace} (h : DataW.trod enc Try.prog W 0 (fun _ => true) true n 33 cs = some (d, ps)) (hw : ∀ n ∈ d.weights Try.prog 33, n ≤ reachBytes) :
    ∃ q : Mq, cs = mcs q ∧ Rok W q ∧ Szs q.r := by
  obtain ⟨xs, k, hk, hxy, hcl, hxl, hf⟩ := DataW.trod_struct Try.underlying33 h
  rw [cellsRpc] at hcl
  match xs, hxl, cs, hcl with
  | [y0, y1, y2, y3, y4, y5, y6, y7, y8, y9, y10], _, [v0, v1, v2, v3, v4, v5, v6, v7, v8, v9, v10], _ =>
    have g0 := hf 0 _ rfl
    have g1 := hf 1 _ rfl
    have g2 := hf 2 _ rfl
    have g3 := hf 3 _ rfl
    have g4 := hf 4 _ rfl
    have g5 := hf 5 _ rfl
    have g6 := hf 6 _ rfl
    have g7 := hf 7 _ rfl
    have g8 := hf 8 _ rfl
    have g9 := hf 9 _ rfl
    have g10 := hf 10 _ rfl
    simp [cellsInt, cellsStr, cellsBool, cellsEnts, cellsInts] at g0 g1 g2 g3 g4 g5 g6 g7 g8 g9 g10
    obtain ⟨z0, hz0, hy0, _⟩ := DataW.trod_int Try.underlying3 g0
    obtain ⟨z1, hz1, hy1, _⟩ := DataW.trod_int Try.underlying3 g1
    obtain ⟨z2, hz2, hy2, _⟩ := DataW.trod_int Try.underlying3 g2
    obtain ⟨z3, hz3, hy3, _⟩ := DataW.trod_int Try.underlying3 g3
    obtain ⟨z4, hz4, hy4, _⟩ := DataW.trod_int Try.underlying3 g4
    obtain ⟨z5, hz5, hy5, _⟩ := DataW.trod_int Try.underlying3 g5
    obtain ⟨z6, hz6, hy6, _⟩ := DataW.trod_int Try.underlying3 g6
    obtain ⟨z7, hz7, hy7⟩ := DataW.trod_bool Try.underlying4 g7
    obtain ⟨z10, hz10, hy10, _⟩ := DataW.trod_string Try.underlying9 g10
    simp at hz0 hz1 hz2 hz3 hz4 hz5 hz6 hz7 hz10
    subst hz0 hz1 hz2 hz3 hz4 hz5 hz6 hz7 hz10
    simp only [Prod.mk.injEq] at hxy
    obtain ⟨rfl, _⟩ := hxy
    obtain ⟨d8, p8⟩ := y8
    obtain ⟨d9, p9⟩ := y9
    obtain ⟨s8, l8, rfl, h8, b8⟩ := ens_of_trod g8 (fun n hn => hw n (by
      simp only [DataW.weights, Try.underlying33, DataW.weightsEach, List.map, List.mem_append]
      right; right; right; right; right; right; right; right; left
      exact hn))
    obtain ⟨s9, l9, rfl, h9, b9⟩ := ints_of_trod g9 (fun n hn => hw n (by
      simp only [DataW.weights, Try.underlying33, DataW.weightsEach, List.map, List.mem_append]
      right; right; right; right; right; right; right; right; right; left
      exact hn))
    exact ⟨⟨⟨z0, z1, z2, z3, z4, z5, z6, z7, l8, l9, z10⟩, s8, s9⟩, rfl, ⟨h8, h9⟩, b8, b9⟩
/-- a list of acts that reads -/
theorem acts_open {H : Type} {enc : TypeId × Value → H} {W : World} {v : Value} {d : DataW H} {ps : List MemPlace} (h : DataW.Trod enc Try.prog W 0 (fun _ => true) true 22 v d ps) (hs : ∃ ao len cap, v = .slice ao len cap)
    (hw : ∀ n ∈ d.weights Try.prog 22, n ≤ reachBytes) : ∃ ao len cap f, v = .slice ao len cap ∧ len ≤ maxLen ∧ AcsAt W ao f len := by
  obtain ⟨ao, len, cap, rfl⟩ := hs
  obtain ⟨fuel, hf⟩ := h
  rcases open_slice Try.underlying22 hf with ⟨hcs, hx⟩ | ⟨a, len', cap', m, n, D, Pl, hcs, _, hl, hm, hmm, hx, hel⟩
  · simp [Value.cells] at hcs
    obtain ⟨rfl, rfl, rfl⟩ := hcs
    exact ⟨_, _, _, default, rfl, by simp, .inl rfl⟩
  · simp [Value.cells] at hcs
    obtain ⟨rfl, rfl, rfl⟩ := hcs
    simp only [if_true] at hmm
    subst hmm
    by_cases h0 : len = 0
    · exact ⟨_, _, _, default, rfl, by omega, .inl h0⟩
    simp only [Prod.mk.injEq] at hx
    obtain ⟨rfl, _⟩ := hx
    rw [cellsAct] at hel
    obtain ⟨b, off, spot⟩ := a
    have hspot : spot = none := by
      obtain ⟨cs', h1, _⟩ := hel 0 (by omega)
      obtain ⟨_, hlen, hcell⟩ := World.cells?_some h1
      have hc := hcell 0 (by omega)
      rw [List.getElem?_eq_getElem (by omega)] at hc
      simpa [Addr.add] using World.cell?_spot hc
    subst hspot
    have key : ∀ i, i < len → ∃ x : Ac, AcIs W b (off + i * 14) x := by
      intro i hi
      obtain ⟨cs', h1, h2⟩ := hel i (by omega)
      obtain ⟨_, hlen, hcell⟩ := World.cells?_some h1
      obtain ⟨xs, k, hk, hxy, _, hxl, hfl⟩ := DataW.trod_struct Try.underlying35 h2
      match xs, hxl, cs', hlen with
      | [y0, y1, y2, y3], _, [v0, v1, v2, v3, v4, v5, v6, v7, v8, v9, v10, v11, v12, v13], _ =>
        have g0 := hfl 0 _ rfl
        have g1 := hfl 1 _ rfl
        have g2 := hfl 2 _ rfl
        have g3 := hfl 3 _ rfl
        simp [cellsInt, cellsRpc] at g0 g1 g2 g3
        obtain ⟨z0, hz0, hy0, _⟩ := DataW.trod_int Try.underlying3 g0
        obtain ⟨z2, hz2, hy2, _⟩ := DataW.trod_int Try.underlying3 g2
        obtain ⟨z3, hz3, hy3, _⟩ := DataW.trod_int Try.underlying3 g3
        simp at hz0 hz2 hz3
        subst hz0 hz2 hz3
        obtain ⟨d1, p1'⟩ := y1
        simp only [Prod.mk.injEq] at hxy
        have hD : ∀ n, n ∈ (D i).weights Try.prog 35 → n ≤ reachBytes := fun n hn => hw n (by
          have := weights_all_mem (P := Try.prog) (e := 35) (ds := (List.range len).map D) (d := D i) (List.mem_map.2 ⟨i, List.mem_range.2 hi, rfl⟩) n hn
          simp only [DataW.weights, Try.underlying22, List.mem_cons, List.mem_append]
          right; left
          exact this)
        rw [hxy.1] at hD
        obtain ⟨q, hq, hr, hz⟩ := rpc_of_trod g1 (fun n hn => hD n (by
          simp only [DataW.weights, Try.underlying35, DataW.weightsEach, List.map, List.mem_append]
          right; left
          exact hn))
        refine ⟨⟨z0, q, z2, z3⟩, fun j u hu => ?_, hr, hz⟩
        have hj : j < 14 := (List.getElem?_eq_some_iff.1 hu).1
        have e := hcell j (by omega)
        rw [add_add, add_plain] at e
        rw [show off + i * 14 + j = off + (i * 14 + j) from by omega, e]
        have hc : [Value.int .i64 z0, v1, v2, v3, v4, v5, v6, v7, v8, v9, v10, v11, .int .i64 z2, .int .i64 z3] = acs ⟨z0, q, z2, z3⟩ := by
          show _ = Value.int .i64 z0 :: (mcs q ++ [.int .i64 z2, .int .i64 z3])
          rw [← hq]
          rfl
        rw [hc]
        exact hu
    obtain ⟨f, hf'⟩ := choose_lt key
    exact ⟨_, _, _, f, rfl, by omega, .inr ⟨b, off, rfl, fun k hk => hf' k hk⟩⟩
end Go.Proofs.Ytfgelagmjjjlgaa.Nt
