/- Proved here: what a readable argument of the statements of layer 15 is in memory. Helpers. -/
import Derived.Test.YtcffbkgkdoaplaaDoorRows
import Derived.Test.YtcffbkgkdoaplaaDoorZEEq
import Derived.ProofKit
import Derived.SizedLaws
import Derived.Deep.SlicePairs
import Derived.ChangeSame
import Derived.RowKit
import Derived.RowKitTokens
import Derived.Stop.Joined
import Derived.ChangeVars
import Derived.JoinedOf
import Derived.LaidLaws
import Derived.LaidHandle
namespace Go.Proofs.YtcffbkgkdoaplaaDoor.Et
open Go.ChangeShapes Go.WideShapes Go.ChangeAt Go.RowKit Go.Deep Nt
set_option maxRecDepth 100000

theorem cellsAsk : Tryd.prog.cellsOf 27 = 7 := by kernel_rfl
theorem cellsLog : Tryd.prog.cellsOf 25 = 3 := by kernel_rfl
theorem cellsEnt : Tryd.prog.cellsOf 68 = 4 := by kernel_rfl
theorem cellsEnts : Tryd.prog.cellsOf 23 = 1 := by kernel_rfl
theorem cellsStr : Tryd.prog.cellsOf 9 = 1 := by kernel_rfl
theorem bytesEnt : Tryd.prog.bytesOf 68 = 40 := by kernel_rfl
theorem cellsInt : Tryd.prog.cellsOf 3 = 1 := by kernel_rfl
theorem weights_all_mem {H : Type} {P : Program} {e : TypeId} {ds : List (DataW H)} {d : DataW H} (h : d ∈ ds) : ∀ n ∈ d.weights P e, n ∈ DataW.weightsAll P e ds := by
  induction ds with
  | nil => cases h
  | cons x r ih =>
    intro n hn
    simp only [DataW.weightsAll, List.mem_append]
    rcases List.mem_cons.1 h with rfl | h
    · exact .inl hn
    · exact .inr (ih h n hn)
theorem en0_map (f : Nat → En) (len k : Nat) (h : k < len) : en0 ((List.range len).map f) k = f k := by
  unfold en0
  rw [List.getD_eq_getElem?_getD, List.getElem?_map, List.getElem?_range h]
  rfl
/-- one entry that reads -/
theorem ent_of_trod {H : Type} {enc : TypeId × Value → H} {W : World} {n : Nat} {cs : List Value} {d : DataW H} {ps : List MemPlace} (h : DataW.trod enc Tryd.prog W 0 (fun _ => true) true n 68 cs = some (d, ps)) :
    ∃ p : En, cs = [.int .i64 p.1, .int .i64 p.2.1, .int .i64 p.2.2.1, .string p.2.2.2] := by
  obtain ⟨xs, k, hk, hxy, hcl, hxl, hf⟩ := DataW.trod_struct Tryd.underlying68 h
  rw [cellsEnt] at hcl
  match xs, hxl, cs, hcl with
  | [y0, y1, y2, y3], _, [v0, v1, v2, v3], _ =>
    have g0 := hf 0 _ rfl
    have g1 := hf 1 _ rfl
    have g2 := hf 2 _ rfl
    have g3 := hf 3 _ rfl
    simp [cellsInt, cellsStr] at g0 g1 g2 g3
    obtain ⟨z0, hz0, hy0, _⟩ := DataW.trod_int Tryd.underlying3 g0
    obtain ⟨z1, hz1, hy1, _⟩ := DataW.trod_int Tryd.underlying3 g1
    obtain ⟨z2, hz2, hy2, _⟩ := DataW.trod_int Tryd.underlying3 g2
    obtain ⟨z3, hz3, hy3, _⟩ := DataW.trod_string Tryd.underlying9 g3
    simp at hz0 hz1 hz2 hz3
    subst hz0 hz1 hz2 hz3
    exact ⟨(z0, z1, z2, z3), rfl⟩
/-- a list of entries that reads -/
theorem es_of_trod {H : Type} {enc : TypeId × Value → H} {W : World} {fuel : Nat} {v : Value} {d : DataW H} {ps : List MemPlace} (h : DataW.trod enc Tryd.prog W 0 (fun _ => true) true fuel 23 [v] = some (d, ps)) (hw : ∀ n ∈ d.weights Tryd.prog 23, n ≤ reachBytes) :
    ∃ (s : Sl) (l : List En), v = .slice s.a s.n s.c ∧ Es W s.a s.n s.c l := by
  rcases open_slice Tryd.underlying23 h with ⟨hcs, hx⟩ | ⟨a, len, cap, m, n, D, Pl, hcs, hb, hl, hm, hmm, hx, hel⟩
  · simp at hcs
    subst hcs
    exact ⟨⟨none, 0, 0⟩, [], rfl, rfl, Nat.le_refl _, ⟨by decide, fun _ => rfl⟩, by decide, .inl rfl⟩
  · simp at hcs
    subst hcs
    simp only [if_true] at hmm
    subst hmm
    simp only [Prod.mk.injEq] at hx
    obtain ⟨rfl, _⟩ := hx
    rw [cellsEnt] at hel
    have key : ∀ i, i < len → ∃ p : En, W.cells? 0 (a.add (i * 4)) 4 = some [.int .i64 p.1, .int .i64 p.2.1, .int .i64 p.2.2.1, .string p.2.2.2] := by
      intro i hi
      obtain ⟨cs', h1, h2⟩ := hel i (by omega)
      obtain ⟨p, rfl⟩ := ent_of_trod h2
      exact ⟨p, h1⟩
    obtain ⟨f, hf⟩ := choose_lt key
    refine ⟨⟨some a, len, m⟩, (List.range len).map f, rfl, by simp, by omega, ⟨by omega, fun e => by cases e⟩, ?_, ?_⟩
    · have := hw ((((List.range len).map D).length + ((List.range (m - len)).map fun j => D (len + j)).length) * Tryd.prog.bytesOf 68) (by simp [DataW.weights, Tryd.underlying23])
      rw [bytesEnt] at this
      simp only [List.length_map, List.length_range, reachBytes] at this
      show len ≤ 3518437208780
      omega
    · by_cases h0 : len = 0
      · exact .inl h0
      · obtain ⟨b, off, spot⟩ := a
        have hspot : spot = none := by
          obtain ⟨_, _, hcell⟩ := World.cells?_some (hf 0 (by omega))
          simpa [Addr.add] using World.cell?_spot (hcell 0 (by omega))
        subst hspot
        refine .inr ⟨b, off, rfl, fun k hk => ?_⟩
        rw [List.length_map, List.length_range] at hk
        rw [en0_map f len k hk]
        obtain ⟨_, _, hcell⟩ := World.cells?_some (hf k hk)
        have e0 := hcell 0 (by omega)
        have e1 := hcell 1 (by omega)
        have e2 := hcell 2 (by omega)
        have e3 := hcell 3 (by omega)
        rw [add_add, add_plain] at e0 e1 e2 e3
        refine ⟨by simpa using e0, by simpa [Nat.add_assoc] using e1, by simpa [Nat.add_assoc] using e2, by simpa [Nat.add_assoc] using e3⟩
/-- one log that reads -/
theorem log_of_trod {H : Type} {enc : TypeId × Value → H} {W : World} {n : Nat} {cs : List Value} {d : DataW H} {ps : List MemPlace} (h : DataW.trod enc Tryd.prog W 0 (fun _ => true) true n 25 cs = some (d, ps)) (hw : ∀ n ∈ d.weights Tryd.prog 25, n ≤ reachBytes) :
    ∃ (b t : Int) (s : Sl) (l : List En), cs = [.int .i64 b, .int .i64 t, .slice s.a s.n s.c] ∧ Es W s.a s.n s.c l := by
  obtain ⟨xs, k, hk, hxy, hcl, hxl, hf⟩ := DataW.trod_struct Tryd.underlying25 h
  rw [cellsLog] at hcl
  match xs, hxl, cs, hcl with
  | [y0, y1, y2], _, [v0, v1, v2], _ =>
    have g0 := hf 0 _ rfl
    have g1 := hf 1 _ rfl
    have g2 := hf 2 _ rfl
    simp [cellsInt, cellsEnts] at g0 g1 g2
    obtain ⟨z0, hz0, hy0, _⟩ := DataW.trod_int Tryd.underlying3 g0
    obtain ⟨z1, hz1, hy1, _⟩ := DataW.trod_int Tryd.underlying3 g1
    simp at hz0 hz1
    subst hz0 hz1
    simp only [Prod.mk.injEq] at hxy
    obtain ⟨rfl, _⟩ := hxy
    obtain ⟨d2, p2⟩ := y2
    obtain ⟨s, l, rfl, h2⟩ := es_of_trod g2 (fun n hn => hw n (by
      simp only [DataW.weights, Tryd.underlying25, DataW.weightsEach, List.map, List.mem_append]
      right; right; left
      exact hn))
    exact ⟨z0, z1, s, l, rfl, h2⟩
instance : Inhabited Ak := ⟨⟨0, 0, ⟨none, 0, 0⟩, [], 0, 0, ⟨none, 0, 0⟩, [], 0⟩⟩
def AksAt (W : World) (v : Value) : Prop := ∃ ao len cap, v = .slice ao len cap ∧ len ≤ maxLen ∧ (len = 0 ∨ ∃ b off f, ao = some ⟨b, off, none⟩ ∧ AksIn W b off f len)
/-- a list of asks that reads -/
theorem asks_open {H : Type} {enc : TypeId × Value → H} {W : World} {v : Value} {d : DataW H} {ps : List MemPlace} (h : DataW.Trod enc Tryd.prog W 0 (fun _ => true) true 22 v d ps) (hs : ∃ ao len cap, v = .slice ao len cap)
    (hw : ∀ n ∈ d.weights Tryd.prog 22, n ≤ reachBytes) : AksAt W v := by
  obtain ⟨ao, len, cap, rfl⟩ := hs
  obtain ⟨fuel, hf⟩ := h
  rcases open_slice Tryd.underlying22 hf with ⟨hcs, hx⟩ | ⟨a, len', cap', m, n, D, Pl, hcs, _, hl, hm, hmm, hx, hel⟩
  · simp [Value.cells] at hcs
    obtain ⟨rfl, rfl, rfl⟩ := hcs
    exact ⟨_, _, _, rfl, by simp, .inl rfl⟩
  · simp [Value.cells] at hcs
    obtain ⟨rfl, rfl, rfl⟩ := hcs
    simp only [if_true] at hmm
    subst hmm
    by_cases h0 : len = 0
    · exact ⟨_, _, _, rfl, by omega, .inl h0⟩
    simp only [Prod.mk.injEq] at hx
    obtain ⟨rfl, _⟩ := hx
    rw [cellsAsk] at hel
    obtain ⟨b, off, spot⟩ := a
    have hspot : spot = none := by
      obtain ⟨cs', h1, _⟩ := hel 0 (by omega)
      obtain ⟨_, hlen, hcell⟩ := World.cells?_some h1
      have hc := hcell 0 (by omega)
      rw [List.getElem?_eq_getElem (by omega)] at hc
      simpa [Addr.add] using World.cell?_spot hc
    subst hspot
    have key : ∀ i, i < len → ∃ x : Ak, AkIs W b (off + i * 7) x := by
      intro i hi
      obtain ⟨cs', h1, h2⟩ := hel i (by omega)
      obtain ⟨_, hlen, hcell⟩ := World.cells?_some h1
      obtain ⟨xs, k, hk, hxy, _, hxl, hfl⟩ := DataW.trod_struct Tryd.underlying27 h2
      match xs, hxl, cs', hlen with
      | [y0, y1, y2, y3, y4], _, [v0, v1, v2, v3, v4, v5, v6], _ =>
        have g0 := hfl 0 _ rfl
        have g1 := hfl 1 _ rfl
        have g2 := hfl 2 _ rfl
        have g3 := hfl 3 _ rfl
        have g4 := hfl 4 _ rfl
        simp [cellsInt, cellsLog, cellsEnts] at g0 g1 g2 g3 g4
        obtain ⟨z1, hz1, hy1, _⟩ := DataW.trod_int Tryd.underlying3 g1
        obtain ⟨z2, hz2, hy2, _⟩ := DataW.trod_int Tryd.underlying3 g2
        obtain ⟨z4, hz4, hy4, _⟩ := DataW.trod_int Tryd.underlying3 g4
        simp at hz1 hz2 hz4
        subst hz1 hz2 hz4
        obtain ⟨d0, p0⟩ := y0
        obtain ⟨d3, p3⟩ := y3
        simp only [Prod.mk.injEq] at hxy
        have hD : ∀ n, n ∈ (D i).weights Tryd.prog 27 → n ≤ reachBytes := fun n hn => hw n (by
          have := weights_all_mem (P := Tryd.prog) (e := 27) (ds := (List.range len).map D) (d := D i) (List.mem_map.2 ⟨i, List.mem_range.2 hi, rfl⟩) n hn
          simp only [DataW.weights, Tryd.underlying22, List.mem_cons, List.mem_append]
          right; left
          exact this)
        rw [hxy.1] at hD
        obtain ⟨zb, zt, s, l, hq, hr⟩ := log_of_trod g0 (fun n hn => hD n (by
          simp only [DataW.weights, Tryd.underlying27, DataW.weightsEach, List.map, List.mem_append]
          left
          exact hn))
        obtain ⟨s2, l2, rfl, hr2⟩ := es_of_trod g3 (fun n hn => hD n (by
          simp only [DataW.weights, Tryd.underlying27, DataW.weightsEach, List.map, List.mem_append]
          right; right; right; left
          exact hn))
        injection hq with q0 hq
        injection hq with q1 hq
        injection hq with q2 _
        subst q0 q1 q2
        have e0 := hcell 0 (by omega)
        have e1 := hcell 1 (by omega)
        have e2 := hcell 2 (by omega)
        have e3 := hcell 3 (by omega)
        have e4 := hcell 4 (by omega)
        have e5 := hcell 5 (by omega)
        have e6 := hcell 6 (by omega)
        rw [add_add, add_plain] at e0 e1 e2 e3 e4 e5 e6
        refine ⟨⟨zb, zt, s, l, z1, z2, s2, l2, z4⟩, ⟨by simpa using e0, by simpa [Nat.add_assoc] using e1, by simpa [Nat.add_assoc] using e2, by simpa [Nat.add_assoc] using e3, by simpa [Nat.add_assoc] using e4, by simpa [Nat.add_assoc] using e5, by simpa [Nat.add_assoc] using e6⟩, hr, hr2⟩
    obtain ⟨f, hf'⟩ := choose_lt key
    exact ⟨_, _, _, rfl, by omega, .inr ⟨b, off, f, rfl, fun k hk => hf' k hk⟩⟩
end Go.Proofs.YtcffbkgkdoaplaaDoor.Et
