/- Proved here: what a readable argument of the statements of layer 6 is in memory; that errors.errorType, as laid, is the handle of the type error; a world in which the listed variables are laid. Helpers. -/
import Derived.Test.YtgnjpnhomkganaaDoorRows
import Derived.Test.YtgnjpnhomkganaaDoorZQLaw0
import Derived.ProofKit
import Derived.SizedLaws
import Derived.Deep.SlicePairs
import Derived.ChangeSame
import Derived.ChangeVars
import Derived.JoinedOf
import Derived.RowKit
import Derived.RowKitTokens
import Derived.LaidLaws
import Derived.LaidHandle
import Derived.Lay
import Derived.Handed
import Derived.Shelf.Vars
import Derived.Stop.Joined
namespace Go.Proofs.YtgnjpnhomkganaaDoor
open Go.ChangeShapes Go.WideShapes Go.ChangeAt Go.RowKit Go.Deep

theorem Tryd.own : ownKnob Tryd.prog.godebug = none := by kernel_rfl
theorem Tryd.laidOut : laidOutB Tryd.prog = true := by kernel_rfl
theorem Tryd.et : Tryd.prog.globalNamed "errors.errorType" = some 0 := by kernel_rfl
theorem Tryd.rt : (Tryd.prog.cutTypes.find? (·.1 == "internal/reflectlite.rtype")).map (·.2) = some 92 := by kernel_rfl
theorem Tryd.oneRow : ((List.range 149).filter fun t => Tryd.prog.rowNamed t [101, 114, 114, 111, 114]) = [29] := by kernel_rfl
theorem Tryd.tsize : Tryd.prog.types.size = 149 := by kernel_rfl
theorem Tryd.cellsAsk : Tryd.prog.cellsOf 25 = 2 := by kernel_rfl
theorem Tryd.cellsStr : Tryd.prog.cellsOf 9 = 1 := by kernel_rfl

def laidL : List (String × DataW Unit) := [("unicode/utf8.acceptRanges", Rows.laid_unicode_utf8_acceptRanges), ("errors.errorType", Rows.laid_errors_errorType), ("unicode/utf8.first", Rows.laid_unicode_utf8_first)]
def laidD : List (String × DataW Unit) := [("unicode/utf8.acceptRanges", Rows.laid_unicode_utf8_acceptRanges), ("unicode/utf8.first", Rows.laid_unicode_utf8_first)]
def laidE : List (String × DataW Unit) := [("errors.errorType", Rows.laid_errors_errorType)]
theorem filtN : laidL.filter (fun x => x.2.handleName?.isNone) = laidD := by kernel_rfl
theorem filtS : laidL.filter (fun x => x.2.handleName?.isSome) = laidE := by kernel_rfl

theorem handle_of_laid {W : World} (h : laidMetH Tryd.prog laidL W) : Laid W := by
  unfold laidMetH at h
  rw [filtS] at h
  have h' : handlesMet Tryd.prog laidE W := h.2
  obtain ⟨name, u, ty, e1, e2, e3, e4, e5⟩ := h' _ (List.mem_singleton.2 rfl)
  have en : name = [101, 114, 114, 111, 114] := (Option.some.inj e1).symm
  subst en
  obtain rfl := Option.some.inj (Tryd.rt.symm.trans e2)
  have hm : ty ∈ (List.range 149).filter fun t => Tryd.prog.rowNamed t [101, 114, 114, 111, 114] := List.mem_filter.2 ⟨List.mem_range.2 (by rw [← Tryd.tsize]; exact e3), e4⟩
  rw [Tryd.oneRow] at hm
  obtain rfl := List.mem_singleton.1 hm
  have hh : typeHandle Tryd.prog 29 = .pointer (some ⟨4, 29, none⟩) := by kernel_rfl
  rw [hh] at e5
  unfold Laid
  simpa using World.var?_cell Tryd.et e5 0
theorem len_of_shape {W : World} (h : W.ShapedOpen Tryd.prog) : Len W :=
  cell_of_shapedOpen_int (t := 3) (zero := #[.int .i64 0]) h (of_decide_eq_true (by kernel_rfl)) (by kernel_rfl) rfl (by kernel_rfl) (by kernel_rfl) Tryd.underlying3

theorem laidWorld_met (os : Os) (args : Array Value) : laidMetH Tryd.prog laidL (World.forCall ({ World.laidAll Tryd.prog os laidD with heap := (World.laidAll Tryd.prog os laidD).heap.modify 0 fun | .cells _ t frozen => .cells #[.iface 92 (.agg #[.pointer (some ⟨4, 29, none⟩)])] t frozen | o => o } : World) (fun _ _ => 0) ⟨#[], args, []⟩).memory := by
  refine laidMetH_of_parts ?_ ?_
  · rw [filtN]
    exact laidMet_of_run' 8 (by kernel_rfl) (by kernel_rfl)
  · rw [filtS]
    kernel_rfl

/-- the wrap of a row that lists variables, with the world's shape at hand -/
theorem returns_laid_shaped {H : Type} {enc : TypeId × Value → H} {a : Assume} {C : Checked} {os : Os} {f : FuncId} {fn : Func} {s : ChangeSpec} {conds : List PathCond} {apart fresh handsOn again : Bool} {X : World → Array Value → Prop}
    (hX : ∀ (w w' : World) (args : Array Value), w.heap = w'.heap → X w args → X w' args)
    (own : ownKnob C.prog.godebug = none) (started : os.Started) (noInit : C.prog.inits.idxOf? f = none) (hfn : C.prog.funcs[f]? = some fn)
    (witness : ∃ (w : World) (tape : Tape) (i : Input), w.os = os ∧ (w.forCall tape i).Shaped C.prog ∧ i.vars = [] ∧ Input.okWide C.prog (w.forCall tape i) .any w.heap.size f i ∧
      ((s.pre enc C.prog fn conds apart (w.forCall tape i).memory i.args ∧ X (w.forCall tape i).memory i.args) ∧ sizedMet enc C.prog fn (OpenSpec.ofChange s) apart (w.forCall tape i).memory i.args) ∧ a.holds C.prog (lone (Frame.enter C.prog f i.args .normal) [] (w.forCall tape i)))
    (contract : ∀ (W : World) (base : Nat) (args : Array Value) (ds gs : List (DataW H)) (before : List MemPlace),
      (∀ (j : Nat) t v, fn.params[j]? = some t → args[j]? = some v → Value.okWide C.prog W .any base t v) →
      DataW.Whole enc C.prog fn.params.toList s.vars apart W args.toList ds gs before →
      (DataW.weightsEach C.prog (fn.params.toList ++ s.plain.varTypes C.prog) (ds ++ gs)).all (· ≤ reachBytes) = true → X W args → W.ShapedOpen C.prog →
      Calls C.prog f args W fun e W' => ∃ v, e = .returned v ∧ s.post enc C.prog fn apart fresh handsOn again W args v W') :
    ReturnsInHanded a C os f .any (fun w args => (s.pre enc C.prog fn conds apart w args ∧ X w args) ∧ sizedMet enc C.prog fn (OpenSpec.ofChange s) apart w args) (s.post enc C.prog fn apart fresh handsOn again) := by
  refine returnsInHanded_of_calls own started noInit witness ?_
  intro w tape i _ hsh _ hok hpre _
  obtain ⟨_, _, _, fn', hfn', _, _, _, _, hval⟩ := hok
  obtain rfl : fn' = fn := Option.some.inj (hfn'.symm.trans hfn)
  obtain ⟨⟨⟨ds, gs, before, hw, _⟩, hx⟩, hz⟩ := hpre
  have hw' := DataW.Whole.of_heap (w' := w.forCall tape i) (by rfl) hw
  refine (contract (w.forCall tape i) w.heap.size i.args ds gs before hval hw' (hz.weights hw) (hX _ _ _ (by rfl) hx) hsh).mono fun e W' ⟨v, he, hp⟩ => ?_
  subst he
  exact ChangeSpec.post_blind hp

theorem weights_all_mem {H : Type} {P : Program} {e : TypeId} {ds : List (DataW H)} {d : DataW H} (h : d ∈ ds) : ∀ n ∈ d.weights P e, n ∈ DataW.weightsAll P e ds := by
  induction ds with
  | nil => cases h
  | cons x r ih =>
    intro n hn
    simp only [DataW.weightsAll, List.mem_append]
    rcases List.mem_cons.1 h with rfl | h
    · exact .inl hn
    · exact .inr (ih h n hn)
/-- what a readable argument of layer 6's statements is -/
def AsksAt (W : World) (v : Value) : Prop :=
  ∃ ao len cap, v = .slice ao len cap ∧ len ≤ maxLen ∧ (len = 0 ∨ ∃ b off, ao = some ⟨b, off, none⟩ ∧ ∃ (fs ss : Nat → ByteArray), Twos W b off len fs ss)
theorem asks_open {H : Type} {enc : TypeId × Value → H} {W : World} {v : Value} {d : DataW H} {ps : List MemPlace} (h : DataW.Trod enc Tryd.prog W 0 (fun _ => true) true 22 v d ps) (hs : ∃ ao len cap, v = .slice ao len cap)
    (hw : ∀ n ∈ d.weights Tryd.prog 22, n ≤ reachBytes) : AsksAt W v := by
  obtain ⟨ao, len, cap, rfl⟩ := hs
  obtain ⟨fuel, hf⟩ := h
  refine ⟨ao, len, cap, rfl, ?_⟩
  rcases open_slice_pairs Tryd.underlying22 Tryd.underlying25 Tryd.cellsAsk rfl rfl Tryd.cellsStr Tryd.cellsStr hf with ⟨hcs, hx⟩ | ⟨a, len', cap', m, n, V0, V1, D0, D1, P0, P1, hcs, _, hl, hm, hmm, hx, hel⟩
  · simp [Value.cells] at hcs
    obtain ⟨rfl, rfl, rfl⟩ := hcs
    exact ⟨by simp, .inl rfl⟩
  · simp [Value.cells] at hcs
    obtain ⟨rfl, rfl, rfl⟩ := hcs
    refine ⟨by omega, ?_⟩
    simp only [if_true] at hmm
    subst hmm
    by_cases h0 : len = 0
    · exact .inl h0
    · right
      obtain ⟨b, off, spot⟩ := a
      have hspot : spot = none := by simpa [Addr.add] using World.cell?_spot (hel 0 (by omega)).1
      subst hspot
      simp only [Prod.mk.injEq] at hx
      obtain ⟨rfl, _⟩ := hx
      have key : ∀ i, i < len → ∃ x : ByteArray × ByteArray, W.cell? ⟨b, off + i * 2, none⟩ = some (.string x.1) ∧ W.cell? ⟨b, off + i * 2 + 1, none⟩ = some (.string x.2) ∧ x.1.size ≤ 140737488351232 ∧ x.2.size ≤ 140737488351232 := by
        intro i hi
        obtain ⟨e0, e1, t0, t1⟩ := hel i (by omega)
        obtain ⟨z0, hz0, hy0, _⟩ := DataW.trod_string Tryd.underlying9 t0
        obtain ⟨z1, hz1, hy1, _⟩ := DataW.trod_string Tryd.underlying9 t1
        simp at hz0 hz1
        have hD : ∀ n, n ∈ (DataW.agg [D0 i, D1 i]).weights Tryd.prog 25 → n ≤ reachBytes := fun n hn => hw n (by
          have := weights_all_mem (P := Tryd.prog) (e := 25) (ds := (List.range len).map fun i => DataW.agg [D0 i, D1 i]) (d := DataW.agg [D0 i, D1 i]) (List.mem_map.2 ⟨i, List.mem_range.2 hi, rfl⟩) n hn
          simp only [DataW.weights, Tryd.underlying22, List.mem_cons, List.mem_append]
          right; left
          exact this)
        simp only [Prod.mk.injEq] at hy0 hy1
        refine ⟨(z0, z1), ?_, ?_, ?_, ?_⟩
        · rw [← hz0, ← e0, add_plain]
        · rw [← hz1, ← e1, add_plain, Nat.add_assoc]
        · have := hD z0.data.toList.length (by
            simp only [DataW.weights, Tryd.underlying25, DataW.weightsEach, List.map, List.mem_append, hy0.1, hy1.1]
            simp)
          simp only [reachBytes, Array.length_toList] at this
          exact this
        · have := hD z1.data.toList.length (by
            simp only [DataW.weights, Tryd.underlying25, DataW.weightsEach, List.map, List.mem_append, hy0.1, hy1.1]
            simp)
          simp only [reachBytes, Array.length_toList] at this
          exact this
      obtain ⟨f, hf'⟩ := choose_lt key
      exact ⟨b, off, rfl, fun k => (f k).1, fun k => (f k).2, fun k hk => hf' k hk⟩
end Go.Proofs.YtgnjpnhomkganaaDoor
