/- Proved here: helpers, one text behind the other. -/
import Derived.Test.YtpfpollejhdbgaaDoorProg
import Derived.Test.YtpfpollejhdbgaaDoorZBase
import Derived.WalkKit
import Derived.LaidEql
import Derived.Stop.Asserts
import Derived.RowKitTokens
import Derived.Laws.BitsAllLaws
/- Proved here: dovecoteref0.EqBytes tells whether two byte slices hold the same bytes. Helper contract. -/
namespace Go.Proofs.YtpfpollejhdbgaaDoor
open Go.RowKit

theorem eq_len (ao bo : Option Addr) (n m ca cb : Nat) (w : World) (h : n ≠ m) :
    Calls Tryd.prog 17 #[.slice ao n ca, .slice bo m cb] w fun e w' => e = .returned (.bool false) ∧ w' = w := by
  have h1 : ((n : Int) == (m : Int)) = false := beq_eq_false_iff_ne.2 (by omega)
  go_enter Tryd.func17, Tryd.ntmps17
  go_wp2
  go_ret
  exact ⟨rfl, rfl⟩

theorem eq_nil (ao bo : Option Addr) (ca cb : Nat) (w : World) :
    Calls Tryd.prog 17 #[.slice ao 0 ca, .slice bo 0 cb] w fun e w' => e = .returned (.bool true) ∧ w' = w := by
  go_enter Tryd.func17, Tryd.ntmps17
  go_wp2
  refine wp_loop_rounds 1 ?_
  rw [rounds_succ]
  go_wp2
  go_ret
  exact ⟨rfl, rfl⟩

set_option maxHeartbeats 1000000 in
theorem eq_core (ba oa bb ob n ca cb : Nat) (f g : Nat → Int) (w : World) (hn : n ≤ maxLen)
    (hf : ∀ j, j < n → w.cell? ⟨ba, oa + j, none⟩ = some (.int .u8 (f j))) (hg : ∀ j, j < n → w.cell? ⟨bb, ob + j, none⟩ = some (.int .u8 (g j))) :
    Calls Tryd.prog 17 #[.slice (some ⟨ba, oa, none⟩) n ca, .slice (some ⟨bb, ob, none⟩) n cb] w fun e w' => (∃ b, e = .returned (.bool b) ∧ (b = true ↔ ∀ j, j < n → f j = g j)) ∧ ∃ k, w' = w.drewN k := by
  unfold maxLen at hn
  have HF := hide hf
  have HG := hide hg
  clear hf hg
  go_enter Tryd.func17, Tryd.ntmps17
  go_wp2
  go_loopw [5] (fun i wr => ∃ k q : Nat, k ≤ n ∧ i = .int .i64 k ∧ wr = w.drewN q ∧ ∀ j, j < k → f j = g j) (fun i _ => n - (intOf i).toNat)
  case atStart => exact ⟨0, 0, Nat.zero_le _, rfl, rfl, fun j hj => absurd hj (Nat.not_lt_zero j)⟩
  case round =>
    obtain ⟨k, q, hk, rfl, rfl, hall⟩ := hrel
    have HA := hide hall
    clear hall
    by_cases hlt : k < n
    · have hfk := (unhide HF) k hlt
      have hgk := (unhide HG) k hlt
      generalize hx : f k = x at hfk
      generalize hy : g k = y at hgk
      have HX := hide hx
      have HY := hide hy
      clear hx hy
      by_cases hxy : x = y
      · have hb : (x == y) = true := beq_iff_eq.2 hxy
        have HE := hide hxy
        clear hxy
        go_wp2
        go_quiet (fail)
        go_wp2
        go_roundw
        case rel => exact ⟨k + 1, _, by omega, by go_num, rfl, fun j hj => by
          rcases Nat.lt_succ_iff_lt_or_eq.1 hj with h | h
          · exact (unhide HA) j h
          · rw [h, unhide HX, unhide HY]; exact unhide HE⟩
        case measure => simp [intOf]; omega
      · have hb : (x == y) = false := beq_eq_false_iff_ne.2 hxy
        go_wp2
        go_quiet (fail)
        go_wp2
        go_ret
        refine ⟨⟨_, rfl, ?_⟩, q + nq, drewN_drewN _ _ _⟩
        constructor
        · intro h; cases h
        · intro h; exact absurd ((unhide HX).symm.trans ((h k hlt).trans (unhide HY))) hxy
    · go_wp2
      go_ret
      exact ⟨⟨_, rfl, fun _ j hj => (unhide HA) j (by omega), fun _ => rfl⟩, _, rfl⟩

theorem eq_any (va vb : Value) (xs ys : List Int) (w : World) (ha : Byt w va xs) (hb : Byt w vb ys) :
    Calls Tryd.prog 17 #[va, vb] w fun e w' => e = .returned (.bool (decide (xs = ys))) ∧ ∃ k, w' = w.drewN k := by
  obtain ⟨ao, ca, rfl, hla, _, ha⟩ := ha
  obtain ⟨bo, cb, rfl, _, _, hb⟩ := hb
  by_cases hl : xs.length = ys.length
  · rcases ha with rfl | ⟨ba, oa, rfl, hca⟩
    · have hb0 : ys = [] := List.length_eq_zero_iff.1 hl.symm
      subst hb0
      refine (eq_nil _ _ _ _ _).mono ?_
      rintro e w' ⟨rfl, rfl⟩
      exact ⟨by simp, 0, rfl⟩
    · rcases hb with rfl | ⟨bb, ob, rfl, hcb⟩
      · have ha0 : xs = [] := List.length_eq_zero_iff.1 hl
        subst ha0
        refine (eq_nil _ _ _ _ _).mono ?_
        rintro e w' ⟨rfl, rfl⟩
        exact ⟨by simp, 0, rfl⟩
      · rw [← hl] at hcb ⊢
        refine (eq_core ba oa bb ob xs.length ca cb (fun j => xs.getD j 0) (fun j => ys.getD j 0) w (Nat.le_trans hla.1 hla.2) hca hcb).mono ?_
        rintro e w' ⟨⟨b, rfl, hbb⟩, k, rfl⟩
        refine ⟨?_, k, rfl⟩
        have : (b = true) ↔ xs = ys := by
          rw [hbb]
          constructor
          · intro h
            apply List.ext_getElem hl
            intro i h1 h2
            have := h i h1
            rw [List.getD_eq_getElem?_getD, List.getD_eq_getElem?_getD, List.getElem?_eq_getElem h1, List.getElem?_eq_getElem h2] at this
            exact this
          · rintro rfl j _; rfl
        rw [show b = decide (xs = ys) from by rw [Bool.eq_iff_iff, this]; simp]
  · refine (eq_len ao bo xs.length ys.length ca cb w hl).mono ?_
    rintro e w' ⟨rfl, rfl⟩
    refine ⟨?_, 0, rfl⟩
    rw [show decide (xs = ys) = false from decide_eq_false (fun h => hl (by rw [h]))]
end Go.Proofs.YtpfpollejhdbgaaDoor
/- Proved here: errors.As at a *api.Fault that wraps an api.Errno, target *api.Errno, and the number of an error (dovecotelaw0.Num) at nil and at such a Fault. Helper contracts; no claim of its own. -/
namespace Go.Proofs.YtpfpollejhdbgaaDoor
open Go.RowKit Go.Extern.Stop Go.Stop Go.Extern

/-- what the variable errors.errorType holds -/
def Laid (w : World) : Prop := w.cell? ⟨0, 0, none⟩ = some (.iface 122 (.agg #[.pointer (some ⟨1, 33, none⟩)]))

theorem as_nil (t : Value) (w : World) :
    Calls Tryd.prog 48 #[.nilIface, t] w fun e w' => e = .returned (.bool false) ∧ w' = w := by
  go_enter Tryd.func48, Tryd.ntmps48
  go_wp2
  go_ret
  exact ⟨rfl, rfl⟩

theorem valueOfP (t : Addr) (w : World) : (ReflectliteValue.unpack (.iface 83 (.pointer (some t)))).run Tryd.prog w
    = .ok (.agg #[.pointer (some ⟨1, 83, none⟩), .pointer (some ⟨w.heap.size, 0, none⟩), .int .u64 150]) (w.alloc (.cells #[.pointer (some t)] 83)) := by kernel_rfl
theorem typeP (a : Addr) (w : World) : (ReflectliteValue.methodAny (ReflectliteValue.valueError "reflectlite.Value.Type" 0) (fun t _ _ _ => ReflectliteType.toType t) #[.agg #[.pointer (some ⟨1, 83, none⟩), .pointer (some a), .int .u64 150]]).run Tryd.prog w
    = .ok (.iface 122 (.agg #[.pointer (some ⟨1, 83, none⟩)])) w := by kernel_rfl
theorem methodKind (h : Value) (w : World) : (Go.method 277 122 (.agg #[h]) "Kind").run Tryd.prog w = .ok (106, h) w := by kernel_rfl
theorem kindP (w : World) : ((ReflectliteType.abiMethod fun t => (fun a : Nat => Value.int IntKind.u8 (a : Int)) <$> Rtype.kind t) #[.pointer (some ⟨1, 83, none⟩)]).run Tryd.prog w = .ok (.int .u8 22) w := by kernel_rfl
theorem kindE (w : World) : ((ReflectliteType.abiMethod fun t => (fun a : Nat => Value.int IntKind.u8 (a : Int)) <$> Rtype.kind t) #[.pointer (some ⟨1, 65, none⟩)]).run Tryd.prog w = .ok (.int .u8 2) w := by kernel_rfl
theorem partsP (a : Addr) (w : World) : (ReflectliteValue.parts (.agg #[.pointer (some ⟨1, 83, none⟩), .pointer (some a), .int .u64 150])).run Tryd.prog w = .ok (some (83, a, 150)) w := by kernel_rfl
theorem isNilP (a p : Addr) (W : World) (ha : W.cell? a = some (.pointer (some p))) :
    (ReflectliteValue.method (ReflectliteValue.valueError "reflectlite.Value.IsNil" 0) ReflectliteValue.isNil #[.agg #[.pointer (some ⟨1, 83, none⟩), .pointer (some a), .int .u64 150]]).run Tryd.prog W = .ok (.bool false) W := by
  show Sem.run Tryd.prog (ReflectliteValue.parts (.agg #[.pointer (some ⟨1, 83, none⟩), .pointer (some a), .int .u64 150]) >>= _) W = _
  simp only [Sem.run_bind, partsP, Result.andThen]
  simp [ReflectliteValue.isNil, loadVar, isAgg, underlying, Tryd.underlying83, ha, Result.andThen]
theorem methodElem (h : Value) (w : World) : (Go.method 277 122 (.agg #[h]) "Elem").run Tryd.prog w = .ok (118, .agg #[h]) w := by kernel_rfl
theorem methodImplements (h : Value) (w : World) : (Go.method 277 122 (.agg #[h]) "Implements").run Tryd.prog w = .ok (119, .agg #[h]) w := by kernel_rfl
theorem methodAssignableTo (h : Value) (w : World) : (Go.method 277 122 (.agg #[h]) "AssignableTo").run Tryd.prog w = .ok (116, .agg #[h]) w := by kernel_rfl
theorem methodUnwrap (h : Value) (w : World) : (Go.method 277 79 h "Unwrap").run Tryd.prog w = .ok (111, h) w := by kernel_rfl
theorem elemP (w : World) : (ReflectliteType.method ReflectliteType.elem #[.agg #[.pointer (some ⟨1, 83, none⟩)]]).run Tryd.prog w = .ok (.iface 122 (.agg #[.pointer (some ⟨1, 65, none⟩)])) w := by kernel_rfl
theorem implementsE (w : World) : (ReflectliteType.relation "Implements" ReflectliteType.implements_ #[.agg #[.pointer (some ⟨1, 65, none⟩)], .iface 122 (.agg #[.pointer (some ⟨1, 33, none⟩)])]).run Tryd.prog w = .ok (.bool true) w := by kernel_rfl
theorem typeOfE (v : Value) (w : World) : (ReflectliteType.typeOf #[.iface 65 v]).run Tryd.prog w = .ok (.iface 122 (.agg #[.pointer (some ⟨1, 65, none⟩)])) w := by kernel_rfl
theorem typeOfF (v : Value) (w : World) : (ReflectliteType.typeOf #[.iface 79 v]).run Tryd.prog w = .ok (.iface 122 (.agg #[.pointer (some ⟨1, 79, none⟩)])) w := by kernel_rfl
theorem assignableE (w : World) : (ReflectliteType.relation "AssignableTo" ReflectliteType.assignableTo #[.agg #[.pointer (some ⟨1, 65, none⟩)], .iface 122 (.agg #[.pointer (some ⟨1, 65, none⟩)])]).run Tryd.prog w = .ok (.bool true) w := by kernel_rfl
theorem assignableF (w : World) : (ReflectliteType.relation "AssignableTo" ReflectliteType.assignableTo #[.agg #[.pointer (some ⟨1, 79, none⟩)], .iface 122 (.agg #[.pointer (some ⟨1, 65, none⟩)])]).run Tryd.prog w = .ok (.bool false) w := by kernel_rfl
theorem valueOfE (n : Int) (w : World) : (ReflectliteValue.unpack (.iface 65 (.int .i64 n))).run Tryd.prog w
    = .ok (.agg #[.pointer (some ⟨1, 65, none⟩), .pointer (some ⟨w.heap.size, 0, none⟩), .int .u64 130]) (w.alloc (.cells #[.int .i64 n] 65)) := by kernel_rfl
theorem elemOfP (w : World) : (Rtype.elem? 83).run Tryd.prog w = .ok (some 65) w := by kernel_rfl
theorem mkE (p : Addr) (w : World) : (ReflectliteValue.mk 65 p ReflectliteValue.flagAddr).run Tryd.prog w = .ok (.agg #[.pointer (some ⟨1, 65, none⟩), .pointer (some p), .int .u64 386]) w := by kernel_rfl
theorem elemVP (a p : Addr) (W : World) (ha : W.cell? a = some (.pointer (some p))) :
    (ReflectliteValue.method (ReflectliteValue.valueError "reflectlite.Value.Elem" 0) ReflectliteValue.elem #[.agg #[.pointer (some ⟨1, 83, none⟩), .pointer (some a), .int .u64 150]]).run Tryd.prog W
      = .ok (.agg #[.pointer (some ⟨1, 65, none⟩), .pointer (some p), .int .u64 386]) W := by
  show Sem.run Tryd.prog (ReflectliteValue.parts (.agg #[.pointer (some ⟨1, 83, none⟩), .pointer (some a), .int .u64 150]) >>= _) W = _
  simp only [Sem.run_bind, partsP, Result.andThen]
  simp [ReflectliteValue.elem, loadVar, isAgg, underlying, Tryd.underlying83, ha, Result.andThen, elemOfP, mkE]
theorem partsEa (a : Addr) (w : World) : (ReflectliteValue.parts (.agg #[.pointer (some ⟨1, 65, none⟩), .pointer (some a), .int .u64 386])).run Tryd.prog w = .ok (some (65, a, 386)) w := by kernel_rfl
theorem partsE (a : Addr) (w : World) : (ReflectliteValue.parts (.agg #[.pointer (some ⟨1, 65, none⟩), .pointer (some a), .int .u64 130])).run Tryd.prog w = .ok (some (65, a, 130)) w := by kernel_rfl
theorem directE (w : World) : (Rtype.directlyAssignable 65 65).run Tryd.prog w = .ok true w := by kernel_rfl
theorem setE (ta b : Addr) (n : Int) (old : Value) (W : World) (hb : W.cell? b = some (.int .i64 n)) (ht : W.cell? ta = some old) (hf : W.frozen? ta = false) :
    (ReflectliteValue.set #[.agg #[.pointer (some ⟨1, 65, none⟩), .pointer (some ta), .int .u64 386], .agg #[.pointer (some ⟨1, 65, none⟩), .pointer (some b), .int .u64 130]]).run Tryd.prog W
      = .ok (.tuple #[]) (W.setCell ta (.int .i64 n)) := by
  show Sem.run Tryd.prog (ReflectliteValue.parts (.agg #[.pointer (some ⟨1, 65, none⟩), .pointer (some ta), .int .u64 386]) >>= fun _ => ReflectliteValue.parts (.agg #[.pointer (some ⟨1, 65, none⟩), .pointer (some b), .int .u64 130]) >>= _) W = _
  simp only [Sem.run_bind, partsEa, partsE, Result.andThen]
  simp [ReflectliteValue.flagAddr, loadVar, isAgg, underlying, Tryd.underlying65, hb, Result.andThen, directE, storeVar, Value.cells, storeCells, Addr.add]
  rw [run_store Tryd.prog W ta _ _ (by rfl)]
  simp [ht, hf]
theorem noAsF (v : Value) (xT : TypeId) (w : World) : (Instr.typeAssert (.iface 79 v) xT 126 true).run Tryd.prog w = .ok (.tuple #[.nilIface, .bool false]) w := run_typeAssert_lacksB Tryd.underlying126 (by kernel_rfl) (by kernel_rfl) v xT w
theorem hasUnwrapF (v : Value) (xT : TypeId) (w : World) : (Instr.typeAssert (.iface 79 v) xT 129 true).run Tryd.prog w = .ok (.tuple #[.iface 79 v, .bool true]) w := run_typeAssert_hasB Tryd.underlying129 (by kernel_rfl) v xT w

theorem unwrap_any (b : Nat) (x : Value) (w : World) (hc : w.cell? ⟨b, 1, none⟩ = some x) :
    Calls Tryd.prog 111 #[.pointer (some ⟨b, 0, none⟩)] w fun e w' => e = .returned x ∧ w' = w := by
  go_enter Tryd.func111, Tryd.ntmps111
  go_wp2
  go_ret
  exact ⟨rfl, rfl⟩
end Go.Proofs.YtpfpollejhdbgaaDoor
/- Proved here: errors.As finds the api.Errno that an *api.Fault wraps; dovecotelaw0.Num tells 0 at nil and the wrapped number at such a Fault. Helper contracts. -/
namespace Go.Proofs.YtpfpollejhdbgaaDoor
open Go.RowKit Go.Extern.Stop Go.Stop Go.Extern

set_option maxHeartbeats 4000000 in
theorem as_fault (b : Nat) (n : Int) (t : Addr) (old : Value) (w : World) (hg : Laid w) (hc : w.cell? ⟨b, 1, none⟩ = some (.iface 65 (.int .i64 n))) (ht0 : w.cell? t = some old) (hf0 : w.frozen? t = false) :
    Calls Tryd.prog 48 #[.iface 79 (.pointer (some ⟨b, 0, none⟩)), .iface 83 (.pointer (some t))] w fun ev w' => ev = .returned (.bool true) ∧ w' = ((((w.alloc (.cells #[.pointer (some t)] 83)).alloc (.cells #[.pointer (some ⟨1, 83, none⟩), .pointer (some ⟨w.heap.size, 0, none⟩), .int .u64 150] 101)).alloc (.cells #[.pointer (some ⟨1, 83, none⟩), .pointer (some ⟨w.heap.size, 0, none⟩), .int .u64 150] 101)).alloc (.cells #[.int .i64 n] 65)).setCell t (.int .i64 n) := by
  unfold Laid at hg
  have h6 := @run_callFunc_extern Tryd.prog 61 _ (fun args => ReflectliteValue.unpack (args.getD 0 (.tuple #[]))) Tryd.func61 (by kernel_rfl) (by kernel_rfl) (by kernel_rfl) (by kernel_rfl)
  have h7 := @run_callFunc_extern Tryd.prog 62 _ (ReflectliteValue.methodAny (ReflectliteValue.valueError "reflectlite.Value.Type" 0) (fun t _ _ _ => ReflectliteType.toType t)) Tryd.func62 (by kernel_rfl) (by kernel_rfl) (by kernel_rfl) (by kernel_rfl)
  have h8 := @run_callFunc_extern Tryd.prog 63 _ (ReflectliteValue.method (ReflectliteValue.valueError "reflectlite.Value.IsNil" 0) ReflectliteValue.isNil) Tryd.func63 (by kernel_rfl) (by kernel_rfl) (by kernel_rfl) (by kernel_rfl)
  have h27 := @run_callFunc_extern Tryd.prog 106 _ (ReflectliteType.abiMethod fun t => do pure (.int .u8 (← Rtype.kind t))) Tryd.func106 (by kernel_rfl) (by kernel_rfl) (by kernel_rfl) (by kernel_rfl)
  have h37 := @run_callFunc_extern Tryd.prog 118 _ (ReflectliteType.method ReflectliteType.elem) Tryd.func118 (by kernel_rfl) (by kernel_rfl) (by kernel_rfl) (by kernel_rfl)
  have h38 := @run_callFunc_extern Tryd.prog 119 _ (ReflectliteType.relation "Implements" ReflectliteType.implements_) Tryd.func119 (by kernel_rfl) (by kernel_rfl) (by kernel_rfl) (by kernel_rfl)
  have h10 := @run_callFunc_extern Tryd.prog 72 _ ReflectliteType.typeOf Tryd.func72 (by kernel_rfl) (by kernel_rfl) (by kernel_rfl) (by kernel_rfl)
  have h35 := @run_callFunc_extern Tryd.prog 116 _ (ReflectliteType.relation "AssignableTo" ReflectliteType.assignableTo) Tryd.func116 (by kernel_rfl) (by kernel_rfl) (by kernel_rfl) (by kernel_rfl)
  have h11 := @run_callFunc_extern Tryd.prog 76 _ (ReflectliteValue.method (ReflectliteValue.valueError "reflectlite.Value.Elem" 0) ReflectliteValue.elem) Tryd.func76 (by kernel_rfl) (by kernel_rfl) (by kernel_rfl) (by kernel_rfl)
  have h12 := @run_callFunc_extern Tryd.prog 77 _ ReflectliteValue.set Tryd.func77 (by kernel_rfl) (by kernel_rfl) (by kernel_rfl) (by kernel_rfl)
  have tO := typeOfE
  have tF := typeOfF
  have mA := methodAssignableTo
  have mU := methodUnwrap
  have a25 := assignableE
  have aF := assignableF
  have v25 := valueOfE
  have f6 := valueOfP
  have f7 := typeP
  have mK := methodKind
  have mE := methodElem
  have mI := methodImplements
  have k27 := kindP
  have k25 := kindE
  have e27 := elemP
  have i25 := implementsE
  have nA := noAsF
  have hU := hasUnwrapF
  have n8 := isNilP ⟨w.heap.size, 0, none⟩ t ((w.alloc (.cells #[.pointer (some t)] 83)).alloc (.cells #[.pointer (some ⟨1, 83, none⟩), .pointer (some ⟨w.heap.size, 0, none⟩), .int .u64 150] 101)) (by simp)
  have hlt : 0 < w.heap.size := by
    rcases Nat.eq_zero_or_pos w.heap.size with h0 | h
    · simp [World.cell?, h0] at hg
    · exact h
  have hg2 : ((w.alloc (.cells #[.pointer (some t)] 83)).alloc (.cells #[.pointer (some ⟨1, 83, none⟩), .pointer (some ⟨w.heap.size, 0, none⟩), .int .u64 150] 101)).cell? ⟨0, 0, none⟩ = some (.iface 122 (.agg #[.pointer (some ⟨1, 33, none⟩)])) := by
    rw [World.cell?_alloc_lt _ _ ⟨0, 0, none⟩ (by simp), World.cell?_alloc_lt _ _ ⟨0, 0, none⟩ hlt]; exact hg
  have htl : t.block < w.heap.size := by
    rcases Nat.lt_or_ge t.block w.heap.size with h | h
    · exact h
    · simp [World.cell?, Array.getElem?_eq_none h] at ht0
  have hbl : b < w.heap.size := by
    rcases Nat.lt_or_ge b w.heap.size with h | h
    · exact h
    · simp [World.cell?, Array.getElem?_eq_none h] at hc
  have hc3 : (((w.alloc (.cells #[.pointer (some t)] 83)).alloc (.cells #[.pointer (some ⟨1, 83, none⟩), .pointer (some ⟨w.heap.size, 0, none⟩), .int .u64 150] 101)).alloc (.cells #[.pointer (some ⟨1, 83, none⟩), .pointer (some ⟨w.heap.size, 0, none⟩), .int .u64 150] 101)).cell? ⟨b, 1, none⟩ = some (.iface 65 (.int .i64 n)) := by
    rw [World.cell?_alloc_lt _ _ ⟨b, 1, none⟩ (by simp; omega), World.cell?_alloc_lt _ _ ⟨b, 1, none⟩ (by simp; omega), World.cell?_alloc_lt _ _ ⟨b, 1, none⟩ hbl]; exact hc
  have el := elemVP ⟨w.heap.size, 0, none⟩ t (((w.alloc (.cells #[.pointer (some t)] 83)).alloc (.cells #[.pointer (some ⟨1, 83, none⟩), .pointer (some ⟨w.heap.size, 0, none⟩), .int .u64 150] 101)).alloc (.cells #[.pointer (some ⟨1, 83, none⟩), .pointer (some ⟨w.heap.size, 0, none⟩), .int .u64 150] 101)) (by rw [World.cell?_alloc_lt _ _ ⟨w.heap.size, 0, none⟩ (by simp; omega)]; simp)
  have st := setE t ⟨w.heap.size + 1 + 1 + 1, 0, none⟩ n old ((((w.alloc (.cells #[.pointer (some t)] 83)).alloc (.cells #[.pointer (some ⟨1, 83, none⟩), .pointer (some ⟨w.heap.size, 0, none⟩), .int .u64 150] 101)).alloc (.cells #[.pointer (some ⟨1, 83, none⟩), .pointer (some ⟨w.heap.size, 0, none⟩), .int .u64 150] 101)).alloc (.cells #[.int .i64 n] 65))
    (by rw [World.cell?_alloc_at _ _ _ _ (by simp)]; rfl)
    (by rw [World.cell?_alloc_lt _ _ t (by simp; omega), World.cell?_alloc_lt _ _ t (by simp; omega), World.cell?_alloc_lt _ _ t (by simp; omega), World.cell?_alloc_lt _ _ t htl]; exact ht0)
    (by rw [World.frozen?_alloc_old _ _ t (by simp; omega), World.frozen?_alloc_old _ _ t (by simp; omega), World.frozen?_alloc_old _ _ t (by simp; omega), World.frozen?_alloc_old _ _ t (Nat.ne_of_lt htl)]; exact hf0)
  clear hg hc ht0 hf0 hbl htl hlt
  go_enter Tryd.func48, Tryd.ntmps48
  go_wp2
  refine wp_loop_rounds 2 ?_
  rw [rounds_succ]
  go_wp2_with (go_at_call 111; refine (unwrap_any _ _ _ hc3).mono ?_; rintro e w' ⟨rfl, rfl⟩)
  rw [rounds_succ]
  go_wp2
  go_ret
  exact ⟨rfl, rfl⟩
end Go.Proofs.YtpfpollejhdbgaaDoor
/- Proved here: dovecotelaw0.Num tells 0 at nil and the wrapped number at an *api.Fault around an api.Errno. Helper contracts. -/
namespace Go.Proofs.YtpfpollejhdbgaaDoor
open Go.RowKit Go.Extern.Stop Go.Stop Go.Extern

/-- an error value: nil (0) or a Fault around the number -/
def ErrIs (w : World) (v : Value) (n : Int) : Prop :=
  (n = 0 ∧ v = .nilIface) ∨ (∃ b, v = .iface 79 (.pointer (some ⟨b, 0, none⟩)) ∧ w.cell? ⟨b, 1, none⟩ = some (.iface 65 (.int .i64 n)))

theorem Laid.below {w w' : World} {B : Nat} (h : Laid w) (hb : Below B w w') (hB : 0 < B) : Laid w' := by
  unfold Laid at *
  rw [hb.cell (p := ⟨0, 0, none⟩) hB]; exact h
theorem Laid.pos {w : World} (h : Laid w) : 0 < w.heap.size := by
  unfold Laid at h
  rcases Nat.eq_zero_or_pos w.heap.size with h0 | h1
  · simp [World.cell?, h0] at h
  · exact h1
theorem ErrIs.below {w w' : World} {v : Value} {n : Int} (h : ErrIs w v n) (hb : Below w.heap.size w w') : ErrIs w' v n := by
  rcases h with h | ⟨b, h1, h2⟩
  · exact .inl h
  · exact .inr ⟨b, h1, by rw [hb.cell (p := ⟨b, 1, none⟩) (cell_lt h2)]; exact h2⟩
theorem ErrIs.drewN {w : World} {v : Value} {n : Int} (h : ErrIs w v n) (k : Nat) : ErrIs (w.drewN k) v n := by
  rcases h with h | ⟨b, h1, h2⟩
  · exact .inl h
  · exact .inr ⟨b, h1, by rw [World.cell?_drewN]; exact h2⟩

theorem num_nil (w : World) : Calls Tryd.prog 33 #[.nilIface] w fun e w' => e = .returned (.int .i64 0) ∧ w' = w := by
  go_enter Tryd.func33, Tryd.ntmps33
  go_wp2
  go_ret
  exact ⟨rfl, rfl⟩

set_option maxHeartbeats 1000000 in
theorem num_fault (b : Nat) (n : Int) (w : World) (hg : Laid w) (hc : w.cell? ⟨b, 1, none⟩ = some (.iface 65 (.int .i64 n))) :
    Calls Tryd.prog 33 #[.iface 79 (.pointer (some ⟨b, 0, none⟩))] w fun e w' => e = .returned (.int .i64 n) ∧ Below w.heap.size w w' := by
  have hb := cell_lt hc
  have hg1 : Laid (w.alloc (.cells #[.int .i64 0] 65)) := hg.below ((Below.refl _ _).alloc (Nat.le_refl _) _) hg.pos
  have hc1 : (w.alloc (.cells #[.int .i64 0] 65)).cell? ⟨b, 1, none⟩ = some (.iface 65 (.int .i64 n)) := by
    rw [World.cell?_alloc_lt _ _ ⟨b, 1, none⟩ hb]; exact hc
  have HG := hide hg1
  clear hg1 hg hc hb
  go_enter Tryd.func33, Tryd.ntmps33
  go_wp2_with fail
  refine (as_fault b n ⟨w.heap.size, 0, none⟩ (.int .i64 0) _ (unhide HG) hc1 (by simp) (by simp)).mono ?_
  rintro e w' ⟨rfl, rfl⟩
  go_wp2
  go_ret
  refine ⟨rfl, ?_⟩
  exact (((((((Below.refl _ _).alloc (Nat.le_refl _) _).alloc (by simp) _).alloc (by simp; omega) _).alloc (by simp; omega) _).alloc (by simp; omega) _))

theorem num_any (v : Value) (n : Int) (w : World) (hg : Laid w) (hv : ErrIs w v n) :
    Calls Tryd.prog 33 #[v] w fun e w' => e = .returned (.int .i64 n) ∧ Below w.heap.size w w' := by
  rcases hv with ⟨rfl, rfl⟩ | ⟨b, rfl, hc⟩
  · refine (num_nil w).mono ?_
    rintro e w' ⟨rfl, rfl⟩
    exact ⟨rfl, Below.refl _ _⟩
  · exact num_fault b n w hg hc
end Go.Proofs.YtpfpollejhdbgaaDoor
/- Proved here: plain facts on lists of numbers: how many bytes the code point has with which bytes begin, when bytes are UTF-8 as the chapter says, and that two such lists side by side are one. No program is named. -/
namespace Go.Proofs.YtpfpollejhdbgaaDoor

/-- a byte that goes on with a code point -/
def cont (x : Int) : Bool := decide (128 ≤ x) && decide (x < 192)
def pv2 (a b : Int) : Int := a % 32 * 64 + b % 64
def pv3 (a b c : Int) : Int := (a % 16 * 64 + b % 64) * 64 + c % 64
def pv4 (a b c d : Int) : Int := ((a % 8 * 64 + b % 64) * 64 + c % 64) * 64 + d % 64
def ok2 (a b : Int) : Bool := cont b && decide (128 ≤ pv2 a b)
def ok3 (a b c : Int) : Bool := cont b && cont c && decide (2048 ≤ pv3 a b c) && !(decide (55296 ≤ pv3 a b c) && decide (pv3 a b c ≤ 57343))
def ok4 (a b c d : Int) : Bool := cont b && cont c && cont d && decide (65536 ≤ pv4 a b c d) && decide (pv4 a b c d ≤ 1114111)
/-- how many bytes the code point has with which l begins; 0: none that may be -/
def pt (l : List Int) : Nat :=
  if l.getD 0 0 < 128 then (if 0 < l.getD 0 0 then 1 else 0)
  else if l.getD 0 0 < 192 then 0
  else if l.getD 0 0 < 224 then (if 2 ≤ l.length ∧ ok2 (l.getD 0 0) (l.getD 1 0) = true then 2 else 0)
  else if l.getD 0 0 < 240 then (if 3 ≤ l.length ∧ ok3 (l.getD 0 0) (l.getD 1 0) (l.getD 2 0) = true then 3 else 0)
  else if l.getD 0 0 < 248 then (if 4 ≤ l.length ∧ ok4 (l.getD 0 0) (l.getD 1 0) (l.getD 2 0) (l.getD 3 0) = true then 4 else 0)
  else 0

theorem pt_nil : pt [] = 0 := by simp [pt]
theorem pt_le (l : List Int) : pt l ≤ l.length := by
  cases l with
  | nil => simp [pt_nil]
  | cons a r =>
    unfold pt
    have : 1 ≤ (a :: r).length := by simp
    generalize (a :: r) = l at *
    repeat' split
    all_goals omega
theorem pt_le4 (l : List Int) : pt l ≤ 4 := by
  unfold pt
  repeat' split
  all_goals omega
theorem getD_app (l m : List Int) (j : Nat) (h : j < l.length) : (l ++ m).getD j 0 = l.getD j 0 := by
  rw [List.getD_eq_getElem?_getD, List.getElem?_append_left h, ← List.getD_eq_getElem?_getD]
theorem pt_app (l m : List Int) (h : pt l ≠ 0) : pt (l ++ m) = pt l := by
  have hl : 1 ≤ l.length := by
    rcases l with _ | ⟨a, r⟩
    · simp [pt_nil] at h
    · simp
  have e0 := getD_app l m 0 (by omega)
  have hlen : (l ++ m).length = l.length + m.length := List.length_append
  unfold pt at h ⊢
  rw [e0, hlen]
  by_cases a1 : l.getD 0 0 < 128
  · simp only [a1, if_true]
  · simp only [a1, if_false] at h ⊢
    by_cases a2 : l.getD 0 0 < 192
    · simp only [a2, if_true]
    · simp only [a2, if_false] at h ⊢
      by_cases a3 : l.getD 0 0 < 224
      · simp only [a3, if_true] at h ⊢
        by_cases b : 2 ≤ l.length ∧ ok2 (l.getD 0 0) (l.getD 1 0) = true
        · rw [if_pos b, getD_app l m 1 (by omega), if_pos ⟨by omega, b.2⟩]
        · rw [if_neg b] at h; exact absurd rfl h
      · simp only [a3, if_false] at h ⊢
        by_cases a4 : l.getD 0 0 < 240
        · simp only [a4, if_true] at h ⊢
          by_cases b : 3 ≤ l.length ∧ ok3 (l.getD 0 0) (l.getD 1 0) (l.getD 2 0) = true
          · rw [if_pos b, getD_app l m 1 (by omega), getD_app l m 2 (by omega), if_pos ⟨by omega, b.2⟩]
          · rw [if_neg b] at h; exact absurd rfl h
        · simp only [a4, if_false] at h ⊢
          by_cases a5 : l.getD 0 0 < 248
          · simp only [a5, if_true] at h ⊢
            by_cases b : 4 ≤ l.length ∧ ok4 (l.getD 0 0) (l.getD 1 0) (l.getD 2 0) (l.getD 3 0) = true
            · rw [if_pos b, getD_app l m 1 (by omega), getD_app l m 2 (by omega), getD_app l m 3 (by omega), if_pos ⟨by omega, b.2⟩]
            · rw [if_neg b] at h; exact absurd rfl h
          · simp only [a5, if_false] at h; exact absurd rfl h

/-- UTF-8, as the chapter has it (by a bound that its length gives) -/
def utfF : Nat → List Int → Bool
  | 0, l => l.isEmpty
  | f + 1, l => l.isEmpty || (decide (pt l ≠ 0) && utfF f (l.drop (pt l)))
def utf (l : List Int) : Bool := utfF l.length l
theorem utfF_nil : ∀ f, utfF f [] = true
  | 0 => rfl
  | _ + 1 => rfl
theorem not_nil {l : List Int} (h : 0 < l.length) : l.isEmpty = false := by
  rcases l with _ | ⟨a, r⟩
  · simp at h
  · rfl
theorem utfF_more (f : Nat) : ∀ (g : Nat) (l : List Int), l.length ≤ f → l.length ≤ g → utfF f l = utfF g l := by
  induction f with
  | zero =>
    intro g l h _
    obtain rfl : l = [] := List.length_eq_zero_iff.1 (by omega)
    rw [utfF_nil, utfF_nil]
  | succ f ih =>
    intro g l hf hg
    by_cases h0 : l.length = 0
    · obtain rfl : l = [] := List.length_eq_zero_iff.1 h0
      rw [utfF_nil, utfF_nil]
    · cases g with
      | zero => omega
      | succ g =>
        simp only [utfF]
        by_cases h1 : pt l = 0
        · simp [h1]
        · rw [ih g (l.drop (pt l)) (by rw [List.length_drop]; omega) (by rw [List.length_drop]; omega)]
theorem utf_nil : utf [] = true := rfl
theorem utf_step (l : List Int) (h : 0 < l.length) : utf l = (decide (pt l ≠ 0) && utf (l.drop (pt l))) := by
  obtain ⟨n, hn⟩ : ∃ n, l.length = n + 1 := ⟨l.length - 1, by omega⟩
  unfold utf
  rw [hn]
  simp only [utfF, not_nil h, Bool.false_or]
  by_cases h1 : pt l = 0
  · simp [h1]
  · rw [utfF_more n (l.drop (pt l)).length (l.drop (pt l)) (by rw [List.length_drop]; omega) (Nat.le_refl _)]
/-- how a loop over the code points goes -/
theorem utf_drop (l : List Int) (k : Nat) (hk : k < l.length) (h0 : pt (l.drop k) ≠ 0) : utf (l.drop k) = utf (l.drop (k + pt (l.drop k))) := by
  rw [utf_step (l.drop k) (by rw [List.length_drop]; omega), List.drop_drop]
  simp [h0]
theorem utf_not (l : List Int) (k : Nat) (hk : k < l.length) (h0 : pt (l.drop k) = 0) : utf (l.drop k) = false := by
  rw [utf_step (l.drop k) (by rw [List.length_drop]; omega)]
  simp [h0]
theorem utf_append (n : Nat) : ∀ (l m : List Int), l.length ≤ n → utf l = true → utf m = true → utf (l ++ m) = true := by
  induction n with
  | zero =>
    intro l m h _ hm
    obtain rfl : l = [] := List.length_eq_zero_iff.1 (by omega)
    exact hm
  | succ n ih =>
    intro l m h hl hm
    by_cases h0 : l.length = 0
    · obtain rfl : l = [] := List.length_eq_zero_iff.1 h0
      exact hm
    · rw [utf_step l (by omega)] at hl
      simp only [Bool.and_eq_true, decide_eq_true_eq] at hl
      obtain ⟨h1, h2⟩ := hl
      rw [utf_step (l ++ m) (by rw [List.length_append]; omega), pt_app l m h1, List.drop_append_of_le_length (pt_le l), ih (l.drop (pt l)) m (by rw [List.length_drop]; omega) h2 hm]
      simp [h1]

/-- Check's number -/
def chk (l : List Int) : Int := if utf l = true then (if l.length ≤ 65535 then 0 else 2) else 1
theorem chk_app (l m : List Int) (hl : chk l = 0) (hm : chk m = 0) (h : l.length + m.length ≤ 65535) : chk (l ++ m) = 0 := by
  unfold chk at *
  have ul : utf l = true := by by_cases u : utf l = true; exact u; rw [if_neg u] at hl; simp at hl
  have um : utf m = true := by by_cases u : utf m = true; exact u; rw [if_neg u] at hm; simp at hm
  rw [if_pos (utf_append l.length l m (Nat.le_refl _) ul um), if_pos (by rw [List.length_append]; exact h)]

/-- a text's bytes as numbers, and back -/
def sb (s : ByteArray) : List Int := s.data.toList.map fun b => (b.toNat : Int)
def bs (l : List Int) : ByteArray := ⟨(l.map fun n => UInt8.ofNat n.toNat).toArray⟩
theorem sb_length (s : ByteArray) : (sb s).length = s.size := by
  rw [sb, List.length_map, Array.length_toList]; rfl
theorem bs_sb (s : ByteArray) : bs (sb s) = s := by
  unfold bs sb
  rw [List.map_map]
  have : ((fun n : Int => UInt8.ofNat n.toNat) ∘ fun b : UInt8 => (b.toNat : Int)) = id := by
    funext b; simp
  rw [this, List.map_id]
theorem sb_range (s : ByteArray) : ∀ j, 0 ≤ (sb s).getD j 0 ∧ (sb s).getD j 0 ≤ 255 := by
  intro j
  unfold sb
  rw [List.getD_eq_getElem?_getD, List.getElem?_map]
  cases s.data.toList[j]? with
  | none => simp
  | some b => simp; have := b.toNat_lt; omega
theorem sb_bs (l : List Int) (h : ∀ j, 0 ≤ l.getD j 0 ∧ l.getD j 0 ≤ 255) : sb (bs l) = l := by
  unfold sb bs
  rw [List.map_map]
  apply List.ext_getElem (by simp)
  intro i h1 h2
  have := h i
  rw [List.getD_eq_getElem?_getD, List.getElem?_eq_getElem h2] at this
  simp only [Option.getD_some] at this
  simp only [List.getElem_map, Function.comp, UInt8.toNat_ofNat']
  omega
theorem sb_append (s t : ByteArray) : sb (s ++ t) = sb s ++ sb t := by
  unfold sb
  rw [← List.map_append]
  simp [ByteArray.data_append]
theorem sb_get (s : ByteArray) (k : Nat) (h : k < s.size) : (s[k].toNat : Int) = (sb s).getD k 0 := by
  unfold sb
  rw [List.getD_eq_getElem?_getD, List.getElem?_map, List.getElem?_eq_getElem (by simpa using h)]
  rfl
theorem sb_drop (s : ByteArray) (k : Nat) : sb (s.extract k s.size) = (sb s).drop k := by
  unfold sb
  rw [← List.map_drop]
  congr 1
  simp only [ByteArray.data_extract, Array.toList_extract, List.extract_eq_take_drop]
  rw [List.take_of_length_le (by rw [List.length_drop, Array.length_toList]; exact Nat.le_refl _)]
theorem sb_take (s : ByteArray) (k : Nat) : sb (s.extract 0 k) = (sb s).take k := by
  unfold sb
  rw [← List.map_take]
  congr 1
  simp [ByteArray.data_extract]
end Go.Proofs.YtpfpollejhdbgaaDoor
/- Proved here: what and, or of small numbers are, as the model reckons them. Helpers; no program is named. -/
namespace Go.Proofs.YtpfpollejhdbgaaDoor
open Go.RowKit

theorem ofInt_64 (a : Nat) (ha : a < 18446744073709551616) : (BitVec.ofInt 64 (a : Int)).toNat = a := by
  rw [BitVec.ofInt_natCast, BitVec.toNat_ofNat]; exact Nat.mod_eq_of_lt (by omega)
theorem ofInt_32 (a : Nat) (ha : a < 4294967296) : (BitVec.ofInt 32 (a : Int)).toNat = a := by
  rw [BitVec.ofInt_natCast, BitVec.toNat_ofNat]; exact Nat.mod_eq_of_lt (by omega)
theorem i64_or_nat (a b : Nat) (ha : a < 4611686018427387904) (hb : b < 4611686018427387904) : bits .or .i64 (a : Int) (b : Int) = ((a ||| b : Nat) : Int) := by
  have hx : a ||| b < 2 ^ 62 := Nat.or_lt_two_pow (by omega) (by omega)
  show IntKind.i64.wrap ((BitVec.ofInt 64 (a : Int) ||| BitVec.ofInt 64 (b : Int)).toNat : Int) = _
  rw [BitVec.toNat_or, ofInt_64 a (by omega), ofInt_64 b (by omega), IntKind.wrap_i64]
  omega
theorem i32_or_nat (a b : Nat) (ha : a < 1073741824) (hb : b < 1073741824) : bits .or .i32 (a : Int) (b : Int) = ((a ||| b : Nat) : Int) := by
  have hx : a ||| b < 2 ^ 30 := Nat.or_lt_two_pow (by omega) (by omega)
  show IntKind.i32.wrap ((BitVec.ofInt 32 (a : Int) ||| BitVec.ofInt 32 (b : Int)).toNat : Int) = _
  rw [BitVec.toNat_or, ofInt_32 a (by omega), ofInt_32 b (by omega)]
  have h32 : (2 : Int) ^ IntKind.i32.bits = 4294967296 := rfl
  have h31 : (2 : Int) ^ (IntKind.i32.bits - 1) = 2147483648 := rfl
  have hsg : IntKind.i32.signed = true := rfl
  simp only [IntKind.wrap, h32, h31, hsg, Bool.true_and, decide_eq_true_eq]
  rw [if_neg (by omega)]
  omega
theorem or_i64 (x y : Int) (i : Nat) (hx0 : 0 ≤ x) (hx1 : x < 4611686018427387904) (hy0 : 0 ≤ y) (hy1 : y < 4611686018427387904) (hm : x.toNat % 2 ^ i = 0) (hy : y.toNat < 2 ^ i) : bits .or .i64 x y = x + y := by
  obtain ⟨a, rfl⟩ := Int.eq_ofNat_of_zero_le hx0
  obtain ⟨b, rfl⟩ := Int.eq_ofNat_of_zero_le hy0
  rw [i64_or_nat a b (by omega) (by omega), nat_join i a b (by simpa using hm) (by simpa using hy)]
  omega
theorem or_i32 (x y : Int) (i : Nat) (hx0 : 0 ≤ x) (hx1 : x < 1073741824) (hy0 : 0 ≤ y) (hy1 : y < 1073741824) (hm : x.toNat % 2 ^ i = 0) (hy : y.toNat < 2 ^ i) : bits .or .i32 x y = x + y := by
  obtain ⟨a, rfl⟩ := Int.eq_ofNat_of_zero_le hx0
  obtain ⟨b, rfl⟩ := Int.eq_ofNat_of_zero_le hy0
  rw [i32_or_nat a b (by omega) (by omega), nat_join i a b (by simpa using hm) (by simpa using hy)]
  omega
theorem a63_all : ∀ x : Fin 256, bits .and .u8 (x.val : Int) 63 = (x.val : Int) % 64 := by decide +kernel
theorem a192_all : ∀ x : Fin 256, (bits .and .u8 (x.val : Int) 192 == 128) = cont (x.val : Int) := by decide +kernel
theorem a7_all : ∀ x : Fin 256, bits .and .i64 (x.val : Int) 7 = (x.val : Int) % 8 := by decide +kernel
theorem a15_all : ∀ x : Fin 256, bits .and .i64 (x.val : Int) 15 = (x.val : Int) % 16 := by decide +kernel
theorem a31_all : ∀ x : Fin 256, bits .and .i64 (x.val : Int) 31 = (x.val : Int) % 32 := by decide +kernel
theorem b7_all : ∀ x : Fin 256, bits .and .i32 (x.val : Int) 7 = (x.val : Int) % 8 := by decide +kernel
theorem b15_all : ∀ x : Fin 256, bits .and .i32 (x.val : Int) 15 = (x.val : Int) % 16 := by decide +kernel
theorem b31_all : ∀ x : Fin 256, bits .and .i32 (x.val : Int) 31 = (x.val : Int) % 32 := by decide +kernel
theorem of_fin {p : Int → Prop} (h : ∀ x : Fin 256, p (x.val : Int)) (x : Int) (h0 : 0 ≤ x) (h1 : x ≤ 255) : p x := by
  have := h ⟨x.toNat, by omega⟩
  simpa only [Int.toNat_of_nonneg h0] using this
theorem a63 (x : Int) (h0 : 0 ≤ x) (h1 : x ≤ 255) : bits .and .u8 x 63 = x % 64 := of_fin (p := fun x => bits .and .u8 x 63 = x % 64) a63_all x h0 h1
theorem a192 (x : Int) (h0 : 0 ≤ x) (h1 : x ≤ 255) : (bits .and .u8 x 192 == 128) = cont x := of_fin (p := fun x => (bits .and .u8 x 192 == 128) = cont x) a192_all x h0 h1
theorem a7 (x : Int) (h0 : 0 ≤ x) (h1 : x ≤ 255) : bits .and .i64 x 7 = x % 8 := of_fin (p := fun x => bits .and .i64 x 7 = x % 8) a7_all x h0 h1
theorem a15 (x : Int) (h0 : 0 ≤ x) (h1 : x ≤ 255) : bits .and .i64 x 15 = x % 16 := of_fin (p := fun x => bits .and .i64 x 15 = x % 16) a15_all x h0 h1
theorem a31 (x : Int) (h0 : 0 ≤ x) (h1 : x ≤ 255) : bits .and .i64 x 31 = x % 32 := of_fin (p := fun x => bits .and .i64 x 31 = x % 32) a31_all x h0 h1
theorem b7 (x : Int) (h0 : 0 ≤ x) (h1 : x ≤ 255) : bits .and .i32 x 7 = x % 8 := of_fin (p := fun x => bits .and .i32 x 7 = x % 8) b7_all x h0 h1
theorem b15 (x : Int) (h0 : 0 ≤ x) (h1 : x ≤ 255) : bits .and .i32 x 15 = x % 16 := of_fin (p := fun x => bits .and .i32 x 15 = x % 16) b15_all x h0 h1
theorem b31 (x : Int) (h0 : 0 ≤ x) (h1 : x ≤ 255) : bits .and .i32 x 31 = x % 32 := of_fin (p := fun x => bits .and .i32 x 31 = x % 32) b31_all x h0 h1
end Go.Proofs.YtpfpollejhdbgaaDoor
