/- Proved here: helpers, one text behind the other. -/
import Derived.WalkKit
import Derived.Deep.Draws
import Derived.Deep.QuietTactic
import Derived.BigQuiet
import Derived.Test.YtoocdfgjkeheaaaGreatDoorProg
import Derived.LaidEql
import Derived.Stop.Asserts
import Derived.RowKitTokens
import Derived.Handy
import Derived.Laws.BitsAllLaws
import Derived.Deep.RegionHeld3
/- Proved here: small laws on worlds that change nothing below a block (Below), on draws, and on byte slices read from memory; helpers that name no program. -/
namespace Go.Proofs.YtoocdfgjkeheaaaGreatDoor
open Go.RowKit

theorem hide {p : Prop} (h : p) : Hid p := h
theorem unhide {p : Prop} (h : Hid p) : p := h
theorem cell_lt {w : World} {a : Addr} {v : Value} (h : w.cell? a = some v) : a.block < w.heap.size := by
  rcases Nat.lt_or_ge a.block w.heap.size with h1 | h1
  · exact h1
  · simp [World.cell?, Array.getElem?_eq_none h1] at h
theorem below_drewN {B : Nat} {a w : World} (h : Below B a w) (n : Nat) : Below B a (w.drewN n) := ⟨h.os, h.tape, h.output, h.size, h.block⟩

theorem drewN_drewN (w : World) (m n : Nat) : (w.drewN m).drewN n = w.drewN (m + n) := by simp [World.drewN, Nat.add_assoc]

/-- what append's law asks of its one new element -/
theorem one_cell (w : World) (z : Value) (t : TypeId) : ∀ j u, [z][j]? = some u → (w.alloc (.cells #[z] t)).cell? ((⟨w.heap.size, 0, none⟩ : Addr).add j) = some u := by
  intro j u hj
  match j, hj with
  | 0, hj => simp at hj; subst hj; simp [Addr.add]
theorem one_one (k : IntKind) (z : Int) : ∀ u ∈ [Value.int k z], u.oneCell' = true := by
  intro u hu; simp at hu; subst hu; rfl

/-- what is a slice of bytes: the value v reads in the world w as the bytes bs (as numbers) -/
def Byt (w : World) (v : Value) (bs : List Int) : Prop :=
  ∃ ao cap, v = .slice ao bs.length cap ∧ (bs.length ≤ cap ∧ cap ≤ maxLen) ∧ (∀ j, 0 ≤ bs.getD j 0 ∧ bs.getD j 0 ≤ 255) ∧ (bs = [] ∨ ∃ b off, ao = some ⟨b, off, none⟩ ∧ ∀ j, j < bs.length → w.cell? ⟨b, off + j, none⟩ = some (.int .u8 (bs.getD j 0)))
theorem Byt.below {w w' : World} {v : Value} {bs : List Int} (h : Byt w v bs) (hb : Below w.heap.size w w') : Byt w' v bs := by
  obtain ⟨ao, cap, h1, h2, h3, h4⟩ := h
  refine ⟨ao, cap, h1, h2, h3, ?_⟩
  rcases h4 with h4 | ⟨b, off, e, hc⟩
  · exact .inl h4
  · exact .inr ⟨b, off, e, fun j hj => by rw [hb.cell (p := ⟨b, off + j, none⟩) (cell_lt (hc j hj))]; exact hc j hj⟩
/-- a row that the call owns stays where nothing below the heap's end turns -/
theorem owns_below {w w' : World} {B : Nat} {e : TypeId} {s : Nat} {v : Value} {n : Nat} {xs : List Value} (h : w.ownsRow B e s v n xs) (hb : Below w.heap.size w w') : w'.ownsRow B e s v n xs := by
  refine ⟨h.1, ?_⟩
  rcases h.2 with h1 | ⟨g, cap, cur, hv, hB, hg, rest⟩
  · exact .inl h1
  · exact .inr ⟨g, cap, cur, hv, hB, by rw [hb.block g (Array.getElem?_eq_some_iff.1 hg).1]; exact hg, rest⟩
theorem owns_mono {w : World} {B B' : Nat} {e : TypeId} {s : Nat} {v : Value} {n : Nat} {xs : List Value} (h : w.ownsRow B e s v n xs) (hB : B' ≤ B) : w.ownsRow B' e s v n xs := by
  refine ⟨h.1, ?_⟩
  rcases h.2 with h1 | ⟨g, cap, cur, hv, hBg, rest⟩
  · exact .inl h1
  · exact .inr ⟨g, cap, cur, hv, Nat.le_trans hB hBg, rest⟩
theorem owns_drewN {w : World} {B : Nat} {e : TypeId} {s : Nat} {v : Value} {n : Nat} {xs : List Value} (h : w.ownsRow B e s v n xs) (q : Nat) : (w.drewN q).ownsRow B e s v n xs := h
theorem byt_of_owns {w : World} {B : Nat} {e : TypeId} {v : Value} {n : Nat} {xs : List Int} (h : w.ownsRow B e 1 v n (xs.map (Value.int .u8))) (hr : ∀ j, 0 ≤ xs.getD j 0 ∧ xs.getD j 0 ≤ 255) : Byt w v xs := by
  have hl : xs.length = n := by simpa using h.1
  rcases h.2 with ⟨rfl, h1⟩ | ⟨g, cap, cur, rfl, hB, hg, hnc, hcm, hcs, htake⟩
  · have : xs = [] := List.length_eq_zero_iff.1 (by omega)
    subst this
    exact ⟨none, 0, rfl, ⟨by simp, by simp⟩, hr, .inl rfl⟩
  · subst hl
    refine ⟨_, cap, rfl, ⟨hnc, hcm⟩, hr, .inr ⟨g, 0, rfl, fun j hj => ?_⟩⟩
    rw [Nat.zero_add, h.cellAt j (by omega), List.getElem?_map, List.getElem?_eq_getElem hj, List.getD_eq_getElem?_getD, List.getElem?_eq_getElem hj]
    rfl
/-- a beginning of bytes -/
theorem Byt.take {w : World} {ao : Option Addr} {n cap : Nat} {bs : List Int} (h : Byt w (.slice ao n cap) bs) (K : Nat) (hK : K ≤ n) : Byt w (.slice ao K cap) (bs.take K) := by
  obtain ⟨ao', cap', e, ⟨h1, h2⟩, hr, hcase⟩ := h
  simp only [Value.slice.injEq] at e
  obtain ⟨rfl, rfl, rfl⟩ := e
  have hl : (bs.take K).length = K := by rw [List.length_take]; omega
  refine ⟨ao, cap, by rw [hl], ⟨by rw [hl]; omega, h2⟩, ?_, ?_⟩
  · intro j
    have := hr j
    by_cases hj : j < K
    · rw [List.getD_eq_getElem?_getD, List.getElem?_take, if_pos hj, ← List.getD_eq_getElem?_getD]; exact this
    · rw [List.getD_eq_getElem?_getD, List.getElem?_take, if_neg hj]; simp
  · rcases hcase with rfl | ⟨b, off, rfl, hc⟩
    · exact .inl (by simp)
    · refine .inr ⟨b, off, rfl, fun j hj => ?_⟩
      rw [hl] at hj
      rw [hc j (by omega), List.getD_eq_getElem?_getD, List.getD_eq_getElem?_getD, List.getElem?_take, if_pos hj]
theorem Byt.range {w : World} {v : Value} {bs : List Int} (h : Byt w v bs) : ∀ j, 0 ≤ bs.getD j 0 ∧ bs.getD j 0 ≤ 255 := by
  obtain ⟨_, _, _, _, hr, _⟩ := h
  exact hr
theorem Byt.form {w : World} {v : Value} {bs : List Int} (h : Byt w v bs) : ∃ ao cap, v = .slice ao bs.length cap ∧ bs.length ≤ cap ∧ cap ≤ maxLen := by
  obtain ⟨ao, cap, e, ⟨h1, h2⟩, _⟩ := h
  exact ⟨ao, cap, e, h1, h2⟩
theorem Byt.form1 {w : World} {v : Value} {bs : List Int} (h : Byt w v bs) (hn : 1 ≤ bs.length) : ∃ b off cap, v = .slice (some ⟨b, off, none⟩) bs.length cap ∧ bs.length ≤ cap ∧ cap ≤ maxLen := by
  obtain ⟨ao, cap, e, ⟨h1, h2⟩, _, hcase⟩ := h
  rcases hcase with rfl | ⟨b, off, rfl, _⟩
  · simp at hn
  · exact ⟨b, off, cap, e, h1, h2⟩
theorem Byt.drop {w : World} {b off n cap : Nat} {l : List Int} (h : Byt w (.slice (some ⟨b, off, none⟩) n cap) l) (p : Nat) (hp : p ≤ n) : Byt w (.slice (some ⟨b, off + p, none⟩) (n - p) (cap - p)) (l.drop p) := by
  obtain ⟨ao', cap', e, ⟨h1, h2⟩, hr, hcase⟩ := h
  simp only [Value.slice.injEq] at e
  obtain ⟨rfl, rfl, rfl⟩ := e
  have hl : (l.drop p).length = l.length - p := List.length_drop
  refine ⟨_, _, by rw [hl], ⟨by rw [hl]; omega, by omega⟩, ?_, ?_⟩
  · intro j
    rw [List.getD_eq_getElem?_getD, List.getElem?_drop, ← List.getD_eq_getElem?_getD]
    exact hr _
  · rcases hcase with rfl | ⟨b', off', e, hc⟩
    · exact .inl (by simp)
    · simp only [Option.some.injEq, Addr.mk.injEq] at e
      obtain ⟨rfl, rfl, _⟩ := e
      refine .inr ⟨b, off + p, rfl, fun j hj => ?_⟩
      rw [Nat.add_assoc, hc (p + j) (by omega), List.getD_eq_getElem?_getD, List.getD_eq_getElem?_getD, List.getElem?_drop]
theorem Byt.drop' {w : World} {b off n cap : Nat} {l : List Int} (h : Byt w (.slice (some ⟨b, off, none⟩) n cap) l) (p : Nat) (hp : p ≤ n) : Byt w (.slice (if cap = p then some ⟨b, off, none⟩ else some ⟨b, off + p, none⟩) (n - p) (cap - p)) (l.drop p) := by
  by_cases hc : cap = p
  · rw [if_pos hc]
    obtain ⟨ao', cap', e, ⟨h1, h2⟩, hr, hcase⟩ := h
    simp only [Value.slice.injEq] at e
    obtain ⟨rfl, rfl, rfl⟩ := e
    have hl : l.drop p = [] := List.drop_of_length_le (by omega)
    rw [hl]
    refine ⟨_, _, by rw [show l.length - p = ([] : List Int).length from by simp; omega], ⟨by simp, by omega⟩, by intro j; simp, .inl rfl⟩
  · rw [if_neg hc]
    exact h.drop p hp
end Go.Proofs.YtoocdfgjkeheaaaGreatDoor
/- Proved here: errors.As at a *api.Fault that wraps an api.Errno, target *api.Errno, and the number of an error (dovecotelaw0.Num) at nil and at such a Fault. Helper contracts; no claim of its own. -/
namespace Go.Proofs.YtoocdfgjkeheaaaGreatDoor
open Go.RowKit Go.Extern.Stop Go.Stop Go.Extern

/-- what the variable errors.errorType holds -/
def Laid (w : World) : Prop := w.cell? ⟨0, 0, none⟩ = some (.iface 199 (.agg #[.pointer (some ⟨1, 37, none⟩)]))

theorem as_nil (t : Value) (w : World) :
    Calls Tryz.prog 114 #[.nilIface, t] w fun e w' => e = .returned (.bool false) ∧ w' = w := by
  go_enter Tryz.func114, Tryz.ntmps114
  go_wp2
  go_ret
  exact ⟨rfl, rfl⟩

theorem valueOfP (t : Addr) (w : World) : (ReflectliteValue.unpack (.iface 141 (.pointer (some t)))).run Tryz.prog w
    = .ok (.agg #[.pointer (some ⟨1, 141, none⟩), .pointer (some ⟨w.heap.size, 0, none⟩), .int .u64 150]) (w.alloc (.cells #[.pointer (some t)] 141)) := by kernel_rfl
theorem typeP (a : Addr) (w : World) : (ReflectliteValue.methodAny (ReflectliteValue.valueError "reflectlite.Value.Type" 0) (fun t _ _ _ => ReflectliteType.toType t) #[.agg #[.pointer (some ⟨1, 141, none⟩), .pointer (some a), .int .u64 150]]).run Tryz.prog w
    = .ok (.iface 199 (.agg #[.pointer (some ⟨1, 141, none⟩)])) w := by kernel_rfl
theorem methodKind (h : Value) (w : World) : (Go.method 384 199 (.agg #[h]) "Kind").run Tryz.prog w = .ok (237, h) w := by kernel_rfl
theorem kindP (w : World) : ((ReflectliteType.abiMethod fun t => (fun a : Nat => Value.int IntKind.u8 (a : Int)) <$> Rtype.kind t) #[.pointer (some ⟨1, 141, none⟩)]).run Tryz.prog w = .ok (.int .u8 22) w := by kernel_rfl
theorem kindE (w : World) : ((ReflectliteType.abiMethod fun t => (fun a : Nat => Value.int IntKind.u8 (a : Int)) <$> Rtype.kind t) #[.pointer (some ⟨1, 84, none⟩)]).run Tryz.prog w = .ok (.int .u8 2) w := by kernel_rfl
theorem partsP (a : Addr) (w : World) : (ReflectliteValue.parts (.agg #[.pointer (some ⟨1, 141, none⟩), .pointer (some a), .int .u64 150])).run Tryz.prog w = .ok (some (141, a, 150)) w := by kernel_rfl
theorem isNilP (a p : Addr) (W : World) (ha : W.cell? a = some (.pointer (some p))) :
    (ReflectliteValue.method (ReflectliteValue.valueError "reflectlite.Value.IsNil" 0) ReflectliteValue.isNil #[.agg #[.pointer (some ⟨1, 141, none⟩), .pointer (some a), .int .u64 150]]).run Tryz.prog W = .ok (.bool false) W := by
  show Sem.run Tryz.prog (ReflectliteValue.parts (.agg #[.pointer (some ⟨1, 141, none⟩), .pointer (some a), .int .u64 150]) >>= _) W = _
  simp only [Sem.run_bind, partsP, Result.andThen]
  simp [ReflectliteValue.isNil, loadVar, isAgg, underlying, Tryz.underlying141, ha, Result.andThen]
theorem methodElem (h : Value) (w : World) : (Go.method 384 199 (.agg #[h]) "Elem").run Tryz.prog w = .ok (249, .agg #[h]) w := by kernel_rfl
theorem methodImplements (h : Value) (w : World) : (Go.method 384 199 (.agg #[h]) "Implements").run Tryz.prog w = .ok (250, .agg #[h]) w := by kernel_rfl
theorem methodAssignableTo (h : Value) (w : World) : (Go.method 384 199 (.agg #[h]) "AssignableTo").run Tryz.prog w = .ok (247, .agg #[h]) w := by kernel_rfl
theorem methodUnwrap (h : Value) (w : World) : (Go.method 384 149 h "Unwrap").run Tryz.prog w = .ok (242, h) w := by kernel_rfl
theorem elemP (w : World) : (ReflectliteType.method ReflectliteType.elem #[.agg #[.pointer (some ⟨1, 141, none⟩)]]).run Tryz.prog w = .ok (.iface 199 (.agg #[.pointer (some ⟨1, 84, none⟩)])) w := by kernel_rfl
theorem implementsE (w : World) : (ReflectliteType.relation "Implements" ReflectliteType.implements_ #[.agg #[.pointer (some ⟨1, 84, none⟩)], .iface 199 (.agg #[.pointer (some ⟨1, 37, none⟩)])]).run Tryz.prog w = .ok (.bool true) w := by kernel_rfl
theorem typeOfE (v : Value) (w : World) : (ReflectliteType.typeOf #[.iface 84 v]).run Tryz.prog w = .ok (.iface 199 (.agg #[.pointer (some ⟨1, 84, none⟩)])) w := by kernel_rfl
theorem typeOfF (v : Value) (w : World) : (ReflectliteType.typeOf #[.iface 149 v]).run Tryz.prog w = .ok (.iface 199 (.agg #[.pointer (some ⟨1, 149, none⟩)])) w := by kernel_rfl
theorem assignableE (w : World) : (ReflectliteType.relation "AssignableTo" ReflectliteType.assignableTo #[.agg #[.pointer (some ⟨1, 84, none⟩)], .iface 199 (.agg #[.pointer (some ⟨1, 84, none⟩)])]).run Tryz.prog w = .ok (.bool true) w := by kernel_rfl
theorem assignableF (w : World) : (ReflectliteType.relation "AssignableTo" ReflectliteType.assignableTo #[.agg #[.pointer (some ⟨1, 149, none⟩)], .iface 199 (.agg #[.pointer (some ⟨1, 84, none⟩)])]).run Tryz.prog w = .ok (.bool false) w := by kernel_rfl
theorem valueOfE (n : Int) (w : World) : (ReflectliteValue.unpack (.iface 84 (.int .i64 n))).run Tryz.prog w
    = .ok (.agg #[.pointer (some ⟨1, 84, none⟩), .pointer (some ⟨w.heap.size, 0, none⟩), .int .u64 130]) (w.alloc (.cells #[.int .i64 n] 84)) := by kernel_rfl
theorem elemOfP (w : World) : (Rtype.elem? 141).run Tryz.prog w = .ok (some 84) w := by kernel_rfl
theorem mkE (p : Addr) (w : World) : (ReflectliteValue.mk 84 p ReflectliteValue.flagAddr).run Tryz.prog w = .ok (.agg #[.pointer (some ⟨1, 84, none⟩), .pointer (some p), .int .u64 386]) w := by kernel_rfl
theorem elemVP (a p : Addr) (W : World) (ha : W.cell? a = some (.pointer (some p))) :
    (ReflectliteValue.method (ReflectliteValue.valueError "reflectlite.Value.Elem" 0) ReflectliteValue.elem #[.agg #[.pointer (some ⟨1, 141, none⟩), .pointer (some a), .int .u64 150]]).run Tryz.prog W
      = .ok (.agg #[.pointer (some ⟨1, 84, none⟩), .pointer (some p), .int .u64 386]) W := by
  show Sem.run Tryz.prog (ReflectliteValue.parts (.agg #[.pointer (some ⟨1, 141, none⟩), .pointer (some a), .int .u64 150]) >>= _) W = _
  simp only [Sem.run_bind, partsP, Result.andThen]
  simp [ReflectliteValue.elem, loadVar, isAgg, underlying, Tryz.underlying141, ha, Result.andThen, elemOfP, mkE]
theorem partsEa (a : Addr) (w : World) : (ReflectliteValue.parts (.agg #[.pointer (some ⟨1, 84, none⟩), .pointer (some a), .int .u64 386])).run Tryz.prog w = .ok (some (84, a, 386)) w := by kernel_rfl
theorem partsE (a : Addr) (w : World) : (ReflectliteValue.parts (.agg #[.pointer (some ⟨1, 84, none⟩), .pointer (some a), .int .u64 130])).run Tryz.prog w = .ok (some (84, a, 130)) w := by kernel_rfl
theorem directE (w : World) : (Rtype.directlyAssignable 84 84).run Tryz.prog w = .ok true w := by kernel_rfl
theorem setE (ta b : Addr) (n : Int) (old : Value) (W : World) (hb : W.cell? b = some (.int .i64 n)) (ht : W.cell? ta = some old) (hf : W.frozen? ta = false) :
    (ReflectliteValue.set #[.agg #[.pointer (some ⟨1, 84, none⟩), .pointer (some ta), .int .u64 386], .agg #[.pointer (some ⟨1, 84, none⟩), .pointer (some b), .int .u64 130]]).run Tryz.prog W
      = .ok (.tuple #[]) (W.setCell ta (.int .i64 n)) := by
  show Sem.run Tryz.prog (ReflectliteValue.parts (.agg #[.pointer (some ⟨1, 84, none⟩), .pointer (some ta), .int .u64 386]) >>= fun _ => ReflectliteValue.parts (.agg #[.pointer (some ⟨1, 84, none⟩), .pointer (some b), .int .u64 130]) >>= _) W = _
  simp only [Sem.run_bind, partsEa, partsE, Result.andThen]
  simp [ReflectliteValue.flagAddr, loadVar, isAgg, underlying, Tryz.underlying84, hb, Result.andThen, directE, storeVar, Value.cells, storeCells, Addr.add]
  rw [run_store Tryz.prog W ta _ _ (by rfl)]
  simp [ht, hf]
theorem noAsF (v : Value) (xT : TypeId) (w : World) : (Instr.typeAssert (.iface 149 v) xT 225 true).run Tryz.prog w = .ok (.tuple #[.nilIface, .bool false]) w := run_typeAssert_lacksB Tryz.underlying225 (by kernel_rfl) (by kernel_rfl) v xT w
theorem hasUnwrapF (v : Value) (xT : TypeId) (w : World) : (Instr.typeAssert (.iface 149 v) xT 204 true).run Tryz.prog w = .ok (.tuple #[.iface 149 v, .bool true]) w := run_typeAssert_hasB Tryz.underlying204 (by kernel_rfl) v xT w

theorem unwrap_any (b : Nat) (x : Value) (w : World) (hc : w.cell? ⟨b, 1, none⟩ = some x) :
    Calls Tryz.prog 242 #[.pointer (some ⟨b, 0, none⟩)] w fun e w' => e = .returned x ∧ w' = w := by
  go_enter Tryz.func242, Tryz.ntmps242
  go_wp2
  go_ret
  exact ⟨rfl, rfl⟩
end Go.Proofs.YtoocdfgjkeheaaaGreatDoor
/- Proved here: errors.As finds the api.Errno that an *api.Fault wraps; dovecotelaw0.Num tells 0 at nil and the wrapped number at such a Fault. Helper contracts. -/
namespace Go.Proofs.YtoocdfgjkeheaaaGreatDoor
open Go.RowKit Go.Extern.Stop Go.Stop Go.Extern

set_option maxHeartbeats 4000000 in
theorem as_fault (b : Nat) (n : Int) (t : Addr) (old : Value) (w : World) (hg : Laid w) (hc : w.cell? ⟨b, 1, none⟩ = some (.iface 84 (.int .i64 n))) (ht0 : w.cell? t = some old) (hf0 : w.frozen? t = false) :
    Calls Tryz.prog 114 #[.iface 149 (.pointer (some ⟨b, 0, none⟩)), .iface 141 (.pointer (some t))] w fun ev w' => ev = .returned (.bool true) ∧ w' = ((((w.alloc (.cells #[.pointer (some t)] 141)).alloc (.cells #[.pointer (some ⟨1, 141, none⟩), .pointer (some ⟨w.heap.size, 0, none⟩), .int .u64 150] 178)).alloc (.cells #[.pointer (some ⟨1, 141, none⟩), .pointer (some ⟨w.heap.size, 0, none⟩), .int .u64 150] 178)).alloc (.cells #[.int .i64 n] 84)).setCell t (.int .i64 n) := by
  unfold Laid at hg
  have h6 := @run_callFunc_extern Tryz.prog 156 _ (fun args => ReflectliteValue.unpack (args.getD 0 (.tuple #[]))) Tryz.func156 (by kernel_rfl) (by kernel_rfl) (by kernel_rfl) (by kernel_rfl)
  have h7 := @run_callFunc_extern Tryz.prog 157 _ (ReflectliteValue.methodAny (ReflectliteValue.valueError "reflectlite.Value.Type" 0) (fun t _ _ _ => ReflectliteType.toType t)) Tryz.func157 (by kernel_rfl) (by kernel_rfl) (by kernel_rfl) (by kernel_rfl)
  have h8 := @run_callFunc_extern Tryz.prog 158 _ (ReflectliteValue.method (ReflectliteValue.valueError "reflectlite.Value.IsNil" 0) ReflectliteValue.isNil) Tryz.func158 (by kernel_rfl) (by kernel_rfl) (by kernel_rfl) (by kernel_rfl)
  have h27 := @run_callFunc_extern Tryz.prog 237 _ (ReflectliteType.abiMethod fun t => do pure (.int .u8 (← Rtype.kind t))) Tryz.func237 (by kernel_rfl) (by kernel_rfl) (by kernel_rfl) (by kernel_rfl)
  have h37 := @run_callFunc_extern Tryz.prog 249 _ (ReflectliteType.method ReflectliteType.elem) Tryz.func249 (by kernel_rfl) (by kernel_rfl) (by kernel_rfl) (by kernel_rfl)
  have h38 := @run_callFunc_extern Tryz.prog 250 _ (ReflectliteType.relation "Implements" ReflectliteType.implements_) Tryz.func250 (by kernel_rfl) (by kernel_rfl) (by kernel_rfl) (by kernel_rfl)
  have h10 := @run_callFunc_extern Tryz.prog 135 _ ReflectliteType.typeOf Tryz.func135 (by kernel_rfl) (by kernel_rfl) (by kernel_rfl) (by kernel_rfl)
  have h35 := @run_callFunc_extern Tryz.prog 247 _ (ReflectliteType.relation "AssignableTo" ReflectliteType.assignableTo) Tryz.func247 (by kernel_rfl) (by kernel_rfl) (by kernel_rfl) (by kernel_rfl)
  have h11 := @run_callFunc_extern Tryz.prog 189 _ (ReflectliteValue.method (ReflectliteValue.valueError "reflectlite.Value.Elem" 0) ReflectliteValue.elem) Tryz.func189 (by kernel_rfl) (by kernel_rfl) (by kernel_rfl) (by kernel_rfl)
  have h12 := @run_callFunc_extern Tryz.prog 190 _ ReflectliteValue.set Tryz.func190 (by kernel_rfl) (by kernel_rfl) (by kernel_rfl) (by kernel_rfl)
  have tO := typeOfE
  have tF := typeOfF
  have mA := methodAssignableTo
  have mU := methodUnwrap
  have a25 := assignableE
  have aF := assignableF
  have v25 := valueOfE
  have f6 := valueOfP
  have f7 := typeP
  have mK := methodKind
  have mE := methodElem
  have mI := methodImplements
  have k27 := kindP
  have k25 := kindE
  have e27 := elemP
  have i25 := implementsE
  have nA := noAsF
  have hU := hasUnwrapF
  have n8 := isNilP ⟨w.heap.size, 0, none⟩ t ((w.alloc (.cells #[.pointer (some t)] 141)).alloc (.cells #[.pointer (some ⟨1, 141, none⟩), .pointer (some ⟨w.heap.size, 0, none⟩), .int .u64 150] 178)) (by simp)
  have hlt : 0 < w.heap.size := by
    rcases Nat.eq_zero_or_pos w.heap.size with h0 | h
    · simp [World.cell?, h0] at hg
    · exact h
  have hg2 : ((w.alloc (.cells #[.pointer (some t)] 141)).alloc (.cells #[.pointer (some ⟨1, 141, none⟩), .pointer (some ⟨w.heap.size, 0, none⟩), .int .u64 150] 178)).cell? ⟨0, 0, none⟩ = some (.iface 199 (.agg #[.pointer (some ⟨1, 37, none⟩)])) := by
    rw [World.cell?_alloc_lt _ _ ⟨0, 0, none⟩ (by simp), World.cell?_alloc_lt _ _ ⟨0, 0, none⟩ hlt]; exact hg
  have htl : t.block < w.heap.size := by
    rcases Nat.lt_or_ge t.block w.heap.size with h | h
    · exact h
    · simp [World.cell?, Array.getElem?_eq_none h] at ht0
  have hbl : b < w.heap.size := by
    rcases Nat.lt_or_ge b w.heap.size with h | h
    · exact h
    · simp [World.cell?, Array.getElem?_eq_none h] at hc
  have hc3 : (((w.alloc (.cells #[.pointer (some t)] 141)).alloc (.cells #[.pointer (some ⟨1, 141, none⟩), .pointer (some ⟨w.heap.size, 0, none⟩), .int .u64 150] 178)).alloc (.cells #[.pointer (some ⟨1, 141, none⟩), .pointer (some ⟨w.heap.size, 0, none⟩), .int .u64 150] 178)).cell? ⟨b, 1, none⟩ = some (.iface 84 (.int .i64 n)) := by
    rw [World.cell?_alloc_lt _ _ ⟨b, 1, none⟩ (by simp; omega), World.cell?_alloc_lt _ _ ⟨b, 1, none⟩ (by simp; omega), World.cell?_alloc_lt _ _ ⟨b, 1, none⟩ hbl]; exact hc
  have el := elemVP ⟨w.heap.size, 0, none⟩ t (((w.alloc (.cells #[.pointer (some t)] 141)).alloc (.cells #[.pointer (some ⟨1, 141, none⟩), .pointer (some ⟨w.heap.size, 0, none⟩), .int .u64 150] 178)).alloc (.cells #[.pointer (some ⟨1, 141, none⟩), .pointer (some ⟨w.heap.size, 0, none⟩), .int .u64 150] 178)) (by rw [World.cell?_alloc_lt _ _ ⟨w.heap.size, 0, none⟩ (by simp; omega)]; simp)
  have st := setE t ⟨w.heap.size + 1 + 1 + 1, 0, none⟩ n old ((((w.alloc (.cells #[.pointer (some t)] 141)).alloc (.cells #[.pointer (some ⟨1, 141, none⟩), .pointer (some ⟨w.heap.size, 0, none⟩), .int .u64 150] 178)).alloc (.cells #[.pointer (some ⟨1, 141, none⟩), .pointer (some ⟨w.heap.size, 0, none⟩), .int .u64 150] 178)).alloc (.cells #[.int .i64 n] 84))
    (by rw [World.cell?_alloc_at _ _ _ _ (by simp)]; rfl)
    (by rw [World.cell?_alloc_lt _ _ t (by simp; omega), World.cell?_alloc_lt _ _ t (by simp; omega), World.cell?_alloc_lt _ _ t (by simp; omega), World.cell?_alloc_lt _ _ t htl]; exact ht0)
    (by rw [World.frozen?_alloc_old _ _ t (by simp; omega), World.frozen?_alloc_old _ _ t (by simp; omega), World.frozen?_alloc_old _ _ t (by simp; omega), World.frozen?_alloc_old _ _ t (Nat.ne_of_lt htl)]; exact hf0)
  clear hg hc ht0 hf0 hbl htl hlt
  go_enter Tryz.func114, Tryz.ntmps114
  go_wp2
  refine wp_loop_rounds 2 ?_
  rw [rounds_succ]
  go_wp2_with (go_at_call 242; refine (unwrap_any _ _ _ hc3).mono ?_; rintro e w' ⟨rfl, rfl⟩)
  rw [rounds_succ]
  go_wp2
  go_ret
  exact ⟨rfl, rfl⟩
end Go.Proofs.YtoocdfgjkeheaaaGreatDoor
/- Proved here: dovecotelaw0.Num tells 0 at nil and the wrapped number at an *api.Fault around an api.Errno. Helper contracts. -/
namespace Go.Proofs.YtoocdfgjkeheaaaGreatDoor
open Go.RowKit Go.Extern.Stop Go.Stop Go.Extern

/-- an error value: nil (0) or a Fault around the number -/
def ErrIs (w : World) (v : Value) (n : Int) : Prop :=
  (n = 0 ∧ v = .nilIface) ∨ (∃ b, v = .iface 149 (.pointer (some ⟨b, 0, none⟩)) ∧ w.cell? ⟨b, 1, none⟩ = some (.iface 84 (.int .i64 n)))

theorem Laid.below {w w' : World} {B : Nat} (h : Laid w) (hb : Below B w w') (hB : 0 < B) : Laid w' := by
  unfold Laid at *
  rw [hb.cell (p := ⟨0, 0, none⟩) hB]; exact h
theorem Laid.pos {w : World} (h : Laid w) : 0 < w.heap.size := by
  unfold Laid at h
  rcases Nat.eq_zero_or_pos w.heap.size with h0 | h1
  · simp [World.cell?, h0] at h
  · exact h1
theorem ErrIs.below {w w' : World} {v : Value} {n : Int} (h : ErrIs w v n) (hb : Below w.heap.size w w') : ErrIs w' v n := by
  rcases h with h | ⟨b, h1, h2⟩
  · exact .inl h
  · exact .inr ⟨b, h1, by rw [hb.cell (p := ⟨b, 1, none⟩) (cell_lt h2)]; exact h2⟩
theorem ErrIs.drewN {w : World} {v : Value} {n : Int} (h : ErrIs w v n) (k : Nat) : ErrIs (w.drewN k) v n := by
  rcases h with h | ⟨b, h1, h2⟩
  · exact .inl h
  · exact .inr ⟨b, h1, by rw [World.cell?_drewN]; exact h2⟩

theorem num_nil (w : World) : Calls Tryz.prog 63 #[.nilIface] w fun e w' => e = .returned (.int .i64 0) ∧ w' = w := by
  go_enter Tryz.func63, Tryz.ntmps63
  go_wp2
  go_ret
  exact ⟨rfl, rfl⟩

set_option maxHeartbeats 1000000 in
theorem num_fault (b : Nat) (n : Int) (w : World) (hg : Laid w) (hc : w.cell? ⟨b, 1, none⟩ = some (.iface 84 (.int .i64 n))) :
    Calls Tryz.prog 63 #[.iface 149 (.pointer (some ⟨b, 0, none⟩))] w fun e w' => e = .returned (.int .i64 n) ∧ Below w.heap.size w w' := by
  have hb := cell_lt hc
  have hg1 : Laid (w.alloc (.cells #[.int .i64 0] 84)) := hg.below ((Below.refl _ _).alloc (Nat.le_refl _) _) hg.pos
  have hc1 : (w.alloc (.cells #[.int .i64 0] 84)).cell? ⟨b, 1, none⟩ = some (.iface 84 (.int .i64 n)) := by
    rw [World.cell?_alloc_lt _ _ ⟨b, 1, none⟩ hb]; exact hc
  have HG := hide hg1
  clear hg1 hg hc hb
  go_enter Tryz.func63, Tryz.ntmps63
  go_wp2_with fail
  refine (as_fault b n ⟨w.heap.size, 0, none⟩ (.int .i64 0) _ (unhide HG) hc1 (by simp) (by simp)).mono ?_
  rintro e w' ⟨rfl, rfl⟩
  go_wp2
  go_ret
  refine ⟨rfl, ?_⟩
  exact (((((((Below.refl _ _).alloc (Nat.le_refl _) _).alloc (by simp) _).alloc (by simp; omega) _).alloc (by simp; omega) _).alloc (by simp; omega) _))

theorem num_any (v : Value) (n : Int) (w : World) (hg : Laid w) (hv : ErrIs w v n) :
    Calls Tryz.prog 63 #[v] w fun e w' => e = .returned (.int .i64 n) ∧ Below w.heap.size w w' := by
  rcases hv with ⟨rfl, rfl⟩ | ⟨b, rfl, hc⟩
  · refine (num_nil w).mono ?_
    rintro e w' ⟨rfl, rfl⟩
    exact ⟨rfl, Below.refl _ _⟩
  · exact num_fault b n w hg hc
end Go.Proofs.YtoocdfgjkeheaaaGreatDoor
/- Proved here: worlds in which nothing that was there turns but some cells of one block (BX): small laws. Helpers that name no program. -/
namespace Go.Proofs.YtoocdfgjkeheaaaGreatDoor.K
open Go.RowKit

/-- nothing that was there has turned but cells of the block R of which 'may' says so -/
structure BX (R : Nat) (may : Nat → Prop) (w w' : World) : Prop where
  os : w'.os = w.os
  tape : w'.tape = w.tape
  output : w'.output = w.output
  size : w.heap.size ≤ w'.heap.size
  block : ∀ k, k < w.heap.size → k ≠ R → w'.heap[k]? = w.heap[k]?
  cell : ∀ j, ¬ may j → w'.cell? ⟨R, j, none⟩ = w.cell? ⟨R, j, none⟩
  frozen : ∀ j, w'.frozen? ⟨R, j, none⟩ = w.frozen? ⟨R, j, none⟩
/-- .. below the block B -/
structure BX' (R : Nat) (may : Nat → Prop) (B : Nat) (w w' : World) : Prop where
  os : w'.os = w.os
  tape : w'.tape = w.tape
  output : w'.output = w.output
  size : w.heap.size ≤ w'.heap.size
  block : ∀ k, k < B → k ≠ R → w'.heap[k]? = w.heap[k]?
  cell : ∀ j, ¬ may j → w'.cell? ⟨R, j, none⟩ = w.cell? ⟨R, j, none⟩
  frozen : ∀ j, w'.frozen? ⟨R, j, none⟩ = w.frozen? ⟨R, j, none⟩
theorem BX.refl (R : Nat) (may : Nat → Prop) (w : World) : BX R may w w := ⟨rfl, rfl, rfl, Nat.le_refl _, fun _ _ _ => rfl, fun _ _ => rfl, fun _ => rfl⟩
theorem BX.trans {R : Nat} {may : Nat → Prop} {a b c : World} (h : BX R may a b) (k : BX R may b c) : BX R may a c :=
  ⟨k.os.trans h.os, k.tape.trans h.tape, k.output.trans h.output, Nat.le_trans h.size k.size, fun i hi hR => (k.block i (Nat.lt_of_lt_of_le hi h.size) hR).trans (h.block i hi hR), fun j hj => (k.cell j hj).trans (h.cell j hj), fun j => (k.frozen j).trans (h.frozen j)⟩
theorem BX.trans' {R : Nat} {may : Nat → Prop} {a b c : World} (h : BX R may a b) (k : BX' R may a.heap.size b c) : BX R may a c :=
  ⟨k.os.trans h.os, k.tape.trans h.tape, k.output.trans h.output, Nat.le_trans h.size k.size, fun i hi hR => (k.block i hi hR).trans (h.block i hi hR), fun j hj => (k.cell j hj).trans (h.cell j hj), fun j => (k.frozen j).trans (h.frozen j)⟩
theorem BX.weak {R : Nat} {may may' : Nat → Prop} {a b : World} (h : BX R may a b) (hm : ∀ j, may j → may' j) : BX R may' a b :=
  ⟨h.os, h.tape, h.output, h.size, h.block, fun j hj => h.cell j (fun hx => hj (hm j hx)), h.frozen⟩
theorem BX.of_below {R : Nat} {may : Nat → Prop} {a b : World} (h : Below a.heap.size a b) (hR : R < a.heap.size) : BX R may a b :=
  ⟨h.os, h.tape, h.output, h.size, fun k hk _ => h.block k hk, fun j _ => h.cell (p := ⟨R, j, none⟩) hR, fun j => h.frozen (p := ⟨R, j, none⟩) hR⟩
theorem BX.set {R : Nat} {may : Nat → Prop} {a b : World} (h : BX R may a b) (j : Nat) (u : Value) (hj : may j) : BX R may a (b.setCell ⟨R, j, none⟩ u) :=
  h.trans ⟨rfl, rfl, rfl, by simp [World.setCell], fun k _ hR => Below.heap_setCell _ _ _ _ hR, fun i hi => World.cell?_setCell_other _ _ _ _ (fun e => by injection e with _ h2; subst h2; exact hi hj), fun i => World.frozen?_setCell ..⟩
theorem BX.below {R B : Nat} {may : Nat → Prop} {a b : World} (h : BX R may a b) (hB : B ≤ R) (hs : B ≤ a.heap.size) : Below B a b :=
  ⟨h.os, h.tape, h.output, h.size, fun k hk => h.block k (Nat.lt_of_lt_of_le hk hs) (by omega)⟩
theorem BX.far {R : Nat} {may : Nat → Prop} {a b : World} (h : BX R may a b) {p : Addr} {v : Value} (hp : a.cell? p = some v) (hR : p.block ≠ R) : b.cell? p = some v :=
  (World.cell?_of_block (w := a) (h.block p.block (cell_lt hp) hR)).trans hp
/-- bytes that lie elsewhere stay -/
theorem byt_bx {R : Nat} {may : Nat → Prop} {w w' : World} {v : Value} {l : List Int} (h : Byt w v l) (hx : BX R may w w') (hR : ∀ b off n cap, v = .slice (some ⟨b, off, none⟩) n cap → 1 ≤ n → b ≠ R) : Byt w' v l := by
  obtain ⟨ao, cap, h1, h2, h3, h4⟩ := h
  refine ⟨ao, cap, h1, h2, h3, ?_⟩
  rcases h4 with h4 | ⟨b, off, e, hc⟩
  · exact .inl h4
  · refine .inr ⟨b, off, e, fun j hj => ?_⟩
    subst e
    exact hx.far (hc j hj) (hR b off _ cap h1 (by omega))
end Go.Proofs.YtoocdfgjkeheaaaGreatDoor.K
/- Proved here: packet's mayQoS, mayCount, flag, flagsOf as plain functions. Helper contracts. -/
namespace Go.Proofs.YtoocdfgjkeheaaaGreatDoor.K
open Go.RowKit
set_option maxRecDepth 100000

/-- a slice, as the walk tells it -/
structure Sl where
  ao : Option Addr
  n : Nat
  cap : Nat
/-- a packet's fields -/
structure Pkv where
  kind : Int
  dup : Bool
  qos : Int
  retain : Bool
  topic : ByteArray
  id : Int
  payload : ByteArray
  props : Sl
  client : ByteArray
  clean : Bool
  keep : Int
  wills : Sl
  user : Sl
  pass : Sl
  code : Int
  session : Bool
  subs : Sl
  filters : Sl
  codes : Sl
abbrev Sl.val (s : Sl) : Value := .slice s.ao s.n s.cap
abbrev Pkv.val (p : Pkv) : Value := .agg #[.int .i64 p.kind, .bool p.dup, .int .i64 p.qos, .bool p.retain, .string p.topic, .int .i64 p.id, .string p.payload, p.props.val, .string p.client, .bool p.clean, .int .i64 p.keep, p.wills.val, p.user.val, p.pass.val, .int .i64 p.code, .bool p.session, p.subs.val, p.filters.val, p.codes.val]
def mq (n : Int) : Bool := decide (0 ≤ n) && decide (n ≤ 2)
theorem mayQoS_any (n : Int) (w : World) : Calls Tryz.prog 84 #[.int .i64 n] w fun e w' => e = .returned (.bool (mq n)) ∧ w' = w := by
  by_cases h0 : 0 ≤ n
  · by_cases h2 : n ≤ 2
    · go_enter Tryz.func84, Tryz.ntmps84
      go_wp2
      go_ret
      exact ⟨by unfold mq; rw [decide_eq_true h0, decide_eq_true h2]; rfl, rfl⟩
    · go_enter Tryz.func84, Tryz.ntmps84
      go_wp2
      go_ret
      exact ⟨by unfold mq; rw [decide_eq_true h0, decide_eq_false (by omega)]; rfl, rfl⟩
  · go_enter Tryz.func84, Tryz.ntmps84
    go_wp2
    go_ret
    exact ⟨by unfold mq; rw [decide_eq_false (by omega)]; rfl, rfl⟩
def mc (n : Int) : Bool := decide (1 ≤ n) && decide (n ≤ 16)
theorem flag_any (b : Bool) (n : Int) (w : World) : Calls Tryz.prog 85 #[.bool b, .int .i64 n] w fun e w' => e = .returned (.int .i64 (if b then n else 0)) ∧ w' = w := by
  cases b
  · go_enter Tryz.func85, Tryz.ntmps85
    go_wp2
    go_ret
    exact ⟨rfl, rfl⟩
  · go_enter Tryz.func85, Tryz.ntmps85
    go_wp2
    go_ret
    exact ⟨rfl, rfl⟩
set_option maxHeartbeats 2000000 in
theorem flagsOf_fixed (p : Pkv) (w : World) (h : p.kind = 6 ∨ p.kind = 8 ∨ p.kind = 10) : Calls Tryz.prog 54 #[p.val] w fun e w' => e = .returned (.tuple #[.int .i64 2, .bool true]) ∧ Below w.heap.size w w' := by
  obtain ⟨kind, dup, qos, retain, topic, id, payload, ⟨a1, n1, c1⟩, client, clean, keep, ⟨a2, n2, c2⟩, ⟨a3, n3, c3⟩, ⟨a4, n4, c4⟩, code, session, ⟨a5, n5, c5⟩, ⟨a6, n6, c6⟩, ⟨a7, n7, c7⟩⟩ := p
  simp only at h
  rcases h with rfl | rfl | rfl
  · go_enter Tryz.func54, Tryz.ntmps54
    go_wp2
    go_returns
    exact ⟨rfl, by go_grown⟩
  · go_enter Tryz.func54, Tryz.ntmps54
    go_wp2
    go_returns
    exact ⟨rfl, by go_grown⟩
  · go_enter Tryz.func54, Tryz.ntmps54
    go_wp2
    go_returns
    exact ⟨rfl, by go_grown⟩
end Go.Proofs.YtoocdfgjkeheaaaGreatDoor.K
/- Proved here: packet.flagsOf tells a packet's flags, and whether its kind and they may be. Helper contracts. -/
namespace Go.Proofs.YtoocdfgjkeheaaaGreatDoor.K
open Go.RowKit
set_option maxRecDepth 100000

abbrev opKFlags20 : Oper := { dst := some 37, op := Op.fieldAddr 30 (Operand.tmp 1) 0, type := 0, pos := "packet.go:127", after := #[], guard := none }
abbrev opKFlags21 : Oper := { dst := some 38, op := Op.load 3 (Operand.tmp 37), type := 3, pos := "packet.go:127", after := #[{ on := 0, ground := Ground.data }], guard := none }
abbrev opKFlags22 : Oper := { dst := some 39, op := Op.binOp BinOp.geq 3 (Operand.tmp 38) (Operand.const (Value.int IntKind.i64 1)) 3, type := 4, pos := "packet.go:127", after := #[{ on := 1, ground := Ground.data }], guard := none }
abbrev opKFlags23 : Oper := { dst := some 40, op := Op.move (Operand.tmp 39), type := 4, pos := "packet.go:127", after := #[{ on := 2, ground := Ground.data }], guard := none }
abbrev opKFlags24 : Oper := { dst := some 41, op := Op.fieldAddr 30 (Operand.tmp 1) 0, type := 0, pos := "packet.go:127", after := #[{ on := 3, ground := Ground.guard }, { on := 8, ground := Ground.gcOnly Departure.lateStores }], guard := some (3, true) }
abbrev opKFlags25 : Oper := { dst := some 42, op := Op.load 3 (Operand.tmp 41), type := 3, pos := "packet.go:127", after := #[{ on := 4, ground := Ground.data }, { on := 3, ground := Ground.guard }, { on := 8, ground := Ground.gcOnly Departure.lateStores }], guard := some (3, true) }
abbrev opKFlags26 : Oper := { dst := some 43, op := Op.binOp BinOp.leq 3 (Operand.tmp 42) (Operand.const (Value.int IntKind.i64 15)) 3, type := 4, pos := "packet.go:127", after := #[{ on := 5, ground := Ground.data }, { on := 3, ground := Ground.guard }, { on := 8, ground := Ground.gcOnly Departure.lateStores }], guard := some (3, true) }
abbrev opKFlags27 : Oper := { dst := some 44, op := Op.pick (Operand.tmp 40) (Operand.tmp 43) (Operand.const (Value.bool false)), type := 4, pos := "packet.go:127", after := #[{ on := 3, ground := Ground.data }, { on := 6, ground := Ground.data }, { on := 8, ground := Ground.gcOnly Departure.lateStores }], guard := none }
abbrev opKFlags28 : Oper := { dst := some 2, op := Op.assign (Operand.const (Value.int IntKind.i64 0)), type := 3, pos := "packet.go:127", after := #[{ on := 3, ground := Ground.chain }, { on := 0, ground := Ground.textOnly Departure.lateStores }, { on := 1, ground := Ground.textOnly Departure.lateStores }, { on := 2, ground := Ground.textOnly Departure.lateStores }, { on := 3, ground := Ground.textOnly Departure.lateStores }, { on := 4, ground := Ground.textOnly Departure.lateStores }, { on := 5, ground := Ground.textOnly Departure.lateStores }, { on := 6, ground := Ground.textOnly Departure.lateStores }, { on := 7, ground := Ground.textOnly Departure.lateStores }], guard := none }
abbrev opKFlags29 : Oper := { dst := some 3, op := Op.assign (Operand.tmp 44), type := 4, pos := "packet.go:127", after := #[{ on := 7, ground := Ground.data }, { on := 8, ground := Ground.chain }, { on := 0, ground := Ground.phase }, { on := 1, ground := Ground.phase }, { on := 2, ground := Ground.phase }, { on := 3, ground := Ground.phase }, { on := 4, ground := Ground.phase }, { on := 5, ground := Ground.phase }, { on := 6, ground := Ground.phase }, { on := 7, ground := Ground.phase }, { on := 8, ground := Ground.phase }], guard := none }
abbrev opKFlags210 : Oper := { dst := some 21, op := Op.fieldAddr 30 (Operand.tmp 1) 1, type := 0, pos := "packet.go:123", after := #[], guard := none }
abbrev opKFlags211 : Oper := { dst := some 22, op := Op.load 4 (Operand.tmp 21), type := 4, pos := "packet.go:123", after := #[{ on := 0, ground := Ground.data }], guard := none }
abbrev opKFlags212 : Oper := { dst := some 24, op := Op.fieldAddr 30 (Operand.tmp 1) 2, type := 0, pos := "packet.go:123", after := #[], guard := none }
abbrev opKFlags213 : Oper := { dst := some 25, op := Op.load 3 (Operand.tmp 24), type := 3, pos := "packet.go:123", after := #[{ on := 3, ground := Ground.data }], guard := none }
abbrev opKFlags214 : Oper := { dst := some 26, op := Op.binOp BinOp.shl 3 (Operand.tmp 25) (Operand.const (Value.int IntKind.u64 1)) 54, type := 3, pos := "packet.go:123", after := #[{ on := 4, ground := Ground.data }], guard := none }
abbrev opKFlags215 : Oper := { dst := some 28, op := Op.fieldAddr 30 (Operand.tmp 1) 3, type := 0, pos := "packet.go:123", after := #[], guard := none }
abbrev opKFlags216 : Oper := { dst := some 29, op := Op.load 4 (Operand.tmp 28), type := 4, pos := "packet.go:123", after := #[{ on := 7, ground := Ground.data }], guard := none }
abbrev opKFlags217 : Oper := { dst := some 32, op := Op.move (Operand.tmp 3), type := 4, pos := "packet.go:123", after := #[{ on := 12, ground := Ground.gcOnly Departure.lateStores }], guard := none }
abbrev opKFlags218 : Oper := { dst := some 23, op := Op.call { callee := Callee.value (Operand.func 85), args := #[Operand.tmp 22, Operand.const (Value.int IntKind.i64 8)], argTypes := #[4, 3] }, type := 3, pos := "packet.go:123", after := #[{ on := 1, ground := Ground.data }], guard := none }
abbrev opKFlags219 : Oper := { dst := some 27, op := Op.binOp BinOp.or 3 (Operand.tmp 23) (Operand.tmp 26) 3, type := 3, pos := "packet.go:123", after := #[{ on := 2, ground := Ground.data }, { on := 5, ground := Ground.data }], guard := none }
abbrev opKFlags220 : Oper := { dst := some 30, op := Op.call { callee := Callee.value (Operand.func 85), args := #[Operand.tmp 29, Operand.const (Value.int IntKind.i64 1)], argTypes := #[4, 3] }, type := 3, pos := "packet.go:123", after := #[{ on := 8, ground := Ground.data }, { on := 2, ground := Ground.chain }], guard := none }
abbrev opKFlags221 : Oper := { dst := some 31, op := Op.binOp BinOp.or 3 (Operand.tmp 27) (Operand.tmp 30) 3, type := 3, pos := "packet.go:123", after := #[{ on := 6, ground := Ground.data }, { on := 9, ground := Ground.data }], guard := none }
abbrev opKFlags222 : Oper := { dst := some 2, op := Op.assign (Operand.tmp 31), type := 3, pos := "packet.go:123", after := #[{ on := 10, ground := Ground.data }, { on := 9, ground := Ground.chain }, { on := 0, ground := Ground.phase }, { on := 1, ground := Ground.phase }, { on := 2, ground := Ground.phase }, { on := 3, ground := Ground.phase }, { on := 4, ground := Ground.phase }, { on := 5, ground := Ground.phase }, { on := 6, ground := Ground.phase }, { on := 7, ground := Ground.phase }, { on := 8, ground := Ground.phase }, { on := 9, ground := Ground.phase }, { on := 10, ground := Ground.phase }, { on := 11, ground := Ground.textOnly Departure.lateStores }], guard := none }
abbrev opKFlags223 : Oper := { dst := some 3, op := Op.assign (Operand.tmp 32), type := 4, pos := "packet.go:123", after := #[{ on := 11, ground := Ground.data }, { on := 12, ground := Ground.chain }, { on := 0, ground := Ground.phase }, { on := 1, ground := Ground.phase }, { on := 2, ground := Ground.phase }, { on := 3, ground := Ground.phase }, { on := 4, ground := Ground.phase }, { on := 5, ground := Ground.phase }, { on := 6, ground := Ground.phase }, { on := 7, ground := Ground.phase }, { on := 8, ground := Ground.phase }, { on := 9, ground := Ground.phase }, { on := 10, ground := Ground.phase }, { on := 11, ground := Ground.phase }, { on := 12, ground := Ground.phase }], guard := none }

/-- a flag's worth -/
def fv (b : Bool) (n : Int) : Int := if b then n else 0
theorem flag_is (b : Bool) (n : Int) (w : World) : Calls Tryz.prog 85 #[.bool b, .int .i64 n] w fun e w' => e = .returned (.int .i64 (fv b n)) ∧ w' = w := flag_any b n w
theorem mayQoS_is (n : Int) (b : Bool) (h : mq n = b) (w : World) : Calls Tryz.prog 84 #[.int .i64 n] w fun e w' => e = .returned (.bool b) ∧ w' = w := by
  subst h
  exact mayQoS_any n w
theorem kbelow_drew (w : World) : Below w.heap.size w w.drew := below_drewN (Below.refl _ _) 1
set_option maxHeartbeats 2000000 in
theorem flagsOf_other (p : Pkv) (w : World) (h3 : p.kind ≠ 3) (h6 : p.kind ≠ 6) (h8 : p.kind ≠ 8) (h10 : p.kind ≠ 10) : Calls Tryz.prog 54 #[p.val] w fun e w' => e = .returned (.tuple #[.int .i64 0, .bool (decide (1 ≤ p.kind) && decide (p.kind ≤ 15))]) ∧ Below w.heap.size w w' := by
  obtain ⟨kind, dup, qos, retain, topic, id, payload, ⟨a1, n1, c1⟩, client, clean, keep, ⟨a2, n2, c2⟩, ⟨a3, n3, c3⟩, ⟨a4, n4, c4⟩, code, session, ⟨a5, n5, c5⟩, ⟨a6, n6, c6⟩, ⟨a7, n7, c7⟩⟩ := p
  simp only at h3 h6 h8 h10
  by_cases h1 : 1 ≤ kind
  · by_cases h15 : kind ≤ 15
    · have b2 : decide (kind ≤ 15) = true := by simpa using h15
      go_enter Tryz.func54, Tryz.ntmps54
      go_wp2_with fail
      refine wp_region_noPanic ?_
      refine wp_region_held_drew (S := (fun w' => w'.cell? ⟨w.heap.size, 0, none⟩ = some (.int .i64 kind))) (by kernel_rfl) (by simp) (fun hHeld => ?_)
      refine wpAnyH_take (i := 0) (oi := opKFlags20) (v := ?v1) rfl (by kernel_rfl) (by kernel_rfl) (by kernel_rfl) (fun _ _ _ h => h) (Or.inl ⟨by rfl, ?hy1⟩) (by assumption) ?rest1
      case hy1 => (intro w hSw; (try dsimp only at hSw); go_simp; (try rw [if_pos (by omega)]); (try with_reducible rfl))
      simp only [Act.put, List.setIfInBounds_toArray, List.set_cons_zero, List.set_cons_succ]
      refine wpAnyH_take (i := 1) (oi := opKFlags21) (v := ?v2) rfl (by kernel_rfl) (by kernel_rfl) (by kernel_rfl) (fun _ _ _ h => h) (Or.inl ⟨by rfl, ?hy2⟩) (by assumption) ?rest2
      case hy2 => (intro w hSw; (try dsimp only at hSw); go_simp; (try rw [if_pos (by omega)]); (try with_reducible rfl))
      simp only [Act.put, List.setIfInBounds_toArray, List.set_cons_zero, List.set_cons_succ]
      refine wpAnyH_take (i := 2) (oi := opKFlags22) (v := ?v3) rfl (by kernel_rfl) (by kernel_rfl) (by kernel_rfl) (fun _ _ _ h => h) (Or.inl ⟨by rfl, ?hy3⟩) (by assumption) ?rest3
      case hy3 => (intro w hSw; (try dsimp only at hSw); go_simp; (try rw [if_pos (by omega)]); (try with_reducible rfl))
      simp only [Act.put, List.setIfInBounds_toArray, List.set_cons_zero, List.set_cons_succ]
      refine wpAnyH_take (i := 3) (oi := opKFlags23) (v := ?v4) rfl (by kernel_rfl) (by kernel_rfl) (by kernel_rfl) (fun _ _ _ h => h) (Or.inl ⟨by rfl, ?hy4⟩) (by assumption) ?rest4
      case hy4 => (intro w hSw; (try dsimp only at hSw); go_simp; (try rw [if_pos (by omega)]); (try with_reducible rfl))
      simp only [Act.put, List.setIfInBounds_toArray, List.set_cons_zero, List.set_cons_succ]
      refine wpAnyH_take (i := 4) (oi := opKFlags24) (v := ?v5) rfl (by kernel_rfl) (by kernel_rfl) (by kernel_rfl) (fun _ _ _ h => h) (Or.inl ⟨by rfl, ?hy5⟩) (by assumption) ?rest5
      case hy5 => (intro w hSw; (try dsimp only at hSw); go_simp; (try rw [if_pos (by omega)]); (try with_reducible rfl))
      simp only [Act.put, List.setIfInBounds_toArray, List.set_cons_zero, List.set_cons_succ]
      refine wpAnyH_take (i := 5) (oi := opKFlags25) (v := ?v6) rfl (by kernel_rfl) (by kernel_rfl) (by kernel_rfl) (fun _ _ _ h => h) (Or.inl ⟨by rfl, ?hy6⟩) (by assumption) ?rest6
      case hy6 => (intro w hSw; (try dsimp only at hSw); go_simp; (try rw [if_pos (by omega)]); (try with_reducible rfl))
      simp only [Act.put, List.setIfInBounds_toArray, List.set_cons_zero, List.set_cons_succ]
      refine wpAnyH_take (i := 6) (oi := opKFlags26) (v := ?v7) rfl (by kernel_rfl) (by kernel_rfl) (by kernel_rfl) (fun _ _ _ h => h) (Or.inl ⟨by rfl, ?hy7⟩) (by assumption) ?rest7
      case hy7 => (intro w hSw; (try dsimp only at hSw); go_simp; (try rw [if_pos (by omega)]); (try with_reducible rfl))
      simp only [Act.put, List.setIfInBounds_toArray, List.set_cons_zero, List.set_cons_succ]
      refine wpAnyH_take (i := 7) (oi := opKFlags27) (v := ?v8) rfl (by kernel_rfl) (by kernel_rfl) (by kernel_rfl) (fun _ _ _ h => h) (Or.inl ⟨by rfl, ?hy8⟩) (by assumption) ?rest8
      case hy8 => (intro w hSw; (try dsimp only at hSw); go_simp; (try rw [if_pos (by omega)]); (try with_reducible rfl))
      simp only [Act.put, List.setIfInBounds_toArray, List.set_cons_zero, List.set_cons_succ]
      refine wpAnyH_ready (rs := [8]) (by kernel_rfl) (by simp) ?_
      refine AllReadyH.cons (o := opKFlags28) rfl (fun K hK => ?_) AllReadyH.nil
      go_simp
      refine hK.out _ _ (by simp) (fun hHeld => ?_)
      clear hK K
      refine wpAnyH_ready (rs := [9]) (by kernel_rfl) (by simp) ?_
      refine AllReadyH.cons (o := opKFlags29) rfl (fun K hK => ?_) AllReadyH.nil
      go_simp
      refine hK.out _ _ (by simp) (fun hHeld => ?_)
      clear hK K
      refine wpAnyH_done (by kernel_rfl) ?_ _
      refine NoPanic.normal ?_
      go_wp2
      go_returns
      exact ⟨by simp [h1, h15], by go_grown⟩
    · have b2 : decide (kind ≤ 15) = false := by simpa using h15
      go_enter Tryz.func54, Tryz.ntmps54
      go_wp2_with fail
      refine wp_region_noPanic ?_
      refine wp_region_held_drew (S := (fun w' => w'.cell? ⟨w.heap.size, 0, none⟩ = some (.int .i64 kind))) (by kernel_rfl) (by simp) (fun hHeld => ?_)
      refine wpAnyH_take (i := 0) (oi := opKFlags20) (v := ?v9) rfl (by kernel_rfl) (by kernel_rfl) (by kernel_rfl) (fun _ _ _ h => h) (Or.inl ⟨by rfl, ?hy9⟩) (by assumption) ?rest9
      case hy9 => (intro w hSw; (try dsimp only at hSw); go_simp; (try rw [if_pos (by omega)]); (try with_reducible rfl))
      simp only [Act.put, List.setIfInBounds_toArray, List.set_cons_zero, List.set_cons_succ]
      refine wpAnyH_take (i := 1) (oi := opKFlags21) (v := ?v10) rfl (by kernel_rfl) (by kernel_rfl) (by kernel_rfl) (fun _ _ _ h => h) (Or.inl ⟨by rfl, ?hy10⟩) (by assumption) ?rest10
      case hy10 => (intro w hSw; (try dsimp only at hSw); go_simp; (try rw [if_pos (by omega)]); (try with_reducible rfl))
      simp only [Act.put, List.setIfInBounds_toArray, List.set_cons_zero, List.set_cons_succ]
      refine wpAnyH_take (i := 2) (oi := opKFlags22) (v := ?v11) rfl (by kernel_rfl) (by kernel_rfl) (by kernel_rfl) (fun _ _ _ h => h) (Or.inl ⟨by rfl, ?hy11⟩) (by assumption) ?rest11
      case hy11 => (intro w hSw; (try dsimp only at hSw); go_simp; (try rw [if_pos (by omega)]); (try with_reducible rfl))
      simp only [Act.put, List.setIfInBounds_toArray, List.set_cons_zero, List.set_cons_succ]
      refine wpAnyH_take (i := 3) (oi := opKFlags23) (v := ?v12) rfl (by kernel_rfl) (by kernel_rfl) (by kernel_rfl) (fun _ _ _ h => h) (Or.inl ⟨by rfl, ?hy12⟩) (by assumption) ?rest12
      case hy12 => (intro w hSw; (try dsimp only at hSw); go_simp; (try rw [if_pos (by omega)]); (try with_reducible rfl))
      simp only [Act.put, List.setIfInBounds_toArray, List.set_cons_zero, List.set_cons_succ]
      refine wpAnyH_take (i := 4) (oi := opKFlags24) (v := ?v13) rfl (by kernel_rfl) (by kernel_rfl) (by kernel_rfl) (fun _ _ _ h => h) (Or.inl ⟨by rfl, ?hy13⟩) (by assumption) ?rest13
      case hy13 => (intro w hSw; (try dsimp only at hSw); go_simp; (try rw [if_pos (by omega)]); (try with_reducible rfl))
      simp only [Act.put, List.setIfInBounds_toArray, List.set_cons_zero, List.set_cons_succ]
      refine wpAnyH_take (i := 5) (oi := opKFlags25) (v := ?v14) rfl (by kernel_rfl) (by kernel_rfl) (by kernel_rfl) (fun _ _ _ h => h) (Or.inl ⟨by rfl, ?hy14⟩) (by assumption) ?rest14
      case hy14 => (intro w hSw; (try dsimp only at hSw); go_simp; (try rw [if_pos (by omega)]); (try with_reducible rfl))
      simp only [Act.put, List.setIfInBounds_toArray, List.set_cons_zero, List.set_cons_succ]
      refine wpAnyH_take (i := 6) (oi := opKFlags26) (v := ?v15) rfl (by kernel_rfl) (by kernel_rfl) (by kernel_rfl) (fun _ _ _ h => h) (Or.inl ⟨by rfl, ?hy15⟩) (by assumption) ?rest15
      case hy15 => (intro w hSw; (try dsimp only at hSw); go_simp; (try rw [if_pos (by omega)]); (try with_reducible rfl))
      simp only [Act.put, List.setIfInBounds_toArray, List.set_cons_zero, List.set_cons_succ]
      refine wpAnyH_take (i := 7) (oi := opKFlags27) (v := ?v16) rfl (by kernel_rfl) (by kernel_rfl) (by kernel_rfl) (fun _ _ _ h => h) (Or.inl ⟨by rfl, ?hy16⟩) (by assumption) ?rest16
      case hy16 => (intro w hSw; (try dsimp only at hSw); go_simp; (try rw [if_pos (by omega)]); (try with_reducible rfl))
      simp only [Act.put, List.setIfInBounds_toArray, List.set_cons_zero, List.set_cons_succ]
      refine wpAnyH_ready (rs := [8]) (by kernel_rfl) (by simp) ?_
      refine AllReadyH.cons (o := opKFlags28) rfl (fun K hK => ?_) AllReadyH.nil
      go_simp
      refine hK.out _ _ (by simp) (fun hHeld => ?_)
      clear hK K
      refine wpAnyH_ready (rs := [9]) (by kernel_rfl) (by simp) ?_
      refine AllReadyH.cons (o := opKFlags29) rfl (fun K hK => ?_) AllReadyH.nil
      go_simp
      refine hK.out _ _ (by simp) (fun hHeld => ?_)
      clear hK K
      refine wpAnyH_done (by kernel_rfl) ?_ _
      refine NoPanic.normal ?_
      go_wp2
      go_returns
      exact ⟨by simp [h1, h15], by go_grown⟩
  · have b1 : decide (1 ≤ kind) = false := by simpa using h1
    have b0 : decide (kind ≥ 1) = false := by simpa using h1
    go_enter Tryz.func54, Tryz.ntmps54
    go_wp2_with fail
    refine wp_region_noPanic ?_
    refine wp_region_held_drew (S := (fun w' => w'.cell? ⟨w.heap.size, 0, none⟩ = some (.int .i64 kind))) (by kernel_rfl) (by simp) (fun hHeld => ?_)
    refine wpAnyH_take (i := 0) (oi := opKFlags20) (v := ?v17) rfl (by kernel_rfl) (by kernel_rfl) (by kernel_rfl) (fun _ _ _ h => h) (Or.inl ⟨by rfl, ?hy17⟩) (by assumption) ?rest17
    case hy17 => (intro w hSw; (try dsimp only at hSw); go_simp; (try rw [if_pos (by omega)]); (try with_reducible rfl))
    simp only [Act.put, List.setIfInBounds_toArray, List.set_cons_zero, List.set_cons_succ]
    refine wpAnyH_take (i := 1) (oi := opKFlags21) (v := ?v18) rfl (by kernel_rfl) (by kernel_rfl) (by kernel_rfl) (fun _ _ _ h => h) (Or.inl ⟨by rfl, ?hy18⟩) (by assumption) ?rest18
    case hy18 => (intro w hSw; (try dsimp only at hSw); go_simp; (try rw [if_pos (by omega)]); (try with_reducible rfl))
    simp only [Act.put, List.setIfInBounds_toArray, List.set_cons_zero, List.set_cons_succ]
    refine wpAnyH_take (i := 2) (oi := opKFlags22) (v := ?v19) rfl (by kernel_rfl) (by kernel_rfl) (by kernel_rfl) (fun _ _ _ h => h) (Or.inl ⟨by rfl, ?hy19⟩) (by assumption) ?rest19
    case hy19 => (intro w hSw; (try dsimp only at hSw); go_simp; (try rw [if_pos (by omega)]); (try with_reducible rfl))
    simp only [Act.put, List.setIfInBounds_toArray, List.set_cons_zero, List.set_cons_succ]
    refine wpAnyH_take (i := 3) (oi := opKFlags23) (v := ?v20) rfl (by kernel_rfl) (by kernel_rfl) (by kernel_rfl) (fun _ _ _ h => h) (Or.inl ⟨by rfl, ?hy20⟩) (by assumption) ?rest20
    case hy20 => (intro w hSw; (try dsimp only at hSw); go_simp; (try rw [if_pos (by omega)]); (try with_reducible rfl))
    simp only [Act.put, List.setIfInBounds_toArray, List.set_cons_zero, List.set_cons_succ]
    refine wpAnyH_take (i := 4) (oi := opKFlags24) (v := undef) rfl (by kernel_rfl) (by kernel_rfl) (by kernel_rfl) (fun _ _ _ h => h) (Or.inr ⟨by rfl, rfl⟩) (by assumption) ?_
    simp only [Act.put, List.setIfInBounds_toArray, List.set_cons_zero, List.set_cons_succ]
    refine wpAnyH_take (i := 5) (oi := opKFlags25) (v := undef) rfl (by kernel_rfl) (by kernel_rfl) (by kernel_rfl) (fun _ _ _ h => h) (Or.inr ⟨by rfl, rfl⟩) (by assumption) ?_
    simp only [Act.put, List.setIfInBounds_toArray, List.set_cons_zero, List.set_cons_succ]
    refine wpAnyH_take (i := 6) (oi := opKFlags26) (v := undef) rfl (by kernel_rfl) (by kernel_rfl) (by kernel_rfl) (fun _ _ _ h => h) (Or.inr ⟨by rfl, rfl⟩) (by assumption) ?_
    simp only [Act.put, List.setIfInBounds_toArray, List.set_cons_zero, List.set_cons_succ]
    refine wpAnyH_take (i := 7) (oi := opKFlags27) (v := ?v21) rfl (by kernel_rfl) (by kernel_rfl) (by kernel_rfl) (fun _ _ _ h => h) (Or.inl ⟨by rfl, ?hy21⟩) (by assumption) ?rest21
    case hy21 => (intro w hSw; (try dsimp only at hSw); go_simp; (try rw [if_pos (by omega)]); (try with_reducible rfl))
    simp only [Act.put, List.setIfInBounds_toArray, List.set_cons_zero, List.set_cons_succ]
    refine wpAnyH_ready (rs := [8]) (by kernel_rfl) (by simp) ?_
    refine AllReadyH.cons (o := opKFlags28) rfl (fun K hK => ?_) AllReadyH.nil
    go_simp
    refine hK.out _ _ (by simp) (fun hHeld => ?_)
    clear hK K
    refine wpAnyH_ready (rs := [9]) (by kernel_rfl) (by simp) ?_
    refine AllReadyH.cons (o := opKFlags29) rfl (fun K hK => ?_) AllReadyH.nil
    go_simp
    refine hK.out _ _ (by simp) (fun hHeld => ?_)
    clear hK K
    refine wpAnyH_done (by kernel_rfl) ?_ _
    refine NoPanic.normal ?_
    go_wp2
    go_returns
    exact ⟨by simp [b1], by go_grown⟩
/-- a Publish's flags -/
def pfl (dup : Bool) (qos : Int) (retain : Bool) : Int := bits .or .i64 (bits .or .i64 (fv dup 8) (IntKind.i64.wrap (qos * 2))) (fv retain 1)
def pok (dup : Bool) (qos : Int) : Bool := mq qos && (decide (0 < qos) || !dup)
set_option maxHeartbeats 2000000 in
theorem flagsOf_pub (p : Pkv) (w : World) (h3 : p.kind = 3) : Calls Tryz.prog 54 #[p.val] w fun e w' => e = .returned (.tuple #[.int .i64 (pfl p.dup p.qos p.retain), .bool (pok p.dup p.qos)]) ∧ Below w.heap.size w w' := by
  obtain ⟨kind, dup, qos, retain, topic, id, payload, ⟨a1, n1, c1⟩, client, clean, keep, ⟨a2, n2, c2⟩, ⟨a3, n3, c3⟩, ⟨a4, n4, c4⟩, code, session, ⟨a5, n5, c5⟩, ⟨a6, n6, c6⟩, ⟨a7, n7, c7⟩⟩ := p
  simp only at h3
  subst h3
  by_cases hq : 0 < qos
  · cases hm : mq qos
    · cases dup
      · go_enter Tryz.func54, Tryz.ntmps54
        go_wp2_with fail
        refine (mayQoS_is qos _ hm _).mono ?_
        rintro e w1 ⟨rfl, hw1⟩
        obtain rfl := hw1.symm
        clear hw1
        go_wp2_with fail
        refine wp_region_noPanic ?_
        refine wp_region_held_drew (S := (fun w' => w'.cell? ⟨w.heap.size, 1, none⟩ = some (.bool false) ∧ w'.cell? ⟨w.heap.size, 2, none⟩ = some (.int .i64 qos) ∧ w'.cell? ⟨w.heap.size, 3, none⟩ = some (.bool retain))) (by kernel_rfl) (by simp) (fun hHeld => ?_)
        refine wpAnyH_take (i := 0) (oi := opKFlags210) (v := ?v22) rfl (by kernel_rfl) (by kernel_rfl) (by kernel_rfl) (fun _ _ _ h => h) (Or.inl ⟨by rfl, ?hy22⟩) (by assumption) ?rest22
        case hy22 => (intro w hSw; (try dsimp only at hSw); go_simp; (try rw [if_pos (by omega)]); (try with_reducible rfl))
        simp only [Act.put, List.setIfInBounds_toArray, List.set_cons_zero, List.set_cons_succ]
        refine wpAnyH_take (i := 1) (oi := opKFlags211) (v := ?v23) rfl (by kernel_rfl) (by kernel_rfl) (by kernel_rfl) (fun _ _ _ h => h) (Or.inl ⟨by rfl, ?hy23⟩) (by assumption) ?rest23
        case hy23 => (intro w hSw; (try dsimp only at hSw); go_simp; (try rw [if_pos (by omega)]); (try with_reducible rfl))
        simp only [Act.put, List.setIfInBounds_toArray, List.set_cons_zero, List.set_cons_succ]
        refine wpAnyH_take (i := 3) (oi := opKFlags212) (v := ?v24) rfl (by kernel_rfl) (by kernel_rfl) (by kernel_rfl) (fun _ _ _ h => h) (Or.inl ⟨by rfl, ?hy24⟩) (by assumption) ?rest24
        case hy24 => (intro w hSw; (try dsimp only at hSw); go_simp; (try rw [if_pos (by omega)]); (try with_reducible rfl))
        simp only [Act.put, List.setIfInBounds_toArray, List.set_cons_zero, List.set_cons_succ]
        refine wpAnyH_take (i := 4) (oi := opKFlags213) (v := ?v25) rfl (by kernel_rfl) (by kernel_rfl) (by kernel_rfl) (fun _ _ _ h => h) (Or.inl ⟨by rfl, ?hy25⟩) (by assumption) ?rest25
        case hy25 => (intro w hSw; (try dsimp only at hSw); go_simp; (try rw [if_pos (by omega)]); (try with_reducible rfl))
        simp only [Act.put, List.setIfInBounds_toArray, List.set_cons_zero, List.set_cons_succ]
        refine wpAnyH_take (i := 5) (oi := opKFlags214) (v := ?v26) rfl (by kernel_rfl) (by kernel_rfl) (by kernel_rfl) (fun _ _ _ h => h) (Or.inl ⟨by rfl, ?hy26⟩) (by assumption) ?rest26
        case hy26 => (intro w hSw; (try dsimp only at hSw); go_simp; (try rw [if_pos (by omega)]); (try with_reducible rfl))
        simp only [Act.put, List.setIfInBounds_toArray, List.set_cons_zero, List.set_cons_succ]
        refine wpAnyH_take (i := 7) (oi := opKFlags215) (v := ?v27) rfl (by kernel_rfl) (by kernel_rfl) (by kernel_rfl) (fun _ _ _ h => h) (Or.inl ⟨by rfl, ?hy27⟩) (by assumption) ?rest27
        case hy27 => (intro w hSw; (try dsimp only at hSw); go_simp; (try rw [if_pos (by omega)]); (try with_reducible rfl))
        simp only [Act.put, List.setIfInBounds_toArray, List.set_cons_zero, List.set_cons_succ]
        refine wpAnyH_take (i := 8) (oi := opKFlags216) (v := ?v28) rfl (by kernel_rfl) (by kernel_rfl) (by kernel_rfl) (fun _ _ _ h => h) (Or.inl ⟨by rfl, ?hy28⟩) (by assumption) ?rest28
        case hy28 => (intro w hSw; (try dsimp only at hSw); go_simp; (try rw [if_pos (by omega)]); (try with_reducible rfl))
        simp only [Act.put, List.setIfInBounds_toArray, List.set_cons_zero, List.set_cons_succ]
        refine wpAnyH_take (i := 11) (oi := opKFlags217) (v := ?v29) rfl (by kernel_rfl) (by kernel_rfl) (by kernel_rfl) (fun _ _ _ h => h) (Or.inl ⟨by rfl, ?hy29⟩) (by assumption) ?rest29
        case hy29 => (intro w hSw; (try dsimp only at hSw); go_simp; (try rw [if_pos (by omega)]); (try with_reducible rfl))
        simp only [Act.put, List.setIfInBounds_toArray, List.set_cons_zero, List.set_cons_succ]
        refine wpAnyH_ready (rs := [2]) (by kernel_rfl) (by simp) ?_
        refine AllReadyH.cons (o := opKFlags218) rfl (fun K hK => ?_) AllReadyH.nil
        go_simp
        refine (flag_is _ _ _).mono ?_
        rintro e w2 ⟨rfl, hw2⟩
        obtain rfl := hw2.symm
        clear hw2
        refine hK.out _ _ (by simp) (fun hHeld => ?_)
        clear hK K
        refine wpAnyH_take (i := 6) (oi := opKFlags219) (v := ?v30) rfl (by kernel_rfl) (by kernel_rfl) (by kernel_rfl) (fun _ _ _ h => h) (Or.inl ⟨by rfl, ?hy30⟩) (by assumption) ?rest30
        case hy30 => (intro w hSw; (try dsimp only at hSw); go_simp; (try rw [if_pos (by omega)]); (try with_reducible rfl))
        simp only [Act.put, List.setIfInBounds_toArray, List.set_cons_zero, List.set_cons_succ]
        refine wpAnyH_ready (rs := [9]) (by kernel_rfl) (by simp) ?_
        refine AllReadyH.cons (o := opKFlags220) rfl (fun K hK => ?_) AllReadyH.nil
        go_simp
        refine (flag_is _ _ _).mono ?_
        rintro e w2 ⟨rfl, hw2⟩
        obtain rfl := hw2.symm
        clear hw2
        refine hK.out _ _ (by simp) (fun hHeld => ?_)
        clear hK K
        refine wpAnyH_take (i := 10) (oi := opKFlags221) (v := ?v31) rfl (by kernel_rfl) (by kernel_rfl) (by kernel_rfl) (fun _ _ _ h => h) (Or.inl ⟨by rfl, ?hy31⟩) (by assumption) ?rest31
        case hy31 => (intro w hSw; (try dsimp only at hSw); go_simp; (try rw [if_pos (by omega)]); (try with_reducible rfl))
        simp only [Act.put, List.setIfInBounds_toArray, List.set_cons_zero, List.set_cons_succ]
        refine wpAnyH_ready (rs := [12]) (by kernel_rfl) (by simp) ?_
        refine AllReadyH.cons (o := opKFlags222) rfl (fun K hK => ?_) AllReadyH.nil
        go_simp
        refine hK.out _ _ (by simp) (fun hHeld => ?_)
        clear hK K
        refine wpAnyH_ready (rs := [13]) (by kernel_rfl) (by simp) ?_
        refine AllReadyH.cons (o := opKFlags223) rfl (fun K hK => ?_) AllReadyH.nil
        go_simp
        refine hK.out _ _ (by simp) (fun hHeld => ?_)
        clear hK K
        refine wpAnyH_done (by kernel_rfl) ?_ _
        refine NoPanic.normal ?_
        go_wp2
        go_returns
        exact ⟨by first | (simp [pok, pfl, hm]; done) | simp [pok, pfl, hm, hq], by go_grown⟩
      · go_enter Tryz.func54, Tryz.ntmps54
        go_wp2_with fail
        refine (mayQoS_is qos _ hm _).mono ?_
        rintro e w1 ⟨rfl, hw1⟩
        obtain rfl := hw1.symm
        clear hw1
        go_wp2_with fail
        refine wp_region_noPanic ?_
        refine wp_region_held_drew (S := (fun w' => w'.cell? ⟨w.heap.size, 1, none⟩ = some (.bool true) ∧ w'.cell? ⟨w.heap.size, 2, none⟩ = some (.int .i64 qos) ∧ w'.cell? ⟨w.heap.size, 3, none⟩ = some (.bool retain))) (by kernel_rfl) (by simp) (fun hHeld => ?_)
        refine wpAnyH_take (i := 0) (oi := opKFlags210) (v := ?v32) rfl (by kernel_rfl) (by kernel_rfl) (by kernel_rfl) (fun _ _ _ h => h) (Or.inl ⟨by rfl, ?hy32⟩) (by assumption) ?rest32
        case hy32 => (intro w hSw; (try dsimp only at hSw); go_simp; (try rw [if_pos (by omega)]); (try with_reducible rfl))
        simp only [Act.put, List.setIfInBounds_toArray, List.set_cons_zero, List.set_cons_succ]
        refine wpAnyH_take (i := 1) (oi := opKFlags211) (v := ?v33) rfl (by kernel_rfl) (by kernel_rfl) (by kernel_rfl) (fun _ _ _ h => h) (Or.inl ⟨by rfl, ?hy33⟩) (by assumption) ?rest33
        case hy33 => (intro w hSw; (try dsimp only at hSw); go_simp; (try rw [if_pos (by omega)]); (try with_reducible rfl))
        simp only [Act.put, List.setIfInBounds_toArray, List.set_cons_zero, List.set_cons_succ]
        refine wpAnyH_take (i := 3) (oi := opKFlags212) (v := ?v34) rfl (by kernel_rfl) (by kernel_rfl) (by kernel_rfl) (fun _ _ _ h => h) (Or.inl ⟨by rfl, ?hy34⟩) (by assumption) ?rest34
        case hy34 => (intro w hSw; (try dsimp only at hSw); go_simp; (try rw [if_pos (by omega)]); (try with_reducible rfl))
        simp only [Act.put, List.setIfInBounds_toArray, List.set_cons_zero, List.set_cons_succ]
        refine wpAnyH_take (i := 4) (oi := opKFlags213) (v := ?v35) rfl (by kernel_rfl) (by kernel_rfl) (by kernel_rfl) (fun _ _ _ h => h) (Or.inl ⟨by rfl, ?hy35⟩) (by assumption) ?rest35
        case hy35 => (intro w hSw; (try dsimp only at hSw); go_simp; (try rw [if_pos (by omega)]); (try with_reducible rfl))
        simp only [Act.put, List.setIfInBounds_toArray, List.set_cons_zero, List.set_cons_succ]
        refine wpAnyH_take (i := 5) (oi := opKFlags214) (v := ?v36) rfl (by kernel_rfl) (by kernel_rfl) (by kernel_rfl) (fun _ _ _ h => h) (Or.inl ⟨by rfl, ?hy36⟩) (by assumption) ?rest36
        case hy36 => (intro w hSw; (try dsimp only at hSw); go_simp; (try rw [if_pos (by omega)]); (try with_reducible rfl))
        simp only [Act.put, List.setIfInBounds_toArray, List.set_cons_zero, List.set_cons_succ]
        refine wpAnyH_take (i := 7) (oi := opKFlags215) (v := ?v37) rfl (by kernel_rfl) (by kernel_rfl) (by kernel_rfl) (fun _ _ _ h => h) (Or.inl ⟨by rfl, ?hy37⟩) (by assumption) ?rest37
        case hy37 => (intro w hSw; (try dsimp only at hSw); go_simp; (try rw [if_pos (by omega)]); (try with_reducible rfl))
        simp only [Act.put, List.setIfInBounds_toArray, List.set_cons_zero, List.set_cons_succ]
        refine wpAnyH_take (i := 8) (oi := opKFlags216) (v := ?v38) rfl (by kernel_rfl) (by kernel_rfl) (by kernel_rfl) (fun _ _ _ h => h) (Or.inl ⟨by rfl, ?hy38⟩) (by assumption) ?rest38
        case hy38 => (intro w hSw; (try dsimp only at hSw); go_simp; (try rw [if_pos (by omega)]); (try with_reducible rfl))
        simp only [Act.put, List.setIfInBounds_toArray, List.set_cons_zero, List.set_cons_succ]
        refine wpAnyH_take (i := 11) (oi := opKFlags217) (v := ?v39) rfl (by kernel_rfl) (by kernel_rfl) (by kernel_rfl) (fun _ _ _ h => h) (Or.inl ⟨by rfl, ?hy39⟩) (by assumption) ?rest39
        case hy39 => (intro w hSw; (try dsimp only at hSw); go_simp; (try rw [if_pos (by omega)]); (try with_reducible rfl))
        simp only [Act.put, List.setIfInBounds_toArray, List.set_cons_zero, List.set_cons_succ]
        refine wpAnyH_ready (rs := [2]) (by kernel_rfl) (by simp) ?_
        refine AllReadyH.cons (o := opKFlags218) rfl (fun K hK => ?_) AllReadyH.nil
        go_simp
        refine (flag_is _ _ _).mono ?_
        rintro e w2 ⟨rfl, hw2⟩
        obtain rfl := hw2.symm
        clear hw2
        refine hK.out _ _ (by simp) (fun hHeld => ?_)
        clear hK K
        refine wpAnyH_take (i := 6) (oi := opKFlags219) (v := ?v40) rfl (by kernel_rfl) (by kernel_rfl) (by kernel_rfl) (fun _ _ _ h => h) (Or.inl ⟨by rfl, ?hy40⟩) (by assumption) ?rest40
        case hy40 => (intro w hSw; (try dsimp only at hSw); go_simp; (try rw [if_pos (by omega)]); (try with_reducible rfl))
        simp only [Act.put, List.setIfInBounds_toArray, List.set_cons_zero, List.set_cons_succ]
        refine wpAnyH_ready (rs := [9]) (by kernel_rfl) (by simp) ?_
        refine AllReadyH.cons (o := opKFlags220) rfl (fun K hK => ?_) AllReadyH.nil
        go_simp
        refine (flag_is _ _ _).mono ?_
        rintro e w2 ⟨rfl, hw2⟩
        obtain rfl := hw2.symm
        clear hw2
        refine hK.out _ _ (by simp) (fun hHeld => ?_)
        clear hK K
        refine wpAnyH_take (i := 10) (oi := opKFlags221) (v := ?v41) rfl (by kernel_rfl) (by kernel_rfl) (by kernel_rfl) (fun _ _ _ h => h) (Or.inl ⟨by rfl, ?hy41⟩) (by assumption) ?rest41
        case hy41 => (intro w hSw; (try dsimp only at hSw); go_simp; (try rw [if_pos (by omega)]); (try with_reducible rfl))
        simp only [Act.put, List.setIfInBounds_toArray, List.set_cons_zero, List.set_cons_succ]
        refine wpAnyH_ready (rs := [12]) (by kernel_rfl) (by simp) ?_
        refine AllReadyH.cons (o := opKFlags222) rfl (fun K hK => ?_) AllReadyH.nil
        go_simp
        refine hK.out _ _ (by simp) (fun hHeld => ?_)
        clear hK K
        refine wpAnyH_ready (rs := [13]) (by kernel_rfl) (by simp) ?_
        refine AllReadyH.cons (o := opKFlags223) rfl (fun K hK => ?_) AllReadyH.nil
        go_simp
        refine hK.out _ _ (by simp) (fun hHeld => ?_)
        clear hK K
        refine wpAnyH_done (by kernel_rfl) ?_ _
        refine NoPanic.normal ?_
        go_wp2
        go_returns
        exact ⟨by first | (simp [pok, pfl, hm]; done) | simp [pok, pfl, hm, hq], by go_grown⟩
    · cases dup
      · go_enter Tryz.func54, Tryz.ntmps54
        go_wp2_with fail
        refine (mayQoS_is qos _ hm _).mono ?_
        rintro e w1 ⟨rfl, hw1⟩
        obtain rfl := hw1.symm
        clear hw1
        go_wp2_with fail
        refine wp_region_noPanic ?_
        refine wp_region_held_drew (S := (fun w' => w'.cell? ⟨w.heap.size, 1, none⟩ = some (.bool false) ∧ w'.cell? ⟨w.heap.size, 2, none⟩ = some (.int .i64 qos) ∧ w'.cell? ⟨w.heap.size, 3, none⟩ = some (.bool retain))) (by kernel_rfl) (by simp) (fun hHeld => ?_)
        refine wpAnyH_take (i := 0) (oi := opKFlags210) (v := ?v42) rfl (by kernel_rfl) (by kernel_rfl) (by kernel_rfl) (fun _ _ _ h => h) (Or.inl ⟨by rfl, ?hy42⟩) (by assumption) ?rest42
        case hy42 => (intro w hSw; (try dsimp only at hSw); go_simp; (try rw [if_pos (by omega)]); (try with_reducible rfl))
        simp only [Act.put, List.setIfInBounds_toArray, List.set_cons_zero, List.set_cons_succ]
        refine wpAnyH_take (i := 1) (oi := opKFlags211) (v := ?v43) rfl (by kernel_rfl) (by kernel_rfl) (by kernel_rfl) (fun _ _ _ h => h) (Or.inl ⟨by rfl, ?hy43⟩) (by assumption) ?rest43
        case hy43 => (intro w hSw; (try dsimp only at hSw); go_simp; (try rw [if_pos (by omega)]); (try with_reducible rfl))
        simp only [Act.put, List.setIfInBounds_toArray, List.set_cons_zero, List.set_cons_succ]
        refine wpAnyH_take (i := 3) (oi := opKFlags212) (v := ?v44) rfl (by kernel_rfl) (by kernel_rfl) (by kernel_rfl) (fun _ _ _ h => h) (Or.inl ⟨by rfl, ?hy44⟩) (by assumption) ?rest44
        case hy44 => (intro w hSw; (try dsimp only at hSw); go_simp; (try rw [if_pos (by omega)]); (try with_reducible rfl))
        simp only [Act.put, List.setIfInBounds_toArray, List.set_cons_zero, List.set_cons_succ]
        refine wpAnyH_take (i := 4) (oi := opKFlags213) (v := ?v45) rfl (by kernel_rfl) (by kernel_rfl) (by kernel_rfl) (fun _ _ _ h => h) (Or.inl ⟨by rfl, ?hy45⟩) (by assumption) ?rest45
        case hy45 => (intro w hSw; (try dsimp only at hSw); go_simp; (try rw [if_pos (by omega)]); (try with_reducible rfl))
        simp only [Act.put, List.setIfInBounds_toArray, List.set_cons_zero, List.set_cons_succ]
        refine wpAnyH_take (i := 5) (oi := opKFlags214) (v := ?v46) rfl (by kernel_rfl) (by kernel_rfl) (by kernel_rfl) (fun _ _ _ h => h) (Or.inl ⟨by rfl, ?hy46⟩) (by assumption) ?rest46
        case hy46 => (intro w hSw; (try dsimp only at hSw); go_simp; (try rw [if_pos (by omega)]); (try with_reducible rfl))
        simp only [Act.put, List.setIfInBounds_toArray, List.set_cons_zero, List.set_cons_succ]
        refine wpAnyH_take (i := 7) (oi := opKFlags215) (v := ?v47) rfl (by kernel_rfl) (by kernel_rfl) (by kernel_rfl) (fun _ _ _ h => h) (Or.inl ⟨by rfl, ?hy47⟩) (by assumption) ?rest47
        case hy47 => (intro w hSw; (try dsimp only at hSw); go_simp; (try rw [if_pos (by omega)]); (try with_reducible rfl))
        simp only [Act.put, List.setIfInBounds_toArray, List.set_cons_zero, List.set_cons_succ]
        refine wpAnyH_take (i := 8) (oi := opKFlags216) (v := ?v48) rfl (by kernel_rfl) (by kernel_rfl) (by kernel_rfl) (fun _ _ _ h => h) (Or.inl ⟨by rfl, ?hy48⟩) (by assumption) ?rest48
        case hy48 => (intro w hSw; (try dsimp only at hSw); go_simp; (try rw [if_pos (by omega)]); (try with_reducible rfl))
        simp only [Act.put, List.setIfInBounds_toArray, List.set_cons_zero, List.set_cons_succ]
        refine wpAnyH_take (i := 11) (oi := opKFlags217) (v := ?v49) rfl (by kernel_rfl) (by kernel_rfl) (by kernel_rfl) (fun _ _ _ h => h) (Or.inl ⟨by rfl, ?hy49⟩) (by assumption) ?rest49
        case hy49 => (intro w hSw; (try dsimp only at hSw); go_simp; (try rw [if_pos (by omega)]); (try with_reducible rfl))
        simp only [Act.put, List.setIfInBounds_toArray, List.set_cons_zero, List.set_cons_succ]
        refine wpAnyH_ready (rs := [2]) (by kernel_rfl) (by simp) ?_
        refine AllReadyH.cons (o := opKFlags218) rfl (fun K hK => ?_) AllReadyH.nil
        go_simp
        refine (flag_is _ _ _).mono ?_
        rintro e w2 ⟨rfl, hw2⟩
        obtain rfl := hw2.symm
        clear hw2
        refine hK.out _ _ (by simp) (fun hHeld => ?_)
        clear hK K
        refine wpAnyH_take (i := 6) (oi := opKFlags219) (v := ?v50) rfl (by kernel_rfl) (by kernel_rfl) (by kernel_rfl) (fun _ _ _ h => h) (Or.inl ⟨by rfl, ?hy50⟩) (by assumption) ?rest50
        case hy50 => (intro w hSw; (try dsimp only at hSw); go_simp; (try rw [if_pos (by omega)]); (try with_reducible rfl))
        simp only [Act.put, List.setIfInBounds_toArray, List.set_cons_zero, List.set_cons_succ]
        refine wpAnyH_ready (rs := [9]) (by kernel_rfl) (by simp) ?_
        refine AllReadyH.cons (o := opKFlags220) rfl (fun K hK => ?_) AllReadyH.nil
        go_simp
        refine (flag_is _ _ _).mono ?_
        rintro e w2 ⟨rfl, hw2⟩
        obtain rfl := hw2.symm
        clear hw2
        refine hK.out _ _ (by simp) (fun hHeld => ?_)
        clear hK K
        refine wpAnyH_take (i := 10) (oi := opKFlags221) (v := ?v51) rfl (by kernel_rfl) (by kernel_rfl) (by kernel_rfl) (fun _ _ _ h => h) (Or.inl ⟨by rfl, ?hy51⟩) (by assumption) ?rest51
        case hy51 => (intro w hSw; (try dsimp only at hSw); go_simp; (try rw [if_pos (by omega)]); (try with_reducible rfl))
        simp only [Act.put, List.setIfInBounds_toArray, List.set_cons_zero, List.set_cons_succ]
        refine wpAnyH_ready (rs := [12]) (by kernel_rfl) (by simp) ?_
        refine AllReadyH.cons (o := opKFlags222) rfl (fun K hK => ?_) AllReadyH.nil
        go_simp
        refine hK.out _ _ (by simp) (fun hHeld => ?_)
        clear hK K
        refine wpAnyH_ready (rs := [13]) (by kernel_rfl) (by simp) ?_
        refine AllReadyH.cons (o := opKFlags223) rfl (fun K hK => ?_) AllReadyH.nil
        go_simp
        refine hK.out _ _ (by simp) (fun hHeld => ?_)
        clear hK K
        refine wpAnyH_done (by kernel_rfl) ?_ _
        refine NoPanic.normal ?_
        go_wp2
        go_returns
        exact ⟨by first | (simp [pok, pfl, hm]; done) | simp [pok, pfl, hm, hq], by go_grown⟩
      · go_enter Tryz.func54, Tryz.ntmps54
        go_wp2_with fail
        refine (mayQoS_is qos _ hm _).mono ?_
        rintro e w1 ⟨rfl, hw1⟩
        obtain rfl := hw1.symm
        clear hw1
        go_wp2_with fail
        refine wp_region_noPanic ?_
        refine wp_region_held_drew (S := (fun w' => w'.cell? ⟨w.heap.size, 1, none⟩ = some (.bool true) ∧ w'.cell? ⟨w.heap.size, 2, none⟩ = some (.int .i64 qos) ∧ w'.cell? ⟨w.heap.size, 3, none⟩ = some (.bool retain))) (by kernel_rfl) (by simp) (fun hHeld => ?_)
        refine wpAnyH_take (i := 0) (oi := opKFlags210) (v := ?v52) rfl (by kernel_rfl) (by kernel_rfl) (by kernel_rfl) (fun _ _ _ h => h) (Or.inl ⟨by rfl, ?hy52⟩) (by assumption) ?rest52
        case hy52 => (intro w hSw; (try dsimp only at hSw); go_simp; (try rw [if_pos (by omega)]); (try with_reducible rfl))
        simp only [Act.put, List.setIfInBounds_toArray, List.set_cons_zero, List.set_cons_succ]
        refine wpAnyH_take (i := 1) (oi := opKFlags211) (v := ?v53) rfl (by kernel_rfl) (by kernel_rfl) (by kernel_rfl) (fun _ _ _ h => h) (Or.inl ⟨by rfl, ?hy53⟩) (by assumption) ?rest53
        case hy53 => (intro w hSw; (try dsimp only at hSw); go_simp; (try rw [if_pos (by omega)]); (try with_reducible rfl))
        simp only [Act.put, List.setIfInBounds_toArray, List.set_cons_zero, List.set_cons_succ]
        refine wpAnyH_take (i := 3) (oi := opKFlags212) (v := ?v54) rfl (by kernel_rfl) (by kernel_rfl) (by kernel_rfl) (fun _ _ _ h => h) (Or.inl ⟨by rfl, ?hy54⟩) (by assumption) ?rest54
        case hy54 => (intro w hSw; (try dsimp only at hSw); go_simp; (try rw [if_pos (by omega)]); (try with_reducible rfl))
        simp only [Act.put, List.setIfInBounds_toArray, List.set_cons_zero, List.set_cons_succ]
        refine wpAnyH_take (i := 4) (oi := opKFlags213) (v := ?v55) rfl (by kernel_rfl) (by kernel_rfl) (by kernel_rfl) (fun _ _ _ h => h) (Or.inl ⟨by rfl, ?hy55⟩) (by assumption) ?rest55
        case hy55 => (intro w hSw; (try dsimp only at hSw); go_simp; (try rw [if_pos (by omega)]); (try with_reducible rfl))
        simp only [Act.put, List.setIfInBounds_toArray, List.set_cons_zero, List.set_cons_succ]
        refine wpAnyH_take (i := 5) (oi := opKFlags214) (v := ?v56) rfl (by kernel_rfl) (by kernel_rfl) (by kernel_rfl) (fun _ _ _ h => h) (Or.inl ⟨by rfl, ?hy56⟩) (by assumption) ?rest56
        case hy56 => (intro w hSw; (try dsimp only at hSw); go_simp; (try rw [if_pos (by omega)]); (try with_reducible rfl))
        simp only [Act.put, List.setIfInBounds_toArray, List.set_cons_zero, List.set_cons_succ]
        refine wpAnyH_take (i := 7) (oi := opKFlags215) (v := ?v57) rfl (by kernel_rfl) (by kernel_rfl) (by kernel_rfl) (fun _ _ _ h => h) (Or.inl ⟨by rfl, ?hy57⟩) (by assumption) ?rest57
        case hy57 => (intro w hSw; (try dsimp only at hSw); go_simp; (try rw [if_pos (by omega)]); (try with_reducible rfl))
        simp only [Act.put, List.setIfInBounds_toArray, List.set_cons_zero, List.set_cons_succ]
        refine wpAnyH_take (i := 8) (oi := opKFlags216) (v := ?v58) rfl (by kernel_rfl) (by kernel_rfl) (by kernel_rfl) (fun _ _ _ h => h) (Or.inl ⟨by rfl, ?hy58⟩) (by assumption) ?rest58
        case hy58 => (intro w hSw; (try dsimp only at hSw); go_simp; (try rw [if_pos (by omega)]); (try with_reducible rfl))
        simp only [Act.put, List.setIfInBounds_toArray, List.set_cons_zero, List.set_cons_succ]
        refine wpAnyH_take (i := 11) (oi := opKFlags217) (v := ?v59) rfl (by kernel_rfl) (by kernel_rfl) (by kernel_rfl) (fun _ _ _ h => h) (Or.inl ⟨by rfl, ?hy59⟩) (by assumption) ?rest59
        case hy59 => (intro w hSw; (try dsimp only at hSw); go_simp; (try rw [if_pos (by omega)]); (try with_reducible rfl))
        simp only [Act.put, List.setIfInBounds_toArray, List.set_cons_zero, List.set_cons_succ]
        refine wpAnyH_ready (rs := [2]) (by kernel_rfl) (by simp) ?_
        refine AllReadyH.cons (o := opKFlags218) rfl (fun K hK => ?_) AllReadyH.nil
        go_simp
        refine (flag_is _ _ _).mono ?_
        rintro e w2 ⟨rfl, hw2⟩
        obtain rfl := hw2.symm
        clear hw2
        refine hK.out _ _ (by simp) (fun hHeld => ?_)
        clear hK K
        refine wpAnyH_take (i := 6) (oi := opKFlags219) (v := ?v60) rfl (by kernel_rfl) (by kernel_rfl) (by kernel_rfl) (fun _ _ _ h => h) (Or.inl ⟨by rfl, ?hy60⟩) (by assumption) ?rest60
        case hy60 => (intro w hSw; (try dsimp only at hSw); go_simp; (try rw [if_pos (by omega)]); (try with_reducible rfl))
        simp only [Act.put, List.setIfInBounds_toArray, List.set_cons_zero, List.set_cons_succ]
        refine wpAnyH_ready (rs := [9]) (by kernel_rfl) (by simp) ?_
        refine AllReadyH.cons (o := opKFlags220) rfl (fun K hK => ?_) AllReadyH.nil
        go_simp
        refine (flag_is _ _ _).mono ?_
        rintro e w2 ⟨rfl, hw2⟩
        obtain rfl := hw2.symm
        clear hw2
        refine hK.out _ _ (by simp) (fun hHeld => ?_)
        clear hK K
        refine wpAnyH_take (i := 10) (oi := opKFlags221) (v := ?v61) rfl (by kernel_rfl) (by kernel_rfl) (by kernel_rfl) (fun _ _ _ h => h) (Or.inl ⟨by rfl, ?hy61⟩) (by assumption) ?rest61
        case hy61 => (intro w hSw; (try dsimp only at hSw); go_simp; (try rw [if_pos (by omega)]); (try with_reducible rfl))
        simp only [Act.put, List.setIfInBounds_toArray, List.set_cons_zero, List.set_cons_succ]
        refine wpAnyH_ready (rs := [12]) (by kernel_rfl) (by simp) ?_
        refine AllReadyH.cons (o := opKFlags222) rfl (fun K hK => ?_) AllReadyH.nil
        go_simp
        refine hK.out _ _ (by simp) (fun hHeld => ?_)
        clear hK K
        refine wpAnyH_ready (rs := [13]) (by kernel_rfl) (by simp) ?_
        refine AllReadyH.cons (o := opKFlags223) rfl (fun K hK => ?_) AllReadyH.nil
        go_simp
        refine hK.out _ _ (by simp) (fun hHeld => ?_)
        clear hK K
        refine wpAnyH_done (by kernel_rfl) ?_ _
        refine NoPanic.normal ?_
        go_wp2
        go_returns
        exact ⟨by first | (simp [pok, pfl, hm]; done) | simp [pok, pfl, hm, hq], by go_grown⟩
  · cases hm : mq qos
    · cases dup
      · go_enter Tryz.func54, Tryz.ntmps54
        go_wp2_with fail
        refine (mayQoS_is qos _ hm _).mono ?_
        rintro e w1 ⟨rfl, hw1⟩
        obtain rfl := hw1.symm
        clear hw1
        go_wp2_with fail
        refine wp_region_noPanic ?_
        refine wp_region_held_drew (S := (fun w' => w'.cell? ⟨w.heap.size, 1, none⟩ = some (.bool false) ∧ w'.cell? ⟨w.heap.size, 2, none⟩ = some (.int .i64 qos) ∧ w'.cell? ⟨w.heap.size, 3, none⟩ = some (.bool retain))) (by kernel_rfl) (by simp) (fun hHeld => ?_)
        refine wpAnyH_take (i := 0) (oi := opKFlags210) (v := ?v62) rfl (by kernel_rfl) (by kernel_rfl) (by kernel_rfl) (fun _ _ _ h => h) (Or.inl ⟨by rfl, ?hy62⟩) (by assumption) ?rest62
        case hy62 => (intro w hSw; (try dsimp only at hSw); go_simp; (try rw [if_pos (by omega)]); (try with_reducible rfl))
        simp only [Act.put, List.setIfInBounds_toArray, List.set_cons_zero, List.set_cons_succ]
        refine wpAnyH_take (i := 1) (oi := opKFlags211) (v := ?v63) rfl (by kernel_rfl) (by kernel_rfl) (by kernel_rfl) (fun _ _ _ h => h) (Or.inl ⟨by rfl, ?hy63⟩) (by assumption) ?rest63
        case hy63 => (intro w hSw; (try dsimp only at hSw); go_simp; (try rw [if_pos (by omega)]); (try with_reducible rfl))
        simp only [Act.put, List.setIfInBounds_toArray, List.set_cons_zero, List.set_cons_succ]
        refine wpAnyH_take (i := 3) (oi := opKFlags212) (v := ?v64) rfl (by kernel_rfl) (by kernel_rfl) (by kernel_rfl) (fun _ _ _ h => h) (Or.inl ⟨by rfl, ?hy64⟩) (by assumption) ?rest64
        case hy64 => (intro w hSw; (try dsimp only at hSw); go_simp; (try rw [if_pos (by omega)]); (try with_reducible rfl))
        simp only [Act.put, List.setIfInBounds_toArray, List.set_cons_zero, List.set_cons_succ]
        refine wpAnyH_take (i := 4) (oi := opKFlags213) (v := ?v65) rfl (by kernel_rfl) (by kernel_rfl) (by kernel_rfl) (fun _ _ _ h => h) (Or.inl ⟨by rfl, ?hy65⟩) (by assumption) ?rest65
        case hy65 => (intro w hSw; (try dsimp only at hSw); go_simp; (try rw [if_pos (by omega)]); (try with_reducible rfl))
        simp only [Act.put, List.setIfInBounds_toArray, List.set_cons_zero, List.set_cons_succ]
        refine wpAnyH_take (i := 5) (oi := opKFlags214) (v := ?v66) rfl (by kernel_rfl) (by kernel_rfl) (by kernel_rfl) (fun _ _ _ h => h) (Or.inl ⟨by rfl, ?hy66⟩) (by assumption) ?rest66
        case hy66 => (intro w hSw; (try dsimp only at hSw); go_simp; (try rw [if_pos (by omega)]); (try with_reducible rfl))
        simp only [Act.put, List.setIfInBounds_toArray, List.set_cons_zero, List.set_cons_succ]
        refine wpAnyH_take (i := 7) (oi := opKFlags215) (v := ?v67) rfl (by kernel_rfl) (by kernel_rfl) (by kernel_rfl) (fun _ _ _ h => h) (Or.inl ⟨by rfl, ?hy67⟩) (by assumption) ?rest67
        case hy67 => (intro w hSw; (try dsimp only at hSw); go_simp; (try rw [if_pos (by omega)]); (try with_reducible rfl))
        simp only [Act.put, List.setIfInBounds_toArray, List.set_cons_zero, List.set_cons_succ]
        refine wpAnyH_take (i := 8) (oi := opKFlags216) (v := ?v68) rfl (by kernel_rfl) (by kernel_rfl) (by kernel_rfl) (fun _ _ _ h => h) (Or.inl ⟨by rfl, ?hy68⟩) (by assumption) ?rest68
        case hy68 => (intro w hSw; (try dsimp only at hSw); go_simp; (try rw [if_pos (by omega)]); (try with_reducible rfl))
        simp only [Act.put, List.setIfInBounds_toArray, List.set_cons_zero, List.set_cons_succ]
        refine wpAnyH_take (i := 11) (oi := opKFlags217) (v := ?v69) rfl (by kernel_rfl) (by kernel_rfl) (by kernel_rfl) (fun _ _ _ h => h) (Or.inl ⟨by rfl, ?hy69⟩) (by assumption) ?rest69
        case hy69 => (intro w hSw; (try dsimp only at hSw); go_simp; (try rw [if_pos (by omega)]); (try with_reducible rfl))
        simp only [Act.put, List.setIfInBounds_toArray, List.set_cons_zero, List.set_cons_succ]
        refine wpAnyH_ready (rs := [2]) (by kernel_rfl) (by simp) ?_
        refine AllReadyH.cons (o := opKFlags218) rfl (fun K hK => ?_) AllReadyH.nil
        go_simp
        refine (flag_is _ _ _).mono ?_
        rintro e w2 ⟨rfl, hw2⟩
        obtain rfl := hw2.symm
        clear hw2
        refine hK.out _ _ (by simp) (fun hHeld => ?_)
        clear hK K
        refine wpAnyH_take (i := 6) (oi := opKFlags219) (v := ?v70) rfl (by kernel_rfl) (by kernel_rfl) (by kernel_rfl) (fun _ _ _ h => h) (Or.inl ⟨by rfl, ?hy70⟩) (by assumption) ?rest70
        case hy70 => (intro w hSw; (try dsimp only at hSw); go_simp; (try rw [if_pos (by omega)]); (try with_reducible rfl))
        simp only [Act.put, List.setIfInBounds_toArray, List.set_cons_zero, List.set_cons_succ]
        refine wpAnyH_ready (rs := [9]) (by kernel_rfl) (by simp) ?_
        refine AllReadyH.cons (o := opKFlags220) rfl (fun K hK => ?_) AllReadyH.nil
        go_simp
        refine (flag_is _ _ _).mono ?_
        rintro e w2 ⟨rfl, hw2⟩
        obtain rfl := hw2.symm
        clear hw2
        refine hK.out _ _ (by simp) (fun hHeld => ?_)
        clear hK K
        refine wpAnyH_take (i := 10) (oi := opKFlags221) (v := ?v71) rfl (by kernel_rfl) (by kernel_rfl) (by kernel_rfl) (fun _ _ _ h => h) (Or.inl ⟨by rfl, ?hy71⟩) (by assumption) ?rest71
        case hy71 => (intro w hSw; (try dsimp only at hSw); go_simp; (try rw [if_pos (by omega)]); (try with_reducible rfl))
        simp only [Act.put, List.setIfInBounds_toArray, List.set_cons_zero, List.set_cons_succ]
        refine wpAnyH_ready (rs := [12]) (by kernel_rfl) (by simp) ?_
        refine AllReadyH.cons (o := opKFlags222) rfl (fun K hK => ?_) AllReadyH.nil
        go_simp
        refine hK.out _ _ (by simp) (fun hHeld => ?_)
        clear hK K
        refine wpAnyH_ready (rs := [13]) (by kernel_rfl) (by simp) ?_
        refine AllReadyH.cons (o := opKFlags223) rfl (fun K hK => ?_) AllReadyH.nil
        go_simp
        refine hK.out _ _ (by simp) (fun hHeld => ?_)
        clear hK K
        refine wpAnyH_done (by kernel_rfl) ?_ _
        refine NoPanic.normal ?_
        go_wp2
        go_returns
        exact ⟨by first | (simp [pok, pfl, hm]; done) | simp [pok, pfl, hm, hq], by go_grown⟩
      · go_enter Tryz.func54, Tryz.ntmps54
        go_wp2_with fail
        refine (mayQoS_is qos _ hm _).mono ?_
        rintro e w1 ⟨rfl, hw1⟩
        obtain rfl := hw1.symm
        clear hw1
        go_wp2_with fail
        refine wp_region_noPanic ?_
        refine wp_region_held_drew (S := (fun w' => w'.cell? ⟨w.heap.size, 1, none⟩ = some (.bool true) ∧ w'.cell? ⟨w.heap.size, 2, none⟩ = some (.int .i64 qos) ∧ w'.cell? ⟨w.heap.size, 3, none⟩ = some (.bool retain))) (by kernel_rfl) (by simp) (fun hHeld => ?_)
        refine wpAnyH_take (i := 0) (oi := opKFlags210) (v := ?v72) rfl (by kernel_rfl) (by kernel_rfl) (by kernel_rfl) (fun _ _ _ h => h) (Or.inl ⟨by rfl, ?hy72⟩) (by assumption) ?rest72
        case hy72 => (intro w hSw; (try dsimp only at hSw); go_simp; (try rw [if_pos (by omega)]); (try with_reducible rfl))
        simp only [Act.put, List.setIfInBounds_toArray, List.set_cons_zero, List.set_cons_succ]
        refine wpAnyH_take (i := 1) (oi := opKFlags211) (v := ?v73) rfl (by kernel_rfl) (by kernel_rfl) (by kernel_rfl) (fun _ _ _ h => h) (Or.inl ⟨by rfl, ?hy73⟩) (by assumption) ?rest73
        case hy73 => (intro w hSw; (try dsimp only at hSw); go_simp; (try rw [if_pos (by omega)]); (try with_reducible rfl))
        simp only [Act.put, List.setIfInBounds_toArray, List.set_cons_zero, List.set_cons_succ]
        refine wpAnyH_take (i := 3) (oi := opKFlags212) (v := ?v74) rfl (by kernel_rfl) (by kernel_rfl) (by kernel_rfl) (fun _ _ _ h => h) (Or.inl ⟨by rfl, ?hy74⟩) (by assumption) ?rest74
        case hy74 => (intro w hSw; (try dsimp only at hSw); go_simp; (try rw [if_pos (by omega)]); (try with_reducible rfl))
        simp only [Act.put, List.setIfInBounds_toArray, List.set_cons_zero, List.set_cons_succ]
        refine wpAnyH_take (i := 4) (oi := opKFlags213) (v := ?v75) rfl (by kernel_rfl) (by kernel_rfl) (by kernel_rfl) (fun _ _ _ h => h) (Or.inl ⟨by rfl, ?hy75⟩) (by assumption) ?rest75
        case hy75 => (intro w hSw; (try dsimp only at hSw); go_simp; (try rw [if_pos (by omega)]); (try with_reducible rfl))
        simp only [Act.put, List.setIfInBounds_toArray, List.set_cons_zero, List.set_cons_succ]
        refine wpAnyH_take (i := 5) (oi := opKFlags214) (v := ?v76) rfl (by kernel_rfl) (by kernel_rfl) (by kernel_rfl) (fun _ _ _ h => h) (Or.inl ⟨by rfl, ?hy76⟩) (by assumption) ?rest76
        case hy76 => (intro w hSw; (try dsimp only at hSw); go_simp; (try rw [if_pos (by omega)]); (try with_reducible rfl))
        simp only [Act.put, List.setIfInBounds_toArray, List.set_cons_zero, List.set_cons_succ]
        refine wpAnyH_take (i := 7) (oi := opKFlags215) (v := ?v77) rfl (by kernel_rfl) (by kernel_rfl) (by kernel_rfl) (fun _ _ _ h => h) (Or.inl ⟨by rfl, ?hy77⟩) (by assumption) ?rest77
        case hy77 => (intro w hSw; (try dsimp only at hSw); go_simp; (try rw [if_pos (by omega)]); (try with_reducible rfl))
        simp only [Act.put, List.setIfInBounds_toArray, List.set_cons_zero, List.set_cons_succ]
        refine wpAnyH_take (i := 8) (oi := opKFlags216) (v := ?v78) rfl (by kernel_rfl) (by kernel_rfl) (by kernel_rfl) (fun _ _ _ h => h) (Or.inl ⟨by rfl, ?hy78⟩) (by assumption) ?rest78
        case hy78 => (intro w hSw; (try dsimp only at hSw); go_simp; (try rw [if_pos (by omega)]); (try with_reducible rfl))
        simp only [Act.put, List.setIfInBounds_toArray, List.set_cons_zero, List.set_cons_succ]
        refine wpAnyH_take (i := 11) (oi := opKFlags217) (v := ?v79) rfl (by kernel_rfl) (by kernel_rfl) (by kernel_rfl) (fun _ _ _ h => h) (Or.inl ⟨by rfl, ?hy79⟩) (by assumption) ?rest79
        case hy79 => (intro w hSw; (try dsimp only at hSw); go_simp; (try rw [if_pos (by omega)]); (try with_reducible rfl))
        simp only [Act.put, List.setIfInBounds_toArray, List.set_cons_zero, List.set_cons_succ]
        refine wpAnyH_ready (rs := [2]) (by kernel_rfl) (by simp) ?_
        refine AllReadyH.cons (o := opKFlags218) rfl (fun K hK => ?_) AllReadyH.nil
        go_simp
        refine (flag_is _ _ _).mono ?_
        rintro e w2 ⟨rfl, hw2⟩
        obtain rfl := hw2.symm
        clear hw2
        refine hK.out _ _ (by simp) (fun hHeld => ?_)
        clear hK K
        refine wpAnyH_take (i := 6) (oi := opKFlags219) (v := ?v80) rfl (by kernel_rfl) (by kernel_rfl) (by kernel_rfl) (fun _ _ _ h => h) (Or.inl ⟨by rfl, ?hy80⟩) (by assumption) ?rest80
        case hy80 => (intro w hSw; (try dsimp only at hSw); go_simp; (try rw [if_pos (by omega)]); (try with_reducible rfl))
        simp only [Act.put, List.setIfInBounds_toArray, List.set_cons_zero, List.set_cons_succ]
        refine wpAnyH_ready (rs := [9]) (by kernel_rfl) (by simp) ?_
        refine AllReadyH.cons (o := opKFlags220) rfl (fun K hK => ?_) AllReadyH.nil
        go_simp
        refine (flag_is _ _ _).mono ?_
        rintro e w2 ⟨rfl, hw2⟩
        obtain rfl := hw2.symm
        clear hw2
        refine hK.out _ _ (by simp) (fun hHeld => ?_)
        clear hK K
        refine wpAnyH_take (i := 10) (oi := opKFlags221) (v := ?v81) rfl (by kernel_rfl) (by kernel_rfl) (by kernel_rfl) (fun _ _ _ h => h) (Or.inl ⟨by rfl, ?hy81⟩) (by assumption) ?rest81
        case hy81 => (intro w hSw; (try dsimp only at hSw); go_simp; (try rw [if_pos (by omega)]); (try with_reducible rfl))
        simp only [Act.put, List.setIfInBounds_toArray, List.set_cons_zero, List.set_cons_succ]
        refine wpAnyH_ready (rs := [12]) (by kernel_rfl) (by simp) ?_
        refine AllReadyH.cons (o := opKFlags222) rfl (fun K hK => ?_) AllReadyH.nil
        go_simp
        refine hK.out _ _ (by simp) (fun hHeld => ?_)
        clear hK K
        refine wpAnyH_ready (rs := [13]) (by kernel_rfl) (by simp) ?_
        refine AllReadyH.cons (o := opKFlags223) rfl (fun K hK => ?_) AllReadyH.nil
        go_simp
        refine hK.out _ _ (by simp) (fun hHeld => ?_)
        clear hK K
        refine wpAnyH_done (by kernel_rfl) ?_ _
        refine NoPanic.normal ?_
        go_wp2
        go_returns
        exact ⟨by first | (simp [pok, pfl, hm]; done) | simp [pok, pfl, hm, hq], by go_grown⟩
    · cases dup
      · go_enter Tryz.func54, Tryz.ntmps54
        go_wp2_with fail
        refine (mayQoS_is qos _ hm _).mono ?_
        rintro e w1 ⟨rfl, hw1⟩
        obtain rfl := hw1.symm
        clear hw1
        go_wp2_with fail
        refine wp_region_noPanic ?_
        refine wp_region_held_drew (S := (fun w' => w'.cell? ⟨w.heap.size, 1, none⟩ = some (.bool false) ∧ w'.cell? ⟨w.heap.size, 2, none⟩ = some (.int .i64 qos) ∧ w'.cell? ⟨w.heap.size, 3, none⟩ = some (.bool retain))) (by kernel_rfl) (by simp) (fun hHeld => ?_)
        refine wpAnyH_take (i := 0) (oi := opKFlags210) (v := ?v82) rfl (by kernel_rfl) (by kernel_rfl) (by kernel_rfl) (fun _ _ _ h => h) (Or.inl ⟨by rfl, ?hy82⟩) (by assumption) ?rest82
        case hy82 => (intro w hSw; (try dsimp only at hSw); go_simp; (try rw [if_pos (by omega)]); (try with_reducible rfl))
        simp only [Act.put, List.setIfInBounds_toArray, List.set_cons_zero, List.set_cons_succ]
        refine wpAnyH_take (i := 1) (oi := opKFlags211) (v := ?v83) rfl (by kernel_rfl) (by kernel_rfl) (by kernel_rfl) (fun _ _ _ h => h) (Or.inl ⟨by rfl, ?hy83⟩) (by assumption) ?rest83
        case hy83 => (intro w hSw; (try dsimp only at hSw); go_simp; (try rw [if_pos (by omega)]); (try with_reducible rfl))
        simp only [Act.put, List.setIfInBounds_toArray, List.set_cons_zero, List.set_cons_succ]
        refine wpAnyH_take (i := 3) (oi := opKFlags212) (v := ?v84) rfl (by kernel_rfl) (by kernel_rfl) (by kernel_rfl) (fun _ _ _ h => h) (Or.inl ⟨by rfl, ?hy84⟩) (by assumption) ?rest84
        case hy84 => (intro w hSw; (try dsimp only at hSw); go_simp; (try rw [if_pos (by omega)]); (try with_reducible rfl))
        simp only [Act.put, List.setIfInBounds_toArray, List.set_cons_zero, List.set_cons_succ]
        refine wpAnyH_take (i := 4) (oi := opKFlags213) (v := ?v85) rfl (by kernel_rfl) (by kernel_rfl) (by kernel_rfl) (fun _ _ _ h => h) (Or.inl ⟨by rfl, ?hy85⟩) (by assumption) ?rest85
        case hy85 => (intro w hSw; (try dsimp only at hSw); go_simp; (try rw [if_pos (by omega)]); (try with_reducible rfl))
        simp only [Act.put, List.setIfInBounds_toArray, List.set_cons_zero, List.set_cons_succ]
        refine wpAnyH_take (i := 5) (oi := opKFlags214) (v := ?v86) rfl (by kernel_rfl) (by kernel_rfl) (by kernel_rfl) (fun _ _ _ h => h) (Or.inl ⟨by rfl, ?hy86⟩) (by assumption) ?rest86
        case hy86 => (intro w hSw; (try dsimp only at hSw); go_simp; (try rw [if_pos (by omega)]); (try with_reducible rfl))
        simp only [Act.put, List.setIfInBounds_toArray, List.set_cons_zero, List.set_cons_succ]
        refine wpAnyH_take (i := 7) (oi := opKFlags215) (v := ?v87) rfl (by kernel_rfl) (by kernel_rfl) (by kernel_rfl) (fun _ _ _ h => h) (Or.inl ⟨by rfl, ?hy87⟩) (by assumption) ?rest87
        case hy87 => (intro w hSw; (try dsimp only at hSw); go_simp; (try rw [if_pos (by omega)]); (try with_reducible rfl))
        simp only [Act.put, List.setIfInBounds_toArray, List.set_cons_zero, List.set_cons_succ]
        refine wpAnyH_take (i := 8) (oi := opKFlags216) (v := ?v88) rfl (by kernel_rfl) (by kernel_rfl) (by kernel_rfl) (fun _ _ _ h => h) (Or.inl ⟨by rfl, ?hy88⟩) (by assumption) ?rest88
        case hy88 => (intro w hSw; (try dsimp only at hSw); go_simp; (try rw [if_pos (by omega)]); (try with_reducible rfl))
        simp only [Act.put, List.setIfInBounds_toArray, List.set_cons_zero, List.set_cons_succ]
        refine wpAnyH_take (i := 11) (oi := opKFlags217) (v := ?v89) rfl (by kernel_rfl) (by kernel_rfl) (by kernel_rfl) (fun _ _ _ h => h) (Or.inl ⟨by rfl, ?hy89⟩) (by assumption) ?rest89
        case hy89 => (intro w hSw; (try dsimp only at hSw); go_simp; (try rw [if_pos (by omega)]); (try with_reducible rfl))
        simp only [Act.put, List.setIfInBounds_toArray, List.set_cons_zero, List.set_cons_succ]
        refine wpAnyH_ready (rs := [2]) (by kernel_rfl) (by simp) ?_
        refine AllReadyH.cons (o := opKFlags218) rfl (fun K hK => ?_) AllReadyH.nil
        go_simp
        refine (flag_is _ _ _).mono ?_
        rintro e w2 ⟨rfl, hw2⟩
        obtain rfl := hw2.symm
        clear hw2
        refine hK.out _ _ (by simp) (fun hHeld => ?_)
        clear hK K
        refine wpAnyH_take (i := 6) (oi := opKFlags219) (v := ?v90) rfl (by kernel_rfl) (by kernel_rfl) (by kernel_rfl) (fun _ _ _ h => h) (Or.inl ⟨by rfl, ?hy90⟩) (by assumption) ?rest90
        case hy90 => (intro w hSw; (try dsimp only at hSw); go_simp; (try rw [if_pos (by omega)]); (try with_reducible rfl))
        simp only [Act.put, List.setIfInBounds_toArray, List.set_cons_zero, List.set_cons_succ]
        refine wpAnyH_ready (rs := [9]) (by kernel_rfl) (by simp) ?_
        refine AllReadyH.cons (o := opKFlags220) rfl (fun K hK => ?_) AllReadyH.nil
        go_simp
        refine (flag_is _ _ _).mono ?_
        rintro e w2 ⟨rfl, hw2⟩
        obtain rfl := hw2.symm
        clear hw2
        refine hK.out _ _ (by simp) (fun hHeld => ?_)
        clear hK K
        refine wpAnyH_take (i := 10) (oi := opKFlags221) (v := ?v91) rfl (by kernel_rfl) (by kernel_rfl) (by kernel_rfl) (fun _ _ _ h => h) (Or.inl ⟨by rfl, ?hy91⟩) (by assumption) ?rest91
        case hy91 => (intro w hSw; (try dsimp only at hSw); go_simp; (try rw [if_pos (by omega)]); (try with_reducible rfl))
        simp only [Act.put, List.setIfInBounds_toArray, List.set_cons_zero, List.set_cons_succ]
        refine wpAnyH_ready (rs := [12]) (by kernel_rfl) (by simp) ?_
        refine AllReadyH.cons (o := opKFlags222) rfl (fun K hK => ?_) AllReadyH.nil
        go_simp
        refine hK.out _ _ (by simp) (fun hHeld => ?_)
        clear hK K
        refine wpAnyH_ready (rs := [13]) (by kernel_rfl) (by simp) ?_
        refine AllReadyH.cons (o := opKFlags223) rfl (fun K hK => ?_) AllReadyH.nil
        go_simp
        refine hK.out _ _ (by simp) (fun hHeld => ?_)
        clear hK K
        refine wpAnyH_done (by kernel_rfl) ?_ _
        refine NoPanic.normal ?_
        go_wp2
        go_returns
        exact ⟨by first | (simp [pok, pfl, hm]; done) | simp [pok, pfl, hm, hq], by go_grown⟩
      · go_enter Tryz.func54, Tryz.ntmps54
        go_wp2_with fail
        refine (mayQoS_is qos _ hm _).mono ?_
        rintro e w1 ⟨rfl, hw1⟩
        obtain rfl := hw1.symm
        clear hw1
        go_wp2_with fail
        refine wp_region_noPanic ?_
        refine wp_region_held_drew (S := (fun w' => w'.cell? ⟨w.heap.size, 1, none⟩ = some (.bool true) ∧ w'.cell? ⟨w.heap.size, 2, none⟩ = some (.int .i64 qos) ∧ w'.cell? ⟨w.heap.size, 3, none⟩ = some (.bool retain))) (by kernel_rfl) (by simp) (fun hHeld => ?_)
        refine wpAnyH_take (i := 0) (oi := opKFlags210) (v := ?v92) rfl (by kernel_rfl) (by kernel_rfl) (by kernel_rfl) (fun _ _ _ h => h) (Or.inl ⟨by rfl, ?hy92⟩) (by assumption) ?rest92
        case hy92 => (intro w hSw; (try dsimp only at hSw); go_simp; (try rw [if_pos (by omega)]); (try with_reducible rfl))
        simp only [Act.put, List.setIfInBounds_toArray, List.set_cons_zero, List.set_cons_succ]
        refine wpAnyH_take (i := 1) (oi := opKFlags211) (v := ?v93) rfl (by kernel_rfl) (by kernel_rfl) (by kernel_rfl) (fun _ _ _ h => h) (Or.inl ⟨by rfl, ?hy93⟩) (by assumption) ?rest93
        case hy93 => (intro w hSw; (try dsimp only at hSw); go_simp; (try rw [if_pos (by omega)]); (try with_reducible rfl))
        simp only [Act.put, List.setIfInBounds_toArray, List.set_cons_zero, List.set_cons_succ]
        refine wpAnyH_take (i := 3) (oi := opKFlags212) (v := ?v94) rfl (by kernel_rfl) (by kernel_rfl) (by kernel_rfl) (fun _ _ _ h => h) (Or.inl ⟨by rfl, ?hy94⟩) (by assumption) ?rest94
        case hy94 => (intro w hSw; (try dsimp only at hSw); go_simp; (try rw [if_pos (by omega)]); (try with_reducible rfl))
        simp only [Act.put, List.setIfInBounds_toArray, List.set_cons_zero, List.set_cons_succ]
        refine wpAnyH_take (i := 4) (oi := opKFlags213) (v := ?v95) rfl (by kernel_rfl) (by kernel_rfl) (by kernel_rfl) (fun _ _ _ h => h) (Or.inl ⟨by rfl, ?hy95⟩) (by assumption) ?rest95
        case hy95 => (intro w hSw; (try dsimp only at hSw); go_simp; (try rw [if_pos (by omega)]); (try with_reducible rfl))
        simp only [Act.put, List.setIfInBounds_toArray, List.set_cons_zero, List.set_cons_succ]
        refine wpAnyH_take (i := 5) (oi := opKFlags214) (v := ?v96) rfl (by kernel_rfl) (by kernel_rfl) (by kernel_rfl) (fun _ _ _ h => h) (Or.inl ⟨by rfl, ?hy96⟩) (by assumption) ?rest96
        case hy96 => (intro w hSw; (try dsimp only at hSw); go_simp; (try rw [if_pos (by omega)]); (try with_reducible rfl))
        simp only [Act.put, List.setIfInBounds_toArray, List.set_cons_zero, List.set_cons_succ]
        refine wpAnyH_take (i := 7) (oi := opKFlags215) (v := ?v97) rfl (by kernel_rfl) (by kernel_rfl) (by kernel_rfl) (fun _ _ _ h => h) (Or.inl ⟨by rfl, ?hy97⟩) (by assumption) ?rest97
        case hy97 => (intro w hSw; (try dsimp only at hSw); go_simp; (try rw [if_pos (by omega)]); (try with_reducible rfl))
        simp only [Act.put, List.setIfInBounds_toArray, List.set_cons_zero, List.set_cons_succ]
        refine wpAnyH_take (i := 8) (oi := opKFlags216) (v := ?v98) rfl (by kernel_rfl) (by kernel_rfl) (by kernel_rfl) (fun _ _ _ h => h) (Or.inl ⟨by rfl, ?hy98⟩) (by assumption) ?rest98
        case hy98 => (intro w hSw; (try dsimp only at hSw); go_simp; (try rw [if_pos (by omega)]); (try with_reducible rfl))
        simp only [Act.put, List.setIfInBounds_toArray, List.set_cons_zero, List.set_cons_succ]
        refine wpAnyH_take (i := 11) (oi := opKFlags217) (v := ?v99) rfl (by kernel_rfl) (by kernel_rfl) (by kernel_rfl) (fun _ _ _ h => h) (Or.inl ⟨by rfl, ?hy99⟩) (by assumption) ?rest99
        case hy99 => (intro w hSw; (try dsimp only at hSw); go_simp; (try rw [if_pos (by omega)]); (try with_reducible rfl))
        simp only [Act.put, List.setIfInBounds_toArray, List.set_cons_zero, List.set_cons_succ]
        refine wpAnyH_ready (rs := [2]) (by kernel_rfl) (by simp) ?_
        refine AllReadyH.cons (o := opKFlags218) rfl (fun K hK => ?_) AllReadyH.nil
        go_simp
        refine (flag_is _ _ _).mono ?_
        rintro e w2 ⟨rfl, hw2⟩
        obtain rfl := hw2.symm
        clear hw2
        refine hK.out _ _ (by simp) (fun hHeld => ?_)
        clear hK K
        refine wpAnyH_take (i := 6) (oi := opKFlags219) (v := ?v100) rfl (by kernel_rfl) (by kernel_rfl) (by kernel_rfl) (fun _ _ _ h => h) (Or.inl ⟨by rfl, ?hy100⟩) (by assumption) ?rest100
        case hy100 => (intro w hSw; (try dsimp only at hSw); go_simp; (try rw [if_pos (by omega)]); (try with_reducible rfl))
        simp only [Act.put, List.setIfInBounds_toArray, List.set_cons_zero, List.set_cons_succ]
        refine wpAnyH_ready (rs := [9]) (by kernel_rfl) (by simp) ?_
        refine AllReadyH.cons (o := opKFlags220) rfl (fun K hK => ?_) AllReadyH.nil
        go_simp
        refine (flag_is _ _ _).mono ?_
        rintro e w2 ⟨rfl, hw2⟩
        obtain rfl := hw2.symm
        clear hw2
        refine hK.out _ _ (by simp) (fun hHeld => ?_)
        clear hK K
        refine wpAnyH_take (i := 10) (oi := opKFlags221) (v := ?v101) rfl (by kernel_rfl) (by kernel_rfl) (by kernel_rfl) (fun _ _ _ h => h) (Or.inl ⟨by rfl, ?hy101⟩) (by assumption) ?rest101
        case hy101 => (intro w hSw; (try dsimp only at hSw); go_simp; (try rw [if_pos (by omega)]); (try with_reducible rfl))
        simp only [Act.put, List.setIfInBounds_toArray, List.set_cons_zero, List.set_cons_succ]
        refine wpAnyH_ready (rs := [12]) (by kernel_rfl) (by simp) ?_
        refine AllReadyH.cons (o := opKFlags222) rfl (fun K hK => ?_) AllReadyH.nil
        go_simp
        refine hK.out _ _ (by simp) (fun hHeld => ?_)
        clear hK K
        refine wpAnyH_ready (rs := [13]) (by kernel_rfl) (by simp) ?_
        refine AllReadyH.cons (o := opKFlags223) rfl (fun K hK => ?_) AllReadyH.nil
        go_simp
        refine hK.out _ _ (by simp) (fun hHeld => ?_)
        clear hK K
        refine wpAnyH_done (by kernel_rfl) ?_ _
        refine NoPanic.normal ?_
        go_wp2
        go_returns
        exact ⟨by first | (simp [pok, pfl, hm]; done) | simp [pok, pfl, hm, hq], by go_grown⟩
end Go.Proofs.YtoocdfgjkeheaaaGreatDoor.K
/- Proved here: packet.optionsOf and mayCount as plain functions. Helper contracts. -/
namespace Go.Proofs.YtoocdfgjkeheaaaGreatDoor.K
open Go.RowKit
set_option maxRecDepth 100000

abbrev opKOpts0 : Oper := { dst := some 17, op := Op.fieldAddr 75 (Operand.tmp 1) 1, type := 0, pos := "packet.go:144", after := #[], guard := none }
abbrev opKOpts1 : Oper := { dst := some 18, op := Op.load 3 (Operand.tmp 17), type := 3, pos := "packet.go:144", after := #[{ on := 0, ground := Ground.data }], guard := none }
abbrev opKOpts2 : Oper := { dst := some 19, op := Op.fieldAddr 75 (Operand.tmp 1) 2, type := 0, pos := "packet.go:144", after := #[], guard := none }
abbrev opKOpts3 : Oper := { dst := some 20, op := Op.load 4 (Operand.tmp 19), type := 4, pos := "packet.go:144", after := #[{ on := 2, ground := Ground.data }], guard := none }
abbrev opKOpts4 : Oper := { dst := some 23, op := Op.fieldAddr 75 (Operand.tmp 1) 3, type := 0, pos := "packet.go:144", after := #[], guard := none }
abbrev opKOpts5 : Oper := { dst := some 24, op := Op.load 4 (Operand.tmp 23), type := 4, pos := "packet.go:144", after := #[{ on := 6, ground := Ground.data }], guard := none }
abbrev opKOpts6 : Oper := { dst := some 27, op := Op.fieldAddr 75 (Operand.tmp 1) 4, type := 0, pos := "packet.go:144", after := #[], guard := none }
abbrev opKOpts7 : Oper := { dst := some 28, op := Op.load 3 (Operand.tmp 27), type := 3, pos := "packet.go:144", after := #[{ on := 10, ground := Ground.data }], guard := none }
abbrev opKOpts8 : Oper := { dst := some 29, op := Op.binOp BinOp.shl 3 (Operand.tmp 28) (Operand.const (Value.int IntKind.u64 4)) 54, type := 3, pos := "packet.go:144", after := #[{ on := 11, ground := Ground.data }], guard := none }
abbrev opKOpts9 : Oper := { dst := some 31, op := Op.move (Operand.tmp 3), type := 4, pos := "packet.go:144", after := #[{ on := 15, ground := Ground.gcOnly Departure.lateStores }], guard := none }
abbrev opKOpts10 : Oper := { dst := some 21, op := Op.call { callee := Callee.value (Operand.func 85), args := #[Operand.tmp 20, Operand.const (Value.int IntKind.i64 4)], argTypes := #[4, 3] }, type := 3, pos := "packet.go:144", after := #[{ on := 3, ground := Ground.data }], guard := none }
abbrev opKOpts11 : Oper := { dst := some 22, op := Op.binOp BinOp.or 3 (Operand.tmp 18) (Operand.tmp 21) 3, type := 3, pos := "packet.go:144", after := #[{ on := 1, ground := Ground.data }, { on := 4, ground := Ground.data }], guard := none }
abbrev opKOpts12 : Oper := { dst := some 25, op := Op.call { callee := Callee.value (Operand.func 85), args := #[Operand.tmp 24, Operand.const (Value.int IntKind.i64 8)], argTypes := #[4, 3] }, type := 3, pos := "packet.go:144", after := #[{ on := 7, ground := Ground.data }, { on := 4, ground := Ground.chain }], guard := none }
abbrev opKOpts13 : Oper := { dst := some 26, op := Op.binOp BinOp.or 3 (Operand.tmp 22) (Operand.tmp 25) 3, type := 3, pos := "packet.go:144", after := #[{ on := 5, ground := Ground.data }, { on := 8, ground := Ground.data }], guard := none }
abbrev opKOpts14 : Oper := { dst := some 30, op := Op.binOp BinOp.or 3 (Operand.tmp 26) (Operand.tmp 29) 3, type := 3, pos := "packet.go:144", after := #[{ on := 9, ground := Ground.data }, { on := 12, ground := Ground.data }], guard := none }
abbrev opKOpts15 : Oper := { dst := some 2, op := Op.assign (Operand.tmp 30), type := 3, pos := "packet.go:144", after := #[{ on := 13, ground := Ground.data }, { on := 8, ground := Ground.chain }, { on := 0, ground := Ground.phase }, { on := 1, ground := Ground.phase }, { on := 2, ground := Ground.phase }, { on := 3, ground := Ground.phase }, { on := 4, ground := Ground.phase }, { on := 5, ground := Ground.phase }, { on := 6, ground := Ground.phase }, { on := 7, ground := Ground.phase }, { on := 8, ground := Ground.phase }, { on := 9, ground := Ground.phase }, { on := 10, ground := Ground.phase }, { on := 11, ground := Ground.phase }, { on := 12, ground := Ground.phase }, { on := 13, ground := Ground.phase }, { on := 14, ground := Ground.textOnly Departure.lateStores }], guard := none }
abbrev opKOpts16 : Oper := { dst := some 3, op := Op.assign (Operand.tmp 31), type := 4, pos := "packet.go:144", after := #[{ on := 14, ground := Ground.data }, { on := 15, ground := Ground.chain }, { on := 0, ground := Ground.phase }, { on := 1, ground := Ground.phase }, { on := 2, ground := Ground.phase }, { on := 3, ground := Ground.phase }, { on := 4, ground := Ground.phase }, { on := 5, ground := Ground.phase }, { on := 6, ground := Ground.phase }, { on := 7, ground := Ground.phase }, { on := 8, ground := Ground.phase }, { on := 9, ground := Ground.phase }, { on := 10, ground := Ground.phase }, { on := 11, ground := Ground.phase }, { on := 12, ground := Ground.phase }, { on := 13, ground := Ground.phase }, { on := 14, ground := Ground.phase }, { on := 15, ground := Ground.phase }], guard := none }

theorem mayCount_any (n : Int) (w : World) : Calls Tryz.prog 148 #[.int .i64 n] w fun e w' => e = .returned (.bool (mc n)) ∧ w' = w := by
  by_cases h0 : 1 ≤ n
  · by_cases h2 : n ≤ 16
    · go_enter Tryz.func148, Tryz.ntmps148
      go_wp2
      go_ret
      exact ⟨by unfold mc; rw [decide_eq_true h0, decide_eq_true h2]; rfl, rfl⟩
    · go_enter Tryz.func148, Tryz.ntmps148
      go_wp2
      go_ret
      exact ⟨by unfold mc; rw [decide_eq_true h0, decide_eq_false (by omega)]; rfl, rfl⟩
  · go_enter Tryz.func148, Tryz.ntmps148
    go_wp2
    go_ret
    exact ⟨by unfold mc; rw [decide_eq_false (by omega)]; rfl, rfl⟩
/-- a filter's options as a byte, and whether they may be -/
def opv (q : Int) (nl ap : Bool) (h : Int) : Int := bits .or .i64 (bits .or .i64 (bits .or .i64 q (fv nl 4)) (fv ap 8)) (IntKind.i64.wrap (h * 16))
def opk (q h : Int) : Bool := mq q && decide (0 ≤ h) && decide (h ≤ 2)
set_option maxHeartbeats 2000000 in
theorem optionsOf_any (f : ByteArray) (q : Int) (nl ap : Bool) (h : Int) (w : World) : Calls Tryz.prog 180 #[.agg #[.string f, .int .i64 q, .bool nl, .bool ap, .int .i64 h]] w fun e w' => e = .returned (.tuple #[.int .i64 (opv q nl ap h), .bool (opk q h)]) ∧ Below w.heap.size w w' := by
  cases hm : mq q
  · go_enter Tryz.func180, Tryz.ntmps180
    go_wp2_with fail
    refine (mayQoS_is q _ hm _).mono ?_
    rintro e w1 ⟨rfl, hw1⟩
    obtain rfl := hw1.symm
    clear hw1
    go_wp2_with fail
    refine wp_region_noPanic ?_
    refine wp_region_held_drew (S := (fun w' => w'.cell? ⟨w.heap.size, 1, none⟩ = some (.int .i64 q) ∧ w'.cell? ⟨w.heap.size, 2, none⟩ = some (.bool nl) ∧ w'.cell? ⟨w.heap.size, 3, none⟩ = some (.bool ap) ∧ w'.cell? ⟨w.heap.size, 4, none⟩ = some (.int .i64 h))) (by kernel_rfl) (by simp) (fun hHeld => ?_)
    refine wpAnyH_take (i := 0) (oi := opKOpts0) (v := ?v1) rfl (by kernel_rfl) (by kernel_rfl) (by kernel_rfl) (fun _ _ _ h => h) (Or.inl ⟨by rfl, ?hy1⟩) (by assumption) ?rest1
    case hy1 => (intro w hSw; (try dsimp only at hSw); go_simp; (try rw [if_pos (by omega)]); (try with_reducible rfl))
    simp only [Act.put, List.setIfInBounds_toArray, List.set_cons_zero, List.set_cons_succ]
    refine wpAnyH_take (i := 1) (oi := opKOpts1) (v := ?v2) rfl (by kernel_rfl) (by kernel_rfl) (by kernel_rfl) (fun _ _ _ h => h) (Or.inl ⟨by rfl, ?hy2⟩) (by assumption) ?rest2
    case hy2 => (intro w hSw; (try dsimp only at hSw); go_simp; (try rw [if_pos (by omega)]); (try with_reducible rfl))
    simp only [Act.put, List.setIfInBounds_toArray, List.set_cons_zero, List.set_cons_succ]
    refine wpAnyH_take (i := 2) (oi := opKOpts2) (v := ?v3) rfl (by kernel_rfl) (by kernel_rfl) (by kernel_rfl) (fun _ _ _ h => h) (Or.inl ⟨by rfl, ?hy3⟩) (by assumption) ?rest3
    case hy3 => (intro w hSw; (try dsimp only at hSw); go_simp; (try rw [if_pos (by omega)]); (try with_reducible rfl))
    simp only [Act.put, List.setIfInBounds_toArray, List.set_cons_zero, List.set_cons_succ]
    refine wpAnyH_take (i := 3) (oi := opKOpts3) (v := ?v4) rfl (by kernel_rfl) (by kernel_rfl) (by kernel_rfl) (fun _ _ _ h => h) (Or.inl ⟨by rfl, ?hy4⟩) (by assumption) ?rest4
    case hy4 => (intro w hSw; (try dsimp only at hSw); go_simp; (try rw [if_pos (by omega)]); (try with_reducible rfl))
    simp only [Act.put, List.setIfInBounds_toArray, List.set_cons_zero, List.set_cons_succ]
    refine wpAnyH_take (i := 6) (oi := opKOpts4) (v := ?v5) rfl (by kernel_rfl) (by kernel_rfl) (by kernel_rfl) (fun _ _ _ h => h) (Or.inl ⟨by rfl, ?hy5⟩) (by assumption) ?rest5
    case hy5 => (intro w hSw; (try dsimp only at hSw); go_simp; (try rw [if_pos (by omega)]); (try with_reducible rfl))
    simp only [Act.put, List.setIfInBounds_toArray, List.set_cons_zero, List.set_cons_succ]
    refine wpAnyH_take (i := 7) (oi := opKOpts5) (v := ?v6) rfl (by kernel_rfl) (by kernel_rfl) (by kernel_rfl) (fun _ _ _ h => h) (Or.inl ⟨by rfl, ?hy6⟩) (by assumption) ?rest6
    case hy6 => (intro w hSw; (try dsimp only at hSw); go_simp; (try rw [if_pos (by omega)]); (try with_reducible rfl))
    simp only [Act.put, List.setIfInBounds_toArray, List.set_cons_zero, List.set_cons_succ]
    refine wpAnyH_take (i := 10) (oi := opKOpts6) (v := ?v7) rfl (by kernel_rfl) (by kernel_rfl) (by kernel_rfl) (fun _ _ _ h => h) (Or.inl ⟨by rfl, ?hy7⟩) (by assumption) ?rest7
    case hy7 => (intro w hSw; (try dsimp only at hSw); go_simp; (try rw [if_pos (by omega)]); (try with_reducible rfl))
    simp only [Act.put, List.setIfInBounds_toArray, List.set_cons_zero, List.set_cons_succ]
    refine wpAnyH_take (i := 11) (oi := opKOpts7) (v := ?v8) rfl (by kernel_rfl) (by kernel_rfl) (by kernel_rfl) (fun _ _ _ h => h) (Or.inl ⟨by rfl, ?hy8⟩) (by assumption) ?rest8
    case hy8 => (intro w hSw; (try dsimp only at hSw); go_simp; (try rw [if_pos (by omega)]); (try with_reducible rfl))
    simp only [Act.put, List.setIfInBounds_toArray, List.set_cons_zero, List.set_cons_succ]
    refine wpAnyH_take (i := 12) (oi := opKOpts8) (v := ?v9) rfl (by kernel_rfl) (by kernel_rfl) (by kernel_rfl) (fun _ _ _ h => h) (Or.inl ⟨by rfl, ?hy9⟩) (by assumption) ?rest9
    case hy9 => (intro w hSw; (try dsimp only at hSw); go_simp; (try rw [if_pos (by omega)]); (try with_reducible rfl))
    simp only [Act.put, List.setIfInBounds_toArray, List.set_cons_zero, List.set_cons_succ]
    refine wpAnyH_take (i := 14) (oi := opKOpts9) (v := ?v10) rfl (by kernel_rfl) (by kernel_rfl) (by kernel_rfl) (fun _ _ _ h => h) (Or.inl ⟨by rfl, ?hy10⟩) (by assumption) ?rest10
    case hy10 => (intro w hSw; (try dsimp only at hSw); go_simp; (try rw [if_pos (by omega)]); (try with_reducible rfl))
    simp only [Act.put, List.setIfInBounds_toArray, List.set_cons_zero, List.set_cons_succ]
    refine wpAnyH_ready (rs := [4]) (by kernel_rfl) (by simp) ?_
    refine AllReadyH.cons (o := opKOpts10) rfl (fun K hK => ?_) AllReadyH.nil
    go_simp
    refine (flag_is _ _ _).mono ?_
    rintro e w2 ⟨rfl, hw2⟩
    obtain rfl := hw2.symm
    clear hw2
    refine hK.out _ _ (by simp) (fun hHeld => ?_)
    clear hK K
    refine wpAnyH_take (i := 5) (oi := opKOpts11) (v := ?v11) rfl (by kernel_rfl) (by kernel_rfl) (by kernel_rfl) (fun _ _ _ h => h) (Or.inl ⟨by rfl, ?hy11⟩) (by assumption) ?rest11
    case hy11 => (intro w hSw; (try dsimp only at hSw); go_simp; (try rw [if_pos (by omega)]); (try with_reducible rfl))
    simp only [Act.put, List.setIfInBounds_toArray, List.set_cons_zero, List.set_cons_succ]
    refine wpAnyH_ready (rs := [8]) (by kernel_rfl) (by simp) ?_
    refine AllReadyH.cons (o := opKOpts12) rfl (fun K hK => ?_) AllReadyH.nil
    go_simp
    refine (flag_is _ _ _).mono ?_
    rintro e w2 ⟨rfl, hw2⟩
    obtain rfl := hw2.symm
    clear hw2
    refine hK.out _ _ (by simp) (fun hHeld => ?_)
    clear hK K
    refine wpAnyH_take (i := 9) (oi := opKOpts13) (v := ?v12) rfl (by kernel_rfl) (by kernel_rfl) (by kernel_rfl) (fun _ _ _ h => h) (Or.inl ⟨by rfl, ?hy12⟩) (by assumption) ?rest12
    case hy12 => (intro w hSw; (try dsimp only at hSw); go_simp; (try rw [if_pos (by omega)]); (try with_reducible rfl))
    simp only [Act.put, List.setIfInBounds_toArray, List.set_cons_zero, List.set_cons_succ]
    refine wpAnyH_take (i := 13) (oi := opKOpts14) (v := ?v13) rfl (by kernel_rfl) (by kernel_rfl) (by kernel_rfl) (fun _ _ _ h => h) (Or.inl ⟨by rfl, ?hy13⟩) (by assumption) ?rest13
    case hy13 => (intro w hSw; (try dsimp only at hSw); go_simp; (try rw [if_pos (by omega)]); (try with_reducible rfl))
    simp only [Act.put, List.setIfInBounds_toArray, List.set_cons_zero, List.set_cons_succ]
    refine wpAnyH_ready (rs := [15]) (by kernel_rfl) (by simp) ?_
    refine AllReadyH.cons (o := opKOpts15) rfl (fun K hK => ?_) AllReadyH.nil
    go_simp
    refine hK.out _ _ (by simp) (fun hHeld => ?_)
    clear hK K
    refine wpAnyH_ready (rs := [16]) (by kernel_rfl) (by simp) ?_
    refine AllReadyH.cons (o := opKOpts16) rfl (fun K hK => ?_) AllReadyH.nil
    go_simp
    refine hK.out _ _ (by simp) (fun hHeld => ?_)
    clear hK K
    refine wpAnyH_done (by kernel_rfl) ?_ _
    refine NoPanic.normal ?_
    go_wp2
    go_returns
    exact ⟨by simp [opv, opk, hm], by go_grown⟩
  · by_cases h0 : 0 ≤ h
    · by_cases h2 : h ≤ 2
      · go_enter Tryz.func180, Tryz.ntmps180
        go_wp2_with fail
        refine (mayQoS_is q _ hm _).mono ?_
        rintro e w1 ⟨rfl, hw1⟩
        obtain rfl := hw1.symm
        clear hw1
        go_wp2_with fail
        refine wp_region_noPanic ?_
        refine wp_region_held_drew (S := (fun w' => w'.cell? ⟨w.heap.size, 1, none⟩ = some (.int .i64 q) ∧ w'.cell? ⟨w.heap.size, 2, none⟩ = some (.bool nl) ∧ w'.cell? ⟨w.heap.size, 3, none⟩ = some (.bool ap) ∧ w'.cell? ⟨w.heap.size, 4, none⟩ = some (.int .i64 h))) (by kernel_rfl) (by simp) (fun hHeld => ?_)
        refine wpAnyH_take (i := 0) (oi := opKOpts0) (v := ?v14) rfl (by kernel_rfl) (by kernel_rfl) (by kernel_rfl) (fun _ _ _ h => h) (Or.inl ⟨by rfl, ?hy14⟩) (by assumption) ?rest14
        case hy14 => (intro w hSw; (try dsimp only at hSw); go_simp; (try rw [if_pos (by omega)]); (try with_reducible rfl))
        simp only [Act.put, List.setIfInBounds_toArray, List.set_cons_zero, List.set_cons_succ]
        refine wpAnyH_take (i := 1) (oi := opKOpts1) (v := ?v15) rfl (by kernel_rfl) (by kernel_rfl) (by kernel_rfl) (fun _ _ _ h => h) (Or.inl ⟨by rfl, ?hy15⟩) (by assumption) ?rest15
        case hy15 => (intro w hSw; (try dsimp only at hSw); go_simp; (try rw [if_pos (by omega)]); (try with_reducible rfl))
        simp only [Act.put, List.setIfInBounds_toArray, List.set_cons_zero, List.set_cons_succ]
        refine wpAnyH_take (i := 2) (oi := opKOpts2) (v := ?v16) rfl (by kernel_rfl) (by kernel_rfl) (by kernel_rfl) (fun _ _ _ h => h) (Or.inl ⟨by rfl, ?hy16⟩) (by assumption) ?rest16
        case hy16 => (intro w hSw; (try dsimp only at hSw); go_simp; (try rw [if_pos (by omega)]); (try with_reducible rfl))
        simp only [Act.put, List.setIfInBounds_toArray, List.set_cons_zero, List.set_cons_succ]
        refine wpAnyH_take (i := 3) (oi := opKOpts3) (v := ?v17) rfl (by kernel_rfl) (by kernel_rfl) (by kernel_rfl) (fun _ _ _ h => h) (Or.inl ⟨by rfl, ?hy17⟩) (by assumption) ?rest17
        case hy17 => (intro w hSw; (try dsimp only at hSw); go_simp; (try rw [if_pos (by omega)]); (try with_reducible rfl))
        simp only [Act.put, List.setIfInBounds_toArray, List.set_cons_zero, List.set_cons_succ]
        refine wpAnyH_take (i := 6) (oi := opKOpts4) (v := ?v18) rfl (by kernel_rfl) (by kernel_rfl) (by kernel_rfl) (fun _ _ _ h => h) (Or.inl ⟨by rfl, ?hy18⟩) (by assumption) ?rest18
        case hy18 => (intro w hSw; (try dsimp only at hSw); go_simp; (try rw [if_pos (by omega)]); (try with_reducible rfl))
        simp only [Act.put, List.setIfInBounds_toArray, List.set_cons_zero, List.set_cons_succ]
        refine wpAnyH_take (i := 7) (oi := opKOpts5) (v := ?v19) rfl (by kernel_rfl) (by kernel_rfl) (by kernel_rfl) (fun _ _ _ h => h) (Or.inl ⟨by rfl, ?hy19⟩) (by assumption) ?rest19
        case hy19 => (intro w hSw; (try dsimp only at hSw); go_simp; (try rw [if_pos (by omega)]); (try with_reducible rfl))
        simp only [Act.put, List.setIfInBounds_toArray, List.set_cons_zero, List.set_cons_succ]
        refine wpAnyH_take (i := 10) (oi := opKOpts6) (v := ?v20) rfl (by kernel_rfl) (by kernel_rfl) (by kernel_rfl) (fun _ _ _ h => h) (Or.inl ⟨by rfl, ?hy20⟩) (by assumption) ?rest20
        case hy20 => (intro w hSw; (try dsimp only at hSw); go_simp; (try rw [if_pos (by omega)]); (try with_reducible rfl))
        simp only [Act.put, List.setIfInBounds_toArray, List.set_cons_zero, List.set_cons_succ]
        refine wpAnyH_take (i := 11) (oi := opKOpts7) (v := ?v21) rfl (by kernel_rfl) (by kernel_rfl) (by kernel_rfl) (fun _ _ _ h => h) (Or.inl ⟨by rfl, ?hy21⟩) (by assumption) ?rest21
        case hy21 => (intro w hSw; (try dsimp only at hSw); go_simp; (try rw [if_pos (by omega)]); (try with_reducible rfl))
        simp only [Act.put, List.setIfInBounds_toArray, List.set_cons_zero, List.set_cons_succ]
        refine wpAnyH_take (i := 12) (oi := opKOpts8) (v := ?v22) rfl (by kernel_rfl) (by kernel_rfl) (by kernel_rfl) (fun _ _ _ h => h) (Or.inl ⟨by rfl, ?hy22⟩) (by assumption) ?rest22
        case hy22 => (intro w hSw; (try dsimp only at hSw); go_simp; (try rw [if_pos (by omega)]); (try with_reducible rfl))
        simp only [Act.put, List.setIfInBounds_toArray, List.set_cons_zero, List.set_cons_succ]
        refine wpAnyH_take (i := 14) (oi := opKOpts9) (v := ?v23) rfl (by kernel_rfl) (by kernel_rfl) (by kernel_rfl) (fun _ _ _ h => h) (Or.inl ⟨by rfl, ?hy23⟩) (by assumption) ?rest23
        case hy23 => (intro w hSw; (try dsimp only at hSw); go_simp; (try rw [if_pos (by omega)]); (try with_reducible rfl))
        simp only [Act.put, List.setIfInBounds_toArray, List.set_cons_zero, List.set_cons_succ]
        refine wpAnyH_ready (rs := [4]) (by kernel_rfl) (by simp) ?_
        refine AllReadyH.cons (o := opKOpts10) rfl (fun K hK => ?_) AllReadyH.nil
        go_simp
        refine (flag_is _ _ _).mono ?_
        rintro e w2 ⟨rfl, hw2⟩
        obtain rfl := hw2.symm
        clear hw2
        refine hK.out _ _ (by simp) (fun hHeld => ?_)
        clear hK K
        refine wpAnyH_take (i := 5) (oi := opKOpts11) (v := ?v24) rfl (by kernel_rfl) (by kernel_rfl) (by kernel_rfl) (fun _ _ _ h => h) (Or.inl ⟨by rfl, ?hy24⟩) (by assumption) ?rest24
        case hy24 => (intro w hSw; (try dsimp only at hSw); go_simp; (try rw [if_pos (by omega)]); (try with_reducible rfl))
        simp only [Act.put, List.setIfInBounds_toArray, List.set_cons_zero, List.set_cons_succ]
        refine wpAnyH_ready (rs := [8]) (by kernel_rfl) (by simp) ?_
        refine AllReadyH.cons (o := opKOpts12) rfl (fun K hK => ?_) AllReadyH.nil
        go_simp
        refine (flag_is _ _ _).mono ?_
        rintro e w2 ⟨rfl, hw2⟩
        obtain rfl := hw2.symm
        clear hw2
        refine hK.out _ _ (by simp) (fun hHeld => ?_)
        clear hK K
        refine wpAnyH_take (i := 9) (oi := opKOpts13) (v := ?v25) rfl (by kernel_rfl) (by kernel_rfl) (by kernel_rfl) (fun _ _ _ h => h) (Or.inl ⟨by rfl, ?hy25⟩) (by assumption) ?rest25
        case hy25 => (intro w hSw; (try dsimp only at hSw); go_simp; (try rw [if_pos (by omega)]); (try with_reducible rfl))
        simp only [Act.put, List.setIfInBounds_toArray, List.set_cons_zero, List.set_cons_succ]
        refine wpAnyH_take (i := 13) (oi := opKOpts14) (v := ?v26) rfl (by kernel_rfl) (by kernel_rfl) (by kernel_rfl) (fun _ _ _ h => h) (Or.inl ⟨by rfl, ?hy26⟩) (by assumption) ?rest26
        case hy26 => (intro w hSw; (try dsimp only at hSw); go_simp; (try rw [if_pos (by omega)]); (try with_reducible rfl))
        simp only [Act.put, List.setIfInBounds_toArray, List.set_cons_zero, List.set_cons_succ]
        refine wpAnyH_ready (rs := [15]) (by kernel_rfl) (by simp) ?_
        refine AllReadyH.cons (o := opKOpts15) rfl (fun K hK => ?_) AllReadyH.nil
        go_simp
        refine hK.out _ _ (by simp) (fun hHeld => ?_)
        clear hK K
        refine wpAnyH_ready (rs := [16]) (by kernel_rfl) (by simp) ?_
        refine AllReadyH.cons (o := opKOpts16) rfl (fun K hK => ?_) AllReadyH.nil
        go_simp
        refine hK.out _ _ (by simp) (fun hHeld => ?_)
        clear hK K
        refine wpAnyH_done (by kernel_rfl) ?_ _
        refine NoPanic.normal ?_
        go_wp2
        go_returns
        exact ⟨by simp [opv, opk, hm, h0, h2], by go_grown⟩
      · go_enter Tryz.func180, Tryz.ntmps180
        go_wp2_with fail
        refine (mayQoS_is q _ hm _).mono ?_
        rintro e w1 ⟨rfl, hw1⟩
        obtain rfl := hw1.symm
        clear hw1
        go_wp2_with fail
        refine wp_region_noPanic ?_
        refine wp_region_held_drew (S := (fun w' => w'.cell? ⟨w.heap.size, 1, none⟩ = some (.int .i64 q) ∧ w'.cell? ⟨w.heap.size, 2, none⟩ = some (.bool nl) ∧ w'.cell? ⟨w.heap.size, 3, none⟩ = some (.bool ap) ∧ w'.cell? ⟨w.heap.size, 4, none⟩ = some (.int .i64 h))) (by kernel_rfl) (by simp) (fun hHeld => ?_)
        refine wpAnyH_take (i := 0) (oi := opKOpts0) (v := ?v27) rfl (by kernel_rfl) (by kernel_rfl) (by kernel_rfl) (fun _ _ _ h => h) (Or.inl ⟨by rfl, ?hy27⟩) (by assumption) ?rest27
        case hy27 => (intro w hSw; (try dsimp only at hSw); go_simp; (try rw [if_pos (by omega)]); (try with_reducible rfl))
        simp only [Act.put, List.setIfInBounds_toArray, List.set_cons_zero, List.set_cons_succ]
        refine wpAnyH_take (i := 1) (oi := opKOpts1) (v := ?v28) rfl (by kernel_rfl) (by kernel_rfl) (by kernel_rfl) (fun _ _ _ h => h) (Or.inl ⟨by rfl, ?hy28⟩) (by assumption) ?rest28
        case hy28 => (intro w hSw; (try dsimp only at hSw); go_simp; (try rw [if_pos (by omega)]); (try with_reducible rfl))
        simp only [Act.put, List.setIfInBounds_toArray, List.set_cons_zero, List.set_cons_succ]
        refine wpAnyH_take (i := 2) (oi := opKOpts2) (v := ?v29) rfl (by kernel_rfl) (by kernel_rfl) (by kernel_rfl) (fun _ _ _ h => h) (Or.inl ⟨by rfl, ?hy29⟩) (by assumption) ?rest29
        case hy29 => (intro w hSw; (try dsimp only at hSw); go_simp; (try rw [if_pos (by omega)]); (try with_reducible rfl))
        simp only [Act.put, List.setIfInBounds_toArray, List.set_cons_zero, List.set_cons_succ]
        refine wpAnyH_take (i := 3) (oi := opKOpts3) (v := ?v30) rfl (by kernel_rfl) (by kernel_rfl) (by kernel_rfl) (fun _ _ _ h => h) (Or.inl ⟨by rfl, ?hy30⟩) (by assumption) ?rest30
        case hy30 => (intro w hSw; (try dsimp only at hSw); go_simp; (try rw [if_pos (by omega)]); (try with_reducible rfl))
        simp only [Act.put, List.setIfInBounds_toArray, List.set_cons_zero, List.set_cons_succ]
        refine wpAnyH_take (i := 6) (oi := opKOpts4) (v := ?v31) rfl (by kernel_rfl) (by kernel_rfl) (by kernel_rfl) (fun _ _ _ h => h) (Or.inl ⟨by rfl, ?hy31⟩) (by assumption) ?rest31
        case hy31 => (intro w hSw; (try dsimp only at hSw); go_simp; (try rw [if_pos (by omega)]); (try with_reducible rfl))
        simp only [Act.put, List.setIfInBounds_toArray, List.set_cons_zero, List.set_cons_succ]
        refine wpAnyH_take (i := 7) (oi := opKOpts5) (v := ?v32) rfl (by kernel_rfl) (by kernel_rfl) (by kernel_rfl) (fun _ _ _ h => h) (Or.inl ⟨by rfl, ?hy32⟩) (by assumption) ?rest32
        case hy32 => (intro w hSw; (try dsimp only at hSw); go_simp; (try rw [if_pos (by omega)]); (try with_reducible rfl))
        simp only [Act.put, List.setIfInBounds_toArray, List.set_cons_zero, List.set_cons_succ]
        refine wpAnyH_take (i := 10) (oi := opKOpts6) (v := ?v33) rfl (by kernel_rfl) (by kernel_rfl) (by kernel_rfl) (fun _ _ _ h => h) (Or.inl ⟨by rfl, ?hy33⟩) (by assumption) ?rest33
        case hy33 => (intro w hSw; (try dsimp only at hSw); go_simp; (try rw [if_pos (by omega)]); (try with_reducible rfl))
        simp only [Act.put, List.setIfInBounds_toArray, List.set_cons_zero, List.set_cons_succ]
        refine wpAnyH_take (i := 11) (oi := opKOpts7) (v := ?v34) rfl (by kernel_rfl) (by kernel_rfl) (by kernel_rfl) (fun _ _ _ h => h) (Or.inl ⟨by rfl, ?hy34⟩) (by assumption) ?rest34
        case hy34 => (intro w hSw; (try dsimp only at hSw); go_simp; (try rw [if_pos (by omega)]); (try with_reducible rfl))
        simp only [Act.put, List.setIfInBounds_toArray, List.set_cons_zero, List.set_cons_succ]
        refine wpAnyH_take (i := 12) (oi := opKOpts8) (v := ?v35) rfl (by kernel_rfl) (by kernel_rfl) (by kernel_rfl) (fun _ _ _ h => h) (Or.inl ⟨by rfl, ?hy35⟩) (by assumption) ?rest35
        case hy35 => (intro w hSw; (try dsimp only at hSw); go_simp; (try rw [if_pos (by omega)]); (try with_reducible rfl))
        simp only [Act.put, List.setIfInBounds_toArray, List.set_cons_zero, List.set_cons_succ]
        refine wpAnyH_take (i := 14) (oi := opKOpts9) (v := ?v36) rfl (by kernel_rfl) (by kernel_rfl) (by kernel_rfl) (fun _ _ _ h => h) (Or.inl ⟨by rfl, ?hy36⟩) (by assumption) ?rest36
        case hy36 => (intro w hSw; (try dsimp only at hSw); go_simp; (try rw [if_pos (by omega)]); (try with_reducible rfl))
        simp only [Act.put, List.setIfInBounds_toArray, List.set_cons_zero, List.set_cons_succ]
        refine wpAnyH_ready (rs := [4]) (by kernel_rfl) (by simp) ?_
        refine AllReadyH.cons (o := opKOpts10) rfl (fun K hK => ?_) AllReadyH.nil
        go_simp
        refine (flag_is _ _ _).mono ?_
        rintro e w2 ⟨rfl, hw2⟩
        obtain rfl := hw2.symm
        clear hw2
        refine hK.out _ _ (by simp) (fun hHeld => ?_)
        clear hK K
        refine wpAnyH_take (i := 5) (oi := opKOpts11) (v := ?v37) rfl (by kernel_rfl) (by kernel_rfl) (by kernel_rfl) (fun _ _ _ h => h) (Or.inl ⟨by rfl, ?hy37⟩) (by assumption) ?rest37
        case hy37 => (intro w hSw; (try dsimp only at hSw); go_simp; (try rw [if_pos (by omega)]); (try with_reducible rfl))
        simp only [Act.put, List.setIfInBounds_toArray, List.set_cons_zero, List.set_cons_succ]
        refine wpAnyH_ready (rs := [8]) (by kernel_rfl) (by simp) ?_
        refine AllReadyH.cons (o := opKOpts12) rfl (fun K hK => ?_) AllReadyH.nil
        go_simp
        refine (flag_is _ _ _).mono ?_
        rintro e w2 ⟨rfl, hw2⟩
        obtain rfl := hw2.symm
        clear hw2
        refine hK.out _ _ (by simp) (fun hHeld => ?_)
        clear hK K
        refine wpAnyH_take (i := 9) (oi := opKOpts13) (v := ?v38) rfl (by kernel_rfl) (by kernel_rfl) (by kernel_rfl) (fun _ _ _ h => h) (Or.inl ⟨by rfl, ?hy38⟩) (by assumption) ?rest38
        case hy38 => (intro w hSw; (try dsimp only at hSw); go_simp; (try rw [if_pos (by omega)]); (try with_reducible rfl))
        simp only [Act.put, List.setIfInBounds_toArray, List.set_cons_zero, List.set_cons_succ]
        refine wpAnyH_take (i := 13) (oi := opKOpts14) (v := ?v39) rfl (by kernel_rfl) (by kernel_rfl) (by kernel_rfl) (fun _ _ _ h => h) (Or.inl ⟨by rfl, ?hy39⟩) (by assumption) ?rest39
        case hy39 => (intro w hSw; (try dsimp only at hSw); go_simp; (try rw [if_pos (by omega)]); (try with_reducible rfl))
        simp only [Act.put, List.setIfInBounds_toArray, List.set_cons_zero, List.set_cons_succ]
        refine wpAnyH_ready (rs := [15]) (by kernel_rfl) (by simp) ?_
        refine AllReadyH.cons (o := opKOpts15) rfl (fun K hK => ?_) AllReadyH.nil
        go_simp
        refine hK.out _ _ (by simp) (fun hHeld => ?_)
        clear hK K
        refine wpAnyH_ready (rs := [16]) (by kernel_rfl) (by simp) ?_
        refine AllReadyH.cons (o := opKOpts16) rfl (fun K hK => ?_) AllReadyH.nil
        go_simp
        refine hK.out _ _ (by simp) (fun hHeld => ?_)
        clear hK K
        refine wpAnyH_done (by kernel_rfl) ?_ _
        refine NoPanic.normal ?_
        go_wp2
        go_returns
        exact ⟨by simp [opv, opk, hm, h0], by go_grown⟩
    · go_enter Tryz.func180, Tryz.ntmps180
      go_wp2_with fail
      refine (mayQoS_is q _ hm _).mono ?_
      rintro e w1 ⟨rfl, hw1⟩
      obtain rfl := hw1.symm
      clear hw1
      go_wp2_with fail
      refine wp_region_noPanic ?_
      refine wp_region_held_drew (S := (fun w' => w'.cell? ⟨w.heap.size, 1, none⟩ = some (.int .i64 q) ∧ w'.cell? ⟨w.heap.size, 2, none⟩ = some (.bool nl) ∧ w'.cell? ⟨w.heap.size, 3, none⟩ = some (.bool ap) ∧ w'.cell? ⟨w.heap.size, 4, none⟩ = some (.int .i64 h))) (by kernel_rfl) (by simp) (fun hHeld => ?_)
      refine wpAnyH_take (i := 0) (oi := opKOpts0) (v := ?v40) rfl (by kernel_rfl) (by kernel_rfl) (by kernel_rfl) (fun _ _ _ h => h) (Or.inl ⟨by rfl, ?hy40⟩) (by assumption) ?rest40
      case hy40 => (intro w hSw; (try dsimp only at hSw); go_simp; (try rw [if_pos (by omega)]); (try with_reducible rfl))
      simp only [Act.put, List.setIfInBounds_toArray, List.set_cons_zero, List.set_cons_succ]
      refine wpAnyH_take (i := 1) (oi := opKOpts1) (v := ?v41) rfl (by kernel_rfl) (by kernel_rfl) (by kernel_rfl) (fun _ _ _ h => h) (Or.inl ⟨by rfl, ?hy41⟩) (by assumption) ?rest41
      case hy41 => (intro w hSw; (try dsimp only at hSw); go_simp; (try rw [if_pos (by omega)]); (try with_reducible rfl))
      simp only [Act.put, List.setIfInBounds_toArray, List.set_cons_zero, List.set_cons_succ]
      refine wpAnyH_take (i := 2) (oi := opKOpts2) (v := ?v42) rfl (by kernel_rfl) (by kernel_rfl) (by kernel_rfl) (fun _ _ _ h => h) (Or.inl ⟨by rfl, ?hy42⟩) (by assumption) ?rest42
      case hy42 => (intro w hSw; (try dsimp only at hSw); go_simp; (try rw [if_pos (by omega)]); (try with_reducible rfl))
      simp only [Act.put, List.setIfInBounds_toArray, List.set_cons_zero, List.set_cons_succ]
      refine wpAnyH_take (i := 3) (oi := opKOpts3) (v := ?v43) rfl (by kernel_rfl) (by kernel_rfl) (by kernel_rfl) (fun _ _ _ h => h) (Or.inl ⟨by rfl, ?hy43⟩) (by assumption) ?rest43
      case hy43 => (intro w hSw; (try dsimp only at hSw); go_simp; (try rw [if_pos (by omega)]); (try with_reducible rfl))
      simp only [Act.put, List.setIfInBounds_toArray, List.set_cons_zero, List.set_cons_succ]
      refine wpAnyH_take (i := 6) (oi := opKOpts4) (v := ?v44) rfl (by kernel_rfl) (by kernel_rfl) (by kernel_rfl) (fun _ _ _ h => h) (Or.inl ⟨by rfl, ?hy44⟩) (by assumption) ?rest44
      case hy44 => (intro w hSw; (try dsimp only at hSw); go_simp; (try rw [if_pos (by omega)]); (try with_reducible rfl))
      simp only [Act.put, List.setIfInBounds_toArray, List.set_cons_zero, List.set_cons_succ]
      refine wpAnyH_take (i := 7) (oi := opKOpts5) (v := ?v45) rfl (by kernel_rfl) (by kernel_rfl) (by kernel_rfl) (fun _ _ _ h => h) (Or.inl ⟨by rfl, ?hy45⟩) (by assumption) ?rest45
      case hy45 => (intro w hSw; (try dsimp only at hSw); go_simp; (try rw [if_pos (by omega)]); (try with_reducible rfl))
      simp only [Act.put, List.setIfInBounds_toArray, List.set_cons_zero, List.set_cons_succ]
      refine wpAnyH_take (i := 10) (oi := opKOpts6) (v := ?v46) rfl (by kernel_rfl) (by kernel_rfl) (by kernel_rfl) (fun _ _ _ h => h) (Or.inl ⟨by rfl, ?hy46⟩) (by assumption) ?rest46
      case hy46 => (intro w hSw; (try dsimp only at hSw); go_simp; (try rw [if_pos (by omega)]); (try with_reducible rfl))
      simp only [Act.put, List.setIfInBounds_toArray, List.set_cons_zero, List.set_cons_succ]
      refine wpAnyH_take (i := 11) (oi := opKOpts7) (v := ?v47) rfl (by kernel_rfl) (by kernel_rfl) (by kernel_rfl) (fun _ _ _ h => h) (Or.inl ⟨by rfl, ?hy47⟩) (by assumption) ?rest47
      case hy47 => (intro w hSw; (try dsimp only at hSw); go_simp; (try rw [if_pos (by omega)]); (try with_reducible rfl))
      simp only [Act.put, List.setIfInBounds_toArray, List.set_cons_zero, List.set_cons_succ]
      refine wpAnyH_take (i := 12) (oi := opKOpts8) (v := ?v48) rfl (by kernel_rfl) (by kernel_rfl) (by kernel_rfl) (fun _ _ _ h => h) (Or.inl ⟨by rfl, ?hy48⟩) (by assumption) ?rest48
      case hy48 => (intro w hSw; (try dsimp only at hSw); go_simp; (try rw [if_pos (by omega)]); (try with_reducible rfl))
      simp only [Act.put, List.setIfInBounds_toArray, List.set_cons_zero, List.set_cons_succ]
      refine wpAnyH_take (i := 14) (oi := opKOpts9) (v := ?v49) rfl (by kernel_rfl) (by kernel_rfl) (by kernel_rfl) (fun _ _ _ h => h) (Or.inl ⟨by rfl, ?hy49⟩) (by assumption) ?rest49
      case hy49 => (intro w hSw; (try dsimp only at hSw); go_simp; (try rw [if_pos (by omega)]); (try with_reducible rfl))
      simp only [Act.put, List.setIfInBounds_toArray, List.set_cons_zero, List.set_cons_succ]
      refine wpAnyH_ready (rs := [4]) (by kernel_rfl) (by simp) ?_
      refine AllReadyH.cons (o := opKOpts10) rfl (fun K hK => ?_) AllReadyH.nil
      go_simp
      refine (flag_is _ _ _).mono ?_
      rintro e w2 ⟨rfl, hw2⟩
      obtain rfl := hw2.symm
      clear hw2
      refine hK.out _ _ (by simp) (fun hHeld => ?_)
      clear hK K
      refine wpAnyH_take (i := 5) (oi := opKOpts11) (v := ?v50) rfl (by kernel_rfl) (by kernel_rfl) (by kernel_rfl) (fun _ _ _ h => h) (Or.inl ⟨by rfl, ?hy50⟩) (by assumption) ?rest50
      case hy50 => (intro w hSw; (try dsimp only at hSw); go_simp; (try rw [if_pos (by omega)]); (try with_reducible rfl))
      simp only [Act.put, List.setIfInBounds_toArray, List.set_cons_zero, List.set_cons_succ]
      refine wpAnyH_ready (rs := [8]) (by kernel_rfl) (by simp) ?_
      refine AllReadyH.cons (o := opKOpts12) rfl (fun K hK => ?_) AllReadyH.nil
      go_simp
      refine (flag_is _ _ _).mono ?_
      rintro e w2 ⟨rfl, hw2⟩
      obtain rfl := hw2.symm
      clear hw2
      refine hK.out _ _ (by simp) (fun hHeld => ?_)
      clear hK K
      refine wpAnyH_take (i := 9) (oi := opKOpts13) (v := ?v51) rfl (by kernel_rfl) (by kernel_rfl) (by kernel_rfl) (fun _ _ _ h => h) (Or.inl ⟨by rfl, ?hy51⟩) (by assumption) ?rest51
      case hy51 => (intro w hSw; (try dsimp only at hSw); go_simp; (try rw [if_pos (by omega)]); (try with_reducible rfl))
      simp only [Act.put, List.setIfInBounds_toArray, List.set_cons_zero, List.set_cons_succ]
      refine wpAnyH_take (i := 13) (oi := opKOpts14) (v := ?v52) rfl (by kernel_rfl) (by kernel_rfl) (by kernel_rfl) (fun _ _ _ h => h) (Or.inl ⟨by rfl, ?hy52⟩) (by assumption) ?rest52
      case hy52 => (intro w hSw; (try dsimp only at hSw); go_simp; (try rw [if_pos (by omega)]); (try with_reducible rfl))
      simp only [Act.put, List.setIfInBounds_toArray, List.set_cons_zero, List.set_cons_succ]
      refine wpAnyH_ready (rs := [15]) (by kernel_rfl) (by simp) ?_
      refine AllReadyH.cons (o := opKOpts15) rfl (fun K hK => ?_) AllReadyH.nil
      go_simp
      refine hK.out _ _ (by simp) (fun hHeld => ?_)
      clear hK K
      refine wpAnyH_ready (rs := [16]) (by kernel_rfl) (by simp) ?_
      refine AllReadyH.cons (o := opKOpts16) rfl (fun K hK => ?_) AllReadyH.nil
      go_simp
      refine hK.out _ _ (by simp) (fun hHeld => ?_)
      clear hK K
      refine wpAnyH_done (by kernel_rfl) ?_ _
      refine NoPanic.normal ?_
      go_wp2
      go_returns
      exact ⟨by simp [opv, opk, hm]; omega, by go_grown⟩
end Go.Proofs.YtoocdfgjkeheaaaGreatDoor.K
/- Proved here: two bytes side by side as one number (bits .or of disjoint bits). Helpers that name no program. -/
namespace Go.Proofs.YtoocdfgjkeheaaaGreatDoor.K
open Go.RowKit

theorem ofInt_64 (a : Nat) (ha : a < 18446744073709551616) : (BitVec.ofInt 64 (a : Int)).toNat = a := by
  rw [BitVec.ofInt_natCast, BitVec.toNat_ofNat]; exact Nat.mod_eq_of_lt (by omega)
theorem i64_or_nat (a b : Nat) (ha : a < 4611686018427387904) (hb : b < 4611686018427387904) : bits .or .i64 (a : Int) (b : Int) = ((a ||| b : Nat) : Int) := by
  have hx : a ||| b < 2 ^ 62 := Nat.or_lt_two_pow (by omega) (by omega)
  show IntKind.i64.wrap ((BitVec.ofInt 64 (a : Int) ||| BitVec.ofInt 64 (b : Int)).toNat : Int) = _
  rw [BitVec.toNat_or, ofInt_64 a (by omega), ofInt_64 b (by omega), IntKind.wrap_i64]
  omega
theorem or_hi (i : Nat) (x y : Int) (hx0 : 0 ≤ x) (hx1 : x < 4611686018427387904) (hy0 : 0 ≤ y) (hy1 : y < 4611686018427387904) (hm : x.toNat % 2 ^ i = 0) (hy : y.toNat < 2 ^ i) : bits .or .i64 x y = x + y := by
  obtain ⟨a, rfl⟩ := Int.eq_ofNat_of_zero_le hx0
  obtain ⟨b, rfl⟩ := Int.eq_ofNat_of_zero_le hy0
  rw [i64_or_nat a b (by omega) (by omega), nat_join i a b (by simpa using hm) (by simpa using hy)]
  omega
theorem or_256 (x y : Int) (hx0 : 0 ≤ x) (hx1 : x < 16777216) (hy0 : 0 ≤ y) (hy1 : y ≤ 255) : bits .or .i64 (x * 256) y = x * 256 + y := or_hi 8 _ _ (by omega) (by omega) hy0 (by omega) (by omega) (by omega)
end Go.Proofs.YtoocdfgjkeheaaaGreatDoor.K
/- Proved here: packet's reader: fail, must, next, one, two, id as steps of a plain reader (bytes that are left, and whether something was wrong). Helper contracts. -/
namespace Go.Proofs.YtoocdfgjkeheaaaGreatDoor.K
open Go.RowKit
set_option maxRecDepth 100000

/-- an error of below that a reader may hold -/
def isErr (E : Value) : Prop := ∃ t x, E = .iface t x
/-- the reader at the block R: the bytes that are left, the error -/
def Rdr (w : World) (R : Nat) (bv E : Value) : Prop := w.cell? ⟨R, 19, none⟩ = some bv ∧ w.frozen? ⟨R, 19, none⟩ = false ∧ w.cell? ⟨R, 20, none⟩ = some E ∧ w.frozen? ⟨R, 20, none⟩ = false
theorem Rdr.lt {w : World} {R : Nat} {bv E : Value} (h : Rdr w R bv E) : R < w.heap.size := cell_lt h.1
abbrev isE (j : Nat) : Prop := j = 20
abbrev isRE (j : Nat) : Prop := j = 19 ∨ j = 20
theorem fail_nil (R : Nat) (bv : Value) (t : TypeId) (x : Value) (w : World) (h : Rdr w R bv .nilIface) : Calls Tryz.prog 166 #[.pointer (some ⟨R, 0, none⟩), .iface t x] w fun e w' => e = .returned (.tuple #[]) ∧ Rdr w' R bv (.iface t x) ∧ BX R isE w w' := by
  obtain ⟨h1, h2, h3, h4⟩ := h
  go_enter Tryz.func166, Tryz.ntmps166
  go_wp2
  go_end0
  exact ⟨rfl, ⟨(World.cell?_setCell_other _ _ _ _ (by intro e; simp at e)).trans h1, by simpa using h2, World.cell?_setCell_same _ _ _ h3, by simpa using h4⟩, (BX.refl _ _ _).set 20 _ rfl⟩
theorem fail_nils (R : Nat) (bv : Value) (w : World) (h : Rdr w R bv .nilIface) : Calls Tryz.prog 166 #[.pointer (some ⟨R, 0, none⟩), .nilIface] w fun e w' => e = .returned (.tuple #[]) ∧ Rdr w' R bv .nilIface ∧ BX R isE w w' := by
  obtain ⟨h1, h2, h3, h4⟩ := h
  go_enter Tryz.func166, Tryz.ntmps166
  go_wp2
  go_end0
  exact ⟨rfl, ⟨(World.cell?_setCell_other _ _ _ _ (by intro e; simp at e)).trans h1, by simpa using h2, World.cell?_setCell_same _ _ _ h3, by simpa using h4⟩, (BX.refl _ _ _).set 20 _ rfl⟩
theorem fail_set (R : Nat) (bv E : Value) (t : TypeId) (x : Value) (w : World) (h : Rdr w R bv (.iface t x)) : Calls Tryz.prog 166 #[.pointer (some ⟨R, 0, none⟩), E] w fun e w' => e = .returned (.tuple #[]) ∧ w' = w := by
  obtain ⟨h1, h2, h3, h4⟩ := h
  go_enter Tryz.func166, Tryz.ntmps166
  go_wp2
  go_end0
  exact ⟨rfl, rfl⟩
theorem must_true (R : Nat) (w : World) : Calls Tryz.prog 119 #[.pointer (some ⟨R, 0, none⟩), .bool true] w fun e w' => e = .returned (.tuple #[]) ∧ w' = w := by
  go_enter Tryz.func119, Tryz.ntmps119
  go_wp2
  go_end0
  exact ⟨rfl, rfl⟩
theorem must_false (R : Nat) (bv : Value) (w : World) (h : Rdr w R bv .nilIface) : Calls Tryz.prog 119 #[.pointer (some ⟨R, 0, none⟩), .bool false] w fun e w' => e = .returned (.tuple #[]) ∧ Rdr w' R bv (.iface 84 (.int .i64 1)) ∧ BX R isE w w' := by
  have HR := hide h
  clear h
  go_enter Tryz.func119, Tryz.ntmps119
  go_wp2_with fail
  refine (fail_nil R bv _ _ w (unhide HR)).mono ?_
  rintro e w' ⟨rfl, hr, hx⟩
  have H1 := hide hr
  have H2 := hide hx
  clear hr hx
  go_wp2
  go_end0
  exact ⟨rfl, unhide H1, unhide H2⟩
theorem must_false2 (R : Nat) (bv : Value) (t : TypeId) (x : Value) (w : World) (h : Rdr w R bv (.iface t x)) : Calls Tryz.prog 119 #[.pointer (some ⟨R, 0, none⟩), .bool false] w fun e w' => e = .returned (.tuple #[]) ∧ w' = w := by
  have HR := hide h
  clear h
  go_enter Tryz.func119, Tryz.ntmps119
  go_wp2_with fail
  refine (fail_set R bv _ t x w (unhide HR)).mono ?_
  rintro e w' ⟨rfl, hw⟩
  obtain rfl := hw.symm
  clear hw
  go_wp2
  go_end0
  exact ⟨rfl, rfl⟩
/-- the next n bytes are there: they, and what is left, are bytes of the first world -/
theorem next_ok (R : Nat) (bv E : Value) (l : List Int) (n : Nat) (w0 w : World) (h : Rdr w R bv E) (hb : Byt w0 bv l) (hn : n ≤ l.length) :
    Calls Tryz.prog 165 #[.pointer (some ⟨R, 0, none⟩), .int .i64 n] w fun e w' => ∃ v bv', e = .returned v ∧ Byt w0 v (l.take n) ∧ Byt w0 bv' (l.drop n) ∧ Rdr w' R bv' E ∧ BX R isRE w w' := by
  obtain ⟨h1, h2, h3, h4⟩ := h
  have hset : ∀ u : Value, Rdr (w.setCell ⟨R, 19, none⟩ u) R u E ∧ BX R isRE w (w.setCell ⟨R, 19, none⟩ u) := fun u =>
    ⟨⟨World.cell?_setCell_same _ _ _ h1, by simpa using h2, (World.cell?_setCell_other _ _ _ _ (by intro e; simp at e)).trans h3, by simpa using h4⟩, (BX.refl _ _ _).set 19 _ (.inl rfl)⟩
  have HSET := hide hset
  clear hset
  rcases Nat.eq_zero_or_pos l.length with hl | hl
  · obtain rfl := List.length_eq_zero_iff.1 hl
    obtain rfl : n = 0 := by simpa using hn
    obtain ⟨ao, cap, rfl, hc1, hc2⟩ := hb.form
    have HB := hide hb
    clear hb
    unfold maxLen at hc2
    go_enter Tryz.func165, Tryz.ntmps165
    go_wp2
    go_ret
    exact ⟨_, _, rfl, unhide HB, unhide HB, ((unhide HSET) _).1, ((unhide HSET) _).2⟩
  · obtain ⟨b, off, cap, rfl, hc1, hc2⟩ := hb.form1 hl
    have HB := hide hb
    clear hb
    unfold maxLen at hc2
    generalize hm : l.length = m at hc1 hn hl HB h1
    clear hm
    by_cases hcn : cap = n
    · have e1 : n = cap := hcn.symm
      clear hcn
      subst e1
      have e2 : n = m := by omega
      subst e2
      have HT : Hid (Byt w0 (.slice (some ⟨b, off, none⟩) n n) (l.take n)) := (unhide HB).take n (Nat.le_refl _)
      have HD : Hid (Byt w0 (.slice (some ⟨b, off, none⟩) 0 0) (l.drop n)) := by
        show Byt _ _ _
        have := (unhide HB).drop' n (Nat.le_refl _)
        rw [if_pos rfl, Nat.sub_self] at this
        exact this
      go_enter Tryz.func165, Tryz.ntmps165
      go_wp2
      go_ret
      exact ⟨_, _, rfl, unhide HT, unhide HD, ((unhide HSET) _).1, ((unhide HSET) _).2⟩
    · have HT : Hid (Byt w0 (.slice (some ⟨b, off, none⟩) n cap) (l.take n)) := (unhide HB).take n hn
      have HD : Hid (Byt w0 (.slice (some ⟨b, off + n, none⟩) (m - n) (cap - n)) (l.drop n)) := by
        show Byt _ _ _
        have := (unhide HB).drop' n hn
        rw [if_neg hcn] at this
        exact this
      go_enter Tryz.func165, Tryz.ntmps165
      go_wp2
      go_ret
      exact ⟨_, _, rfl, unhide HT, unhide HD, ((unhide HSET) _).1, ((unhide HSET) _).2⟩
theorem next_short (R : Nat) (bv : Value) (l : List Int) (n : Nat) (w0 w : World) (h : Rdr w R bv .nilIface) (hb : Byt w0 bv l) (hn : l.length < n) :
    Calls Tryz.prog 165 #[.pointer (some ⟨R, 0, none⟩), .int .i64 n] w fun e w' => e = .returned (.slice none 0 0) ∧ Rdr w' R bv (.iface 84 (.int .i64 3)) ∧ BX R isRE w w' := by
  obtain ⟨ao, cap, rfl, hc1, hc2⟩ := hb.form
  have HR := hide h
  obtain ⟨h1, h2, h3, h4⟩ := h
  clear hb h2 h3 h4
  generalize hm : l.length = m at hc1 hn HR h1
  clear hm
  go_enter Tryz.func165, Tryz.ntmps165
  go_wp2_with fail
  refine (fail_nil R _ _ _ w (unhide HR)).mono ?_
  rintro e w' ⟨rfl, hr, hx⟩
  have H1 := hide hr
  have H2 := hide hx
  clear hr hx
  go_wp2
  go_ret
  exact ⟨rfl, unhide H1, (unhide H2).weak (fun j hj => .inr hj)⟩
theorem next_short2 (R : Nat) (bv : Value) (t : TypeId) (x : Value) (l : List Int) (n : Nat) (w0 w : World) (h : Rdr w R bv (.iface t x)) (hb : Byt w0 bv l) (hn : l.length < n) :
    Calls Tryz.prog 165 #[.pointer (some ⟨R, 0, none⟩), .int .i64 n] w fun e w' => e = .returned (.slice none 0 0) ∧ w' = w := by
  obtain ⟨ao, cap, rfl, hc1, hc2⟩ := hb.form
  have HR := hide h
  obtain ⟨h1, h2, h3, h4⟩ := h
  clear hb h2 h3 h4
  generalize hm : l.length = m at hc1 hn HR h1
  clear hm
  go_enter Tryz.func165, Tryz.ntmps165
  go_wp2_with fail
  refine (fail_set R _ _ t x w (unhide HR)).mono ?_
  rintro e w' ⟨rfl, hw⟩
  obtain rfl := hw.symm
  clear hw
  go_wp2
  go_ret
  exact ⟨rfl, rfl⟩
theorem one_ok (R : Nat) (bv E : Value) (x : Int) (l : List Int) (w0 w : World) (h : Rdr w R bv E) (hb : Byt w0 bv (x :: l)) (hw : Below w0.heap.size w0 w) (hR : w0.heap.size ≤ R) :
    Calls Tryz.prog 118 #[.pointer (some ⟨R, 0, none⟩)] w fun e w' => ∃ bv', e = .returned (.int .i64 x) ∧ Byt w0 bv' l ∧ Rdr w' R bv' E ∧ BX R isRE w w' := by
  have hx := hb.range 0
  have HX := hide (next_ok R bv E (x :: l) 1 w0 w h hb (by simp))
  have HW := hide hw
  have hsz := hw.size
  clear h hb hw
  go_enter Tryz.func118, Tryz.ntmps118
  go_wp2_with fail
  refine (unhide HX).mono ?_
  rintro e w' ⟨v, bv', rfl, hv, hbv, hr, hbx⟩
  have HV := hide hv
  have H1 := hide hbv
  have H2 := hide hr
  have H3 := hide hbx
  have HB : Hid (Byt w' v [x]) := hv.below ((unhide HW).trans (hbx.below hR hsz))
  clear hv hbv hr hbx
  obtain ⟨b, off, cap, hf, hc1, hc2⟩ := (unhide HB).form1 (by simp)
  have hf : v = .slice (some ⟨b, off, none⟩) 1 cap := hf
  have hc : w'.cell? ⟨b, off, none⟩ = some (.int .u8 x) := by
    obtain ⟨ao, cap', e', _, _, hcase⟩ := unhide HB
    rw [hf] at e'
    simp only [Value.slice.injEq] at e'
    obtain ⟨rfl, _, rfl⟩ := e'
    rcases hcase with h0 | ⟨b', off', e2, hc⟩
    · simp at h0
    · simp only [Option.some.injEq, Addr.mk.injEq] at e2
      obtain ⟨rfl, rfl, _⟩ := e2
      exact hc 0 (by simp)
  subst hf
  simp at hx
  go_wp2
  go_ret
  exact ⟨_, rfl, unhide H1, unhide H2, unhide H3⟩
/-- what a step of the reader that tells a number leaves, where nothing was wrong before: the number and the bytes that are left (ok), or an error -/
def IntRes (w0 : World) (R hi : Nat) (ok : Option (Int × List Int)) (w : World) (e : Ending) (w' : World) : Prop :=
  (∃ x l' bv', ok = some (x, l') ∧ e = .returned (.int .i64 x) ∧ Byt w0 bv' l' ∧ Rdr w' R bv' .nilIface ∧ BX R isRE w w') ∨
  (ok = none ∧ ∃ x l' bv' n, e = .returned (.int .i64 x) ∧ (0 ≤ x ∧ x ≤ hi) ∧ Byt w0 bv' l' ∧ Rdr w' R bv' (.iface 84 (.int .i64 n)) ∧ BX R isRE w w')
/-- .. where something was wrong before: it stays -/
def IntBad (w0 : World) (R hi : Nat) (t : TypeId) (y : Value) (w : World) (e : Ending) (w' : World) : Prop :=
  ∃ x l' bv', e = .returned (.int .i64 x) ∧ (0 ≤ x ∧ x ≤ hi) ∧ Byt w0 bv' l' ∧ Rdr w' R bv' (.iface t y) ∧ BX R isRE w w'
def one? (l : List Int) : Option (Int × List Int) := match l with
  | [] => none
  | x :: t => some (x, t)
theorem one_good (R : Nat) (bv : Value) (l : List Int) (w0 w : World) (h : Rdr w R bv .nilIface) (hb : Byt w0 bv l) (hw : Below w0.heap.size w0 w) (hR : w0.heap.size ≤ R) : Calls Tryz.prog 118 #[.pointer (some ⟨R, 0, none⟩)] w (IntRes w0 R 255 (one? l) w) := by
  cases l with
  | cons x t =>
    refine (one_ok R bv _ x t w0 w h hb hw hR).mono ?_
    rintro e w' ⟨bv', rfl, h1, h2, h3⟩
    exact .inl ⟨x, t, bv', rfl, rfl, h1, h2, h3⟩
  | nil =>
    have HX := hide (next_short R bv [] 1 w0 w h hb (by simp))
    have HB := hide hb
    clear h hb hw
    go_enter Tryz.func118, Tryz.ntmps118
    go_wp2_with fail
    refine (unhide HX).mono ?_
    rintro e w' ⟨rfl, hr, hx⟩
    have H1 := hide hr
    have H2 := hide hx
    clear hr hx
    go_wp2
    go_ret
    exact .inr ⟨rfl, 0, [], bv, 3, rfl, by omega, unhide HB, unhide H1, unhide H2⟩
theorem one_bad (R : Nat) (bv : Value) (t : TypeId) (y : Value) (l : List Int) (w0 w : World) (h : Rdr w R bv (.iface t y)) (hb : Byt w0 bv l) (hw : Below w0.heap.size w0 w) (hR : w0.heap.size ≤ R) : Calls Tryz.prog 118 #[.pointer (some ⟨R, 0, none⟩)] w (IntBad w0 R 255 t y w) := by
  cases l with
  | cons x tl =>
    have hx := hb.range 0
    refine (one_ok R bv _ x tl w0 w h hb hw hR).mono ?_
    rintro e w' ⟨bv', rfl, h1, h2, h3⟩
    exact ⟨x, tl, bv', rfl, by simpa using hx, h1, h2, h3⟩
  | nil =>
    have HX := hide (next_short2 R bv t y [] 1 w0 w h hb (by simp))
    have HB := hide hb
    have HR := hide h
    clear h hb hw
    go_enter Tryz.func118, Tryz.ntmps118
    go_wp2_with fail
    refine (unhide HX).mono ?_
    rintro e w' ⟨rfl, hwe⟩
    obtain rfl := hwe.symm
    clear hwe
    go_wp2
    go_ret
    exact ⟨0, [], bv, rfl, by omega, unhide HB, unhide HR, BX.refl _ _ _⟩
theorem BX.keep {R : Nat} {may : Nat → Prop} {w0 w w' : World} (h : BX R may w w') (hw : Below w0.heap.size w0 w) (hR : w0.heap.size ≤ R) : Below w0.heap.size w0 w' := hw.trans (h.below hR hw.size)
def two? (l : List Int) : Option (Int × List Int) := match l with
  | x :: y :: t => some (x * 256 + y, t)
  | _ => none
theorem two_good (R : Nat) (bv : Value) (l : List Int) (w0 w : World) (h : Rdr w R bv .nilIface) (hb : Byt w0 bv l) (hw : Below w0.heap.size w0 w) (hR : w0.heap.size ≤ R) : Calls Tryz.prog 163 #[.pointer (some ⟨R, 0, none⟩)] w (IntRes w0 R 65535 (two? l) w) := by
  have hr := hb.range
  have HX := hide (one_good R bv l w0 w h hb hw hR)
  have HW := hide hw
  clear h hb hw
  go_enter Tryz.func163, Tryz.ntmps163
  go_wp2_with fail
  refine (unhide HX).mono ?_
  rintro e w1 (⟨x, l1, bv1, hl, rfl, hb1, hr1, hx1⟩ | ⟨hl, x, l1, bv1, n, rfl, hx, hb1, hr1, hx1⟩)
  · obtain rfl : l = x :: l1 := by
      cases l with
      | nil => cases hl
      | cons a t => simp [one?] at hl; obtain ⟨rfl, rfl⟩ := hl; rfl
    have hx0 := hr 0
    have hy0 := hr 1
    simp only [List.getD_cons_zero] at hx0
    have HY := hide (one_good R bv1 l1 w0 w1 hr1 hb1 (hx1.keep (unhide HW) hR) hR)
    have H1 := hide hx1
    clear hr hx1 hr1 hb1 hl
    go_wp2_with fail
    refine (unhide HY).mono ?_
    rintro e w2 (⟨y, l2, bv2, hl, rfl, hb2, hr2, hx2⟩ | ⟨hl, y, l2, bv2, n, rfl, hy, hb2, hr2, hx2⟩)
    · obtain rfl : l1 = y :: l2 := by
        cases l1 with
        | nil => cases hl
        | cons a t => simp [one?] at hl; obtain ⟨rfl, rfl⟩ := hl; rfl
      have hy1 : 0 ≤ y ∧ y ≤ 255 := by simpa using hy0
      have e1 := K.or_256 x y hx0.1 (by omega) hy1.1 hy1.2
      have H2 := hide hb2
      have H3 := hide hr2
      have H4 := hide hx2
      clear hl hb2 hr2 hx2 hy0
      go_wp2
      go_ret
      exact .inl ⟨x * 256 + y, l2, bv2, rfl, rfl, unhide H2, unhide H3, (unhide H1).trans (unhide H4)⟩
    · obtain rfl : l1 = [] := by cases l1 with | nil => rfl | cons a t => cases hl
      have e1 := K.or_256 x y hx0.1 (by omega) hy.1 (by omega)
      have H2 := hide hb2
      have H3 := hide hr2
      have H4 := hide hx2
      clear hl hb2 hr2 hx2 hy0
      go_wp2
      go_ret
      exact .inr ⟨rfl, x * 256 + y, l2, bv2, n, rfl, by omega, unhide H2, unhide H3, (unhide H1).trans (unhide H4)⟩
  · obtain rfl : l = [] := by cases l with | nil => rfl | cons a t => cases hl
    have HY := hide (one_bad R bv1 _ _ l1 w0 w1 hr1 hb1 (hx1.keep (unhide HW) hR) hR)
    have H1 := hide hx1
    clear hr hx1 hr1 hb1 hl
    go_wp2_with fail
    refine (unhide HY).mono ?_
    rintro e w2 ⟨y, l2, bv2, rfl, hy, hb2, hr2, hx2⟩
    have e1 := K.or_256 x y hx.1 (by omega) hy.1 (by omega)
    have H2 := hide hb2
    have H3 := hide hr2
    have H4 := hide hx2
    clear hb2 hr2 hx2
    go_wp2
    go_ret
    exact .inr ⟨rfl, x * 256 + y, l2, bv2, n, rfl, by omega, unhide H2, unhide H3, (unhide H1).trans (unhide H4)⟩
theorem two_bad (R : Nat) (bv : Value) (t : TypeId) (z : Value) (l : List Int) (w0 w : World) (h : Rdr w R bv (.iface t z)) (hb : Byt w0 bv l) (hw : Below w0.heap.size w0 w) (hR : w0.heap.size ≤ R) : Calls Tryz.prog 163 #[.pointer (some ⟨R, 0, none⟩)] w (IntBad w0 R 65535 t z w) := by
  have HX := hide (one_bad R bv t z l w0 w h hb hw hR)
  have HW := hide hw
  clear h hb hw
  go_enter Tryz.func163, Tryz.ntmps163
  go_wp2_with fail
  refine (unhide HX).mono ?_
  rintro e w1 ⟨x, l1, bv1, rfl, hx, hb1, hr1, hx1⟩
  have HY := hide (one_bad R bv1 _ _ l1 w0 w1 hr1 hb1 (hx1.keep (unhide HW) hR) hR)
  have H1 := hide hx1
  clear hx1 hr1 hb1
  go_wp2_with fail
  refine (unhide HY).mono ?_
  rintro e w2 ⟨y, l2, bv2, rfl, hy, hb2, hr2, hx2⟩
  have e1 := K.or_256 x y hx.1 (by omega) hy.1 (by omega)
  have H2 := hide hb2
  have H3 := hide hr2
  have H4 := hide hx2
  clear hb2 hr2 hx2
  go_wp2
  go_ret
  exact ⟨x * 256 + y, l2, bv2, rfl, by omega, unhide H2, unhide H3, (unhide H1).trans (unhide H4)⟩
/-- an ID: two bytes, not 0 -/
def id? (l : List Int) : Option (Int × List Int) := match two? l with
  | some (x, t) => if x = 0 then none else some (x, t)
  | none => none
theorem id_good (R : Nat) (bv : Value) (l : List Int) (w0 w : World) (h : Rdr w R bv .nilIface) (hb : Byt w0 bv l) (hw : Below w0.heap.size w0 w) (hR : w0.heap.size ≤ R) : Calls Tryz.prog 122 #[.pointer (some ⟨R, 0, none⟩)] w (IntRes w0 R 65535 (id? l) w) := by
  have HX := hide (two_good R bv l w0 w h hb hw hR)
  clear h hb hw
  go_enter Tryz.func122, Tryz.ntmps122
  go_wp2_with fail
  refine (unhide HX).mono ?_
  rintro e w1 (⟨x, l1, bv1, hl, rfl, hb1, hr1, hx1⟩ | ⟨hl, x, l1, bv1, n, rfl, hx, hb1, hr1, hx1⟩)
  · by_cases h0 : x = 0
    · subst h0
      have HN : Hid (id? l = none) := by show id? l = none; unfold id?; rw [hl]; rfl
      have HR := hide hr1
      have H1 := hide hx1
      have H2 := hide hb1
      clear hl hb1 hr1 hx1
      go_wp2_with fail
      refine (must_false R bv1 w1 (unhide HR)).mono ?_
      rintro e w2 ⟨rfl, hr2, hx2⟩
      have H3 := hide hr2
      have H4 := hide hx2
      clear hr2 hx2
      go_wp2
      go_ret
      exact .inr ⟨unhide HN, 0, l1, bv1, 1, rfl, by omega, unhide H2, unhide H3, (unhide H1).trans ((unhide H4).weak (fun j hj => .inr hj))⟩
    · have HN : Hid (id? l = some (x, l1)) := by show id? l = _; unfold id?; rw [hl]; simp only; rw [if_neg h0]
      have hne : (x != 0) = true := by simpa using h0
      have HR := hide hr1
      have H1 := hide hx1
      have H2 := hide hb1
      clear hl hb1 hr1 hx1
      go_wp2_with fail
      refine (must_true R w1).mono ?_
      rintro e w2 ⟨rfl, hw2⟩
      obtain rfl := hw2.symm
      clear hw2
      go_wp2
      go_ret
      exact .inl ⟨x, l1, bv1, unhide HN, rfl, unhide H2, unhide HR, unhide H1⟩
  · have HN : Hid (id? l = none) := by show id? l = none; unfold id?; rw [hl]
    have HR := hide hr1
    have H1 := hide hx1
    have H2 := hide hb1
    clear hl hb1 hr1 hx1
    by_cases h0 : x = 0
    · subst h0
      go_wp2_with fail
      refine (must_false2 R bv1 _ _ w1 (unhide HR)).mono ?_
      rintro e w2 ⟨rfl, hw2⟩
      obtain rfl := hw2.symm
      clear hw2
      go_wp2
      go_ret
      exact .inr ⟨unhide HN, 0, l1, bv1, n, rfl, by omega, unhide H2, unhide HR, unhide H1⟩
    · have hne : (x != 0) = true := by simpa using h0
      go_wp2_with fail
      refine (must_true R w1).mono ?_
      rintro e w2 ⟨rfl, hw2⟩
      obtain rfl := hw2.symm
      clear hw2
      go_wp2
      go_ret
      exact .inr ⟨unhide HN, x, l1, bv1, n, rfl, hx, unhide H2, unhide HR, unhide H1⟩
theorem id_bad (R : Nat) (bv : Value) (t : TypeId) (z : Value) (l : List Int) (w0 w : World) (h : Rdr w R bv (.iface t z)) (hb : Byt w0 bv l) (hw : Below w0.heap.size w0 w) (hR : w0.heap.size ≤ R) : Calls Tryz.prog 122 #[.pointer (some ⟨R, 0, none⟩)] w (IntBad w0 R 65535 t z w) := by
  have HX := hide (two_bad R bv t z l w0 w h hb hw hR)
  clear h hb hw
  go_enter Tryz.func122, Tryz.ntmps122
  go_wp2_with fail
  refine (unhide HX).mono ?_
  rintro e w1 ⟨x, l1, bv1, rfl, hx, hb1, hr1, hx1⟩
  have HR := hide hr1
  have H1 := hide hx1
  have H2 := hide hb1
  clear hb1 hr1 hx1
  by_cases h0 : x = 0
  · subst h0
    go_wp2_with fail
    refine (must_false2 R bv1 _ _ w1 (unhide HR)).mono ?_
    rintro e w2 ⟨rfl, hw2⟩
    obtain rfl := hw2.symm
    clear hw2
    go_wp2
    go_ret
    exact ⟨0, l1, bv1, rfl, by omega, unhide H2, unhide HR, unhide H1⟩
  · have hne : (x != 0) = true := by simpa using h0
    go_wp2_with fail
    refine (must_true R w1).mono ?_
    rintro e w2 ⟨rfl, hw2⟩
    obtain rfl := hw2.symm
    clear hw2
    go_wp2
    go_ret
    exact ⟨x, l1, bv1, rfl, hx, unhide H2, unhide HR, unhide H1⟩
end Go.Proofs.YtoocdfgjkeheaaaGreatDoor.K
/- Proved here: plain facts on lists of numbers: how many bytes the code point has with which bytes begin, when bytes are UTF-8 as the chapter says, and that two such lists side by side are one. No program is named. -/
namespace Go.Proofs.YtoocdfgjkeheaaaGreatDoor

/-- a byte that goes on with a code point -/
def cont (x : Int) : Bool := decide (128 ≤ x) && decide (x < 192)
def pv2 (a b : Int) : Int := a % 32 * 64 + b % 64
def pv3 (a b c : Int) : Int := (a % 16 * 64 + b % 64) * 64 + c % 64
def pv4 (a b c d : Int) : Int := ((a % 8 * 64 + b % 64) * 64 + c % 64) * 64 + d % 64
def ok2 (a b : Int) : Bool := cont b && decide (128 ≤ pv2 a b)
def ok3 (a b c : Int) : Bool := cont b && cont c && decide (2048 ≤ pv3 a b c) && !(decide (55296 ≤ pv3 a b c) && decide (pv3 a b c ≤ 57343))
def ok4 (a b c d : Int) : Bool := cont b && cont c && cont d && decide (65536 ≤ pv4 a b c d) && decide (pv4 a b c d ≤ 1114111)
/-- how many bytes the code point has with which l begins; 0: none that may be -/
def pt (l : List Int) : Nat :=
  if l.getD 0 0 < 128 then (if 0 < l.getD 0 0 then 1 else 0)
  else if l.getD 0 0 < 192 then 0
  else if l.getD 0 0 < 224 then (if 2 ≤ l.length ∧ ok2 (l.getD 0 0) (l.getD 1 0) = true then 2 else 0)
  else if l.getD 0 0 < 240 then (if 3 ≤ l.length ∧ ok3 (l.getD 0 0) (l.getD 1 0) (l.getD 2 0) = true then 3 else 0)
  else if l.getD 0 0 < 248 then (if 4 ≤ l.length ∧ ok4 (l.getD 0 0) (l.getD 1 0) (l.getD 2 0) (l.getD 3 0) = true then 4 else 0)
  else 0

theorem pt_nil : pt [] = 0 := by simp [pt]
theorem pt_le (l : List Int) : pt l ≤ l.length := by
  cases l with
  | nil => simp [pt_nil]
  | cons a r =>
    unfold pt
    have : 1 ≤ (a :: r).length := by simp
    generalize (a :: r) = l at *
    repeat' split
    all_goals omega
theorem pt_le4 (l : List Int) : pt l ≤ 4 := by
  unfold pt
  repeat' split
  all_goals omega
theorem getD_app (l m : List Int) (j : Nat) (h : j < l.length) : (l ++ m).getD j 0 = l.getD j 0 := by
  rw [List.getD_eq_getElem?_getD, List.getElem?_append_left h, ← List.getD_eq_getElem?_getD]
theorem pt_app (l m : List Int) (h : pt l ≠ 0) : pt (l ++ m) = pt l := by
  have hl : 1 ≤ l.length := by
    rcases l with _ | ⟨a, r⟩
    · simp [pt_nil] at h
    · simp
  have e0 := getD_app l m 0 (by omega)
  have hlen : (l ++ m).length = l.length + m.length := List.length_append
  unfold pt at h ⊢
  rw [e0, hlen]
  by_cases a1 : l.getD 0 0 < 128
  · simp only [a1, if_true]
  · simp only [a1, if_false] at h ⊢
    by_cases a2 : l.getD 0 0 < 192
    · simp only [a2, if_true]
    · simp only [a2, if_false] at h ⊢
      by_cases a3 : l.getD 0 0 < 224
      · simp only [a3, if_true] at h ⊢
        by_cases b : 2 ≤ l.length ∧ ok2 (l.getD 0 0) (l.getD 1 0) = true
        · rw [if_pos b, getD_app l m 1 (by omega), if_pos ⟨by omega, b.2⟩]
        · rw [if_neg b] at h; exact absurd rfl h
      · simp only [a3, if_false] at h ⊢
        by_cases a4 : l.getD 0 0 < 240
        · simp only [a4, if_true] at h ⊢
          by_cases b : 3 ≤ l.length ∧ ok3 (l.getD 0 0) (l.getD 1 0) (l.getD 2 0) = true
          · rw [if_pos b, getD_app l m 1 (by omega), getD_app l m 2 (by omega), if_pos ⟨by omega, b.2⟩]
          · rw [if_neg b] at h; exact absurd rfl h
        · simp only [a4, if_false] at h ⊢
          by_cases a5 : l.getD 0 0 < 248
          · simp only [a5, if_true] at h ⊢
            by_cases b : 4 ≤ l.length ∧ ok4 (l.getD 0 0) (l.getD 1 0) (l.getD 2 0) (l.getD 3 0) = true
            · rw [if_pos b, getD_app l m 1 (by omega), getD_app l m 2 (by omega), getD_app l m 3 (by omega), if_pos ⟨by omega, b.2⟩]
            · rw [if_neg b] at h; exact absurd rfl h
          · simp only [a5, if_false] at h; exact absurd rfl h

/-- UTF-8, as the chapter has it (by a bound that its length gives) -/
def utfF : Nat → List Int → Bool
  | 0, l => l.isEmpty
  | f + 1, l => l.isEmpty || (decide (pt l ≠ 0) && utfF f (l.drop (pt l)))
def utf (l : List Int) : Bool := utfF l.length l
theorem utfF_nil : ∀ f, utfF f [] = true
  | 0 => rfl
  | _ + 1 => rfl
theorem not_nil {l : List Int} (h : 0 < l.length) : l.isEmpty = false := by
  rcases l with _ | ⟨a, r⟩
  · simp at h
  · rfl
theorem utfF_more (f : Nat) : ∀ (g : Nat) (l : List Int), l.length ≤ f → l.length ≤ g → utfF f l = utfF g l := by
  induction f with
  | zero =>
    intro g l h _
    obtain rfl : l = [] := List.length_eq_zero_iff.1 (by omega)
    rw [utfF_nil, utfF_nil]
  | succ f ih =>
    intro g l hf hg
    by_cases h0 : l.length = 0
    · obtain rfl : l = [] := List.length_eq_zero_iff.1 h0
      rw [utfF_nil, utfF_nil]
    · cases g with
      | zero => omega
      | succ g =>
        simp only [utfF]
        by_cases h1 : pt l = 0
        · simp [h1]
        · rw [ih g (l.drop (pt l)) (by rw [List.length_drop]; omega) (by rw [List.length_drop]; omega)]
theorem utf_nil : utf [] = true := rfl
theorem utf_step (l : List Int) (h : 0 < l.length) : utf l = (decide (pt l ≠ 0) && utf (l.drop (pt l))) := by
  obtain ⟨n, hn⟩ : ∃ n, l.length = n + 1 := ⟨l.length - 1, by omega⟩
  unfold utf
  rw [hn]
  simp only [utfF, not_nil h, Bool.false_or]
  by_cases h1 : pt l = 0
  · simp [h1]
  · rw [utfF_more n (l.drop (pt l)).length (l.drop (pt l)) (by rw [List.length_drop]; omega) (Nat.le_refl _)]
/-- how a loop over the code points goes -/
theorem utf_drop (l : List Int) (k : Nat) (hk : k < l.length) (h0 : pt (l.drop k) ≠ 0) : utf (l.drop k) = utf (l.drop (k + pt (l.drop k))) := by
  rw [utf_step (l.drop k) (by rw [List.length_drop]; omega), List.drop_drop]
  simp [h0]
theorem utf_not (l : List Int) (k : Nat) (hk : k < l.length) (h0 : pt (l.drop k) = 0) : utf (l.drop k) = false := by
  rw [utf_step (l.drop k) (by rw [List.length_drop]; omega)]
  simp [h0]
theorem utf_append (n : Nat) : ∀ (l m : List Int), l.length ≤ n → utf l = true → utf m = true → utf (l ++ m) = true := by
  induction n with
  | zero =>
    intro l m h _ hm
    obtain rfl : l = [] := List.length_eq_zero_iff.1 (by omega)
    exact hm
  | succ n ih =>
    intro l m h hl hm
    by_cases h0 : l.length = 0
    · obtain rfl : l = [] := List.length_eq_zero_iff.1 h0
      exact hm
    · rw [utf_step l (by omega)] at hl
      simp only [Bool.and_eq_true, decide_eq_true_eq] at hl
      obtain ⟨h1, h2⟩ := hl
      rw [utf_step (l ++ m) (by rw [List.length_append]; omega), pt_app l m h1, List.drop_append_of_le_length (pt_le l), ih (l.drop (pt l)) m (by rw [List.length_drop]; omega) h2 hm]
      simp [h1]

/-- Check's number -/
def chk (l : List Int) : Int := if utf l = true then (if l.length ≤ 65535 then 0 else 2) else 1
theorem chk_app (l m : List Int) (hl : chk l = 0) (hm : chk m = 0) (h : l.length + m.length ≤ 65535) : chk (l ++ m) = 0 := by
  unfold chk at *
  have ul : utf l = true := by by_cases u : utf l = true; exact u; rw [if_neg u] at hl; simp at hl
  have um : utf m = true := by by_cases u : utf m = true; exact u; rw [if_neg u] at hm; simp at hm
  rw [if_pos (utf_append l.length l m (Nat.le_refl _) ul um), if_pos (by rw [List.length_append]; exact h)]

/-- a text's bytes as numbers, and back -/
def sb (s : ByteArray) : List Int := s.data.toList.map fun b => (b.toNat : Int)
def bs (l : List Int) : ByteArray := ⟨(l.map fun n => UInt8.ofNat n.toNat).toArray⟩
theorem sb_length (s : ByteArray) : (sb s).length = s.size := by
  rw [sb, List.length_map, Array.length_toList]; rfl
theorem bs_sb (s : ByteArray) : bs (sb s) = s := by
  unfold bs sb
  rw [List.map_map]
  have : ((fun n : Int => UInt8.ofNat n.toNat) ∘ fun b : UInt8 => (b.toNat : Int)) = id := by
    funext b; simp
  rw [this, List.map_id]
theorem sb_range (s : ByteArray) : ∀ j, 0 ≤ (sb s).getD j 0 ∧ (sb s).getD j 0 ≤ 255 := by
  intro j
  unfold sb
  rw [List.getD_eq_getElem?_getD, List.getElem?_map]
  cases s.data.toList[j]? with
  | none => simp
  | some b => simp; have := b.toNat_lt; omega
theorem sb_bs (l : List Int) (h : ∀ j, 0 ≤ l.getD j 0 ∧ l.getD j 0 ≤ 255) : sb (bs l) = l := by
  unfold sb bs
  rw [List.map_map]
  apply List.ext_getElem (by simp)
  intro i h1 h2
  have := h i
  rw [List.getD_eq_getElem?_getD, List.getElem?_eq_getElem h2] at this
  simp only [Option.getD_some] at this
  simp only [List.getElem_map, Function.comp, UInt8.toNat_ofNat']
  omega
theorem sb_append (s t : ByteArray) : sb (s ++ t) = sb s ++ sb t := by
  unfold sb
  rw [← List.map_append]
  simp [ByteArray.data_append]
theorem sb_get (s : ByteArray) (k : Nat) (h : k < s.size) : (s[k].toNat : Int) = (sb s).getD k 0 := by
  unfold sb
  rw [List.getD_eq_getElem?_getD, List.getElem?_map, List.getElem?_eq_getElem (by simpa using h)]
  rfl
theorem sb_drop (s : ByteArray) (k : Nat) : sb (s.extract k s.size) = (sb s).drop k := by
  unfold sb
  rw [← List.map_drop]
  congr 1
  simp only [ByteArray.data_extract, Array.toList_extract, List.extract_eq_take_drop]
  rw [List.take_of_length_le (by rw [List.length_drop, Array.length_toList]; exact Nat.le_refl _)]
theorem sb_take (s : ByteArray) (k : Nat) : sb (s.extract 0 k) = (sb s).take k := by
  unfold sb
  rw [← List.map_take]
  congr 1
  simp [ByteArray.data_extract]
end Go.Proofs.YtoocdfgjkeheaaaGreatDoor
/- Proved here: what and, or of small numbers are, as the model reckons them. Helpers; no program is named. -/
namespace Go.Proofs.YtoocdfgjkeheaaaGreatDoor
open Go.RowKit

theorem ofInt_64 (a : Nat) (ha : a < 18446744073709551616) : (BitVec.ofInt 64 (a : Int)).toNat = a := by
  rw [BitVec.ofInt_natCast, BitVec.toNat_ofNat]; exact Nat.mod_eq_of_lt (by omega)
theorem ofInt_32 (a : Nat) (ha : a < 4294967296) : (BitVec.ofInt 32 (a : Int)).toNat = a := by
  rw [BitVec.ofInt_natCast, BitVec.toNat_ofNat]; exact Nat.mod_eq_of_lt (by omega)
theorem i64_or_nat (a b : Nat) (ha : a < 4611686018427387904) (hb : b < 4611686018427387904) : bits .or .i64 (a : Int) (b : Int) = ((a ||| b : Nat) : Int) := by
  have hx : a ||| b < 2 ^ 62 := Nat.or_lt_two_pow (by omega) (by omega)
  show IntKind.i64.wrap ((BitVec.ofInt 64 (a : Int) ||| BitVec.ofInt 64 (b : Int)).toNat : Int) = _
  rw [BitVec.toNat_or, ofInt_64 a (by omega), ofInt_64 b (by omega), IntKind.wrap_i64]
  omega
theorem i32_or_nat (a b : Nat) (ha : a < 1073741824) (hb : b < 1073741824) : bits .or .i32 (a : Int) (b : Int) = ((a ||| b : Nat) : Int) := by
  have hx : a ||| b < 2 ^ 30 := Nat.or_lt_two_pow (by omega) (by omega)
  show IntKind.i32.wrap ((BitVec.ofInt 32 (a : Int) ||| BitVec.ofInt 32 (b : Int)).toNat : Int) = _
  rw [BitVec.toNat_or, ofInt_32 a (by omega), ofInt_32 b (by omega)]
  have h32 : (2 : Int) ^ IntKind.i32.bits = 4294967296 := rfl
  have h31 : (2 : Int) ^ (IntKind.i32.bits - 1) = 2147483648 := rfl
  have hsg : IntKind.i32.signed = true := rfl
  simp only [IntKind.wrap, h32, h31, hsg, Bool.true_and, decide_eq_true_eq]
  rw [if_neg (by omega)]
  omega
theorem or_i64 (x y : Int) (i : Nat) (hx0 : 0 ≤ x) (hx1 : x < 4611686018427387904) (hy0 : 0 ≤ y) (hy1 : y < 4611686018427387904) (hm : x.toNat % 2 ^ i = 0) (hy : y.toNat < 2 ^ i) : bits .or .i64 x y = x + y := by
  obtain ⟨a, rfl⟩ := Int.eq_ofNat_of_zero_le hx0
  obtain ⟨b, rfl⟩ := Int.eq_ofNat_of_zero_le hy0
  rw [i64_or_nat a b (by omega) (by omega), nat_join i a b (by simpa using hm) (by simpa using hy)]
  omega
theorem or_i32 (x y : Int) (i : Nat) (hx0 : 0 ≤ x) (hx1 : x < 1073741824) (hy0 : 0 ≤ y) (hy1 : y < 1073741824) (hm : x.toNat % 2 ^ i = 0) (hy : y.toNat < 2 ^ i) : bits .or .i32 x y = x + y := by
  obtain ⟨a, rfl⟩ := Int.eq_ofNat_of_zero_le hx0
  obtain ⟨b, rfl⟩ := Int.eq_ofNat_of_zero_le hy0
  rw [i32_or_nat a b (by omega) (by omega), nat_join i a b (by simpa using hm) (by simpa using hy)]
  omega
theorem a63_all : ∀ x : Fin 256, bits .and .u8 (x.val : Int) 63 = (x.val : Int) % 64 := by decide +kernel
theorem a192_all : ∀ x : Fin 256, (bits .and .u8 (x.val : Int) 192 == 128) = cont (x.val : Int) := by decide +kernel
theorem a7_all : ∀ x : Fin 256, bits .and .i64 (x.val : Int) 7 = (x.val : Int) % 8 := by decide +kernel
theorem a15_all : ∀ x : Fin 256, bits .and .i64 (x.val : Int) 15 = (x.val : Int) % 16 := by decide +kernel
theorem a31_all : ∀ x : Fin 256, bits .and .i64 (x.val : Int) 31 = (x.val : Int) % 32 := by decide +kernel
theorem b7_all : ∀ x : Fin 256, bits .and .i32 (x.val : Int) 7 = (x.val : Int) % 8 := by decide +kernel
theorem b15_all : ∀ x : Fin 256, bits .and .i32 (x.val : Int) 15 = (x.val : Int) % 16 := by decide +kernel
theorem b31_all : ∀ x : Fin 256, bits .and .i32 (x.val : Int) 31 = (x.val : Int) % 32 := by decide +kernel
theorem of_fin {p : Int → Prop} (h : ∀ x : Fin 256, p (x.val : Int)) (x : Int) (h0 : 0 ≤ x) (h1 : x ≤ 255) : p x := by
  have := h ⟨x.toNat, by omega⟩
  simpa only [Int.toNat_of_nonneg h0] using this
theorem a63 (x : Int) (h0 : 0 ≤ x) (h1 : x ≤ 255) : bits .and .u8 x 63 = x % 64 := of_fin (p := fun x => bits .and .u8 x 63 = x % 64) a63_all x h0 h1
theorem a192 (x : Int) (h0 : 0 ≤ x) (h1 : x ≤ 255) : (bits .and .u8 x 192 == 128) = cont x := of_fin (p := fun x => (bits .and .u8 x 192 == 128) = cont x) a192_all x h0 h1
theorem a7 (x : Int) (h0 : 0 ≤ x) (h1 : x ≤ 255) : bits .and .i64 x 7 = x % 8 := of_fin (p := fun x => bits .and .i64 x 7 = x % 8) a7_all x h0 h1
theorem a15 (x : Int) (h0 : 0 ≤ x) (h1 : x ≤ 255) : bits .and .i64 x 15 = x % 16 := of_fin (p := fun x => bits .and .i64 x 15 = x % 16) a15_all x h0 h1
theorem a31 (x : Int) (h0 : 0 ≤ x) (h1 : x ≤ 255) : bits .and .i64 x 31 = x % 32 := of_fin (p := fun x => bits .and .i64 x 31 = x % 32) a31_all x h0 h1
theorem b7 (x : Int) (h0 : 0 ≤ x) (h1 : x ≤ 255) : bits .and .i32 x 7 = x % 8 := of_fin (p := fun x => bits .and .i32 x 7 = x % 8) b7_all x h0 h1
theorem b15 (x : Int) (h0 : 0 ≤ x) (h1 : x ≤ 255) : bits .and .i32 x 15 = x % 16 := of_fin (p := fun x => bits .and .i32 x 15 = x % 16) b15_all x h0 h1
theorem b31 (x : Int) (h0 : 0 ≤ x) (h1 : x ≤ 255) : bits .and .i32 x 31 = x % 32 := of_fin (p := fun x => bits .and .i32 x 31 = x % 32) b31_all x h0 h1
end Go.Proofs.YtoocdfgjkeheaaaGreatDoor
/- Proved here: what text.sizeByFirst, least, mayBe and point tell. Helper contracts. -/
namespace Go.Proofs.YtoocdfgjkeheaaaGreatDoor
open Go.RowKit

def szf (c : Int) : Int := if c < 128 then 1 else if c < 192 then 0 else if c < 224 then 2 else if c < 240 then 3 else if c < 248 then 4 else 0
theorem szf_any (c : Int) (w : World) : Calls Tryz.prog 212 #[.int .u8 c] w fun e w' => e = .returned (.int .i64 (szf c)) ∧ w' = w := by
  have fin : ∀ x : Int, szf c = x → ∀ w' : World, w' = w → Ending.returned (.int .i64 x) = .returned (.int .i64 (szf c)) ∧ w' = w := fun x h w' hw => ⟨by rw [h], hw⟩
  by_cases h1 : c < 128
  · have hz : Hid (szf c = 1) := by show szf c = 1; simp [szf, h1]
    go_enter Tryz.func212, Tryz.ntmps212
    go_wp2
    go_ret
    exact fin _ (unhide hz) _ rfl
  · by_cases h2 : c < 192
    · have hz : Hid (szf c = 0) := by show szf c = 0; simp [szf, h1, h2]
      go_enter Tryz.func212, Tryz.ntmps212
      go_wp2
      go_ret
      exact fin _ (unhide hz) _ rfl
    · by_cases h3 : c < 224
      · have hz : Hid (szf c = 2) := by show szf c = 2; simp [szf, h1, h2, h3]
        go_enter Tryz.func212, Tryz.ntmps212
        go_wp2
        go_ret
        exact fin _ (unhide hz) _ rfl
      · by_cases h4 : c < 240
        · have hz : Hid (szf c = 3) := by show szf c = 3; simp [szf, h1, h2, h3, h4]
          go_enter Tryz.func212, Tryz.ntmps212
          go_wp2
          go_ret
          exact fin _ (unhide hz) _ rfl
        · by_cases h5 : c < 248
          · have hz : Hid (szf c = 4) := by show szf c = 4; simp [szf, h1, h2, h3, h4, h5]
            go_enter Tryz.func212, Tryz.ntmps212
            go_wp2
            go_ret
            exact fin _ (unhide hz) _ rfl
          · have hz : Hid (szf c = 0) := by show szf c = 0; simp [szf, h1, h2, h3, h4, h5]
            go_enter Tryz.func212, Tryz.ntmps212
            go_wp2
            go_ret
            exact fin _ (unhide hz) _ rfl

theorem least_1 (w : World) : Calls Tryz.prog 220 #[.int .i64 1] w fun e w' => e = .returned (.int .i32 1) ∧ w' = w := by
  go_enter Tryz.func220, Tryz.ntmps220
  go_wp2
  go_ret
  exact ⟨rfl, rfl⟩
theorem least_2 (w : World) : Calls Tryz.prog 220 #[.int .i64 2] w fun e w' => e = .returned (.int .i32 128) ∧ w' = w := by
  go_enter Tryz.func220, Tryz.ntmps220
  go_wp2
  go_ret
  exact ⟨rfl, rfl⟩
theorem least_3 (w : World) : Calls Tryz.prog 220 #[.int .i64 3] w fun e w' => e = .returned (.int .i32 2048) ∧ w' = w := by
  go_enter Tryz.func220, Tryz.ntmps220
  go_wp2
  go_ret
  exact ⟨rfl, rfl⟩
theorem least_4 (w : World) : Calls Tryz.prog 220 #[.int .i64 4] w fun e w' => e = .returned (.int .i32 65536) ∧ w' = w := by
  go_enter Tryz.func220, Tryz.ntmps220
  go_wp2
  go_ret
  exact ⟨rfl, rfl⟩

theorem mayBe_any (p n L : Int) (w : World) (hL : ∀ w, Calls Tryz.prog 220 #[.int .i64 n] w fun e w' => e = .returned (.int .i32 L) ∧ w' = w) (b : Bool)
    (hb : Hid (b = (!(decide (55296 ≤ p) && decide (p ≤ 57343)) && (decide (L ≤ p) && decide (p ≤ 1114111))))) :
    Calls Tryz.prog 213 #[.int .i32 p, .int .i64 n] w fun e w' => e = .returned (.bool b) ∧ w' = w := by
  by_cases h1 : 55296 ≤ p
  · by_cases h2 : p ≤ 57343
    · obtain rfl : b = false := by rw [unhide hb]; simp [h1, h2]
      go_enter Tryz.func213, Tryz.ntmps213
      go_wp2
      go_ret
      exact ⟨rfl, rfl⟩
    · by_cases h3 : L ≤ p
      · by_cases h4 : p ≤ 1114111
        · obtain rfl : b = true := by rw [unhide hb]; simp [h2, h3, h4]
          go_enter Tryz.func213, Tryz.ntmps213
          go_wp2_with (go_at_call 220; refine (hL _).mono ?_; rintro e w' ⟨rfl, rfl⟩)
          go_ret
          exact ⟨rfl, rfl⟩
        · obtain rfl : b = false := by rw [unhide hb]; simp [h4]
          have h4' : decide (p ≤ 1114111) = false := by simpa using h4
          go_enter Tryz.func213, Tryz.ntmps213
          go_wp2_with (go_at_call 220; refine (hL _).mono ?_; rintro e w' ⟨rfl, rfl⟩)
          go_ret
          exact ⟨rfl, rfl⟩
      · obtain rfl : b = false := by rw [unhide hb]; simp [h3]
        go_enter Tryz.func213, Tryz.ntmps213
        go_wp2_with (go_at_call 220; refine (hL _).mono ?_; rintro e w' ⟨rfl, rfl⟩)
        go_ret
        exact ⟨rfl, rfl⟩
  · by_cases h3 : L ≤ p
    · have h4 : p ≤ 1114111 := by omega
      obtain rfl : b = true := by rw [unhide hb]; simp [h1, h3, h4]
      go_enter Tryz.func213, Tryz.ntmps213
      go_wp2_with (go_at_call 220; refine (hL _).mono ?_; rintro e w' ⟨rfl, rfl⟩)
      go_ret
      exact ⟨rfl, rfl⟩
    · obtain rfl : b = false := by rw [unhide hb]; simp [h3]
      go_enter Tryz.func213, Tryz.ntmps213
      go_wp2_with (go_at_call 220; refine (hL _).mono ?_; rintro e w' ⟨rfl, rfl⟩)
      go_ret
      exact ⟨rfl, rfl⟩

theorem ret_int {k : IntKind} {a b : Int} (h : a = b) : Ending.returned (.int k a) = .returned (.int k b) := by rw [h]
theorem ret_bool {a b : Bool} (h : a = b) : Ending.returned (.bool a) = .returned (.bool b) := by rw [h]
theorem w32 (x : Int) (h0 : 0 ≤ x) (h1 : x < 2147483648) : wrap32 x = x := by unfold wrap32; omega
theorem p2_eq (a b : Int) (a0 : 0 ≤ a) (a1 : a ≤ 255) (b0 : 0 ≤ b) (b1 : b ≤ 255) : bits .or .i32 (wrap32 (bits .and .i32 (wrap32 a) 31 * 64)) (wrap32 (bits .and .u8 b 63)) = pv2 a b := by
  rw [w32 a (by omega) (by omega), b31 a a0 a1, a63 b b0 b1, w32 (a % 32 * 64) (by omega) (by omega), w32 (b % 64) (by omega) (by omega), or_i32 _ _ 6 (by omega) (by omega) (by omega) (by omega) (by omega) (by omega)]
  rfl
theorem p3_eq (a b c : Int) (a0 : 0 ≤ a) (a1 : a ≤ 255) (b0 : 0 ≤ b) (b1 : b ≤ 255) (c0 : 0 ≤ c) (c1 : c ≤ 255) : bits .or .i32 (wrap32 (bits .or .i32 (wrap32 (bits .and .i32 (wrap32 a) 15 * 64)) (wrap32 (bits .and .u8 b 63)) * 64)) (wrap32 (bits .and .u8 c 63)) = pv3 a b c := by
  rw [w32 a (by omega) (by omega), b15 a a0 a1, a63 b b0 b1, a63 c c0 c1, w32 (a % 16 * 64) (by omega) (by omega), w32 (b % 64) (by omega) (by omega), w32 (c % 64) (by omega) (by omega),
    or_i32 (a % 16 * 64) (b % 64) 6 (by omega) (by omega) (by omega) (by omega) (by omega) (by omega), w32 ((a % 16 * 64 + b % 64) * 64) (by omega) (by omega), or_i32 _ (c % 64) 6 (by omega) (by omega) (by omega) (by omega) (by omega) (by omega)]
  rfl
theorem p4_eq (a b c d : Int) (a0 : 0 ≤ a) (a1 : a ≤ 255) (b0 : 0 ≤ b) (b1 : b ≤ 255) (c0 : 0 ≤ c) (c1 : c ≤ 255) (d0 : 0 ≤ d) (d1 : d ≤ 255) : bits .or .i32 (wrap32 (bits .or .i32 (wrap32 (bits .or .i32 (wrap32 (bits .and .i32 (wrap32 a) 7 * 64)) (wrap32 (bits .and .u8 b 63)) * 64)) (wrap32 (bits .and .u8 c 63)) * 64)) (wrap32 (bits .and .u8 d 63)) = pv4 a b c d := by
  rw [w32 a (by omega) (by omega), b7 a a0 a1, a63 b b0 b1, a63 c c0 c1, a63 d d0 d1, w32 (a % 8 * 64) (by omega) (by omega), w32 (b % 64) (by omega) (by omega), w32 (c % 64) (by omega) (by omega), w32 (d % 64) (by omega) (by omega),
    or_i32 (a % 8 * 64) (b % 64) 6 (by omega) (by omega) (by omega) (by omega) (by omega) (by omega), w32 ((a % 8 * 64 + b % 64) * 64) (by omega) (by omega), or_i32 _ (c % 64) 6 (by omega) (by omega) (by omega) (by omega) (by omega) (by omega),
    w32 (((a % 8 * 64 + b % 64) * 64 + c % 64) * 64) (by omega) (by omega), or_i32 _ (d % 64) 6 (by omega) (by omega) (by omega) (by omega) (by omega) (by omega)]
  rfl
theorem u8_le (b : UInt8) : 0 ≤ (b.toNat : Int) ∧ (b.toNat : Int) ≤ 255 := ⟨by omega, by have := b.toNat_lt; omega⟩
theorem point_1 (s : ByteArray) (w : World) (hs : s.size = 1) : Calls Tryz.prog 214 #[.string s] w fun e w' => e = .returned (.int .i32 ((sb s).getD 0 0)) ∧ w' = w := by
  go_enter Tryz.func214, Tryz.ntmps214
  go_wp2
  go_ret
  refine ⟨ret_int ?_, rfl⟩
  rw [← sb_get s 0 (by omega)]
  exact w32 _ (u8_le _).1 (by have := (u8_le s[0]).2; omega)
theorem point_2 (s : ByteArray) (w : World) (hs : s.size = 2) : Calls Tryz.prog 214 #[.string s] w fun e w' => e = .returned (.int .i32 (pv2 ((sb s).getD 0 0) ((sb s).getD 1 0))) ∧ w' = w := by
  go_enter Tryz.func214, Tryz.ntmps214
  go_wp2
  go_ret
  refine ⟨ret_int ?_, rfl⟩
  rw [← sb_get s 0 (by omega), ← sb_get s 1 (by omega)]
  exact p2_eq _ _ (u8_le _).1 (u8_le _).2 (u8_le _).1 (u8_le _).2
theorem point_3 (s : ByteArray) (w : World) (hs : s.size = 3) : Calls Tryz.prog 214 #[.string s] w fun e w' => e = .returned (.int .i32 (pv3 ((sb s).getD 0 0) ((sb s).getD 1 0) ((sb s).getD 2 0))) ∧ w' = w := by
  go_enter Tryz.func214, Tryz.ntmps214
  go_wp2
  go_ret
  refine ⟨ret_int ?_, rfl⟩
  rw [← sb_get s 0 (by omega), ← sb_get s 1 (by omega), ← sb_get s 2 (by omega)]
  exact p3_eq _ _ _ (u8_le _).1 (u8_le _).2 (u8_le _).1 (u8_le _).2 (u8_le _).1 (u8_le _).2
theorem point_4 (s : ByteArray) (w : World) (hs : s.size = 4) : Calls Tryz.prog 214 #[.string s] w fun e w' => e = .returned (.int .i32 (pv4 ((sb s).getD 0 0) ((sb s).getD 1 0) ((sb s).getD 2 0) ((sb s).getD 3 0))) ∧ w' = w := by
  go_enter Tryz.func214, Tryz.ntmps214
  go_wp2
  go_ret
  refine ⟨ret_int ?_, rfl⟩
  rw [← sb_get s 0 (by omega), ← sb_get s 1 (by omega), ← sb_get s 2 (by omega), ← sb_get s 3 (by omega)]
  exact p4_eq _ _ _ _ (u8_le _).1 (u8_le _).2 (u8_le _).1 (u8_le _).2 (u8_le _).1 (u8_le _).2 (u8_le _).1 (u8_le _).2
end Go.Proofs.YtoocdfgjkeheaaaGreatDoor
/- Proved here: errors.Is at an api.Errno and at an *api.Fault around one, and prop's wrap, fault, few, broken. Helper contracts. -/
namespace Go.Proofs.YtoocdfgjkeheaaaGreatDoor
open Go.RowKit Go.Extern.Stop Go.Stop Go.Extern
set_option maxRecDepth 100000

abbrev wrapW (v : Value) (w : World) : World := w.alloc (.cells #[.string ⟨#[112, 114, 111, 112]⟩, v] 151)
theorem wrap_any (t : TypeId) (x : Value) (w : World) : Calls Tryz.prog 178 #[.iface t x] w fun e w' => e = .returned (.iface 149 (.pointer (some ⟨w.heap.size, 0, none⟩))) ∧ w' = wrapW (.iface t x) w := by
  go_enter Tryz.func178, Tryz.ntmps178
  go_wp2
  go_ret
  exact ⟨rfl, rfl⟩
theorem pfault_any (n : Int) (w : World) : Calls Tryz.prog 193 #[.int .i64 n] w fun e w' => e = .returned (.iface 149 (.pointer (some ⟨w.heap.size, 0, none⟩))) ∧ w' = wrapW (.iface 84 (.int .i64 n)) w := by
  go_enter Tryz.func193, Tryz.ntmps193
  go_wp2_with (go_at_call 178; refine (wrap_any _ _ _).mono ?_; rintro e w' ⟨rfl, rfl⟩)
  go_ret
  exact ⟨rfl, rfl⟩
/-- an error value of prop: nil, a Fault around the number, or one around a Fault of below -/
def ErrP (w : World) (v : Value) (n : Int) : Prop :=
  ErrIs w v n ∨ ∃ b c, v = .iface 149 (.pointer (some ⟨b, 0, none⟩)) ∧ w.cell? ⟨b, 1, none⟩ = some (.iface 149 (.pointer (some ⟨c, 0, none⟩))) ∧ w.cell? ⟨c, 1, none⟩ = some (.iface 84 (.int .i64 n))
/-- an error of below: a number, or a Fault around one -/
def Inn (w : World) (v : Value) (n : Int) : Prop := v = .iface 84 (.int .i64 n) ∨ ∃ b, v = .iface 149 (.pointer (some ⟨b, 0, none⟩)) ∧ w.cell? ⟨b, 1, none⟩ = some (.iface 84 (.int .i64 n))
theorem ErrP.below {w w' : World} {v : Value} {n : Int} (h : ErrP w v n) (hb : Below w.heap.size w w') : ErrP w' v n := by
  rcases h with h | ⟨b, c, h1, h2, h3⟩
  · exact .inl (h.below hb)
  · exact .inr ⟨b, c, h1, by rw [hb.cell (p := ⟨b, 1, none⟩) (cell_lt h2)]; exact h2, by rw [hb.cell (p := ⟨c, 1, none⟩) (cell_lt h3)]; exact h3⟩
theorem ErrP.nil (w : World) : ErrP w .nilIface 0 := .inl (.inl ⟨rfl, rfl⟩)
theorem Inn.below {w w' : World} {v : Value} {n : Int} (h : Inn w v n) (hb : Below w.heap.size w w') : Inn w' v n := by
  rcases h with h | ⟨b, h1, h2⟩
  · exact .inl h
  · exact .inr ⟨b, h1, by rw [hb.cell (p := ⟨b, 1, none⟩) (cell_lt h2)]; exact h2⟩
theorem wrap_is (n : Int) (v : Value) (w : World) (h : Inn w v n) : ErrP (wrapW v w) (.iface 149 (.pointer (some ⟨w.heap.size, 0, none⟩))) n := by
  rcases h with rfl | ⟨b, rfl, hc⟩
  · exact .inl (.inr ⟨_, rfl, by simp⟩)
  · exact .inr ⟨_, b, rfl, by simp, by rw [World.cell?_alloc_lt _ _ ⟨b, 1, none⟩ (cell_lt hc)]; exact hc⟩
theorem wrap_below (v : Value) (w : World) : Below w.heap.size w (wrapW v w) := (Below.refl _ _).alloc (Nat.le_refl _) _
/-- fault's answer, as a caller uses it -/
theorem pfault_use (n : Int) (w : World) : Calls Tryz.prog 193 #[.int .i64 n] w fun e w' => ∃ E, e = .returned (.iface 149 E) ∧ Hid (ErrP w' (.iface 149 E) n) ∧ Below w.heap.size w w' := by
  refine (pfault_any n w).mono ?_
  rintro e w' ⟨rfl, rfl⟩
  exact ⟨_, rfl, wrap_is n _ w (.inl rfl), wrap_below _ _⟩
theorem wrap_use (v : Value) (n : Int) (w : World) (h : Inn w v n) : Calls Tryz.prog 178 #[v] w fun e w' => ∃ E, e = .returned (.iface 149 E) ∧ Hid (ErrP w' (.iface 149 E) n) ∧ Below w.heap.size w w' := by
  obtain ⟨t, x, rfl⟩ : ∃ t x, v = .iface t x := by rcases h with rfl | ⟨b, rfl, _⟩ <;> exact ⟨_, _, rfl⟩
  refine (wrap_any t x w).mono ?_
  rintro e w' ⟨rfl, rfl⟩
  exact ⟨_, rfl, wrap_is n _ w h, wrap_below _ _⟩
theorem few_ok (n : Int) (w : World) (h : n ≤ 32) : Calls Tryz.prog 179 #[.int .i64 n] w fun e w' => e = .returned .nilIface ∧ w' = w := by
  go_enter Tryz.func179, Tryz.ntmps179
  go_wp2
  go_ret
  exact ⟨rfl, rfl⟩
theorem few_bad (n : Int) (w : World) (h : 32 < n) : Calls Tryz.prog 179 #[.int .i64 n] w fun e w' => ∃ E, e = .returned (.iface 149 E) ∧ Hid (ErrP w' (.iface 149 E) 2) ∧ Below w.heap.size w w' := by
  go_enter Tryz.func179, Tryz.ntmps179
  go_wp2_with (go_at_call 193; refine (pfault_use 2 _).mono ?_; rintro e w' ⟨E, rfl, hE, hb⟩)
  go_ret
  exact ⟨_, rfl, hE, hb⟩

theorem methodComp (h : Value) (w : World) : (Go.method 384 199 (.agg #[h]) "Comparable").run Tryz.prog w = .ok (248, .agg #[h]) w := by kernel_rfl
theorem compE (w : World) : ((ReflectliteType.method fun t => do Rtype.noPackHeld "Comparable" t; (fun a => Value.bool a.comparable) <$> typeInfo t) #[.agg #[.pointer (some ⟨1, 84, none⟩)]]).run Tryz.prog w = .ok (.bool true) w := by kernel_rfl
theorem noIsF (v : Value) (xT : TypeId) (w : World) : (Instr.typeAssert (.iface 149 v) xT 201 true).run Tryz.prog w = .ok (.tuple #[.nilIface, .bool false]) w := run_typeAssert_lacksB Tryz.underlying201 (by kernel_rfl) (by kernel_rfl) v xT w
theorem noIsE (v : Value) (xT : TypeId) (w : World) : (Instr.typeAssert (.iface 84 v) xT 201 true).run Tryz.prog w = .ok (.tuple #[.nilIface, .bool false]) w := run_typeAssert_lacksB Tryz.underlying201 (by kernel_rfl) (by kernel_rfl) v xT w
theorem noUnwrapE (v : Value) (xT : TypeId) (w : World) : (Instr.typeAssert (.iface 84 v) xT 204 true).run Tryz.prog w = .ok (.tuple #[.nilIface, .bool false]) w := run_typeAssert_lacksB Tryz.underlying204 (by kernel_rfl) (by kernel_rfl) v xT w
theorem noUnwrapsE (v : Value) (xT : TypeId) (w : World) : (Instr.typeAssert (.iface 84 v) xT 206 true).run Tryz.prog w = .ok (.tuple #[.nilIface, .bool false]) w := run_typeAssert_lacksB Tryz.underlying206 (by kernel_rfl) (by kernel_rfl) v xT w

theorem eqE (n : Int) (w : World) : (binOp .eql 37 (.iface 84 (.int .i64 n)) (.iface 84 (.int .i64 1))).run Tryz.prog w = .ok (.bool (n == 1)) w := by kernel_rfl
theorem eqF (v u : Value) (w : World) : (binOp .eql 37 (.iface 149 v) (.iface 84 u)).run Tryz.prog w = .ok (.bool false) w := by kernel_rfl
theorem eqN (t : TypeId) (v : Value) (w : World) : (binOp .eql 37 (.iface t v) .nilIface).run Tryz.prog w = .ok (.bool false) w := by kernel_rfl
set_option maxHeartbeats 4000000 in
theorem is_errno (n : Int) (w : World) : Calls Tryz.prog 136 #[.iface 84 (.int .i64 n), .iface 84 (.int .i64 1), .bool true] w fun e w' => e = .returned (.bool (n == 1)) ∧ w' = w := by
  have nI := noIsE
  have q1 := eqE
  have q2 := eqF
  have nU := noUnwrapE
  have nV := noUnwrapsE
  by_cases h : n = 1
  · subst h
    go_enter Tryz.func136, Tryz.ntmps136
    go_wp2
    refine wp_loop_rounds 1 ?_
    rw [rounds_succ]
    go_wp2
    go_ret
    exact ⟨rfl, rfl⟩
  · have hb : (n == 1) = false := beq_eq_false_iff_ne.2 h
    go_enter Tryz.func136, Tryz.ntmps136
    go_wp2
    refine wp_loop_rounds 1 ?_
    rw [rounds_succ]
    go_wp2
    go_ret
    exact ⟨ret_bool hb.symm, rfl⟩
set_option maxHeartbeats 4000000 in
theorem is_fault (b : Nat) (n : Int) (w : World) (hc : w.cell? ⟨b, 1, none⟩ = some (.iface 84 (.int .i64 n))) : Calls Tryz.prog 136 #[.iface 149 (.pointer (some ⟨b, 0, none⟩)), .iface 84 (.int .i64 1), .bool true] w fun e w' => e = .returned (.bool (n == 1)) ∧ w' = w := by
  have nI := noIsE
  have q1 := eqE
  have q2 := eqF
  have nU := noUnwrapE
  have nV := noUnwrapsE
  have nF := noIsF
  have hU := hasUnwrapF
  have mU := methodUnwrap
  by_cases h : n = 1
  · subst h
    go_enter Tryz.func136, Tryz.ntmps136
    go_wp2
    refine wp_loop_rounds 2 ?_
    rw [rounds_succ]
    go_wp2_with (go_at_call 242; refine (unwrap_any _ _ _ hc).mono ?_; rintro e w' ⟨rfl, rfl⟩)
    rw [rounds_succ]
    go_wp2
    go_ret
    exact ⟨rfl, rfl⟩
  · have hb : (n == 1) = false := beq_eq_false_iff_ne.2 h
    go_enter Tryz.func136, Tryz.ntmps136
    go_wp2
    refine wp_loop_rounds 2 ?_
    rw [rounds_succ]
    go_wp2_with (go_at_call 242; refine (unwrap_any _ _ _ hc).mono ?_; rintro e w' ⟨rfl, rfl⟩)
    rw [rounds_succ]
    go_wp2
    go_ret
    exact ⟨ret_bool hb.symm, rfl⟩
theorem is_inn (v : Value) (n : Int) (w : World) (h : Inn w v n) : Calls Tryz.prog 136 #[v, .iface 84 (.int .i64 1), .bool true] w fun e w' => e = .returned (.bool (n == 1)) ∧ w' = w := by
  rcases h with rfl | ⟨b, rfl, hc⟩
  · exact is_errno n w
  · exact is_fault b n w hc
set_option maxHeartbeats 4000000 in
theorem Is_inn (t : TypeId) (x : Value) (n : Int) (w : World) (h : Inn w (.iface t x) n) : Calls Tryz.prog 81 #[.iface t x, .iface 84 (.int .i64 1)] w fun e w' => e = .returned (.bool (n == 1)) ∧ w' = w := by
  have H := hide h
  clear h
  have hT := @run_callFunc_extern Tryz.prog 135 _ ReflectliteType.typeOf Tryz.func135 (by kernel_rfl) (by kernel_rfl) (by kernel_rfl) (by kernel_rfl)
  have hC := @run_callFunc_extern Tryz.prog 248 _ (ReflectliteType.method fun t => do Rtype.noPackHeld "Comparable" t; pure (.bool (← typeInfo t).comparable)) Tryz.func248 (by kernel_rfl) (by kernel_rfl) (by kernel_rfl) (by kernel_rfl)
  have tO := typeOfE
  have mC := methodComp
  have cE := compE
  go_enter Tryz.func81, Tryz.ntmps81
  go_wp2_with (go_at_call 136; refine (is_inn _ n _ (unhide H)).mono ?_; rintro e w' ⟨rfl, rfl⟩)
  go_ret
  exact ⟨rfl, rfl⟩
theorem broken_use (v : Value) (n : Int) (w : World) (h : Inn w v n) : Calls Tryz.prog 202 #[v] w fun e w' => ∃ E, e = .returned (.iface 149 E) ∧ Hid (ErrP w' (.iface 149 E) 1) ∧ Below w.heap.size w w' := by
  obtain ⟨t, x, rfl⟩ : ∃ t x, v = .iface t x := by rcases h with rfl | ⟨b, rfl, _⟩ <;> exact ⟨_, _, rfl⟩
  have H := hide h
  clear h
  by_cases h : n = 1
  · subst h
    go_enter Tryz.func202, Tryz.ntmps202
    go_wp2_with (first | (go_at_call 81; refine (Is_inn t x 1 _ (unhide H)).mono ?_; rintro e w' ⟨rfl, rfl⟩) | (go_at_call 178; refine (wrap_use _ 1 _ (unhide H)).mono ?_; rintro e w' ⟨E, rfl, hE, hb⟩))
    go_ret
    exact ⟨_, rfl, hE, hb⟩
  · have hb : (n == 1) = false := beq_eq_false_iff_ne.2 h
    go_enter Tryz.func202, Tryz.ntmps202
    go_wp2_with (first | (go_at_call 81; refine (Is_inn t x n _ (unhide H)).mono ?_; rintro e w' ⟨rfl, rfl⟩) | (go_at_call 193; refine (pfault_use 1 _).mono ?_; rintro e w' ⟨E, rfl, hE, hb'⟩))
    go_ret
    exact ⟨_, rfl, hE, hb'⟩
end Go.Proofs.YtoocdfgjkeheaaaGreatDoor
/- Proved here: errors.Is at an api.Errno and at up to three *api.Faults around one. Helper contracts. -/
namespace Go.Proofs.YtoocdfgjkeheaaaGreatDoor
open Go.RowKit Go.Extern.Stop Go.Stop Go.Extern
set_option maxRecDepth 100000

/-- an error that is the number n, with d Faults around it -/
def Er (w : World) : Nat → Value → Int → Prop
  | 0, v, n => v = .iface 84 (.int .i64 n)
  | d + 1, v, n => ∃ b u, v = .iface 149 (.pointer (some ⟨b, 0, none⟩)) ∧ w.cell? ⟨b, 1, none⟩ = some u ∧ Er w d u n
theorem Er.below {w w' : World} (hb : Below w.heap.size w w') : ∀ {d : Nat} {v : Value} {n : Int}, Er w d v n → Er w' d v n
  | 0, _, _, h => h
  | _ + 1, _, _, ⟨b, u, h1, h2, h3⟩ => ⟨b, u, h1, by rw [hb.cell (p := ⟨b, 1, none⟩) (cell_lt h2)]; exact h2, Er.below hb h3⟩
theorem Er.iface {w : World} : ∀ {d : Nat} {v : Value} {n : Int}, Er w d v n → ∃ t x, v = .iface t x
  | 0, _, _, h => ⟨_, _, h⟩
  | _ + 1, _, _, ⟨_, _, h, _⟩ => ⟨_, _, h⟩
theorem eqEm (n m : Int) (w : World) : (binOp .eql 37 (.iface 84 (.int .i64 n)) (.iface 84 (.int .i64 m))).run Tryz.prog w = .ok (.bool (n == m)) w := by kernel_rfl
set_option maxHeartbeats 4000000 in
theorem er_is0 (n m : Int) (w : World)  : Calls Tryz.prog 136 #[.iface 84 (.int .i64 n), .iface 84 (.int .i64 m), .bool true] w fun e w' => e = .returned (.bool (n == m)) ∧ w' = w := by
  have nI := noIsE
  have q1 := eqEm
  have q2 := eqF
  have nU := noUnwrapE
  have nV := noUnwrapsE
  have nF := noIsF
  have hU := hasUnwrapF
  have mU := methodUnwrap
  by_cases h : n = m
  · subst h
    have hb : (n == n) = true := by simp
    go_enter Tryz.func136, Tryz.ntmps136
    go_wp2
    refine wp_loop_rounds 1 ?_
    rw [rounds_succ]
    go_wp2
    go_ret
    exact ⟨ret_bool hb.symm, rfl⟩
  · have hb : (n == m) = false := beq_eq_false_iff_ne.2 h
    go_enter Tryz.func136, Tryz.ntmps136
    go_wp2
    refine wp_loop_rounds 1 ?_
    rw [rounds_succ]
    go_wp2
    go_ret
    exact ⟨ret_bool hb.symm, rfl⟩
set_option maxHeartbeats 4000000 in
theorem er_is1 (b0 : Nat) (n m : Int) (w : World) (h0 : w.cell? ⟨b0, 1, none⟩ = some (.iface 84 (.int .i64 n))) : Calls Tryz.prog 136 #[.iface 149 (.pointer (some ⟨b0, 0, none⟩)), .iface 84 (.int .i64 m), .bool true] w fun e w' => e = .returned (.bool (n == m)) ∧ w' = w := by
  have nI := noIsE
  have q1 := eqEm
  have q2 := eqF
  have nU := noUnwrapE
  have nV := noUnwrapsE
  have nF := noIsF
  have hU := hasUnwrapF
  have mU := methodUnwrap
  by_cases h : n = m
  · subst h
    have hb : (n == n) = true := by simp
    go_enter Tryz.func136, Tryz.ntmps136
    go_wp2
    refine wp_loop_rounds 2 ?_
    rw [rounds_succ]
    go_wp2_with (go_at_call 242; refine (unwrap_any _ _ _ h0).mono ?_; rintro e w' ⟨rfl, rfl⟩)
    rw [rounds_succ]
    go_wp2
    go_ret
    exact ⟨ret_bool hb.symm, rfl⟩
  · have hb : (n == m) = false := beq_eq_false_iff_ne.2 h
    go_enter Tryz.func136, Tryz.ntmps136
    go_wp2
    refine wp_loop_rounds 2 ?_
    rw [rounds_succ]
    go_wp2_with (go_at_call 242; refine (unwrap_any _ _ _ h0).mono ?_; rintro e w' ⟨rfl, rfl⟩)
    rw [rounds_succ]
    go_wp2
    go_ret
    exact ⟨ret_bool hb.symm, rfl⟩
set_option maxHeartbeats 4000000 in
theorem er_is2 (b0 b1 : Nat) (n m : Int) (w : World) (h0 : w.cell? ⟨b0, 1, none⟩ = some (.iface 149 (.pointer (some ⟨b1, 0, none⟩)))) (h1 : w.cell? ⟨b1, 1, none⟩ = some (.iface 84 (.int .i64 n))) : Calls Tryz.prog 136 #[.iface 149 (.pointer (some ⟨b0, 0, none⟩)), .iface 84 (.int .i64 m), .bool true] w fun e w' => e = .returned (.bool (n == m)) ∧ w' = w := by
  have nI := noIsE
  have q1 := eqEm
  have q2 := eqF
  have nU := noUnwrapE
  have nV := noUnwrapsE
  have nF := noIsF
  have hU := hasUnwrapF
  have mU := methodUnwrap
  by_cases h : n = m
  · subst h
    have hb : (n == n) = true := by simp
    go_enter Tryz.func136, Tryz.ntmps136
    go_wp2
    refine wp_loop_rounds 3 ?_
    rw [rounds_succ]
    go_wp2_with (go_at_call 242; refine (unwrap_any _ _ _ h0).mono ?_; rintro e w' ⟨rfl, rfl⟩)
    rw [rounds_succ]
    go_wp2_with (go_at_call 242; refine (unwrap_any _ _ _ h1).mono ?_; rintro e w' ⟨rfl, rfl⟩)
    rw [rounds_succ]
    go_wp2
    go_ret
    exact ⟨ret_bool hb.symm, rfl⟩
  · have hb : (n == m) = false := beq_eq_false_iff_ne.2 h
    go_enter Tryz.func136, Tryz.ntmps136
    go_wp2
    refine wp_loop_rounds 3 ?_
    rw [rounds_succ]
    go_wp2_with (go_at_call 242; refine (unwrap_any _ _ _ h0).mono ?_; rintro e w' ⟨rfl, rfl⟩)
    rw [rounds_succ]
    go_wp2_with (go_at_call 242; refine (unwrap_any _ _ _ h1).mono ?_; rintro e w' ⟨rfl, rfl⟩)
    rw [rounds_succ]
    go_wp2
    go_ret
    exact ⟨ret_bool hb.symm, rfl⟩
set_option maxHeartbeats 4000000 in
theorem er_is3 (b0 b1 b2 : Nat) (n m : Int) (w : World) (h0 : w.cell? ⟨b0, 1, none⟩ = some (.iface 149 (.pointer (some ⟨b1, 0, none⟩)))) (h1 : w.cell? ⟨b1, 1, none⟩ = some (.iface 149 (.pointer (some ⟨b2, 0, none⟩)))) (h2 : w.cell? ⟨b2, 1, none⟩ = some (.iface 84 (.int .i64 n))) : Calls Tryz.prog 136 #[.iface 149 (.pointer (some ⟨b0, 0, none⟩)), .iface 84 (.int .i64 m), .bool true] w fun e w' => e = .returned (.bool (n == m)) ∧ w' = w := by
  have nI := noIsE
  have q1 := eqEm
  have q2 := eqF
  have nU := noUnwrapE
  have nV := noUnwrapsE
  have nF := noIsF
  have hU := hasUnwrapF
  have mU := methodUnwrap
  by_cases h : n = m
  · subst h
    have hb : (n == n) = true := by simp
    go_enter Tryz.func136, Tryz.ntmps136
    go_wp2
    refine wp_loop_rounds 4 ?_
    rw [rounds_succ]
    go_wp2_with (go_at_call 242; refine (unwrap_any _ _ _ h0).mono ?_; rintro e w' ⟨rfl, rfl⟩)
    rw [rounds_succ]
    go_wp2_with (go_at_call 242; refine (unwrap_any _ _ _ h1).mono ?_; rintro e w' ⟨rfl, rfl⟩)
    rw [rounds_succ]
    go_wp2_with (go_at_call 242; refine (unwrap_any _ _ _ h2).mono ?_; rintro e w' ⟨rfl, rfl⟩)
    rw [rounds_succ]
    go_wp2
    go_ret
    exact ⟨ret_bool hb.symm, rfl⟩
  · have hb : (n == m) = false := beq_eq_false_iff_ne.2 h
    go_enter Tryz.func136, Tryz.ntmps136
    go_wp2
    refine wp_loop_rounds 4 ?_
    rw [rounds_succ]
    go_wp2_with (go_at_call 242; refine (unwrap_any _ _ _ h0).mono ?_; rintro e w' ⟨rfl, rfl⟩)
    rw [rounds_succ]
    go_wp2_with (go_at_call 242; refine (unwrap_any _ _ _ h1).mono ?_; rintro e w' ⟨rfl, rfl⟩)
    rw [rounds_succ]
    go_wp2_with (go_at_call 242; refine (unwrap_any _ _ _ h2).mono ?_; rintro e w' ⟨rfl, rfl⟩)
    rw [rounds_succ]
    go_wp2
    go_ret
    exact ⟨ret_bool hb.symm, rfl⟩
theorem er_is (d : Nat) (hd : d ≤ 3) (v : Value) (n m : Int) (w : World) (h : Er w d v n) : Calls Tryz.prog 136 #[v, .iface 84 (.int .i64 m), .bool true] w fun e w' => e = .returned (.bool (n == m)) ∧ w' = w := by
  match d, hd, h with
  | 0, _, h => cases h; exact er_is0 n m w
  | 1, _, ⟨b, u, h1, h2, h3⟩ => cases h1; cases h3; exact er_is1 b n m w h2
  | 2, _, ⟨b, u, h1, h2, b', u', h3, h4, h5⟩ => cases h1; cases h3; cases h5; exact er_is2 b b' n m w h2 h4
  | 3, _, ⟨b, u, h1, h2, b', u', h3, h4, b'', u'', h5, h6, h7⟩ => cases h1; cases h3; cases h5; cases h7; exact er_is3 b b' b'' n m w h2 h4 h6
set_option maxHeartbeats 4000000 in
theorem er_Is (d : Nat) (hd : d ≤ 3) (v : Value) (n m : Int) (w : World) (h : Er w d v n) : Calls Tryz.prog 81 #[v, .iface 84 (.int .i64 m)] w fun e w' => e = .returned (.bool (n == m)) ∧ w' = w := by
  obtain ⟨t, x, rfl⟩ := h.iface
  have H := hide h
  clear h
  have hT := @run_callFunc_extern Tryz.prog 135 _ ReflectliteType.typeOf Tryz.func135 (by kernel_rfl) (by kernel_rfl) (by kernel_rfl) (by kernel_rfl)
  have hC := @run_callFunc_extern Tryz.prog 248 _ (ReflectliteType.method fun t => do Rtype.noPackHeld "Comparable" t; pure (.bool (← typeInfo t).comparable)) Tryz.func248 (by kernel_rfl) (by kernel_rfl) (by kernel_rfl) (by kernel_rfl)
  have tO := typeOfE
  have mC := methodComp
  have cE := compE
  go_enter Tryz.func81, Tryz.ntmps81
  go_wp2_with (go_at_call 136; refine (er_is d hd _ n m _ (unhide H)).mono ?_; rintro e w' ⟨rfl, rfl⟩)
  go_ret
  exact ⟨rfl, rfl⟩
end Go.Proofs.YtoocdfgjkeheaaaGreatDoor
/- Proved here: text.pointSize tells how many bytes the code point has with which a text begins, or 0. Helper contracts. -/
namespace Go.Proofs.YtoocdfgjkeheaaaGreatDoor
open Go.RowKit

def pvn (n : Nat) (l : List Int) : Int := if n = 1 then l.getD 0 0 else if n = 2 then pv2 (l.getD 0 0) (l.getD 1 0) else if n = 3 then pv3 (l.getD 0 0) (l.getD 1 0) (l.getD 2 0) else pv4 (l.getD 0 0) (l.getD 1 0) (l.getD 2 0) (l.getD 3 0)
def lstn (n : Nat) : Int := if n = 1 then 1 else if n = 2 then 128 else if n = 3 then 2048 else 65536
def mbn (n : Nat) (l : List Int) : Bool := !(decide (55296 ≤ pvn n l) && decide (pvn n l ≤ 57343)) && (decide (lstn n ≤ pvn n l) && decide (pvn n l ≤ 1114111))

theorem szf_cases (c : Int) : (c < 128 ∧ szf c = 1) ∨ (128 ≤ c ∧ c < 192 ∧ szf c = 0) ∨ (192 ≤ c ∧ c < 224 ∧ szf c = 2) ∨ (224 ≤ c ∧ c < 240 ∧ szf c = 3) ∨ (240 ≤ c ∧ c < 248 ∧ szf c = 4) ∨ (248 ≤ c ∧ szf c = 0) := by
  unfold szf
  split
  · omega
  · split
    · omega
    · split
      · omega
      · split
        · omega
        · split <;> omega
theorem pt_1 (l : List Int) (h : l.getD 0 0 < 128) : pt l = if 0 < l.getD 0 0 then 1 else 0 := by unfold pt; rw [if_pos h]
theorem pt_2 (l : List Int) (h : 192 ≤ l.getD 0 0) (h' : l.getD 0 0 < 224) : pt l = if 2 ≤ l.length ∧ ok2 (l.getD 0 0) (l.getD 1 0) = true then 2 else 0 := by
  unfold pt; rw [if_neg (by omega), if_neg (by omega), if_pos h']
theorem pt_3 (l : List Int) (h : 224 ≤ l.getD 0 0) (h' : l.getD 0 0 < 240) : pt l = if 3 ≤ l.length ∧ ok3 (l.getD 0 0) (l.getD 1 0) (l.getD 2 0) = true then 3 else 0 := by
  unfold pt; rw [if_neg (by omega), if_neg (by omega), if_neg (by omega), if_pos h']
theorem pt_4 (l : List Int) (h : 240 ≤ l.getD 0 0) (h' : l.getD 0 0 < 248) : pt l = if 4 ≤ l.length ∧ ok4 (l.getD 0 0) (l.getD 1 0) (l.getD 2 0) (l.getD 3 0) = true then 4 else 0 := by
  unfold pt; rw [if_neg (by omega), if_neg (by omega), if_neg (by omega), if_neg (by omega), if_pos h']
theorem pt_0 (l : List Int) (h : szf (l.getD 0 0) = 0) : pt l = 0 := by
  rcases szf_cases (l.getD 0 0) with h1 | h1 | h1 | h1 | h1 | h1
  all_goals first | omega | skip
  · unfold pt; rw [if_neg (by omega), if_pos (by omega)]
  · unfold pt; rw [if_neg (by omega), if_neg (by omega), if_neg (by omega), if_neg (by omega), if_neg (by omega)]
theorem pt_short (l : List Int) (n : Nat) (hn : szf (l.getD 0 0) = n) (h0 : 1 ≤ l.length) (h : l.length < n) : pt l = 0 := by
  rcases szf_cases (l.getD 0 0) with h1 | h1 | h1 | h1 | h1 | h1
  all_goals first | omega | skip
  · rw [pt_2 l h1.1 h1.2.1, if_neg (by omega)]
  · rw [pt_3 l h1.1 h1.2.1, if_neg (by omega)]
  · rw [pt_4 l h1.1 h1.2.1, if_neg (by omega)]
theorem pt_cont (l : List Int) (n : Nat) (hn : szf (l.getD 0 0) = n) (j : Nat) (hj1 : 1 ≤ j) (hj : j < n) (hc : cont (l.getD j 0) = false) : pt l = 0 := by
  rcases szf_cases (l.getD 0 0) with h1 | h1 | h1 | h1 | h1 | h1
  all_goals first | omega | skip
  · obtain rfl : j = 1 := by omega
    rw [pt_2 l h1.1 h1.2.1, if_neg (by unfold ok2; rw [hc]; simp)]
  · rw [pt_3 l h1.1 h1.2.1, if_neg]
    rintro ⟨_, h2⟩
    unfold ok3 at h2
    obtain rfl | rfl : j = 1 ∨ j = 2 := by omega
    · rw [hc] at h2; simp at h2
    · rw [hc] at h2; simp at h2
  · rw [pt_4 l h1.1 h1.2.1, if_neg]
    rintro ⟨_, h2⟩
    unfold ok4 at h2
    obtain rfl | rfl | rfl : j = 1 ∨ j = 2 ∨ j = 3 := by omega
    · rw [hc] at h2; simp at h2
    · rw [hc] at h2; simp at h2
    · rw [hc] at h2; simp at h2
theorem if_iff {p q : Prop} [Decidable p] [Decidable q] {a b : Nat} (h : p ↔ q) : (if p then a else b) = if q then a else b := by
  by_cases hp : p
  · rw [if_pos hp, if_pos (h.1 hp)]
  · rw [if_neg hp, if_neg (fun hq => hp (h.2 hq))]
theorem pt_mb (l : List Int) (n : Nat) (hn : szf (l.getD 0 0) = n) (h0 : 1 ≤ n) (hl : n ≤ l.length) (hc : ∀ j, 1 ≤ j → j < n → cont (l.getD j 0) = true) : pt l = if mbn n l = true then n else 0 := by
  unfold mbn
  simp only [Bool.and_eq_true, Bool.not_eq_true', Bool.and_eq_false_iff, decide_eq_true_eq, decide_eq_false_iff_not]
  rcases szf_cases (l.getD 0 0) with h1 | h1 | h1 | h1 | h1 | h1
  all_goals first | omega | skip
  · obtain rfl : n = 1 := by omega
    rw [pt_1 l h1.1]
    refine if_iff ?_
    have e : pvn 1 l = l.getD 0 0 := rfl
    have e2 : lstn 1 = 1 := rfl
    rw [e, e2]
    omega
  · obtain rfl : n = 2 := by omega
    rw [pt_2 l h1.1 h1.2.1]
    refine if_iff ?_
    have e : pvn 2 l = pv2 (l.getD 0 0) (l.getD 1 0) := rfl
    have e2 : lstn 2 = 128 := rfl
    rw [e, e2]
    unfold ok2
    simp only [hc 1 (by omega) (by omega), Bool.true_and, decide_eq_true_eq]
    have : 0 ≤ pv2 (l.getD 0 0) (l.getD 1 0) ∧ pv2 (l.getD 0 0) (l.getD 1 0) < 2048 := by unfold pv2; omega
    omega
  · obtain rfl : n = 3 := by omega
    rw [pt_3 l h1.1 h1.2.1]
    refine if_iff ?_
    have e : pvn 3 l = pv3 (l.getD 0 0) (l.getD 1 0) (l.getD 2 0) := rfl
    have e2 : lstn 3 = 2048 := rfl
    rw [e, e2]
    unfold ok3
    simp only [hc 1 (by omega) (by omega), hc 2 (by omega) (by omega), Bool.true_and, Bool.and_eq_true, Bool.not_eq_true', Bool.and_eq_false_iff, decide_eq_true_eq, decide_eq_false_iff_not]
    have : 0 ≤ pv3 (l.getD 0 0) (l.getD 1 0) (l.getD 2 0) ∧ pv3 (l.getD 0 0) (l.getD 1 0) (l.getD 2 0) < 65536 := by unfold pv3; omega
    omega
  · obtain rfl : n = 4 := by omega
    rw [pt_4 l h1.1 h1.2.1]
    refine if_iff ?_
    have e : pvn 4 l = pv4 (l.getD 0 0) (l.getD 1 0) (l.getD 2 0) (l.getD 3 0) := rfl
    have e2 : lstn 4 = 65536 := rfl
    rw [e, e2]
    unfold ok4
    simp only [hc 1 (by omega) (by omega), hc 2 (by omega) (by omega), hc 3 (by omega) (by omega), Bool.true_and, Bool.and_eq_true, decide_eq_true_eq]
    omega

theorem getD_take (l : List Int) (n j : Nat) (h : j < n) : (l.take n).getD j 0 = l.getD j 0 := by
  rw [List.getD_eq_getElem?_getD, List.getElem?_take, if_pos h, ← List.getD_eq_getElem?_getD]
theorem pvn_take (n : Nat) (l : List Int) (h1 : 1 ≤ n) (h4 : n ≤ 4) : pvn n (l.take n) = pvn n l := by
  obtain rfl | rfl | rfl | rfl : n = 1 ∨ n = 2 ∨ n = 3 ∨ n = 4 := by omega
  · simp only [pvn, if_true]; rw [getD_take _ _ _ (by omega)]
  · show pv2 _ _ = pv2 _ _
    rw [getD_take _ _ _ (by omega), getD_take _ _ _ (by omega)]
  · show pv3 _ _ _ = pv3 _ _ _
    rw [getD_take _ _ _ (by omega), getD_take _ _ _ (by omega), getD_take _ _ _ (by omega)]
  · show pv4 _ _ _ _ = pv4 _ _ _ _
    rw [getD_take _ _ _ (by omega), getD_take _ _ _ (by omega), getD_take _ _ _ (by omega), getD_take _ _ _ (by omega)]
theorem point_any (s : ByteArray) (n : Nat) (w : World) (h1 : 1 ≤ n) (h4 : n ≤ 4) (hn : n ≤ s.size) : Calls Tryz.prog 214 #[.string (s.extract 0 n)] w fun e w' => e = .returned (.int .i32 (pvn n (sb s))) ∧ w' = w := by
  have hz : (s.extract 0 n).size = n := by rw [ByteArray.size_extract]; omega
  rw [← pvn_take n (sb s) h1 h4, ← sb_take]
  obtain rfl | rfl | rfl | rfl : n = 1 ∨ n = 2 ∨ n = 3 ∨ n = 4 := by omega
  · exact point_1 _ w hz
  · exact point_2 _ w hz
  · exact point_3 _ w hz
  · exact point_4 _ w hz
theorem least_any (n : Nat) (h1 : 1 ≤ n) (h4 : n ≤ 4) (w : World) : Calls Tryz.prog 220 #[.int .i64 n] w fun e w' => e = .returned (.int .i32 (lstn n)) ∧ w' = w := by
  obtain rfl | rfl | rfl | rfl : n = 1 ∨ n = 2 ∨ n = 3 ∨ n = 4 := by omega
  · exact least_1 w
  · exact least_2 w
  · exact least_3 w
  · exact least_4 w

theorem ps_0 (s : ByteArray) (w : World) (h : 0 < s.size) (hz : szf (s[0].toNat : Int) = 0) : Calls Tryz.prog 205 #[.string s] w fun e w' => e = .returned (.int .i64 0) ∧ w' = w := by
  go_enter Tryz.func205, Tryz.ntmps205
  go_wp2_with (go_at_call 212; refine (szf_any _ _).mono ?_; rintro e w' ⟨rfl, rfl⟩)
  go_ret
  exact ⟨rfl, rfl⟩
theorem ps_short (s : ByteArray) (n : Nat) (w : World) (h : 0 < s.size) (hz : szf (s[0].toNat : Int) = n) (hn : s.size < n) : Calls Tryz.prog 205 #[.string s] w fun e w' => e = .returned (.int .i64 0) ∧ w' = w := by
  have hn0 : ((n : Int) == 0) = false := beq_eq_false_iff_ne.2 (by omega)
  go_enter Tryz.func205, Tryz.ntmps205
  go_wp2_with (go_at_call 212; refine (szf_any _ _).mono ?_; rintro e w' ⟨rfl, rfl⟩)
  go_ret
  exact ⟨rfl, rfl⟩
set_option maxRecDepth 100000 in
set_option maxHeartbeats 1000000 in
theorem ps_good (s : ByteArray) (n : Nat) (w : World) (h : 0 < s.size) (hz : szf (s[0].toNat : Int) = n) (h1 : 1 ≤ n) (hn : n ≤ s.size) (h4 : n ≤ 4) : Calls Tryz.prog 205 #[.string s] w fun e w' => e = .returned (.int .i64 (pt (sb s))) ∧ w' = w := by
  have hn0 : ((n : Int) == 0) = false := beq_eq_false_iff_ne.2 (by omega)
  have hz' : Hid (szf ((sb s).getD 0 0) = n) := by show _ = _; rw [← sb_get s 0 h]; exact hz
  have hl : Hid (n ≤ (sb s).length) := by show _ ≤ _; rw [sb_length]; exact hn
  go_enter Tryz.func205, Tryz.ntmps205
  go_wp2_with (first | (go_at_call 212; refine (szf_any _ _).mono ?_; rintro e w' ⟨rfl, rfl⟩))
  go_loop [4] (fun i => ∃ k : Nat, 1 ≤ k ∧ k ≤ n ∧ i = .int .i64 k ∧ Hid (∀ j, 1 ≤ j → j < k → cont ((sb s).getD j 0) = true)) (fun i => n - (intOf i).toNat)
  case atStart => exact ⟨1, by omega, by omega, rfl, fun j h1 h2 => by omega⟩
  case round =>
    obtain ⟨k, hk1, hkn, rfl, hall⟩ := hrel
    by_cases hlt : k < n
    · have hks : k < s.size := by omega
      have hcs : Hid ((bits .and .u8 (s[k].toNat : Int) 192 == 128) = cont ((sb s).getD k 0)) := by show _ = _; rw [← sb_get s k hks]; exact a192 _ (u8_le _).1 (u8_le _).2
      by_cases hc : cont ((sb s).getD k 0) = true
      · have hb : (bits .and .u8 (s[k].toNat : Int) 192 == 128) = true := (unhide hcs).trans hc
        have HC := hide hc
        clear hc
        go_wp2
        go_round
        case rel => exact ⟨k + 1, by omega, by omega, by go_num, fun j h1 h2 => by
          rcases Nat.lt_succ_iff_lt_or_eq.1 h2 with h | h
          · exact (unhide hall) j h1 h
          · rw [h]; exact unhide HC⟩
        case measure => simp [intOf]; omega
      · have hb : (bits .and .u8 (s[k].toNat : Int) 192 == 128) = false := by rw [unhide hcs]; simpa using hc
        have HC := hide hc
        clear hc
        go_wp2
        go_ret
        refine ⟨ret_int ?_, rfl⟩
        rw [pt_cont (sb s) n (unhide hz') k hk1 hlt (by simpa using unhide HC)]
        rfl
    · obtain rfl : k = n := by omega
      have hpt := hide (pt_mb (sb s) k (unhide hz') h1 (unhide hl) (unhide hall))
      by_cases hm : mbn k (sb s) = true
      · have hr : Hid (pt (sb s) = k) := by show _ = _; rw [unhide hpt, if_pos hm]
        have hm' : Hid (true = mbn k (sb s)) := hm.symm
        clear hm hpt
        go_wp2_with (first | (go_at_call 214; refine (point_any s k _ h1 h4 hn).mono ?_; rintro e w' ⟨rfl, rfl⟩) | (go_at_call 213; refine (mayBe_any _ _ (lstn k) _ (least_any k h1 h4) true hm').mono ?_; rintro e w' ⟨rfl, rfl⟩))
        go_ret
        refine ⟨ret_int ?_, rfl⟩
        rw [unhide hr]
      · have hr : Hid (pt (sb s) = 0) := by show _ = _; rw [unhide hpt, if_neg hm]
        have hm' : Hid (false = mbn k (sb s)) := by show _ = _; cases h : mbn k (sb s) with | false => rfl | true => exact absurd h hm
        clear hm hpt
        go_wp2_with (first | (go_at_call 214; refine (point_any s k _ h1 h4 hn).mono ?_; rintro e w' ⟨rfl, rfl⟩) | (go_at_call 213; refine (mayBe_any _ _ (lstn k) _ (least_any k h1 h4) false hm').mono ?_; rintro e w' ⟨rfl, rfl⟩))
        go_ret
        refine ⟨ret_int ?_, rfl⟩
        rw [unhide hr]
        rfl
theorem szf_nat (c : Int) : ∃ n : Nat, szf c = n ∧ n ≤ 4 := by
  rcases szf_cases c with h1 | h1 | h1 | h1 | h1 | h1
  · exact ⟨1, by omega, by omega⟩
  · exact ⟨0, by omega, by omega⟩
  · exact ⟨2, by omega, by omega⟩
  · exact ⟨3, by omega, by omega⟩
  · exact ⟨4, by omega, by omega⟩
  · exact ⟨0, by omega, by omega⟩
theorem ps_any (s : ByteArray) (w : World) (h : 0 < s.size) : Calls Tryz.prog 205 #[.string s] w fun e w' => e = .returned (.int .i64 (pt (sb s))) ∧ w' = w := by
  obtain ⟨n, hn, h4⟩ := szf_nat (s[0].toNat : Int)
  have hz' : szf ((sb s).getD 0 0) = n := by rw [← sb_get s 0 h]; exact hn
  by_cases h0 : n = 0
  · subst h0
    rw [pt_0 _ hz']
    exact ps_0 s w h hn
  · by_cases hs : s.size < n
    · rw [pt_short (sb s) n hz' (by rw [sb_length]; exact h) (by rw [sb_length]; exact hs)]
      exact ps_short s n w h hn hs
    · exact ps_good s n w h hn (by omega) (by omega) h4
end Go.Proofs.YtoocdfgjkeheaaaGreatDoor
