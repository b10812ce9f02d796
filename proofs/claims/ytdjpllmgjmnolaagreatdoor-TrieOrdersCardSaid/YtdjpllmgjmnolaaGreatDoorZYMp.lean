/- Proved here: the two maps of an index's node, as they are read: by a level, the node below; by client and filter, the subscription. Helper laws. -/
import Derived.Test.YtdjpllmgjmnolaaGreatDoorZYPl
import Derived.Test.YtdjpllmgjmnolaaGreatDoorZBase
import Derived.Test.YtdjpllmgjmnolaaGreatDoorChecked
import Derived.Maps.OwnSet
import Derived.Maps.OwnOps
import Derived.Maps.RangeWalk
import Derived.DeepKeys4
import Derived.Handy
namespace Go.Proofs.YtdjpllmgjmnolaaGreatDoor.Y
open Go.RowKit Go.Maps
set_option maxRecDepth 100000

/-- nothing that was there has turned but what F names -/
structure Fr (F : Nat → Prop) (w w' : World) : Prop where
  os : w'.os = w.os
  tape : w'.tape = w.tape
  output : w'.output = w.output
  size : w.heap.size ≤ w'.heap.size
  block : ∀ k, k < w.heap.size → ¬ F k → w'.heap[k]? = w.heap[k]?
theorem Fr.refl (F : Nat → Prop) (w : World) : Fr F w w := ⟨rfl, rfl, rfl, Nat.le_refl _, fun _ _ _ => rfl⟩
theorem Fr.trans {F : Nat → Prop} {a b c : World} (h : Fr F a b) (k : Fr F b c) : Fr F a c :=
  ⟨k.os.trans h.os, k.tape.trans h.tape, k.output.trans h.output, Nat.le_trans h.size k.size, fun i hi hF => (k.block i (Nat.lt_of_lt_of_le hi h.size) hF).trans (h.block i hi hF)⟩
/-- .. the second one may turn what is new -/
theorem Fr.trans' {F G : Nat → Prop} {a b c : World} (h : Fr F a b) (k : Fr G b c) (hG : ∀ i, i < a.heap.size → G i → F i) : Fr F a c :=
  ⟨k.os.trans h.os, k.tape.trans h.tape, k.output.trans h.output, Nat.le_trans h.size k.size, fun i hi hF => (k.block i (Nat.lt_of_lt_of_le hi h.size) (fun e => hF (hG i hi e))).trans (h.block i hi hF)⟩
theorem Fr.of_below {F : Nat → Prop} {a b : World} (h : Below a.heap.size a b) : Fr F a b := ⟨h.os, h.tape, h.output, h.size, fun k hk _ => h.block k hk⟩
theorem Fr.of_grown {F : Nat → Prop} {a b : World} {row : Option Nat} (h : a.grownBy b row) (hF : ∀ g, row = some g → F g) : Fr F a b := ⟨h.os, h.tape, h.output, h.size, fun k hk hn => h.block k hk (fun e => hn (hF k e.symm))⟩
theorem Fr.mono {F G : Nat → Prop} {a b : World} (h : Fr F a b) (hFG : ∀ k, k < a.heap.size → F k → G k) : Fr G a b := ⟨h.os, h.tape, h.output, h.size, fun k hk hn => h.block k hk (fun e => hn (hFG k hk e))⟩
theorem Fr.alloc (F : Nat → Prop) (w : World) (o : Obj) : Fr F w (w.alloc o) := Fr.of_below ((Below.refl _ _).alloc (Nat.le_refl _) _)
theorem Fr.drewN (F : Nat → Prop) (w : World) (n : Nat) : Fr F w (w.drewN n) := ⟨rfl, rfl, rfl, Nat.le_refl _, fun _ _ _ => rfl⟩
/-- where nothing that was there may turn -/
theorem Fr.below {F : Nat → Prop} {B : Nat} {a b : World} (h : Fr F a b) (hF : ∀ k, F k → B ≤ k) (hB : B ≤ a.heap.size) : Below B a b := ⟨h.os, h.tape, h.output, h.size, fun k hk => h.block k (Nat.lt_of_lt_of_le hk hB) (fun e => by have := hF k e; omega)⟩
theorem Fr.cell {F : Nat → Prop} {a b : World} (h : Fr F a b) {d : Nat} (hd : ¬ F d) {j : Nat} {v : Value} (hc : a.cell? ⟨d, j, none⟩ = some v) : b.cell? ⟨d, j, none⟩ = some v := by
  have e := h.block d (cell_lt hc) hd
  rw [← hc]
  simp only [World.cell?, e]
theorem cell_of {w : World} {d : Nat} {cs : Array Value} {t : TypeId} (h : w.heap[d]? = some (.cells cs t (0, 0))) (j : Nat) : w.cell? ⟨d, j, none⟩ = cs[j]? := by
  simp [World.cell?, h]
theorem frozen_of {w : World} {d : Nat} {cs : Array Value} {t : TypeId} (h : w.heap[d]? = some (.cells cs t (0, 0))) (j : Nat) : w.frozen? ⟨d, j, none⟩ = false := by
  simp [World.frozen?, h]
theorem set_heap {w : World} {d : Nat} {cs : Array Value} {t : TypeId} (h : w.heap[d]? = some (.cells cs t (0, 0))) (j : Nat) (v : Value) (hj : j < cs.size) : (w.setCell ⟨d, j, none⟩ v).heap[d]? = some (.cells (cs.set j v hj) t (0, 0)) := by
  show (w.heap.modify d _)[d]? = _
  rw [Array.getElem?_modify]
  simp [h, Array.setIfInBounds, hj]
theorem set_fr {w : World} {d j : Nat} {v : Value} {F : Nat → Prop} (hF : F d) : Fr F w (w.setCell ⟨d, j, none⟩ v) := by
  refine ⟨rfl, rfl, rfl, by simp [World.setCell], fun k hk hn => ?_⟩
  have : d ≠ k := fun e => hn (e ▸ hF)
  simp [World.setCell, Array.getElem?_modify, this]

/-! keys -/
theorem K_str : Keyed Tryz.prog 9 := string_keyed Tryz.underlying9
theorem key_str {s : ByteArray} (hs : s.size ≤ maxLen) : keyOf Tryz.prog 9 (.string s) = some (.string s.data.toList) := WideMaps.keyOf_string_mk Tryz.underlying9 hs
theorem laidO : laidOutB Tryz.prog = true := by kernel_rfl
theorem rowO : (66 : TypeId) < Tryz.prog.types.size := of_decide_eq_true (by kernel_rfl)
theorem wideO : (match Tryz.prog.underlying 66 with | some (.array _ _) | some (.struct _) => true | _ => false) = true := by rw [Tryz.underlying66]
theorem K_own : Keyed Tryz.prog 66 := Keyed.of_law (deep_law_laid laidO (m := 2) (by omega) rowO (by kernel_rfl) wideO)
theorem cellsO : Tryz.prog.cellsOf 66 = 2 := by kernel_rfl
theorem cellsS : Tryz.prog.cellsOf 9 = 1 := by kernel_rfl
theorem keyT : Tryz.prog.keyType 66 = true := by kernel_rfl
theorem tsz : Tryz.prog.types.size = 211 := by kernel_rfl
def kk (c f : ByteArray) : Lit := .string (keyBytes [.string c.data.toList, .string f.data.toList])
theorem kl_str (d : Nat) (s : ByteArray) : Tryz.prog.keyLits (d + 1) 9 [.string s] = if s.size ≤ maxLen then some [.string s.data.toList] else none := by
  unfold Program.keyLits
  simp only [Tryz.underlying9]
theorem kl_not (d : Nat) (v : Value) (h : ∀ s, v ≠ .string s) : Tryz.prog.keyLits (d + 1) 9 [v] = none := by
  cases v <;> first | (exact absurd rfl (h _)) | (unfold Program.keyLits; simp only [Tryz.underlying9])
theorem kl_own (d : Nat) (a b : Value) : Tryz.prog.keyLits (d + 1) 66 [a, b] = (Tryz.prog.keyLits d 9 [a]).bind fun x => (Tryz.prog.keyLits d 9 [b]).map fun y => x ++ y := by
  conv => lhs; unfold Program.keyLits
  simp only [Tryz.underlying66]
  rw [if_pos ⟨by rw [cellsO]; rfl, by kernel_rfl⟩]
  simp only [List.mapM_cons, List.mapM_nil, cellsS, List.drop_zero, List.take_succ_cons, List.take_zero, List.drop_succ_cons]
  cases Tryz.prog.keyLits d 9 [a] with
  | none => rfl
  | some x =>
    cases Tryz.prog.keyLits d 9 [b] with
    | none => rfl
    | some y => simp
theorem keyOf_own (cs : Array Value) (h : cs.size = 2) : keyOf Tryz.prog 66 (.agg cs) = (Tryz.prog.keyLits (211 + 1) 66 cs.toList).map fun ls => .string (keyBytes ls) := by
  unfold keyOf
  rw [Tryz.underlying66]
  dsimp only
  rw [if_pos (by rw [keyT]; simp [Value.formed, Tryz.underlying66, cellsO, h]), tsz]
  rfl
theorem key_own {c f : ByteArray} (hc : c.size ≤ maxLen) (hf : f.size ≤ maxLen) : keyOf Tryz.prog 66 (.agg #[.string c, .string f]) = some (kk c f) := by
  rw [keyOf_own _ rfl]
  obtain ⟨m, hm⟩ : ∃ m, 211 = m + 1 := ⟨211 - 1, rfl⟩
  rw [hm]
  show (Tryz.prog.keyLits (m + 1 + 1) 66 [.string c, .string f]).map _ = _
  rw [kl_own, kl_str, kl_str, if_pos hc, if_pos hf]
  rfl
theorem own_inv {v : Value} {l : Lit} (h : keyOf Tryz.prog 66 v = some l) : ∃ c f, v = .agg #[.string c, .string f] ∧ c.size ≤ maxLen ∧ f.size ≤ maxLen ∧ l = kk c f := by
  have h0 := h
  have hv : ∃ cs : Array Value, v = .agg cs ∧ cs.size = 2 := by
    unfold keyOf at h
    rw [Tryz.underlying66] at h
    dsimp only at h
    split at h
    · rename_i hc
      simp only [Bool.and_eq_true] at hc
      obtain ⟨_, h1⟩ := hc
      cases v <;> simp [Value.formed, Tryz.underlying66, cellsO] at h1
      exact ⟨_, rfl, h1⟩
    · cases h
  obtain ⟨⟨cs⟩, rfl, hcs⟩ := hv
  match cs, hcs with
  | [a, b], _ =>
    rw [keyOf_own _ rfl] at h
    obtain ⟨m, hm⟩ : ∃ m, 211 = m + 1 := ⟨211 - 1, rfl⟩
    rw [hm] at h
    change (Tryz.prog.keyLits (m + 1 + 1) 66 [a, b]).map _ = _ at h
    rw [kl_own] at h
    by_cases ha : ∃ c, a = .string c
    · obtain ⟨c, rfl⟩ := ha
      by_cases hb : ∃ f, b = .string f
      · obtain ⟨f, rfl⟩ := hb
        rw [kl_str, kl_str] at h
        by_cases hc : c.size ≤ maxLen
        · by_cases hf : f.size ≤ maxLen
          · refine ⟨c, f, rfl, hc, hf, ?_⟩
            have h0' : keyOf Tryz.prog 66 (.agg #[.string c, .string f]) = some l := h0
            rw [key_own hc hf] at h0'
            exact (Option.some.inj h0').symm
          · rw [if_pos hc, if_neg hf] at h; cases h
        · rw [if_neg hc] at h; cases h
      · rw [kl_not m b (fun s e => hb ⟨s, e⟩)] at h
        cases hx : Tryz.prog.keyLits (m + 1) 9 [.string c] <;> rw [hx] at h <;> cases h
    · rw [kl_not m a (fun s e => ha ⟨s, e⟩)] at h; cases h
theorem kk_inj {c f c' f' : ByteArray} (hc : c.size ≤ maxLen) (hf : f.size ≤ maxLen) (hc' : c'.size ≤ maxLen) (hf' : f'.size ≤ maxLen) (h : kk c f = kk c' f') : c = c' ∧ f = f' := by
  have := K_own.inj (key_own hc hf) (by rw [key_own hc' hf', h])
  simpa using this

/-! elements -/
def pel : Value → Option (DataW Unit × List MemPlace)
  | .pointer (some ⟨b, 0, none⟩) => some (.lit (.int .i64 b), [])
  | .pointer none => some (.nil, [])
  | _ => none
def kidV (o : Option Nat) : Value := .pointer (o.map fun b => ⟨b, 0, none⟩)
def kidD (o : Option Nat) : DataW Unit := match o with
  | none => .nil
  | some b => .lit (.int .i64 b)
theorem pel_kid (o : Option Nat) : pel (kidV o) = some (kidD o, []) := by cases o <;> rfl
theorem pel_inv {v : Value} {o : Option Nat} {ps : List MemPlace} (h : pel v = some (kidD o, ps)) : v = kidV o := by
  unfold pel at h
  split at h
  · cases o with
    | none => simp [kidD] at h
    | some b =>
      simp only [kidD, Option.some.injEq, Prod.mk.injEq, DataW.lit.injEq, Lit.int.injEq, true_and] at h
      rw [Int.ofNat_inj.1 h.1]; rfl
  · cases o with
    | none => rfl
    | some b => simp [kidD] at h
  · cases h
theorem kidD_inj {a b : Option Nat} (h : kidD a = kidD b) : a = b := by
  cases a <;> cases b <;> simp [kidD] at h ⊢
  exact Int.ofNat_inj.1 h
def sval (s : Sb) : Value := .agg #[.string s.f, .int .i64 s.q, .bool s.nl, .bool s.ap, .int .i64 s.h]
def sD (s : Sb) : DataW Unit := .agg [.lit (.string s.f.data.toList), .lit (.int .i64 s.q), .lit (.bool s.nl), .lit (.bool s.ap), .lit (.int .i64 s.h)]
def sel : Value → Option (DataW Unit × List MemPlace)
  | .agg cs => match cs.toList with
    | [.string f, .int .i64 q, .bool nl, .bool ap, .int .i64 h] => some (sD ⟨f, q, nl, ap, h⟩, [])
    | _ => none
  | _ => none
theorem sel_val (s : Sb) : sel (sval s) = some (sD s, []) := rfl
theorem sel_inv {v : Value} {y : DataW Unit × List MemPlace} (h : sel v = some y) : ∃ s, v = sval s ∧ y = (sD s, []) := by
  unfold sel at h
  split at h
  · rename_i cs
    split at h
    · rename_i f q nl ap h' e
      refine ⟨⟨f, q, nl, ap, h'⟩, ?_, (Option.some.inj h).symm⟩
      obtain ⟨cs⟩ := cs
      exact congrArg (fun l : List Value => Value.agg l.toArray) e
    · cases h
  · cases h
theorem sD_inj {a b : Sb} (h : sD a = sD b) : a = b := by
  obtain ⟨f, q, nl, ap, h1⟩ := a
  obtain ⟨f', q', nl', ap', h2⟩ := b
  simp only [sD, DataW.agg.injEq, List.cons.injEq, DataW.lit.injEq, Lit.string.injEq, Lit.int.injEq, Lit.bool.injEq, true_and, and_true] at h
  obtain ⟨e1, e2, e3, e4, e5⟩ := h
  have : f = f' := by rw [← bt_of f, ← bt_of f', e1]
  subst this e2 e3 e4 e5
  rfl
theorem zero_pn (w : World) : (zeroValue 76).run Tryz.prog w = .ok (.pointer none) w := by kernel_rfl
theorem zero_sub (w : World) : (zeroValue 28).run Tryz.prog w = .ok (sval default) w := by kernel_rfl

/-! a map, or none -/
def MapR (w : World) (k : TypeId) (R : Value → Option (DataW Unit × List MemPlace)) (mb : Option Nat) (n : Nat) (D : DataW Unit) : Prop := match mb with
  | none => D = .map []
  | some b => w.ownsMap Tryz.prog k R b n D
theorem owns_blk {w w' : World} {k : TypeId} {R : Value → Option (DataW Unit × List MemPlace)} {b n : Nat} {D : DataW Unit} (h : w.ownsMap Tryz.prog k R b n D) (e : w'.heap[b]? = w.heap[b]?) : w'.ownsMap Tryz.prog k R b n D := by
  obtain ⟨es, clock, hb, r⟩ := h
  exact ⟨es, clock, e.trans hb, r⟩
theorem MapR.keep {w w' : World} {k : TypeId} {R : Value → Option (DataW Unit × List MemPlace)} {mb : Option Nat} {n : Nat} {D : DataW Unit} (h : MapR w k R mb n D) (e : ∀ b, mb = some b → w'.heap[b]? = w.heap[b]?) : MapR w' k R mb n D := by
  cases mb with
  | none => exact h
  | some b => exact owns_blk (w := w) h (e b rfl)
theorem MapR.mono {w : World} {k : TypeId} {R : Value → Option (DataW Unit × List MemPlace)} {mb : Option Nat} {n n' : Nat} {D : DataW Unit} (h : MapR w k R mb n D) (hn : n ≤ n') : MapR w k R mb n' D := by
  cases mb with
  | none => exact h
  | some b => exact World.ownsMap.mono h hn
theorem MapR.isMap {w : World} {k : TypeId} {R : Value → Option (DataW Unit × List MemPlace)} {mb : Option Nat} {n : Nat} {D : DataW Unit} (h : MapR w k R mb n D) : IsMap D := by
  cases mb with
  | none => exact ⟨[], h⟩
  | some b => exact World.ownsMap.isMap h
theorem MapR.kid {w : World} {mb : Option Nat} {n : Nat} {D : DataW Unit} (h : MapR w 9 pel mb n D) {s : ByteArray} (hs : s.size ≤ maxLen) {o : Option Nat} (ho : D.atKey (.string s.data.toList) .nil = kidD o) : (Instr.lookup 54 (.map mb) (.string s) false).run Tryz.prog w = .ok (kidV o) w := by
  cases mb with
  | none =>
    obtain rfl : D = .map [] := h
    have e : kidD o = kidD none := ho.symm
    rw [kidD_inj e]
    exact Maps.look_nil false K_str Tryz.underlying54 (zero_pn w) (key_str hs)
  | some b =>
    obtain ⟨v, ps, hr, hv⟩ := World.ownsMap.lookup h K_str Tryz.underlying54 (zero_pn w) (zd := .nil) (zp := []) rfl (key_str hs)
    rw [ho] at hv
    rw [hr, pel_inv hv]
theorem MapR.sub {w : World} {mb : Option Nat} {n : Nat} {D : DataW Unit} (h : MapR w 66 sel mb n D) {c f : ByteArray} (hc : c.size ≤ maxLen) (hf : f.size ≤ maxLen) : ∃ s, (Instr.lookup 55 (.map mb) (.agg #[.string c, .string f]) true).run Tryz.prog w = .ok (.tuple #[sval s, .bool (Maps.has D (kk c f))]) w := by
  cases mb with
  | none =>
    obtain rfl : D = .map [] := h
    exact ⟨default, Maps.look_nil true K_own Tryz.underlying55 (zero_sub w) (key_own hc hf)⟩
  | some b =>
    obtain ⟨v, ps, hr, hv⟩ := World.ownsMap.look_ok h K_own Tryz.underlying55 (zero_sub w) (sel_val default) (key_own hc hf)
    obtain ⟨s, rfl, _⟩ := sel_inv hv
    exact ⟨s, hr⟩
theorem MapR.lenB {w : World} {mb : Option Nat} {n : Nat} {D : DataW Unit} (h : MapR w 9 pel mb n D) (ty : TypeId) : (Builtin.len_ #[54] ty #[.map mb]).run Tryz.prog w = .ok (.int .i64 (Maps.size D)) w := by
  cases mb with
  | none =>
    obtain rfl : D = .map [] := h
    exact Maps.len_nil Tryz.underlying54 ty
  | some b => exact World.ownsMap.len h Tryz.underlying54 ty
theorem MapR.lenS {w : World} {mb : Option Nat} {n : Nat} {D : DataW Unit} (h : MapR w 66 sel mb n D) (ty : TypeId) : (Builtin.len_ #[55] ty #[.map mb]).run Tryz.prog w = .ok (.int .i64 (Maps.size D)) w := by
  cases mb with
  | none =>
    obtain rfl : D = .map [] := h
    exact Maps.len_nil Tryz.underlying55 ty
  | some b => exact World.ownsMap.len h Tryz.underlying55 ty
/-- a map of no entries has no key -/
theorem has_size0 {D : DataW Unit} (h : IsMap D) (h0 : Maps.size D = 0) (k : Lit) : Maps.has D k = false := by
  obtain ⟨es, rfl⟩ := h
  have : es = [] := List.length_eq_zero_iff.1 h0
  rw [this]; rfl
theorem turned_fr {w w' : World} {b : Nat} {F : Nat → Prop} (h : w.mapTurned w' b) (hF : F b) : Fr F w w' := Fr.of_grown h.grown (fun g e => by cases e; exact hF)
theorem MapR.delS {w : World} {mb : Option Nat} {n : Nat} {D : DataW Unit} (h : MapR w 66 sel mb n D) {c f : ByteArray} (hc : c.size ≤ maxLen) (hf : f.size ≤ maxLen) (ty : TypeId) : ∃ w', (Builtin.delete_ #[55, 66] ty #[.map mb, .agg #[.string c, .string f]]).run Tryz.prog w = .ok (.tuple #[]) w' ∧ MapR w' 66 sel mb n (D.del (kk c f)) ∧ Fr (fun k => mb = some k) w w' ∧ w'.heap.size = w.heap.size := by
  cases mb with
  | none =>
    obtain rfl : D = .map [] := h
    exact ⟨w, Maps.drop_nil K_own Tryz.underlying55 (key_own hc hf) ty, rfl, Fr.refl _ _, rfl⟩
  | some b =>
    obtain ⟨w', hr, h1, h2⟩ := World.ownsMap.drop h K_own Tryz.underlying55 (key_own hc hf) ty
    refine ⟨w', hr, h1, turned_fr h2 rfl, ?_⟩
    obtain ⟨_, _, _, _, _, rfl⟩ := h2
    simp [ChangeMaps.setBlock]
end Go.Proofs.YtdjpllmgjmnolaaGreatDoor.Y
