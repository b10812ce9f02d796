/- Proved here: a disk in memory with one file or none: fault, count, begin, find, reach, put, and slices.Clone of bytes. Helper contracts. -/
import Derived.Test.YtondonppakjbgaaDoorRRRZDApp
import Derived.Test.YtondonppakjbgaaDoorRRRZErrNum
import Derived.Maps.OwnSet
import Derived.Maps.OwnOps
import Derived.Lib.SliceRun
import Derived.Handy
import Derived.WalkSpells
namespace Go.Proofs.YtondonppakjbgaaDoorRRR.D
open Go.RowKit Go.Maps
set_option maxRecDepth 100000

/-- nothing that was there has turned but what F names -/
structure Fr (F : Nat → Prop) (w w' : World) : Prop where
  os : w'.os = w.os
  tape : w'.tape = w.tape
  output : w'.output = w.output
  size : w.heap.size ≤ w'.heap.size
  block : ∀ k, k < w.heap.size → ¬ F k → w'.heap[k]? = w.heap[k]?
theorem Fr.refl (F : Nat → Prop) (w : World) : Fr F w w := ⟨rfl, rfl, rfl, Nat.le_refl _, fun _ _ _ => rfl⟩
theorem Fr.trans {F : Nat → Prop} {a b c : World} (h : Fr F a b) (k : Fr F b c) : Fr F a c :=
  ⟨k.os.trans h.os, k.tape.trans h.tape, k.output.trans h.output, Nat.le_trans h.size k.size, fun i hi hF => (k.block i (Nat.lt_of_lt_of_le hi h.size) hF).trans (h.block i hi hF)⟩
theorem Fr.of_below {F : Nat → Prop} {a b : World} (h : Below a.heap.size a b) : Fr F a b := ⟨h.os, h.tape, h.output, h.size, fun k hk _ => h.block k hk⟩
theorem Fr.of_grown {F : Nat → Prop} {a b : World} {row : Option Nat} (h : a.grownBy b row) (hF : ∀ g, row = some g → F g) : Fr F a b := ⟨h.os, h.tape, h.output, h.size, fun k hk hn => h.block k hk (fun e => hn (hF k e.symm))⟩
theorem Fr.mono {F G : Nat → Prop} {a b : World} (h : Fr F a b) (hFG : ∀ k, k < a.heap.size → F k → G k) : Fr G a b := ⟨h.os, h.tape, h.output, h.size, fun k hk hn => h.block k hk (fun e => hn (hFG k hk e))⟩
theorem Fr.below {F : Nat → Prop} {B : Nat} {a b : World} (h : Fr F a b) (hF : ∀ k, F k → B ≤ k) (hB : B ≤ a.heap.size) : Below B a b := ⟨h.os, h.tape, h.output, h.size, fun k hk => h.block k (Nat.lt_of_lt_of_le hk hB) (fun e => by have := hF k e; omega)⟩

/-- how a file's place reads -/
def pel : Value → Option (DataW Unit × List MemPlace)
  | .pointer (some ⟨b, 0, none⟩) => some (.lit (.int .i64 b), [])
  | .pointer none => some (.nil, [])
  | _ => none
theorem pel_inv {v : Value} {b : Nat} {ps : List MemPlace} (h : pel v = some (.lit (.int .i64 b), ps)) : v = .pointer (some ⟨b, 0, none⟩) := by
  unfold pel at h
  split at h
  · simp only [Option.some.injEq, Prod.mk.injEq, DataW.lit.injEq, Lit.int.injEq, true_and] at h
    rw [Int.ofNat_inj.1 h.1]
  · simp at h
  · cases h
/-- a disk's block -/
abbrev dkO (m : Value) (c : Int) : Obj := .cells #[m, .int .i64 c, .int .i64 0, .bool false] 48 (0, 0)
theorem cell_of {w : World} {d : Nat} {cs : Array Value} {t : TypeId} (h : w.heap[d]? = some (.cells cs t (0, 0))) (j : Nat) : w.cell? ⟨d, j, none⟩ = cs[j]? := by
  simp [World.cell?, h]
theorem frozen_of {w : World} {d : Nat} {cs : Array Value} {t : TypeId} (h : w.heap[d]? = some (.cells cs t (0, 0))) (j : Nat) : w.frozen? ⟨d, j, none⟩ = false := by
  simp [World.frozen?, h]
theorem set_heap {w : World} {d : Nat} {cs : Array Value} {t : TypeId} (h : w.heap[d]? = some (.cells cs t (0, 0))) (j : Nat) (v : Value) (hj : j < cs.size) : (w.setCell ⟨d, j, none⟩ v).heap[d]? = some (.cells (cs.set j v hj) t (0, 0)) := by
  show (w.heap.modify d _)[d]? = _
  rw [Array.getElem?_modify]
  simp [h, Array.setIfInBounds, hj]
theorem set_fr {w : World} {d j : Nat} {v : Value} {F : Nat → Prop} (hF : F d) : Fr F w (w.setCell ⟨d, j, none⟩ v) := by
  refine ⟨rfl, rfl, rfl, by simp [World.setCell], fun k hk hn => ?_⟩
  have : d ≠ k := fun e => hn (e ▸ hF)
  simp [World.setCell, Array.getElem?_modify, this]

/-- an error in a block of its own, at B or above; 0: none -/
def ErN (w : World) (B : Nat) (v : Value) (n : Int) : Prop := (n = 0 ∧ v = .nilIface) ∨ (n ≠ 0 ∧ ∃ b, v = .iface 60 (.pointer (some ⟨b, 0, none⟩)) ∧ B ≤ b ∧ w.cell? ⟨b, 1, none⟩ = some (.iface 45 (.int .i64 n)))
theorem ErN.is {w : World} {B : Nat} {v : Value} {n : Int} (h : ErN w B v n) : ErrIs w v n := by
  rcases h with ⟨h1, h2⟩ | ⟨_, b, h1, _, h2⟩
  · exact .inl ⟨h1, h2⟩
  · exact .inr ⟨b, h1, h2⟩
theorem fault_any (n : Int) (w : World) (hn : n ≠ 0) : Calls Tryd.prog 12 #[.iface 45 (.int .i64 n)] w fun e w' => ∃ x, e = .returned (.iface 60 x) ∧ Hid (ErN w' w.heap.size (.iface 60 x) n) ∧ Below w.heap.size w w' := by
  have HN := hide hn
  clear hn
  go_enter Tryd.func12, Tryd.ntmps12
  go_wp2
  go_ret
  exact ⟨_, rfl, .inr ⟨unhide HN, _, rfl, Nat.le_refl _, by simp⟩, (Below.refl _ _).alloc (Nat.le_refl _) _⟩
theorem count_any (d : Nat) (m : Value) (c : Int) (w : World) (h : w.heap[d]? = some (dkO m c)) (h0 : 0 ≤ c) (h1 : c ≤ 1000000) : Calls Tryd.prog 22 #[.pointer (some ⟨d, 0, none⟩)] w fun e w' => e = .returned (.tuple #[]) ∧ Hid (w'.heap[d]? = some (dkO m (c + 1)) ∧ Fr (· = d) w w') := by
  have c1 := cell_of h 1
  have c2 := cell_of h 2
  have f1 := frozen_of h 1
  have H := hide h
  simp at c1 c2
  clear h
  go_enter Tryd.func22, Tryd.ntmps22
  go_wp2
  go_returns
  refine ⟨rfl, ?_, ?_⟩
  · have k := set_heap (unhide H) 1 (.int .i64 (c + 1)) (by simp)
    simpa using k
  · exact set_fr rfl
theorem begin_bad (d : Nat) (s : ByteArray) (w : World) (hs : s.size ≤ maxLen) (hn : nmB s = false) : Calls Tryd.prog 16 #[.pointer (some ⟨d, 0, none⟩), .string s] w fun e w' => ∃ x, e = .returned (.iface 60 x) ∧ Hid (ErN w' w.heap.size (.iface 60 x) 1) ∧ Below w.heap.size w w' := by
  have HN := name_any s w hs
  rw [hn] at HN
  have HN := hide HN
  clear hn hs
  go_enter Tryd.func16, Tryd.ntmps16
  go_wp2_with (first
    | (go_at_call 20; refine (unhide HN).mono ?_; rintro e w' ⟨rfl, hw⟩; obtain rfl := hw.symm; clear hw)
    | (go_at_call 12; refine (fault_any 1 _ (by decide)).mono ?_; rintro e w' ⟨x, rfl, hE, hb⟩))
  go_ret
  exact ⟨_, rfl, hE, hb⟩
theorem begin_ok (d : Nat) (m : Value) (c : Int) (s : ByteArray) (w : World) (hs : s.size ≤ maxLen) (hn : nmB s = true) (h : w.heap[d]? = some (dkO m c)) (h0 : 0 ≤ c) (h1 : c ≤ 1000000) : Calls Tryd.prog 16 #[.pointer (some ⟨d, 0, none⟩), .string s] w fun e w' => e = .returned .nilIface ∧ Hid (w'.heap[d]? = some (dkO m (c + 1)) ∧ Fr (· = d) w w') := by
  have HN := name_any s w hs
  rw [hn] at HN
  have HN := hide HN
  have HC := hide (count_any d m c w h h0 h1)
  clear hn hs h
  go_enter Tryd.func16, Tryd.ntmps16
  go_wp2_with (first
    | (go_at_call 20; refine (unhide HN).mono ?_; rintro e w' ⟨rfl, hw⟩; obtain rfl := hw.symm; clear hw)
    | (go_at_call 22; refine (unhide HC).mono ?_; rintro e w1 ⟨rfl, hw1⟩; have c3 := cell_of (unhide hw1).1 3; simp at c3))
  go_ret
  exact ⟨rfl, hw1⟩
theorem K_str : Keyed Tryd.prog 9 := string_keyed Tryd.underlying9
theorem key_of {s : ByteArray} (hs : s.size ≤ maxLen) : keyOf Tryd.prog 9 (.string s) = some (.string s.data.toList) := WideMaps.keyOf_string_mk Tryd.underlying9 hs
theorem zero_pf (w : World) : (zeroValue 50).run Tryd.prog w = .ok (.pointer none) w := by kernel_rfl
/-- the map of one file -/
abbrev oneD (s : ByteArray) (fb : Nat) : DataW Unit := .map [(.string s.data.toList, .lit (.int .i64 fb))]
theorem put_nil (d fb : Nat) (c : Int) (s : ByteArray) (w : World) (hs : s.size ≤ maxLen) (h : w.heap[d]? = some (dkO (.map none) c)) : Calls Tryd.prog 13 #[.pointer (some ⟨d, 0, none⟩), .string s, .pointer (some ⟨fb, 0, none⟩)] w fun e w' => e = .returned (.tuple #[]) ∧ Hid (w'.heap[d]? = some (dkO (.map (some w.heap.size)) c) ∧ w'.ownsMap Tryd.prog 9 pel w.heap.size 1 (oneD s fb) ∧ Fr (· = d) w w') := by
  have c0 := cell_of h 0
  have f0 := frozen_of h 0
  have hd := (Array.getElem?_eq_some_iff.1 h).1
  have H := hide h
  have HS := hide hs
  simp at c0
  clear h hs
  have hown : Hid (∀ v, ((w.setCell ⟨d, 0, none⟩ v).alloc (.map #[] 0)).ownsMap Tryd.prog 9 pel w.heap.size 0 (.map [])) := fun v => by
    have k := World.ownsMap_made (w.setCell ⟨d, 0, none⟩ v) Tryd.prog 9 pel
    simpa [World.setCell] using k
  have hd1 : Hid (∀ v, ((w.setCell ⟨d, 0, none⟩ v).alloc (.map #[] 0)).heap[d]? = some (dkO v c)) := fun v => by
    rw [Below.heap_alloc _ _ d (by simpa [World.setCell] using hd)]
    have k := set_heap (unhide H) 0 v (by simp)
    simpa using k
  have hf1 : Hid (∀ v, Fr (· = d) w ((w.setCell ⟨d, 0, none⟩ v).alloc (.map #[] 0))) := fun v => (set_fr (F := (· = d)) rfl).trans (Fr.of_below ((Below.refl _ _).alloc (Nat.le_refl _) _))
  have qm : ∀ (w : World) (r : Option Nat), (binOp .eql 46 (.map r) (.map none)).run Tryd.prog w = .ok (.bool r.isNone) w := fun w r => run_eql_map_nil w _ _ _ r Tryd.underlying46
  have hmm := @run_makeMap Tryd.prog
  go_enter Tryd.func13, Tryd.ntmps13
  go_wp2_with (first
    | (at_mapUpdate; refine wpList_mapUpdate_own _ rfl _ _ _ 46 rfl 9 50 K_str Tryd.underlying46 pel w.heap.size 0 (.map []) rfl ((unhide hown) _) (by decide) _ _ (.string s.data.toList) rfl rfl (key_of (unhide HS)) (.lit (.int .i64 fb)) [] rfl ?_; intro w1 hown1 hgrow1)
    | go_in)
  go_wp2
  go_returns
  refine ⟨rfl, ?_, hown1, ?_⟩
  · rw [hgrow1.block d (by simp [World.setCell]; omega) (by simp; omega)]
    exact (unhide hd1) _
  · have k : Fr (fun k => k = d ∨ k = w.heap.size) w w1 := (((unhide hf1) (.map (some w.heap.size))).mono (fun k _ e => .inl e)).trans (Fr.of_grown hgrow1 (fun g e => by cases e; exact .inr rfl))
    exact k.mono (fun k hk e => by rcases e with e | e; exact e; omega)
end Go.Proofs.YtondonppakjbgaaDoorRRR.D
