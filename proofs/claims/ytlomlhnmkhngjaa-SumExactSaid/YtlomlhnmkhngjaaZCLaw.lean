/- Proved here: what the statements of layer 9 share: wakes, Within, what is asked in memory. Helper contracts. -/
import Derived.Test.YtlomlhnmkhngjaaZCSum
import Derived.Test.YtlomlhnmkhngjaaZCCopy
import Derived.Lib.SlBytesConst
namespace Go.Proofs.Ytlomlhnmkhngjaa.C
open Go.RowKit
set_option maxRecDepth 100000

theorem bnx {w a b : World} (h : Below w.heap.size w a) (h2 : Below a.heap.size a b) : Below w.heap.size w b := h.trans (h2.mono h.size)
set_option maxRecDepth 1000000 in
theorem wk_sum : crc 0 [49, 50, 51, 52, 53, 54, 55, 56, 57] = 3421780262 := by decide +kernel
theorem wakes9 (w : World) : Calls Try.prog 9 #[] w fun e w' => e = .returned (.bool true) ∧ Below w.heap.size w w' := by
  have kc := fun (w : World) (C : Array Value) (n c : Nat) => Lib.run_convert_bytes_const (P := Try.prog) w 24 5 C n c Try.underlying24 Try.underlying5
  go_enter Try.func9, Try.ntmps9
  go_wp2_with fail
  refine (sum_any 0 _ [49, 50, 51, 52, 53, 54, 55, 56, 57] _ (by decide) ?_ (by decide)).mono ?_
  · refine ⟨_, 9, rfl, ⟨by decide, by unfold maxLen; omega⟩, by decide, .inr ⟨_, 0, rfl, fun j hj => ?_⟩⟩
    have : j = 0 ∨ j = 1 ∨ j = 2 ∨ j = 3 ∨ j = 4 ∨ j = 5 ∨ j = 6 ∨ j = 7 ∨ j = 8 := by simp at hj; omega
    rcases this with rfl | rfl | rfl | rfl | rfl | rfl | rfl | rfl | rfl <;> (rw [show (∀ x, 0 + x = x) from Nat.zero_add]; exact (World.cell?_alloc_mark _ _ _ _ _).trans rfl)
  rintro e w1 ⟨rfl, hw1⟩
  rw [wk_sum]
  have HB : Hid (Below w.heap.size w w1) := bnx ((Below.refl _ _).alloc (Nat.le_refl _) _) hw1
  clear hw1
  go_wp2
  go_ret
  exact ⟨rfl, unhide HB⟩
/-- what is asked: a sum, bytes, a place -/
structure Ak where
  s : Nat
  b : List Nat
  n : Int
def AskIs (w : World) (b off : Nat) (a : Ak) : Prop := ∃ bo bc, (w.cell? ⟨b, off, none⟩ = some (.int .u32 (a.s : Int)) ∧ w.cell? ⟨b, off + 1, none⟩ = some (.slice bo a.b.length bc) ∧ w.cell? ⟨b, off + 2, none⟩ = some (.int .i64 a.n)) ∧ Nbs w (.slice bo a.b.length bc) a.b ∧ a.s < 4294967296 ∧ a.b.length ≤ 140737488351232
theorem AskIs.below {w w' : World} {b off : Nat} {a : Ak} (h : AskIs w b off a) (hb : Below w.heap.size w w') : AskIs w' b off a := by
  obtain ⟨bo, bc, ⟨h0, h1, h2⟩, h3, h4⟩ := h
  have hl := cell_lt h0
  exact ⟨bo, bc, ⟨(hb.cell hl).trans h0, (hb.cell (cell_lt h1)).trans h1, (hb.cell (cell_lt h2)).trans h2⟩, h3.below hb, h4⟩
abbrev ak0 : Ak := ⟨0, [], 0⟩
instance : Inhabited Ak := ⟨ak0⟩
def AsksIn (w : World) (b off : Nat) (aks : Nat → Ak) (len : Nat) : Prop := ∀ k, k < len → AskIs w b (off + k * 3) (aks k)
end Go.Proofs.Ytlomlhnmkhngjaa.C
