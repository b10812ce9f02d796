/- Proved here: what the statements of layer 6 share: heavy, num, wakes. Helper contracts. -/
import Derived.Test.YtgnjpnhomkganaaDoorZQRef3
namespace Go.Proofs.YtgnjpnhomkganaaDoor
open Go.RowKit

/-- what is laid: errors.errorType, and some number in bytealg.MaxLen -/
def Laid2 (w : World) : Prop := Laid w ∧ Len w
theorem Laid2.up {w w' : World} (h : Laid2 w) (hb : Below w.heap.size w w') : Laid2 w' := ⟨h.1.below hb h.1.pos, h.2.up hb⟩
theorem bnext {w a b : World} (h : Below w.heap.size w a) (h2 : Below a.heap.size a b) : Below w.heap.size w b := h.trans (h2.mono h.size)
theorem Laid2.below2 {w w' : World} (h : Laid2 w) (hb : Below w.heap.size w w') : Laid2 w' := h.up hb
set_option maxHeartbeats 1000000 in
theorem heavy6 (f s : ByteArray) (w : World) (hf : f.size ≤ 140737488351232) (hs : s.size ≤ 140737488351232) : Calls Tryd.prog 8 #[.agg #[.string f, .string s]] w fun e w' => e = .returned (.bool (decide (3000 < f.size + s.size))) ∧ Below w.heap.size w w' := by
  have hd : decide (3000 < (f.size : Int) + (s.size : Int)) = decide (3000 < f.size + s.size) := decide_eq_decide.2 (by omega)
  generalize decide (3000 < f.size + s.size) = d at hd
  go_enter Tryd.func8, Tryd.ntmps8
  go_wp2
  go_ret
  exact ⟨rfl, (Below.refl _ _).alloc (Nat.le_refl _) _⟩
theorem num6 (v : Value) (n : Int) (w : World) (hg : Laid w) (hv : ErrIs w v n) : Calls Tryd.prog 10 #[v] w fun e w' => e = .returned (.int .i64 n) ∧ Below w.heap.size w w' := by
  go_enter Tryd.func10, Tryd.ntmps10
  go_wp2_with (go_at_call 20; refine (num_any _ n _ hg hv).mono ?_; rintro e w' ⟨rfl, hb⟩)
  go_ret
  exact ⟨rfl, hb⟩
theorem num6_nil (w : World) (hg : Laid w) : Calls Tryd.prog 10 #[.nilIface] w fun e w' => e = .returned (.int .i64 0) ∧ Below w.heap.size w w' := num6 _ 0 w hg (.inl ⟨rfl, rfl⟩)
set_option maxRecDepth 100000 in
theorem wakes_may : mayM [97, 47, 35] [97, 47, 98, 47, 99] = true ∧ mtc [97, 47, 35] [97, 47, 98, 47, 99] = true := by decide
set_option maxHeartbeats 1000000 in
theorem wakes6 (w : World) (hg : Laid2 w) : Calls Tryd.prog 12 #[] w fun e w' => e = .returned (.bool true) ∧ Below w.heap.size w w' := by
  have HM := hide (match_yes ⟨#[97, 47, 35]⟩ ⟨#[97, 47, 98, 47, 99]⟩ w (by decide) (by decide) hg.2 wakes_may.1)
  rw [show mtc (⟨#[97, 47, 35]⟩ : ByteArray).data.toList (⟨#[97, 47, 98, 47, 99]⟩ : ByteArray).data.toList = true from wakes_may.2] at HM
  have HG := hide hg
  clear hg
  go_enter Tryd.func12, Tryd.ntmps12
  go_wp2_with (first
    | (go_at_call 15; refine (unhide HM).mono ?_; rintro e w1 ⟨rfl, hb1⟩)
    | (go_at_call 10; refine (num6_nil _ ((unhide HG).up hb1).1).mono ?_; rintro e w2 ⟨rfl, hb2⟩))
  go_ret
  exact ⟨rfl, hb1.trans (hb2.mono hb1.size)⟩
/-- the number that a name's error has -/
def nN (b : Bool) : Int := if b = true then 0 else 5
/-- Name, Filter, Match as the statements use them -/
theorem name_use (s : ByteArray) (w : World) (hs : s.size ≤ 70000) :
    Calls Tryd.prog 11 #[.string s] w fun e w' => ∃ E, e = .returned E ∧ Hid (ErrIs w' E (nN (isName s.data.toList))) ∧ Below w.heap.size w w' := by
  cases h : isName s.data.toList
  · refine (name_no s w hs h).mono ?_
    rintro e w' ⟨x, rfl, hx, hb⟩
    exact ⟨_, rfl, hx, hb⟩
  · refine (name_yes s w hs h).mono ?_
    rintro e w' ⟨rfl, hb⟩
    exact ⟨_, rfl, .inl ⟨rfl, rfl⟩, hb⟩
/-- a pair of texts in a row -/
def Twos (w : World) (b off len : Nat) (fs ss : Nat → ByteArray) : Prop :=
  ∀ k, k < len → w.cell? ⟨b, off + k * 2, none⟩ = some (.string (fs k)) ∧ w.cell? ⟨b, off + k * 2 + 1, none⟩ = some (.string (ss k)) ∧ (fs k).size ≤ 140737488351232 ∧ (ss k).size ≤ 140737488351232
end Go.Proofs.YtgnjpnhomkganaaDoor
