/- Proved here: contracts of topic's smaller functions: mayCount, mayLevel, fault; strings.Split at a slash tells a text's levels. Helper contracts. -/
import Derived.Test.YtknbgnoahfeigaaDoorZQAny
import Derived.Test.YtknbgnoahfeigaaDoorZTCheck
import Derived.Test.YtknbgnoahfeigaaDoorZKEr
namespace Go.Proofs.YtknbgnoahfeigaaDoor
open Go.RowKit

/-- texts in a row in memory -/
def Strs (w : World) (v : Value) (xs : List ByteArray) : Prop :=
  ∃ b off cap, v = .slice (some ⟨b, off, none⟩) xs.length cap ∧ xs.length ≤ cap ∧ xs.length ≤ 70001 ∧ ∀ j, j < xs.length → w.cell? ⟨b, off + j, none⟩ = some (.string (xs.getD j ByteArray.empty))
theorem Strs.below {w w' : World} {v : Value} {xs : List ByteArray} (h : Strs w v xs) (hb : Below w.heap.size w w') : Strs w' v xs := by
  obtain ⟨b, off, cap, h1, h2, h3, h4⟩ := h
  exact ⟨b, off, cap, h1, h2, h3, fun j hj => by rw [hb.cell (p := ⟨b, off + j, none⟩) (cell_lt (h4 j hj))]; exact h4 j hj⟩
/-- what bytealg.MaxLen holds: some number -/
def Len (w : World) : Prop := ∃ m, w.cell? ⟨1, 0, none⟩ = some (.int .i64 m)
theorem Len.below {w w' : World} {B : Nat} (h : Len w) (hb : Below B w w') (hB : 1 < B) : Len w' := by
  obtain ⟨m, h⟩ := h
  exact ⟨m, by rw [hb.cell (p := ⟨1, 0, none⟩) hB]; exact h⟩
theorem Len.lt {w : World} (h : Len w) : 1 < w.heap.size := by
  obtain ⟨m, h⟩ := h
  exact cell_lt h
theorem empty_of {s : ByteArray} (h : s.toList.isEmpty = true) : s.data.toList = [] := by
  rw [Lib.toList_data] at h; exact List.isEmpty_iff.1 h
theorem ne_of {s : ByteArray} (h : s.toList.isEmpty = false) : s.data.toList ≠ [] := by
  rw [Lib.toList_data] at h; intro e; rw [e] at h; cases h
set_option maxHeartbeats 1000000 in
theorem mayCount_any (s : ByteArray) (w : World) :
    Calls Tryd.prog 34 #[.string s] w fun e w' => e = .returned (.bool (cnt s.data.toList)) ∧ w' = w := by
  cases he : s.toList.isEmpty
  · have hc : Hid (cnt s.data.toList = decide (((s.data.toList.count 47 : Nat) : Int) < 32)) := by
      show _ = _
      unfold cnt
      rw [decide_eq_true (ne_of he), Bool.true_and]
      exact decide_eq_decide.2 (by omega)
    have hcc : ∀ w, Calls Tryd.prog 48 #[.string s, .string ⟨#[47]⟩] w fun e w' => e = .returned (.int .i64 ((s.data.toList.count 47 : Nat) : Int)) ∧ w' = w := fun w => Tryd.strings_Count_one s 47 w
    have HCC := hide hcc
    clear hcc
    generalize s.data.toList.count 47 = q at HCC hc
    go_enter Tryd.func34, Tryd.ntmps34
    go_wp2_with (go_at_call 48; refine ((unhide HCC) _).mono ?_; rintro e w' ⟨rfl, rfl⟩)
    go_ret
    exact ⟨by rw [unhide hc]; rfl, rfl⟩
  · have hc : Hid (cnt s.data.toList = false) := by
      show _ = _
      unfold cnt
      rw [empty_of he]; rfl
    go_enter Tryd.func34, Tryd.ntmps34
    go_wp2
    go_ret
    exact ⟨by rw [unhide hc]; rfl, rfl⟩
/-- the world behind topic's fault -/
abbrev tfW (w : World) : World := w.alloc (.cells #[.string ⟨#[116, 111, 112, 105, 99]⟩, .iface 52 (.int .i64 5)] 63)
theorem tf_is (w : World) : ErrIs (tfW w) (.iface 61 (.pointer (some ⟨w.heap.size, 0, none⟩))) 5 := .inr ⟨_, rfl, by simp⟩
theorem tf_below (w : World) : Below w.heap.size w (tfW w) := (Below.refl _ _).alloc (Nat.le_refl _) _
set_option maxHeartbeats 1000000 in
theorem tfault (d : Nat) (hd : d ≤ 3) (v : Value) (n : Int) (w : World) (h : Er w d v n) (hn : n = 1 ∨ n = 2) :
    Calls Tryd.prog 33 #[v] w fun e w' => ∃ x, e = .returned (.iface 61 x) ∧ Hid (ErrIs w' (.iface 61 x) 5) ∧ Below w.heap.size w w' := by
  have HI := hide (fun m => er_Is d hd v n m w h)
  obtain ⟨tt, x, rfl⟩ := h.iface
  clear h
  rcases hn with rfl | rfl
  all_goals
    go_enter Tryd.func33, Tryd.ntmps33
    go_wp2_with (go_at_call 31; refine ((unhide HI) _).mono ?_; rintro e w' ⟨rfl, rfl⟩)
    go_ret
    exact ⟨_, rfl, tf_is _, tf_below _⟩
set_option maxHeartbeats 1000000 in
theorem tfault5 (w : World) :
    Calls Tryd.prog 33 #[.iface 52 (.int .i64 5)] w fun e w' => ∃ x, e = .returned (.iface 61 x) ∧ Hid (ErrIs w' (.iface 61 x) 5) ∧ Below w.heap.size w w' := by
  have HI := hide (fun m => er_Is 0 (by decide) (.iface 52 (.int .i64 5)) 5 m w rfl)
  go_enter Tryd.func33, Tryd.ntmps33
  go_wp2_with (go_at_call 31; refine ((unhide HI) _).mono ?_; rintro e w' ⟨rfl, rfl⟩)
  go_ret
  exact ⟨_, rfl, tf_is _, tf_below _⟩

end Go.Proofs.YtknbgnoahfeigaaDoor
