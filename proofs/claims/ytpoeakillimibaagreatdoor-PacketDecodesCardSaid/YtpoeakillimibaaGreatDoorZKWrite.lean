/- Proved here: packet's writer: fail, must, room as steps that write into the writer's own cells. Helper contracts. -/
import Derived.Test.YtpoeakillimibaaGreatDoorProg
import Derived.Test.YtpoeakillimibaaGreatDoorZKBox
namespace Go.Proofs.YtpoeakillimibaaGreatDoor.K
open Go.RowKit
set_option maxRecDepth 100000

/-- the writer at the block W: its bytes, how many were counted, the error -/
def Wtr (w : World) (W : Nat) (bv : Value) (sz : Int) (E : Value) : Prop := (w.cell? ⟨W, 19, none⟩ = some bv ∧ w.frozen? ⟨W, 19, none⟩ = false) ∧ (w.cell? ⟨W, 20, none⟩ = some (.int .i64 sz) ∧ w.frozen? ⟨W, 20, none⟩ = false) ∧ w.cell? ⟨W, 21, none⟩ = some E ∧ w.frozen? ⟨W, 21, none⟩ = false
abbrev is20 (j : Nat) : Prop := j = 20
abbrev is21 (j : Nat) : Prop := j = 21
theorem Wtr.setE {w : World} {W : Nat} {bv E u : Value} {sz : Int} (h : Wtr w W bv sz E) : Wtr (w.setCell ⟨W, 21, none⟩ u) W bv sz u := by
  obtain ⟨⟨a1, a2⟩, ⟨b1, b2⟩, c1, c2⟩ := h
  exact ⟨⟨(World.cell?_setCell_other _ _ _ _ (by intro e; simp at e)).trans a1, by simpa using a2⟩, ⟨(World.cell?_setCell_other _ _ _ _ (by intro e; simp at e)).trans b1, by simpa using b2⟩, World.cell?_setCell_same _ _ _ c1, by simpa using c2⟩
theorem Wtr.setS {w : World} {W : Nat} {bv E : Value} {sz s' : Int} (h : Wtr w W bv sz E) : Wtr (w.setCell ⟨W, 20, none⟩ (.int .i64 s')) W bv s' E := by
  obtain ⟨⟨a1, a2⟩, ⟨b1, b2⟩, c1, c2⟩ := h
  exact ⟨⟨(World.cell?_setCell_other _ _ _ _ (by intro e; simp at e)).trans a1, by simpa using a2⟩, ⟨World.cell?_setCell_same _ _ _ b1, by simpa using b2⟩, (World.cell?_setCell_other _ _ _ _ (by intro e; simp at e)).trans c1, by simpa using c2⟩
theorem wfail_new (W : Nat) (bv : Value) (sz : Int) (t : TypeId) (x : Value) (w : World) (h : Wtr w W bv sz .nilIface) : Calls Tryz.prog 151 #[.pointer (some ⟨W, 0, none⟩), .iface t x] w fun e w' => e = .returned (.tuple #[]) ∧ Wtr w' W bv sz (.iface t x) ∧ BX W is21 w w' := by
  have HW := hide h
  obtain ⟨-, -, c1, c2⟩ := h
  go_enter Tryz.func151, Tryz.ntmps151
  go_wp2
  go_end0
  exact ⟨rfl, (unhide HW).setE, (BX.refl _ _ _).set 21 _ rfl⟩
theorem wfail_nil (W : Nat) (bv : Value) (sz : Int) (w : World) (h : Wtr w W bv sz .nilIface) : Calls Tryz.prog 151 #[.pointer (some ⟨W, 0, none⟩), .nilIface] w fun e w' => e = .returned (.tuple #[]) ∧ Wtr w' W bv sz .nilIface ∧ BX W is21 w w' := by
  have HW := hide h
  obtain ⟨-, -, c1, c2⟩ := h
  go_enter Tryz.func151, Tryz.ntmps151
  go_wp2
  go_end0
  exact ⟨rfl, (unhide HW).setE, (BX.refl _ _ _).set 21 _ rfl⟩
theorem wfail_old (W : Nat) (bv E : Value) (sz : Int) (t : TypeId) (x : Value) (w : World) (h : Wtr w W bv sz (.iface t x)) : Calls Tryz.prog 151 #[.pointer (some ⟨W, 0, none⟩), E] w fun e w' => e = .returned (.tuple #[]) ∧ w' = w := by
  obtain ⟨-, -, c1, c2⟩ := h
  go_enter Tryz.func151, Tryz.ntmps151
  go_wp2
  go_end0
  exact ⟨rfl, rfl⟩
theorem wmust_true (W : Nat) (w : World) : Calls Tryz.prog 97 #[.pointer (some ⟨W, 0, none⟩), .bool true] w fun e w' => e = .returned (.tuple #[]) ∧ w' = w := by
  go_enter Tryz.func97, Tryz.ntmps97
  go_wp2
  go_end0
  exact ⟨rfl, rfl⟩
theorem wmust_new (W : Nat) (bv : Value) (sz : Int) (w : World) (h : Wtr w W bv sz .nilIface) : Calls Tryz.prog 97 #[.pointer (some ⟨W, 0, none⟩), .bool false] w fun e w' => e = .returned (.tuple #[]) ∧ Wtr w' W bv sz (.iface 84 (.int .i64 1)) ∧ BX W is21 w w' := by
  have HR := hide h
  clear h
  go_enter Tryz.func97, Tryz.ntmps97
  go_wp2_with fail
  refine (wfail_new W bv sz _ _ w (unhide HR)).mono ?_
  rintro e w' ⟨rfl, hr, hx⟩
  have H1 := hide hr
  have H2 := hide hx
  clear hr hx
  go_wp2
  go_end0
  exact ⟨rfl, unhide H1, unhide H2⟩
theorem wmust_old (W : Nat) (bv : Value) (sz : Int) (t : TypeId) (x : Value) (w : World) (h : Wtr w W bv sz (.iface t x)) : Calls Tryz.prog 97 #[.pointer (some ⟨W, 0, none⟩), .bool false] w fun e w' => e = .returned (.tuple #[]) ∧ w' = w := by
  have HR := hide h
  clear h
  go_enter Tryz.func97, Tryz.ntmps97
  go_wp2_with fail
  refine (wfail_old W bv _ sz t x w (unhide HR)).mono ?_
  rintro e w' ⟨rfl, hw⟩
  obtain rfl := hw.symm
  clear hw
  go_wp2
  go_end0
  exact ⟨rfl, rfl⟩
theorem room_any (W : Nat) (bv E : Value) (sz n : Int) (w : World) (h : Wtr w W bv sz E) (h0 : 0 ≤ sz) (h1 : sz ≤ 4611686018427387904) (h2 : 0 ≤ n) (h3 : n ≤ 4611686018427387904 - 1) : Calls Tryz.prog 146 #[.pointer (some ⟨W, 0, none⟩), .int .i64 n] w fun e w' => e = .returned (.bool (decide (sz + n ≤ 65536))) ∧ Wtr w' W bv (sz + n) E ∧ BX W is20 w w' := by
  have HW := hide h
  obtain ⟨-, ⟨b1, b2⟩, -, -⟩ := h
  have hs : (w.setCell ⟨W, 20, none⟩ (.int .i64 (sz + n))).cell? ⟨W, 20, none⟩ = some (.int .i64 (sz + n)) := World.cell?_setCell_same _ _ _ b1
  go_enter Tryz.func146, Tryz.ntmps146
  go_wp2
  go_ret
  exact ⟨rfl, (unhide HW).setS, (BX.refl _ _ _).set 20 _ rfl⟩
end Go.Proofs.YtpoeakillimibaaGreatDoor.K
