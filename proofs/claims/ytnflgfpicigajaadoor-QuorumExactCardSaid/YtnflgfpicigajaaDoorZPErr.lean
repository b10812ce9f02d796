/- Proved here: errors.Is at an api.Errno and at an *api.Fault around one, and prop's wrap, fault, few, broken. Helper contracts. -/
import Derived.Test.YtnflgfpicigajaaDoorZErrNum
import Derived.Test.YtnflgfpicigajaaDoorZTPoint
import Derived.Handy
namespace Go.Proofs.YtnflgfpicigajaaDoor
open Go.RowKit Go.Extern.Stop Go.Stop Go.Extern
set_option maxRecDepth 100000

abbrev wrapW (v : Value) (w : World) : World := w.alloc (.cells #[.string ⟨#[112, 114, 111, 112]⟩, v] 64)
/-- an error value of prop: nil, a Fault around the number, or one around a Fault of below -/
def ErrP (w : World) (v : Value) (n : Int) : Prop :=
  ErrIs w v n ∨ ∃ b c, v = .iface 62 (.pointer (some ⟨b, 0, none⟩)) ∧ w.cell? ⟨b, 1, none⟩ = some (.iface 62 (.pointer (some ⟨c, 0, none⟩))) ∧ w.cell? ⟨c, 1, none⟩ = some (.iface 51 (.int .i64 n))
/-- an error of below: a number, or a Fault around one -/
def Inn (w : World) (v : Value) (n : Int) : Prop := v = .iface 51 (.int .i64 n) ∨ ∃ b, v = .iface 62 (.pointer (some ⟨b, 0, none⟩)) ∧ w.cell? ⟨b, 1, none⟩ = some (.iface 51 (.int .i64 n))
theorem ErrP.below {w w' : World} {v : Value} {n : Int} (h : ErrP w v n) (hb : Below w.heap.size w w') : ErrP w' v n := by
  rcases h with h | ⟨b, c, h1, h2, h3⟩
  · exact .inl (h.below hb)
  · exact .inr ⟨b, c, h1, by rw [hb.cell (p := ⟨b, 1, none⟩) (cell_lt h2)]; exact h2, by rw [hb.cell (p := ⟨c, 1, none⟩) (cell_lt h3)]; exact h3⟩
theorem ErrP.nil (w : World) : ErrP w .nilIface 0 := .inl (.inl ⟨rfl, rfl⟩)
theorem Inn.below {w w' : World} {v : Value} {n : Int} (h : Inn w v n) (hb : Below w.heap.size w w') : Inn w' v n := by
  rcases h with h | ⟨b, h1, h2⟩
  · exact .inl h
  · exact .inr ⟨b, h1, by rw [hb.cell (p := ⟨b, 1, none⟩) (cell_lt h2)]; exact h2⟩
theorem wrap_is (n : Int) (v : Value) (w : World) (h : Inn w v n) : ErrP (wrapW v w) (.iface 62 (.pointer (some ⟨w.heap.size, 0, none⟩))) n := by
  rcases h with rfl | ⟨b, rfl, hc⟩
  · exact .inl (.inr ⟨_, rfl, by simp⟩)
  · exact .inr ⟨_, b, rfl, by simp, by rw [World.cell?_alloc_lt _ _ ⟨b, 1, none⟩ (cell_lt hc)]; exact hc⟩
theorem wrap_below (v : Value) (w : World) : Below w.heap.size w (wrapW v w) := (Below.refl _ _).alloc (Nat.le_refl _) _
theorem methodComp (h : Value) (w : World) : (Go.method 248 84 (.agg #[h]) "Comparable").run Tryd.prog w = .ok (96, .agg #[h]) w := by kernel_rfl
theorem compE (w : World) : ((ReflectliteType.method fun t => do Rtype.noPackHeld "Comparable" t; (fun a => Value.bool a.comparable) <$> typeInfo t) #[.agg #[.pointer (some ⟨1, 51, none⟩)]]).run Tryd.prog w = .ok (.bool true) w := by kernel_rfl
theorem noUnwrapE (v : Value) (xT : TypeId) (w : World) : (Instr.typeAssert (.iface 51 v) xT 92 true).run Tryd.prog w = .ok (.tuple #[.nilIface, .bool false]) w := run_typeAssert_lacksB Tryd.underlying92 (by kernel_rfl) (by kernel_rfl) v xT w
theorem noUnwrapsE (v : Value) (xT : TypeId) (w : World) : (Instr.typeAssert (.iface 51 v) xT 94 true).run Tryd.prog w = .ok (.tuple #[.nilIface, .bool false]) w := run_typeAssert_lacksB Tryd.underlying94 (by kernel_rfl) (by kernel_rfl) v xT w

theorem eqE (n : Int) (w : World) : (binOp .eql 29 (.iface 51 (.int .i64 n)) (.iface 51 (.int .i64 1))).run Tryd.prog w = .ok (.bool (n == 1)) w := by kernel_rfl
theorem eqF (v u : Value) (w : World) : (binOp .eql 29 (.iface 62 v) (.iface 51 u)).run Tryd.prog w = .ok (.bool false) w := by kernel_rfl
theorem eqN (t : TypeId) (v : Value) (w : World) : (binOp .eql 29 (.iface t v) .nilIface).run Tryd.prog w = .ok (.bool false) w := by kernel_rfl
end Go.Proofs.YtnflgfpicigajaaDoor
