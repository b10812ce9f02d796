/- Proved here: errors.Is at an api.Errno and at an *api.Fault around one, and prop's wrap, fault, few, broken. Helper contracts. -/
import Derived.Test.YtknbgnoahfeigaaGreatDoorZErrNum
import Derived.Test.YtknbgnoahfeigaaGreatDoorZTPoint
import Derived.Handy
namespace Go.Proofs.YtknbgnoahfeigaaGreatDoor
open Go.RowKit Go.Extern.Stop Go.Stop Go.Extern
set_option maxRecDepth 100000

/-- an error value of prop: nil, a Fault around the number, or one around a Fault of below -/
def ErrP (w : World) (v : Value) (n : Int) : Prop :=
  ErrIs w v n ∨ ∃ b c, v = .iface 76 (.pointer (some ⟨b, 0, none⟩)) ∧ w.cell? ⟨b, 1, none⟩ = some (.iface 76 (.pointer (some ⟨c, 0, none⟩))) ∧ w.cell? ⟨c, 1, none⟩ = some (.iface 64 (.int .i64 n))
/-- an error of below: a number, or a Fault around one -/
def Inn (w : World) (v : Value) (n : Int) : Prop := v = .iface 64 (.int .i64 n) ∨ ∃ b, v = .iface 76 (.pointer (some ⟨b, 0, none⟩)) ∧ w.cell? ⟨b, 1, none⟩ = some (.iface 64 (.int .i64 n))
theorem ErrP.below {w w' : World} {v : Value} {n : Int} (h : ErrP w v n) (hb : Below w.heap.size w w') : ErrP w' v n := by
  rcases h with h | ⟨b, c, h1, h2, h3⟩
  · exact .inl (h.below hb)
  · exact .inr ⟨b, c, h1, by rw [hb.cell (p := ⟨b, 1, none⟩) (cell_lt h2)]; exact h2, by rw [hb.cell (p := ⟨c, 1, none⟩) (cell_lt h3)]; exact h3⟩
theorem ErrP.nil (w : World) : ErrP w .nilIface 0 := .inl (.inl ⟨rfl, rfl⟩)
theorem Inn.below {w w' : World} {v : Value} {n : Int} (h : Inn w v n) (hb : Below w.heap.size w w') : Inn w' v n := by
  rcases h with h | ⟨b, h1, h2⟩
  · exact .inl h
  · exact .inr ⟨b, h1, by rw [hb.cell (p := ⟨b, 1, none⟩) (cell_lt h2)]; exact h2⟩
theorem methodComp (h : Value) (w : World) : (Go.method 282 109 (.agg #[h]) "Comparable").run Tryz.prog w = .ok (131, .agg #[h]) w := by kernel_rfl
theorem compE (w : World) : ((ReflectliteType.method fun t => do Rtype.noPackHeld "Comparable" t; (fun a => Value.bool a.comparable) <$> typeInfo t) #[.agg #[.pointer (some ⟨4, 64, none⟩)]]).run Tryz.prog w = .ok (.bool true) w := by kernel_rfl
theorem noIsF (v : Value) (xT : TypeId) (w : World) : (Instr.typeAssert (.iface 76 v) xT 111 true).run Tryz.prog w = .ok (.tuple #[.nilIface, .bool false]) w := run_typeAssert_lacksB Tryz.underlying111 (by kernel_rfl) (by kernel_rfl) v xT w
theorem noIsE (v : Value) (xT : TypeId) (w : World) : (Instr.typeAssert (.iface 64 v) xT 111 true).run Tryz.prog w = .ok (.tuple #[.nilIface, .bool false]) w := run_typeAssert_lacksB Tryz.underlying111 (by kernel_rfl) (by kernel_rfl) v xT w
theorem noUnwrapE (v : Value) (xT : TypeId) (w : World) : (Instr.typeAssert (.iface 64 v) xT 114 true).run Tryz.prog w = .ok (.tuple #[.nilIface, .bool false]) w := run_typeAssert_lacksB Tryz.underlying114 (by kernel_rfl) (by kernel_rfl) v xT w
theorem noUnwrapsE (v : Value) (xT : TypeId) (w : World) : (Instr.typeAssert (.iface 64 v) xT 116 true).run Tryz.prog w = .ok (.tuple #[.nilIface, .bool false]) w := run_typeAssert_lacksB Tryz.underlying116 (by kernel_rfl) (by kernel_rfl) v xT w

theorem eqF (v u : Value) (w : World) : (binOp .eql 39 (.iface 76 v) (.iface 64 u)).run Tryz.prog w = .ok (.bool false) w := by kernel_rfl
end Go.Proofs.YtknbgnoahfeigaaGreatDoor
