/- Proved here: errors.Is at an api.Errno and at up to three *api.Faults around one. Helper contracts. -/
import Derived.Test.YtnflgfpicigajaaDoorZPErr
namespace Go.Proofs.YtnflgfpicigajaaDoor
open Go.RowKit Go.Extern.Stop Go.Stop Go.Extern
set_option maxRecDepth 100000

/-- an error that is the number n, with d Faults around it -/
def Er (w : World) : Nat → Value → Int → Prop
  | 0, v, n => v = .iface 51 (.int .i64 n)
  | d + 1, v, n => ∃ b u, v = .iface 62 (.pointer (some ⟨b, 0, none⟩)) ∧ w.cell? ⟨b, 1, none⟩ = some u ∧ Er w d u n
theorem Er.below {w w' : World} (hb : Below w.heap.size w w') : ∀ {d : Nat} {v : Value} {n : Int}, Er w d v n → Er w' d v n
  | 0, _, _, h => h
  | _ + 1, _, _, ⟨b, u, h1, h2, h3⟩ => ⟨b, u, h1, by rw [hb.cell (p := ⟨b, 1, none⟩) (cell_lt h2)]; exact h2, Er.below hb h3⟩
theorem Er.iface {w : World} : ∀ {d : Nat} {v : Value} {n : Int}, Er w d v n → ∃ t x, v = .iface t x
  | 0, _, _, h => ⟨_, _, h⟩
  | _ + 1, _, _, ⟨_, _, h, _⟩ => ⟨_, _, h⟩
theorem eqEm (n m : Int) (w : World) : (binOp .eql 29 (.iface 51 (.int .i64 n)) (.iface 51 (.int .i64 m))).run Tryd.prog w = .ok (.bool (n == m)) w := by kernel_rfl
end Go.Proofs.YtnflgfpicigajaaDoor
