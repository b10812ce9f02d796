/- Proved here: prop.putNumber tells a number's bytes, the highest first. Helper contracts. -/
import Derived.Test.YtpfpollejhdbgaaDoorPPlain
import Derived.Handy
namespace Go.Proofs.YtpfpollejhdbgaaDoor
open Go.RowKit
set_option maxRecDepth 100000

/-- a number in so many bytes, the highest first -/
def nbs (k n : Int) : List Int := if k = 1 then [n] else if k = 2 then [n / 256, n % 256] else [n / 16777216, n / 65536 % 256, n / 256 % 256, n % 256]
def NumPost (k n : Int) (w : World) (e : Ending) (w' : World) : Prop :=
  ∃ v, e = .returned v ∧ Hid (w'.ownsRow w.heap.size 5 1 v (nbs k n).length ((nbs k n).map (Value.int .u8))) ∧ Below w.heap.size w w'
theorem num_1 (n : Int) (w : World) (h0 : 0 ≤ n) (h1 : n ≤ 1) : Calls Tryd.prog 68 #[.int .i64 n, .int .i64 1] w (NumPost 1 n w) := by
  unfold NumPost
  have m1 := V.make1
  have hx : n % 256 = n := by omega
  go_enter Tryd.func68, Tryd.ntmps68
  go_wp2
  refine wp_loop_rounds 2 ?_
  rw [rounds_succ]
  go_wp2
  rw [rounds_succ]
  go_wp2
  go_ret
  exact ⟨_, rfl, World.ownsRow_lit w _ _ (Nat.le_refl _) (by unfold maxLen; omega) (by simp), by go_grown⟩
theorem num_2 (n : Int) (w : World) (h0 : 0 ≤ n) (h1 : n ≤ 65535) : Calls Tryd.prog 68 #[.int .i64 n, .int .i64 2] w (NumPost 2 n w) := by
  unfold NumPost
  have m1 := V.make2
  have hx : n / 256 % 256 = n / 256 := by omega
  go_enter Tryd.func68, Tryd.ntmps68
  go_wp2
  refine wp_loop_rounds 3 ?_
  rw [rounds_succ]
  go_wp2
  rw [rounds_succ]
  go_wp2
  rw [rounds_succ]
  go_wp2
  go_ret
  exact ⟨_, rfl, World.ownsRow_lit w _ _ (Nat.le_refl _) (by unfold maxLen; omega) (by simp), by go_grown⟩
theorem num_4 (n : Int) (w : World) (h0 : 0 ≤ n) (h1 : n ≤ 4294967295) : Calls Tryd.prog 68 #[.int .i64 n, .int .i64 4] w (NumPost 4 n w) := by
  unfold NumPost
  have m1 := V.make4
  have hx : n / 256 / 256 / 256 = n / 16777216 := by omega
  have hy : n / 256 / 256 % 256 = n / 65536 % 256 := by omega
  go_enter Tryd.func68, Tryd.ntmps68
  go_wp2
  refine wp_loop_rounds 5 ?_
  rw [rounds_succ]
  go_wp2
  rw [rounds_succ]
  go_wp2
  rw [rounds_succ]
  go_wp2
  rw [rounds_succ]
  go_wp2
  rw [rounds_succ]
  go_wp2
  go_ret
  exact ⟨_, rfl, World.ownsRow_lit w _ _ (Nat.le_refl _) (by unfold maxLen; omega) (by simp), by go_grown⟩
end Go.Proofs.YtpfpollejhdbgaaDoor
