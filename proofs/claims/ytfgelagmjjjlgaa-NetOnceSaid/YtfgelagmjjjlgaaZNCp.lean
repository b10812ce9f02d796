/- Proved here: dovecoteref0.CopyRpc copies a message to memory of its own. Helper contract. -/
import Derived.Test.YtfgelagmjjjlgaaZNBx
namespace Go.Proofs.Ytfgelagmjjjlgaa.Nt
open Go.RowKit
set_option maxRecDepth 100000

theorem nodup2 {a b c d : Nat} {v u : Value} (hv : ∀ g ∈ bl v, a ≤ g ∧ g < b) (hu : ∀ g ∈ bl u, c ≤ g ∧ g < d) (h : b ≤ c) : (bl v ++ bl u).Nodup := by
  have one : ∀ v : Value, (bl v).Nodup := fun v => by unfold bl; cases v.ownBlock <;> simp
  refine List.nodup_append.2 ⟨one v, one u, fun x hx y hy e => ?_⟩
  subst e
  have := hv x hx
  have := hu x hy
  omega
end Go.Proofs.Ytfgelagmjjjlgaa.Nt
