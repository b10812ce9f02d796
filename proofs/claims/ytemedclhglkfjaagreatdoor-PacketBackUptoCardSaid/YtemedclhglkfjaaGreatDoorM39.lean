/- Proved here: helpers, one text behind the other. -/
import Derived.Test.YtemedclhglkfjaaGreatDoorM38
import Derived.Test.YtemedclhglkfjaaGreatDoorM21
import Derived.Lib.SliceRun
namespace Go.Proofs.YtemedclhglkfjaaGreatDoor.K.W
open Go.RowKit
open Go.Proofs.YtemedclhglkfjaaGreatDoor.K
set_option maxRecDepth 100000
theorem cell_set (w : World) (p q : Addr) (v : Value) (h : (w.cell? q).isSome = true) : (w.setCell p v).cell? q = if p = q then some v else w.cell? q := by
 by_cases e : p = q
 ·subst e
  rw [if_pos rfl]
  exact World.cell?_setCell_same' w p v h
 ·rw [if_neg e]
  exact World.cell?_setCell_other _ _ _ _ e
end Go.Proofs.YtemedclhglkfjaaGreatDoor.K.W
namespace Go.Proofs.YtemedclhglkfjaaGreatDoor.K.W
open Go.RowKit
open Go.Proofs.YtemedclhglkfjaaGreatDoor.K
set_option maxRecDepth 100000
abbrev wcl (u : Wl) (s : Value) : List Value := [.string u.topic,.string u.payload,.int .i64 u.qos,.bool u.retain,s]
abbrev Wq := Wl × Value
def wrow (qs : List Wq) : List Value := qs.flatMap fun q => wcl q.1 q.2
structure OwnWs (w : World) (B : Nat) (v : Value) (qs : List Wq) : Prop where
 row : w.ownsRow B 52 5 v qs.length (wrow qs)
 prp : ∀ q ∈ qs,w.ownsRow B 83 4 q.2 q.1.props.length (pcs q.1.props) /\ q.1.props.length <= 1000000
theorem OwnWs.nil (w : World) (B : Nat) : OwnWs w B (.slice none 0 0) [] := ⟨World.ownsRow_nil _ _ _ _,fun q h => by simp at h⟩
theorem OwnWs.below {w w' : World} {B : Nat} {v : Value} {qs : List Wq} (h : OwnWs w B v qs) (hb : Below w.heap.size w w') : OwnWs w' B v qs := ⟨owns_below h.row hb,fun q hq => ⟨owns_below (h.prp q hq).1 hb,(h.prp q hq).2⟩⟩
theorem OwnWs.mono {w : World} {B B' : Nat} {v : Value} {qs : List Wq} (h : OwnWs w B v qs) (hB : B' <= B) : OwnWs w B' v qs := ⟨owns_mono h.row hB,fun q hq => ⟨owns_mono (h.prp q hq).1 hB,(h.prp q hq).2⟩⟩
end Go.Proofs.YtemedclhglkfjaaGreatDoor.K.W
