/- Proved here: helpers, one text behind the other. -/
import Derived.Test.YtemedclhglkfjaaGreatDoorM30
import Derived.Test.YtemedclhglkfjaaGreatDoorM18
import Derived.Test.YtemedclhglkfjaaGreatDoorM17
import Derived.Test.YtemedclhglkfjaaGreatDoorM29
import Derived.Test.YtemedclhglkfjaaGreatDoorZKTk
import Derived.Test.YtemedclhglkfjaaGreatDoorM20
namespace Go.Proofs.YtemedclhglkfjaaGreatDoor
open Go.RowKit
set_option maxRecDepth 100000
theorem cell_set (w : World) (p q : Addr) (v : Value) (h : (w.cell? q).isSome = true) : (w.setCell p v).cell? q = if p = q then some v else w.cell? q := by
 by_cases e : p = q
 ·subst e
  rw [if_pos rfl]
  exact World.cell?_setCell_same' w p v h
 ·rw [if_neg e]
  exact World.cell?_setCell_other _ _ _ _ e
def InnOff (B : Nat) (w : World) (v : Value) (n : Int) : Prop := v = .iface 63 (.int .i64 n) \/ ∃ b,b ≠ B /\ v = .iface 112 (.pointer (some ⟨b,0,none⟩)) /\ w.cell? ⟨b,1,none⟩ = some (.iface 63 (.int .i64 n))
theorem InnOff.set {B : Nat} {w : World} {v : Value} {n : Int} (h : InnOff B w v n) {p : Addr} {u : Value} (hp : p.block = B) : InnOff B (w.setCell p u) v n := by
 rcases h with h | ⟨b,h0,h1,h2⟩
 ·exact .inl h
 ·exact .inr ⟨b,h0,h1,by rw [World.cell?_setCell_far _ _ _ _ (by rw [hp]; exact Ne.symm h0)]; exact h2⟩
theorem Inn.off {B : Nat} {w : World} {v : Value} {n z : Int} (h : Inn w v n) (hB : w.cell? ⟨B,1,none⟩ = some (.int .i64 z)) : InnOff B w v n := by
 rcases h with h | ⟨b,h1,h2⟩
 ·exact .inl h
 ·refine .inr ⟨b,?_,h1,h2⟩
  rintro rfl
  rw [hB] at h2
  simp at h2
def Rng (l : List Int) : Prop := ∀ j,0 <= l.getD j 0 /\ l.getD j 0 <= 255
theorem Rng.drop {l : List Int} (h : Rng l) (k : Nat) : Rng (l.drop k) := fun j => by
 rw [List.getD_eq_getElem?_getD,List.getElem?_drop,<- List.getD_eq_getElem?_getD]; exact h _
def sn (d : List Pr) (id : Int) : Bool := d.any fun q => decide (q.1 = id)
end Go.Proofs.YtemedclhglkfjaaGreatDoor
