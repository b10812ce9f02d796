/- Proved here: helpers, one text behind the other. -/
import Derived.Test.YtemedclhglkfjaaGreatDoorM45
import Derived.Test.YtemedclhglkfjaaGreatDoorM47
import Derived.Test.YtemedclhglkfjaaGreatDoorM37
namespace Go.Proofs.YtemedclhglkfjaaGreatDoor.K
open Go.RowKit
set_option maxRecDepth 100000
structure MS (w0 w : World) (B X : Nat) (q x : Pkv) : Prop where
 bel : Below w0.heap.size w0 w
 lo : w0.heap.size <= B /\ w0.heap.size <= X /\ B ≠ X
 pb : Pk w B q
 px : Pk w X x
theorem MS.below {w0 w w' : World} {B X : Nat} {q x : Pkv} (h : MS w0 w B X q x) (hb : Below w.heap.size w w') : MS w0 w' B X q x := ⟨h.bel.trans (hb.mono h.bel.size),h.lo,h.pb.below hb,h.px.below hb⟩
theorem MS.set {w0 w : World} {B X : Nat} {q x : Pkv} (h : MS w0 w B X q x) (y : Pkv) (i : Nat) (hi : i < 19) (hq : ∀ j,j ≠ i -> y.cell j = x.cell j) : MS w0 (w.setCell ⟨X,i,none⟩ (y.cell i)) B X q y := by
 obtain ⟨h1,⟨h2,h3,h4⟩,h5,h6⟩ := h
 refine ⟨⟨h1.os,h1.tape,h1.output,by simpa [World.setCell] using h1.size,fun k hk => (Below.heap_setCell _ _ _ _ (by show k ≠ X; omega)).trans (h1.block k hk)⟩,⟨h2,h3,h4⟩,fun j hj => ⟨(World.cell?_setCell_other _ _ _ _ (fun e => by injection e with e _; exact h4 e.symm)).trans (h5 j hj).1,by rw [World.frozen?_setCell]; exact (h5 j hj).2⟩,h6.set y i hi hq⟩
theorem mpList_wanted {P : Program} {ops : Array Oper} {Q : Exit -> Act -> World -> Prop} {a : Act} {w : World} {rest : List Oper} {o : Oper} (hw : Region.wanted o (yielded ops a.tmps) = true) (h : ∀ K : Act -> World -> Prop,(∀ a w,wpList P ops Q rest a w -> K a w) -> o.wp P a w K Q) : wpList P ops Q (o :: rest) a w :=
 wpList_step fun K hK => by rw [if_pos hw]; exact h K hK
end Go.Proofs.YtemedclhglkfjaaGreatDoor.K
