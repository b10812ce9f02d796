/- Proved here: worlds in which nothing that was there turns but some cells of one block (BX): small laws. Helpers that name no program. -/
import Derived.Test.YtpoeakillimibaaGreatDoorM1
import Derived.Handy
namespace Go.Proofs.YtpoeakillimibaaGreatDoor.K
open Go.RowKit
structure BX (R : Nat) (may : Nat -> Prop) (w w' : World) : Prop where
 os : w'.os = w.os
 tape : w'.tape = w.tape
 output : w'.output = w.output
 size : w.heap.size <= w'.heap.size
 block : ∀ k,k < w.heap.size -> k ≠ R -> w'.heap[k]? = w.heap[k]?
 cell : ∀ j,¬ may j -> w'.cell? ⟨R,j,none⟩ = w.cell? ⟨R,j,none⟩
 frozen : ∀ j,w'.frozen? ⟨R,j,none⟩ = w.frozen? ⟨R,j,none⟩
structure BX' (R : Nat) (may : Nat -> Prop) (B : Nat) (w w' : World) : Prop where
 os : w'.os = w.os
 tape : w'.tape = w.tape
 output : w'.output = w.output
 size : w.heap.size <= w'.heap.size
 block : ∀ k,k < B -> k ≠ R -> w'.heap[k]? = w.heap[k]?
 cell : ∀ j,¬ may j -> w'.cell? ⟨R,j,none⟩ = w.cell? ⟨R,j,none⟩
 frozen : ∀ j,w'.frozen? ⟨R,j,none⟩ = w.frozen? ⟨R,j,none⟩
theorem BX.refl (R : Nat) (may : Nat -> Prop) (w : World) : BX R may w w := ⟨rfl,rfl,rfl,Nat.le_refl _,fun _ _ _ => rfl,fun _ _ => rfl,fun _ => rfl⟩
theorem BX.trans {R : Nat} {may : Nat -> Prop} {a b c : World} (h : BX R may a b) (k : BX R may b c) : BX R may a c :=
 ⟨k.os.trans h.os,k.tape.trans h.tape,k.output.trans h.output,Nat.le_trans h.size k.size,fun i hi hR => (k.block i (Nat.lt_of_lt_of_le hi h.size) hR).trans (h.block i hi hR),fun j hj => (k.cell j hj).trans (h.cell j hj),fun j => (k.frozen j).trans (h.frozen j)⟩
theorem BX.trans' {R : Nat} {may : Nat -> Prop} {a b c : World} (h : BX R may a b) (k : BX' R may a.heap.size b c) : BX R may a c :=
 ⟨k.os.trans h.os,k.tape.trans h.tape,k.output.trans h.output,Nat.le_trans h.size k.size,fun i hi hR => (k.block i hi hR).trans (h.block i hi hR),fun j hj => (k.cell j hj).trans (h.cell j hj),fun j => (k.frozen j).trans (h.frozen j)⟩
theorem BX.weak {R : Nat} {may may' : Nat -> Prop} {a b : World} (h : BX R may a b) (hm : ∀ j,may j -> may' j) : BX R may' a b :=
 ⟨h.os,h.tape,h.output,h.size,h.block,fun j hj => h.cell j (fun hx => hj (hm j hx)),h.frozen⟩
theorem BX.of_below {R : Nat} {may : Nat -> Prop} {a b : World} (h : Below a.heap.size a b) (hR : R < a.heap.size) : BX R may a b :=
 ⟨h.os,h.tape,h.output,h.size,fun k hk _ => h.block k hk,fun j _ => h.cell (p := ⟨R,j,none⟩) hR,fun j => h.frozen (p := ⟨R,j,none⟩) hR⟩
theorem BX.set {R : Nat} {may : Nat -> Prop} {a b : World} (h : BX R may a b) (j : Nat) (u : Value) (hj : may j) : BX R may a (b.setCell ⟨R,j,none⟩ u) :=
 h.trans ⟨rfl,rfl,rfl,by simp [World.setCell],fun k _ hR => Below.heap_setCell _ _ _ _ hR,fun i hi => World.cell?_setCell_other _ _ _ _ (fun e => by injection e with _ h2; subst h2; exact hi hj),fun i => World.frozen?_setCell ..⟩
theorem BX.below {R B : Nat} {may : Nat -> Prop} {a b : World} (h : BX R may a b) (hB : B <= R) (hs : B <= a.heap.size) : Below B a b :=
 ⟨h.os,h.tape,h.output,h.size,fun k hk => h.block k (Nat.lt_of_lt_of_le hk hs) (by omega)⟩
theorem BX.far {R : Nat} {may : Nat -> Prop} {a b : World} (h : BX R may a b) {p : Addr} {v : Value} (hp : a.cell? p = some v) (hR : p.block ≠ R) : b.cell? p = some v :=
 (World.cell?_of_block (w := a) (h.block p.block (cell_lt hp) hR)).trans hp
end Go.Proofs.YtpoeakillimibaaGreatDoor.K
