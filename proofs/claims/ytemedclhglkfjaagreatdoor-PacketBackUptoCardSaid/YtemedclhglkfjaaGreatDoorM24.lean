/- Proved here: helpers, one text behind the other. -/
import Derived.Test.YtemedclhglkfjaaGreatDoorM1
import Derived.Handy
import Derived.Test.YtemedclhglkfjaaGreatDoorProg
namespace Go.Proofs.YtemedclhglkfjaaGreatDoor.K
open Go.RowKit
structure BX (R : Nat) (may : Nat -> Prop) (w w' : World) : Prop where
 os : w'.os = w.os
 tape : w'.tape = w.tape
 output : w'.output = w.output
 size : w.heap.size <= w'.heap.size
 block : ∀ k,k < w.heap.size -> k ≠ R -> w'.heap[k]? = w.heap[k]?
 cell : ∀ j,¬ may j -> w'.cell? ⟨R,j,none⟩ = w.cell? ⟨R,j,none⟩
 frozen : ∀ j,w'.frozen? ⟨R,j,none⟩ = w.frozen? ⟨R,j,none⟩
structure BX' (R : Nat) (may : Nat -> Prop) (B : Nat) (w w' : World) : Prop where
 os : w'.os = w.os
 tape : w'.tape = w.tape
 output : w'.output = w.output
 size : w.heap.size <= w'.heap.size
 block : ∀ k,k < B -> k ≠ R -> w'.heap[k]? = w.heap[k]?
 cell : ∀ j,¬ may j -> w'.cell? ⟨R,j,none⟩ = w.cell? ⟨R,j,none⟩
 frozen : ∀ j,w'.frozen? ⟨R,j,none⟩ = w.frozen? ⟨R,j,none⟩
theorem BX.refl (R : Nat) (may : Nat -> Prop) (w : World) : BX R may w w := ⟨rfl,rfl,rfl,Nat.le_refl _,fun _ _ _ => rfl,fun _ _ => rfl,fun _ => rfl⟩
theorem BX.trans {R : Nat} {may : Nat -> Prop} {a b c : World} (h : BX R may a b) (k : BX R may b c) : BX R may a c :=
 ⟨k.os.trans h.os,k.tape.trans h.tape,k.output.trans h.output,Nat.le_trans h.size k.size,fun i hi hR => (k.block i (Nat.lt_of_lt_of_le hi h.size) hR).trans (h.block i hi hR),fun j hj => (k.cell j hj).trans (h.cell j hj),fun j => (k.frozen j).trans (h.frozen j)⟩
theorem BX.trans' {R : Nat} {may : Nat -> Prop} {a b c : World} (h : BX R may a b) (k : BX' R may a.heap.size b c) : BX R may a c :=
 ⟨k.os.trans h.os,k.tape.trans h.tape,k.output.trans h.output,Nat.le_trans h.size k.size,fun i hi hR => (k.block i hi hR).trans (h.block i hi hR),fun j hj => (k.cell j hj).trans (h.cell j hj),fun j => (k.frozen j).trans (h.frozen j)⟩
theorem BX.weak {R : Nat} {may may' : Nat -> Prop} {a b : World} (h : BX R may a b) (hm : ∀ j,may j -> may' j) : BX R may' a b :=
 ⟨h.os,h.tape,h.output,h.size,h.block,fun j hj => h.cell j (fun hx => hj (hm j hx)),h.frozen⟩
theorem BX.of_below {R : Nat} {may : Nat -> Prop} {a b : World} (h : Below a.heap.size a b) (hR : R < a.heap.size) : BX R may a b :=
 ⟨h.os,h.tape,h.output,h.size,fun k hk _ => h.block k hk,fun j _ => h.cell (p := ⟨R,j,none⟩) hR,fun j => h.frozen (p := ⟨R,j,none⟩) hR⟩
theorem BX.set {R : Nat} {may : Nat -> Prop} {a b : World} (h : BX R may a b) (j : Nat) (u : Value) (hj : may j) : BX R may a (b.setCell ⟨R,j,none⟩ u) :=
 h.trans ⟨rfl,rfl,rfl,by simp [World.setCell],fun k _ hR => Below.heap_setCell _ _ _ _ hR,fun i hi => World.cell?_setCell_other _ _ _ _ (fun e => by injection e with _ h2; subst h2; exact hi hj),fun i => World.frozen?_setCell ..⟩
theorem BX.below {R B : Nat} {may : Nat -> Prop} {a b : World} (h : BX R may a b) (hB : B <= R) (hs : B <= a.heap.size) : Below B a b :=
 ⟨h.os,h.tape,h.output,h.size,fun k hk => h.block k (Nat.lt_of_lt_of_le hk hs) (by omega)⟩
theorem BX.far {R : Nat} {may : Nat -> Prop} {a b : World} (h : BX R may a b) {p : Addr} {v : Value} (hp : a.cell? p = some v) (hR : p.block ≠ R) : b.cell? p = some v :=
 (World.cell?_of_block (w := a) (h.block p.block (cell_lt hp) hR)).trans hp
structure FB (S : Nat) (row : Option Nat) (w w' : World) : Prop where
 os : w'.os = w.os
 tape : w'.tape = w.tape
 output : w'.output = w.output
 size : w.heap.size <= w'.heap.size
 block : ∀ k,k < w.heap.size -> k ≠ S -> some k ≠ row -> w'.heap[k]? = w.heap[k]?
theorem FB.refl (S : Nat) (row : Option Nat) (w : World) : FB S row w w := ⟨rfl,rfl,rfl,Nat.le_refl _,fun _ _ _ _ => rfl⟩
theorem FB.trans {S : Nat} {row row' : Option Nat} {a b c : World} (h : FB S row a b) (k : FB S row' b c) (hr : ∀ g,row' = some g -> row = some g \/ a.heap.size <= g) : FB S row a c :=
 ⟨k.os.trans h.os,k.tape.trans h.tape,k.output.trans h.output,Nat.le_trans h.size k.size,fun i hi hS hrow => (k.block i (Nat.lt_of_lt_of_le hi h.size) hS (fun e => by
  rcases hr i e.symm with e' | e'
  ·exact hrow e'.symm
  ·omega)).trans (h.block i hi hS hrow)⟩
theorem FB.of_below {S : Nat} {row : Option Nat} {a b : World} (h : Below a.heap.size a b) : FB S row a b := ⟨h.os,h.tape,h.output,h.size,fun k hk _ _ => h.block k hk⟩
theorem FB.of_grown {S : Nat} {row : Option Nat} {a b : World} (h : a.grownBy b row) : FB S row a b := ⟨h.os,h.tape,h.output,h.size,fun k hk _ hr => h.block k hk hr⟩
theorem FB.of_bx {S : Nat} {row : Option Nat} {may : Nat -> Prop} {a b : World} (h : BX S may a b) : FB S row a b := ⟨h.os,h.tape,h.output,h.size,fun k hk hS _ => h.block k hk hS⟩
theorem owns_blk {w : World} {B : Nat} {e : TypeId} {s : Nat} {v : Value} {n : Nat} {xs : List Value} (h : w.ownsRow B e s v n xs) : ∀ g,v.ownBlock = some g -> B <= g := by
 intro g hg
 rcases h.2 with ⟨rfl,_⟩ | ⟨g',cap,cur,rfl,hB,_⟩
 ·cases hg
 ·cases hg
  exact hB
structure FW (W : Nat) (row : Option Nat) (w w' : World) : Prop where
 fb : FB W row w w'
 cell : ∀ j,j < 19 -> w'.cell? ⟨W,j,none⟩ = w.cell? ⟨W,j,none⟩
 frozen : ∀ j,j < 19 -> w'.frozen? ⟨W,j,none⟩ = w.frozen? ⟨W,j,none⟩
abbrev isT (j : Nat) : Prop := 19 <= j
theorem FW.of_bx {W : Nat} {row : Option Nat} {may : Nat -> Prop} {a b : World} (h : BX W may a b) (hm : ∀ j,may j -> 19 <= j) : FW W row a b := ⟨FB.of_bx h,fun j hj => h.cell j (fun e => by have := hm j e; omega),fun j _ => h.frozen j⟩
theorem FW.of_below {W : Nat} {row : Option Nat} {a b : World} (h : Below a.heap.size a b) (hW : W < a.heap.size) : FW W row a b := ⟨FB.of_below h,fun _ _ => h.cell hW,fun _ _ => h.frozen hW⟩
theorem FW.of_grown {W : Nat} {row : Option Nat} {a b : World} (h : a.grownBy b row) (hW : W < a.heap.size) (hr : some W ≠ row) : FW W row a b := by
 have hb := h.block W hW hr
 exact ⟨FB.of_grown h,fun _ _ => World.cell?_of_block hb,fun _ _ => World.frozen?_of_block hb⟩
theorem FW.trans {W : Nat} {row row' : Option Nat} {a b c : World} (h : FW W row a b) (k : FW W row' b c) (hr : ∀ g,row' = some g -> row = some g \/ a.heap.size <= g) : FW W row a c :=
 ⟨h.fb.trans k.fb hr,fun j hj => (k.cell j hj).trans (h.cell j hj),fun j hj => (k.frozen j hj).trans (h.frozen j hj)⟩
set_option maxRecDepth 100000
def Wtr (w : World) (W : Nat) (bv : Value) (sz : Int) (E : Value) : Prop := (w.cell? ⟨W,19,none⟩ = some bv /\ w.frozen? ⟨W,19,none⟩ = false) /\ (w.cell? ⟨W,20,none⟩ = some (.int .i64 sz) /\ w.frozen? ⟨W,20,none⟩ = false) /\ w.cell? ⟨W,21,none⟩ = some E /\ w.frozen? ⟨W,21,none⟩ = false
abbrev is20 (j : Nat) : Prop := j = 20
abbrev is21 (j : Nat) : Prop := j = 21
theorem Wtr.setE {w : World} {W : Nat} {bv E u : Value} {sz : Int} (h : Wtr w W bv sz E) : Wtr (w.setCell ⟨W,21,none⟩ u) W bv sz u := by
 obtain ⟨⟨a1,a2⟩,⟨b1,b2⟩,c1,c2⟩ := h
 exact ⟨⟨(World.cell?_setCell_other _ _ _ _ (by intro e; simp at e)).trans a1,by simpa using a2⟩,⟨(World.cell?_setCell_other _ _ _ _ (by intro e; simp at e)).trans b1,by simpa using b2⟩,World.cell?_setCell_same _ _ _ c1,by simpa using c2⟩
theorem Wtr.setS {w : World} {W : Nat} {bv E : Value} {sz s' : Int} (h : Wtr w W bv sz E) : Wtr (w.setCell ⟨W,20,none⟩ (.int .i64 s')) W bv s' E := by
 obtain ⟨⟨a1,a2⟩,⟨b1,b2⟩,c1,c2⟩ := h
 exact ⟨⟨(World.cell?_setCell_other _ _ _ _ (by intro e; simp at e)).trans a1,by simpa using a2⟩,⟨World.cell?_setCell_same _ _ _ b1,by simpa using b2⟩,(World.cell?_setCell_other _ _ _ _ (by intro e; simp at e)).trans c1,by simpa using c2⟩
theorem wfail_new (W : Nat) (bv : Value) (sz : Int) (t : TypeId) (x : Value) (w : World) (h : Wtr w W bv sz .nilIface) : Calls Tryz.prog 97 #[.pointer (some ⟨W,0,none⟩),.iface t x] w fun e w' => e = .returned (.tuple #[]) /\ Wtr w' W bv sz (.iface t x) /\ BX W is21 w w' := by
 have HW := zh h
 obtain ⟨-,-,c1,c2⟩ := h
 go_enter Tryz.func97,Tryz.ntmps97
 go_wp2
 go_end0
 exact ⟨rfl,(uh HW).setE,(BX.refl _ _ _).set 21 _ rfl⟩
theorem wfail_nil (W : Nat) (bv : Value) (sz : Int) (w : World) (h : Wtr w W bv sz .nilIface) : Calls Tryz.prog 97 #[.pointer (some ⟨W,0,none⟩),.nilIface] w fun e w' => e = .returned (.tuple #[]) /\ Wtr w' W bv sz .nilIface /\ BX W is21 w w' := by
 have HW := zh h
 obtain ⟨-,-,c1,c2⟩ := h
 go_enter Tryz.func97,Tryz.ntmps97
 go_wp2
 go_end0
 exact ⟨rfl,(uh HW).setE,(BX.refl _ _ _).set 21 _ rfl⟩
theorem wfail_old (W : Nat) (bv E : Value) (sz : Int) (t : TypeId) (x : Value) (w : World) (h : Wtr w W bv sz (.iface t x)) : Calls Tryz.prog 97 #[.pointer (some ⟨W,0,none⟩),E] w fun e w' => e = .returned (.tuple #[]) /\ w' = w := by
 obtain ⟨-,-,c1,c2⟩ := h
 go_enter Tryz.func97,Tryz.ntmps97
 go_wp2
 go_end0
 exact ⟨rfl,rfl⟩
theorem wmust_true (W : Nat) (w : World) : Calls Tryz.prog 54 #[.pointer (some ⟨W,0,none⟩),.bool true] w fun e w' => e = .returned (.tuple #[]) /\ w' = w := by
 go_enter Tryz.func54,Tryz.ntmps54
 go_wp2
 go_end0
 exact ⟨rfl,rfl⟩
theorem wmust_new (W : Nat) (bv : Value) (sz : Int) (w : World) (h : Wtr w W bv sz .nilIface) : Calls Tryz.prog 54 #[.pointer (some ⟨W,0,none⟩),.bool false] w fun e w' => e = .returned (.tuple #[]) /\ Wtr w' W bv sz (.iface 63 (.int .i64 1)) /\ BX W is21 w w' := by
 have HR := zh h
 clear h
 go_enter Tryz.func54,Tryz.ntmps54
 go_wp2_with fail
 refine (wfail_new W bv sz _ _ w (uh HR)).mono ?_
 rintro e w' ⟨rfl,hr,hx⟩
 have H1 := zh hr
 have H2 := zh hx
 clear hr hx
 go_wp2
 go_end0
 exact ⟨rfl,uh H1,uh H2⟩
theorem wmust_old (W : Nat) (bv : Value) (sz : Int) (t : TypeId) (x : Value) (w : World) (h : Wtr w W bv sz (.iface t x)) : Calls Tryz.prog 54 #[.pointer (some ⟨W,0,none⟩),.bool false] w fun e w' => e = .returned (.tuple #[]) /\ w' = w := by
 have HR := zh h
 clear h
 go_enter Tryz.func54,Tryz.ntmps54
 go_wp2_with fail
 refine (wfail_old W bv _ sz t x w (uh HR)).mono ?_
 rintro e w' ⟨rfl,hw⟩
 obtain rfl := hw.symm
 clear hw
 go_wp2
 go_end0
 exact ⟨rfl,rfl⟩
theorem room_any (W : Nat) (bv E : Value) (sz n : Int) (w : World) (h : Wtr w W bv sz E) (h0 : 0 <= sz) (h1 : sz <= 4611686018427387904) (h2 : 0 <= n) (h3 : n <= 4611686018427387904 - 1) : Calls Tryz.prog 92 #[.pointer (some ⟨W,0,none⟩),.int .i64 n] w fun e w' => e = .returned (.bool (decide (sz + n <= 65536))) /\ Wtr w' W bv (sz + n) E /\ BX W is20 w w' := by
 have HW := zh h
 obtain ⟨-,⟨b1,b2⟩,-,-⟩ := h
 have hs : (w.setCell ⟨W,20,none⟩ (.int .i64 (sz + n))).cell? ⟨W,20,none⟩ = some (.int .i64 (sz + n)) := World.cell?_setCell_same _ _ _ b1
 go_enter Tryz.func92,Tryz.ntmps92
 go_wp2
 go_ret
 exact ⟨rfl,(uh HW).setS,(BX.refl _ _ _).set 20 _ rfl⟩
end Go.Proofs.YtemedclhglkfjaaGreatDoor.K
