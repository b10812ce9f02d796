/- Proved here: helpers, one text behind the other. -/
import Derived.Test.YtemedclhglkfjaaGreatDoorZKTk
import Derived.Test.YtemedclhglkfjaaGreatDoorM33
import Derived.Laws.AppendOwn
import Derived.Deep.Cut
import Derived.Deep.CutBlock
import Derived.Test.YtemedclhglkfjaaGreatDoorZKLoad
namespace Go.Proofs.YtemedclhglkfjaaGreatDoor.K
open Go.RowKit
set_option maxRecDepth 100000
def Rm (B R : Nat) (w : World) (b : Bool) (V : Nat) (ob : Obj) : Prop := B <= V /\ V ≠ R /\ (b = true -> V < w.heap.size /\ w.heap[V]? = some ob)
theorem Rm.bx {B R : Nat} {may : Nat -> Prop} {w w' : World} {b : Bool} {V : Nat} {ob : Obj} (h : Rm B R w b V ob) (hx : BX R may w w') : Rm B R w' b V ob :=
 ⟨h.1,h.2.1,fun hb => ⟨Nat.lt_of_lt_of_le (h.2.2 hb).1 hx.size,(hx.block V (h.2.2 hb).1 h.2.1).trans (h.2.2 hb).2⟩⟩
theorem Rm.below {B R : Nat} {w w' : World} {b : Bool} {V : Nat} {ob : Obj} (h : Rm B R w b V ob) (hx : Below w.heap.size w w') : Rm B R w' b V ob :=
 ⟨h.1,h.2.1,fun hb => ⟨Nat.lt_of_lt_of_le (h.2.2 hb).1 hx.size,(hx.block V (h.2.2 hb).1).trans (h.2.2 hb).2⟩⟩
abbrev willO (x : Int) : Obj := .cells #[.string ⟨#[]⟩,.string ⟨#[]⟩,.int .i64 (x / 8 % 4),.bool (btest x 32),.slice none 0 0] 52
abbrev strO : Obj := .cells #[.string ⟨#[]⟩] 9
structure Rooms (B R : Nat) (w : World) (x : Int) (V U Q : Nat) : Prop where
 v : Rm B R w (btest x 4) V (willO x)
 u : Rm B R w (btest x 128) U strO
 q : Rm B R w (btest x 64) Q strO
 vu : btest x 4 = true -> btest x 128 = true -> V ≠ U
 vq : btest x 4 = true -> btest x 64 = true -> V ≠ Q
 uq : btest x 128 = true -> btest x 64 = true -> U ≠ Q
theorem Rw.nil (w : World) : Rw w ⟨none,0,0⟩ 5 (wcs []) := ⟨rfl,⟨Nat.le_refl _,Nat.zero_le _⟩,.inl rfl⟩
structure Cn where
 x : Int
 keep : Int
 props : List Pr
 client : ByteArray
 will : Option (List Pr × ByteArray × ByteArray)
 user : Option ByteArray
 pass : Option ByteArray
def WillAt (B N R : Nat) (w : World) (x : Int) (V : Nat) (wl : Option (List Pr × ByteArray × ByteArray)) : Prop :=
 (btest x 4 = false -> wl = none) /\ (btest x 4 = true -> ∃ q t y tq,wl = some (q,t,y) /\ B <= V /\ V ≠ R /\ V < w.heap.size /\ w.heap[V]? = some (.cells #[.string t,.string y,.int .i64 (x / 8 % 4),.bool (btest x 32),Sl.val tq] 52) /\ w.ownsRow N 83 4 tq.val q.length (pcs q))
def StrAt (B R : Nat) (w : World) (b : Bool) (U : Nat) (us : Option ByteArray) : Prop :=
 (b = false -> us = none) /\ (b = true -> ∃ t,us = some t /\ B <= U /\ U ≠ R /\ U < w.heap.size /\ w.heap[U]? = some (.cells #[.string t] 9))
theorem StrAt.bx {B R : Nat} {may : Nat -> Prop} {w w' : World} {b : Bool} {U : Nat} {us : Option ByteArray} (h : StrAt B R w b U us) (hx : BX R may w w') : StrAt B R w' b U us :=
 ⟨h.1,fun hb => by
  obtain ⟨t,h1,h2,h3,h4,h5⟩ := h.2 hb
  exact ⟨t,h1,h2,h3,Nat.lt_of_lt_of_le h4 hx.size,(hx.block U h4 h3).trans h5⟩⟩
theorem owns_out {w : World} {V j : Nat} {u : Value} {B : Nat} {e : TypeId} {s : Nat} {v : Value} {n : Nat} {xs : List Value} (h : w.ownsRow B e s v n xs) (hV : V < B) : (w.setCell ⟨V,j,none⟩ u).ownsRow B e s v n xs := by
 refine ⟨h.1,?_⟩
 rcases h.2 with h1 | ⟨g,cap,cur,hv,hB,hg,rest⟩
 ·exact .inl h1
 ·exact .inr ⟨g,cap,cur,hv,hB,by rw [Below.heap_setCell _ _ _ _ (by show g ≠ V; omega)]; exact hg,rest⟩
theorem WillAt.bx {B N R : Nat} {may : Nat -> Prop} {w w' : World} {x : Int} {V : Nat} {wl : Option (List Pr × ByteArray × ByteArray)} (h : WillAt B N R w x V wl) (hx : BX R may w w') (hR : R < N) : WillAt B N R w' x V wl :=
 ⟨h.1,fun hb => by
  obtain ⟨q,t,y,tq,h1,h2,h3,h4,h5,h6⟩ := h.2 hb
  exact ⟨q,t,y,tq,h1,h2,h3,Nat.lt_of_lt_of_le h4 hx.size,(hx.block V h4 h3).trans h5,owns_bx h6 hx hR⟩⟩
theorem WillAt.out {B N R : Nat} {w : World} {x : Int} {V U j : Nat} {u : Value} {wl : Option (List Pr × ByteArray × ByteArray)} (h : WillAt B N R w x V wl) (hU : btest x 4 = true -> V ≠ U) (hN : U < N) : WillAt B N R (w.setCell ⟨U,j,none⟩ u) x V wl :=
 ⟨h.1,fun hb => by
  obtain ⟨q,t,y,tq,h1,h2,h3,h4,h5,h6⟩ := h.2 hb
  exact ⟨q,t,y,tq,h1,h2,h3,by simpa [World.setCell] using h4,(Below.heap_setCell _ _ _ _ (hU hb)).trans h5,owns_out h6 hN⟩⟩
theorem StrAt.out {B R : Nat} {w : World} {b : Bool} {U V j : Nat} {u : Value} {us : Option ByteArray} (h : StrAt B R w b U us) (hV : b = true -> U ≠ V) : StrAt B R (w.setCell ⟨V,j,none⟩ u) b U us :=
 ⟨h.1,fun hb => by
  obtain ⟨t,h1,h2,h3,h4,h5⟩ := h.2 hb
  exact ⟨t,h1,h2,h3,by simpa [World.setCell] using h4,(Below.heap_setCell _ _ _ _ (hV hb)).trans h5⟩⟩
theorem Rm.out {B R : Nat} {w : World} {b : Bool} {U V j : Nat} {u : Value} {ob : Obj} (h : Rm B R w b U ob) (hV : b = true -> U ≠ V) : Rm B R (w.setCell ⟨V,j,none⟩ u) b U ob :=
 ⟨h.1,h.2.1,fun hb => ⟨by simpa [World.setCell] using (h.2.2 hb).1,(Below.heap_setCell _ _ _ _ (hV hb)).trans (h.2.2 hb).2⟩⟩
theorem WillAt.base {B B' N R : Nat} {w : World} {x : Int} {V : Nat} {wl : Option (List Pr × ByteArray × ByteArray)} (h : WillAt B N R w x V wl) (hB : B' <= B) : WillAt B' N R w x V wl :=
 ⟨h.1,fun hb => by
  obtain ⟨q,t,y,tq,h1,h2,h3⟩ := h.2 hb
  exact ⟨q,t,y,tq,h1,Nat.le_trans hB h2,h3⟩⟩
theorem StrAt.base {B B' R : Nat} {w : World} {b : Bool} {U : Nat} {us : Option ByteArray} (h : StrAt B R w b U us) (hB : B' <= B) : StrAt B' R w b U us :=
 ⟨h.1,fun hb => by
  obtain ⟨t,h1,h2,h3⟩ := h.2 hb
  exact ⟨t,h1,Nat.le_trans hB h2,h3⟩⟩
end Go.Proofs.YtemedclhglkfjaaGreatDoor.K
