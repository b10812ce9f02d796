/- Proved here: entries.own: a log in memory of its own. Helper contracts. -/
import Derived.Test.YtnmcjjlpifemnabDoorZEMd
namespace Go.Proofs.YtnmcjjlpifemnabDoor.Et
open Go.RowKit Nt
set_option maxRecDepth 100000

def zl : List Value := [.int .i64 0, .int .i64 0, .slice none 0 0]
/-- a slot for a log that a call tells -/
theorem bx_slot {w : World} {R : Nat} {a b c : Value} {t : TypeId} (h : Bx w R [a, b, c] t) : (w.cell? ⟨R, 0, none⟩ = some a ∧ w.cell? ⟨R, 1, none⟩ = some b ∧ w.cell? ⟨R, 2, none⟩ = some c) ∧ w.frozen? ⟨R, 0, none⟩ = false ∧ w.frozen? ⟨R, 1, none⟩ = false ∧ w.frozen? ⟨R, 2, none⟩ = false :=
  ⟨⟨h.cell 0 _ rfl, h.cell 1 _ rfl, h.cell 2 _ rfl⟩, h.frz 0, h.frz 1, h.frz 2⟩
/-- the log, in memory of its own, as a call tells it -/
def OwnL (w : World) (B : Nat) (L : Lo) (ao : Option Addr) (n c : Nat) : Prop := w.ownsRow B 55 4 (.slice ao n c) n (ecs L.es) ∧ L.es.length = n ∧ n ≤ 1000000
theorem OwnL.es {w : World} {B : Nat} {L : Lo} {ao : Option Addr} {n c : Nat} (h : OwnL w B L ao n c) : Es w ao n c L.es := by
  obtain ⟨a', c', e, h2⟩ := Es.own h.1 h.2.1 (by have := h.2.2; omega)
  simp only [Value.slice.injEq] at e
  obtain ⟨rfl, _, rfl⟩ := e
  exact h2
theorem OwnL.below {w w' : World} {B : Nat} {L : Lo} {ao : Option Addr} {n c : Nat} (h : OwnL w B L ao n c) (hb : Below w.heap.size w w') : OwnL w' B L ao n c := ⟨owns_below h.1 hb, h.2⟩
theorem OwnL.mono {w : World} {B B' : Nat} {L : Lo} {ao : Option Addr} {n c : Nat} (h : OwnL w B L ao n c) (hb : B' ≤ B) : OwnL w B' L ao n c := ⟨owns_mono h.1 hb, h.2⟩
theorem OwnL.put3 {w : World} {B R : Nat} {L : Lo} {ao : Option Addr} {n c : Nat} {x y z : Value} (h : OwnL w B L ao n c) (hR : R < B) : OwnL (put3 w R x y z) B L ao n c := ⟨put3_owns h.1 hR, h.2⟩
theorem OwnL.nil (w : World) (B : Nat) : OwnL w B lo0 none 0 0 := ⟨World.ownsRow_nil _ _ _ _, rfl, by omega⟩
end Go.Proofs.YtnmcjjlpifemnabDoor.Et
