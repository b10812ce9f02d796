/- Proved here: dovecoteref1.point tells how many bytes the code point has with which bytes begin, or 0. Helper contracts. -/
import Derived.Test.YtknbgnoahfeigaaGreatDoorZTSize
namespace Go.Proofs.YtknbgnoahfeigaaGreatDoor
open Go.RowKit

/-- bytes in memory, as point's walk wants them -/
def Mem (w : World) (b off len : Nat) (l : List Int) : Prop := l.length = len ∧ (∀ j, j < len → w.cell? ⟨b, off + j, none⟩ = some (.int .u8 (l.getD j 0))) ∧ ∀ j, 0 ≤ l.getD j 0 ∧ l.getD j 0 ≤ 255
theorem Mem.len {w : World} {b off len : Nat} {l : List Int} (h : Mem w b off len l) : l.length = len := h.1
theorem Mem.cell {w : World} {b off len : Nat} {l : List Int} (h : Mem w b off len l) : ∀ j, j < len → w.cell? ⟨b, off + j, none⟩ = some (.int .u8 (l.getD j 0)) := h.2.1
theorem Mem.range {w : World} {b off len : Nat} {l : List Int} (h : Mem w b off len l) : ∀ j, 0 ≤ l.getD j 0 ∧ l.getD j 0 ≤ 255 := h.2.2
end Go.Proofs.YtknbgnoahfeigaaGreatDoor
