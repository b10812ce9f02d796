/- Proved here: what a list is with a message more, put once, twice, and with an empty payload; what # finds. Helpers on plain lists. -/
import Derived.Test.YtknbgnoahfeigaaGreatDoorZMAk
import Derived.Test.YtknbgnoahfeigaaGreatDoorZMMat
namespace Go.Proofs.YtknbgnoahfeigaaGreatDoor.M
open Go.RowKit

/-- a list around the place of a topic -/
structure Frm (t : ByteArray) (T R : List Mg) : Prop where
  lo : ∀ x ∈ T, cmpB x.topic t < 0
  hi : ∀ x ∈ R, cmpB t x.topic < 0
abbrev hsh : ByteArray := ⟨#[35]⟩
end Go.Proofs.YtknbgnoahfeigaaGreatDoor.M
