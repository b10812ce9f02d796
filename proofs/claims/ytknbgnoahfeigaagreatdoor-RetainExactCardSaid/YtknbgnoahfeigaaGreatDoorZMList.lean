/- Proved here: lists of messages that may be, by all pairs; what is filtered out of one may be; topics. Helpers that name no program's function. -/
import Derived.Test.YtknbgnoahfeigaaGreatDoorZMSrch
namespace Go.Proofs.YtknbgnoahfeigaaGreatDoor.M
open Go.RowKit

theorem len_filter (l : List Mg) (p : Mg → Bool) : (l.filter p).length ≤ l.length := List.length_filter_le p l
end Go.Proofs.YtknbgnoahfeigaaGreatDoor.M
