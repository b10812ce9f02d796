/- Proved here: contracts of the page's Name, plain, shared, Filter and Match. Helper contracts. -/
import Derived.Test.YtknbgnoahfeigaaGreatDoorZQRef
namespace Go.Proofs.YtknbgnoahfeigaaGreatDoor
open Go.RowKit

end Go.Proofs.YtknbgnoahfeigaaGreatDoor
