/- Proved here: dovecoteref1.Check and Bin tell what text.Check and PutBin tell. Helper contracts. -/
import Derived.Test.YtknbgnoahfeigaaGreatDoorZTRefUtf
import Derived.Test.YtknbgnoahfeigaaGreatDoorZTCopy
import Derived.Laws.IdiomStrings
namespace Go.Proofs.YtknbgnoahfeigaaGreatDoor
open Go.RowKit

end Go.Proofs.YtknbgnoahfeigaaGreatDoor
