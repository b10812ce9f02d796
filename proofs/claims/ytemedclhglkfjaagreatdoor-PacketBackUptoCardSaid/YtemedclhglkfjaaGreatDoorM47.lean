/- Proved here: dovecoteref3.Check tells the number chkP of any properties read from memory. Helper contracts. -/
import Derived.Test.YtemedclhglkfjaaGreatDoorM46
import Derived.Test.YtemedclhglkfjaaGreatDoorM30
import Derived.Test.YtemedclhglkfjaaGreatDoorM20
namespace Go.Proofs.YtemedclhglkfjaaGreatDoor
open Go.RowKit
set_option maxRecDepth 100000
end Go.Proofs.YtemedclhglkfjaaGreatDoor
