/- Proved here: dovecoteref3.May tells whether a property may be (may). Helper contracts. -/
import Derived.Test.YtemedclhglkfjaaGreatDoorM30
import Derived.Test.YtemedclhglkfjaaGreatDoorM13
import Derived.Test.YtemedclhglkfjaaGreatDoorM17
import Derived.Handy
namespace Go.Proofs.YtemedclhglkfjaaGreatDoor
open Go.RowKit
set_option maxRecDepth 100000
end Go.Proofs.YtemedclhglkfjaaGreatDoor
