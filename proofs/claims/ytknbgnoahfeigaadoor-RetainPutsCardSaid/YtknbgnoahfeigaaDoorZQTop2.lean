/- Proved here: contracts of topic's parts and matches. Helper contracts. -/
import Derived.Test.YtknbgnoahfeigaaDoorZQTop
namespace Go.Proofs.YtknbgnoahfeigaaDoor
open Go.RowKit

end Go.Proofs.YtknbgnoahfeigaaDoor
