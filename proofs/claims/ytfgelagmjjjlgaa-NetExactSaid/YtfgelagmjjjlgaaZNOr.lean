/- Proved here: the walk of dovecotelaw14.NetOrders. Helper contract. -/
import Derived.Test.YtfgelagmjjjlgaaZNLw
namespace Go.Proofs.Ytfgelagmjjjlgaa.Nt
open Go.RowKit
set_option maxRecDepth 100000

end Go.Proofs.Ytfgelagmjjjlgaa.Nt
