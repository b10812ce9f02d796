/- Proved here: what the rows of layer 14 share. Helpers. -/
import Derived.Test.YtfgelagmjjjlgaaRows
import Derived.Test.YtfgelagmjjjlgaaZNOr
import Derived.ProofKit
import Derived.SizedLaws
import Derived.Deep.SlicePairs
import Derived.ChangeSame
import Derived.RowKit
import Derived.RowKitTokens
import Derived.Stop.Joined
namespace Go.Proofs.Ytfgelagmjjjlgaa.Nt
open Go.ChangeShapes Go.WideShapes Go.ChangeAt Go.RowKit Go.Deep
set_option maxRecDepth 100000

theorem own14 : ownKnob Try.prog.godebug = none := by kernel_rfl
theorem laidOut14 : laidOutB Try.prog = true := by kernel_rfl
end Go.Proofs.Ytfgelagmjjjlgaa.Nt
