/- Proved here: the plain row of dovecotelaw5.StreamPieces, on which its card stands. -/
import Derived.Test.YtccnjdgaldbgnaaGreatDoorZC44
import Derived.Test.YtccnjdgaldbgnaaGreatDoorZC4
import Derived.Test.YtccnjdgaldbgnaaGreatDoorZSStreamPiecesLift
namespace Go.Proofs.YtccnjdgaldbgnaaGreatDoor
open Go.ChangeShapes Go.WideShapes Go.ChangeAt Go.RowKit Go.Deep
theorem pcs_k9:(Rows.streamPiecesRow.inPlace == Tryz.prog.inPlace 3)=true:=by kernel_rfl
theorem pcs_k10:(Rows.streamPiecesRow.unfollowed == Tryz.prog.unfollowed 3)=true:=by kernel_rfl
theorem pcs_k11:(Rows.streamPiecesRow.recurses == Tryz.prog.recurses 3)=true:=by kernel_rfl
theorem pcs_k12:(Rows.streamPiecesRow.named == Tryz.prog.varsNamed 3)=true:=by kernel_rfl
theorem pcs_joined:joinedFacts Tryz.prog 3 Tryz.f3 Rows.streamPiecesSpec Rows.streamPiecesRow=true:=joined_parts _ _ _ _ _ (by kernel_rfl) Tryz.laidOut (by kernel_rfl) (by kernel_rfl) (by kernel_rfl) (by kernel_rfl) (by kernel_rfl) (by kernel_rfl) (by kernel_rfl) pcs_k9 pcs_k10 pcs_k11 pcs_k12 (by kernel_rfl) (by kernel_rfl) (by kernel_rfl) (by kernel_rfl) (by kernel_rfl) (by kernel_rfl) (by kernel_rfl) (by kernel_rfl) (by kernel_rfl) (by kernel_rfl) (by kernel_rfl) (by kernel_rfl) io_enter (by rw[io_lifts];kernel_rfl) (by rw[io_make];kernel_rfl) (by kernel_rfl) (by kernel_rfl) (by kernel_rfl) (by kernel_rfl)
theorem pcs_row:Rows.StreamPiecesSaid :=
 OpenClaim.holds_of_wide 3 Tryz.f3 rfl rfl rfl rfl rfl rfl rfl ⟨rfl,rfl,rfl,rfl,rfl⟩ rfl rfl rfl rfl rfl (by kernel_rfl) Tryz.func3 pcs_joined
  (of_decide_eq_true (by kernel_rfl)) (by unfold Func.isWrapper;rw[if_neg (of_decide_eq_false (by kernel_rfl))];exact⟨rfl,rfl⟩)
  (fun os started H enc _=>pcs_lifted os started H enc)
end Go.Proofs.YtccnjdgaldbgnaaGreatDoor
