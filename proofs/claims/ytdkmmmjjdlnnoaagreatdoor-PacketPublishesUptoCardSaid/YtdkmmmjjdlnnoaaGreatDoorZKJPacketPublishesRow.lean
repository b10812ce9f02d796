/- Proved here: the plain row of dovecotelaw4.PacketPublishes in the second form, on which its card stands. -/
import Derived.Test.YtdkmmmjjdlnnoaaGreatDoorZC45
import Derived.Test.YtdkmmmjjdlnnoaaGreatDoorZC4
import Derived.Test.YtdkmmmjjdlnnoaaGreatDoorZKJPacketPublishesLift
namespace Go.Proofs.YtdkmmmjjdlnnoaaGreatDoor
open Go.ChangeShapes Go.WideShapes Go.ChangeAt Go.RowKit Go.Deep
theorem publishes_k9:(Rows.packetPublishesUptoRow.inPlace == Tryz.prog.inPlace 5)=true:=by kernel_rfl
theorem publishes_k10:(Rows.packetPublishesUptoRow.unfollowed == Tryz.prog.unfollowed 5)=true:=by kernel_rfl
theorem publishes_k11:(Rows.packetPublishesUptoRow.recurses == Tryz.prog.recurses 5)=true:=by kernel_rfl
theorem publishes_k12:(Rows.packetPublishesUptoRow.named == Tryz.prog.varsNamed 5)=true:=by kernel_rfl
theorem publishes_joined:joinedFacts Tryz.prog 5 Tryz.f5 (Rows.OpenSpec.upto Rows.packetPublishesSpec).bare Rows.packetPublishesUptoRow=true:=joined_parts _ _ _ _ _ (by kernel_rfl) Tryz.laidOut (by kernel_rfl) (by kernel_rfl) (by kernel_rfl) (by kernel_rfl) (by kernel_rfl) (by kernel_rfl) (by kernel_rfl) publishes_k9 publishes_k10 publishes_k11 publishes_k12 (by kernel_rfl) (by kernel_rfl) (by kernel_rfl) (by kernel_rfl) (by kernel_rfl) (by kernel_rfl) (by kernel_rfl) (by kernel_rfl) (by kernel_rfl) (by kernel_rfl) (by kernel_rfl) (by kernel_rfl) io_enter (by rw[io_lifts];kernel_rfl) (by rw[io_make];kernel_rfl) (by kernel_rfl) (by kernel_rfl) (by kernel_rfl) (by kernel_rfl)
theorem publishes_row:Rows.PacketPublishesUptoSaid :=
 OpenClaim.holds_of_cond 5 Tryz.f5 rfl rfl rfl rfl rfl rfl rfl ⟨rfl,rfl,rfl,rfl,rfl⟩ rfl rfl rfl rfl rfl (by kernel_rfl) Tryz.func5 publishes_joined
  (of_decide_eq_true (by kernel_rfl)) (by unfold Func.isWrapper;rw[if_neg (of_decide_eq_false (by kernel_rfl))];exact⟨rfl,rfl⟩)
  (fun os started H enc _ F=>by rw[OpenClaim.pre_eq_preRow];exact publishes_lifted os started H enc F)
end Go.Proofs.YtdkmmmjjdlnnoaaGreatDoor
