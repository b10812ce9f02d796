/- Proved here: the plain row of dovecotelaw4.PacketDecodes, on which its card stands. -/
import Derived.Test.YtpheelbbpiieiaaGreatDoorZC40
import Derived.Test.YtpheelbbpiieiaaGreatDoorZC4
import Derived.Test.YtpheelbbpiieiaaGreatDoorZKPacketDecodesLift
namespace Go.Proofs.YtpheelbbpiieiaaGreatDoor
open Go.ChangeShapes Go.WideShapes Go.ChangeAt Go.RowKit Go.Deep
theorem decodes_k9:(Rows.packetDecodesRow.inPlace == Tryz.prog.inPlace 3)=true:=by kernel_rfl
theorem decodes_k10:(Rows.packetDecodesRow.unfollowed == Tryz.prog.unfollowed 3)=true:=by kernel_rfl
theorem decodes_k11:(Rows.packetDecodesRow.recurses == Tryz.prog.recurses 3)=true:=by kernel_rfl
theorem decodes_k12:(Rows.packetDecodesRow.named == Tryz.prog.varsNamed 3)=true:=by kernel_rfl
theorem decodes_joined:joinedFacts Tryz.prog 3 Tryz.f3 Rows.packetDecodesSpec Rows.packetDecodesRow=true:=joined_parts _ _ _ _ _ (by kernel_rfl) Tryz.laidOut (by kernel_rfl) (by kernel_rfl) (by kernel_rfl) (by kernel_rfl) (by kernel_rfl) (by kernel_rfl) (by kernel_rfl) decodes_k9 decodes_k10 decodes_k11 decodes_k12 (by kernel_rfl) (by kernel_rfl) (by kernel_rfl) (by kernel_rfl) (by kernel_rfl) (by kernel_rfl) (by kernel_rfl) (by kernel_rfl) (by kernel_rfl) (by kernel_rfl) (by kernel_rfl) (by kernel_rfl) io_enter (by rw[io_lifts];kernel_rfl) (by rw[io_make];kernel_rfl) (by kernel_rfl) (by kernel_rfl) (by kernel_rfl) (by kernel_rfl)
theorem decodes_row:Rows.PacketDecodesSaid :=
 OpenClaim.holds_of_wide 3 Tryz.f3 rfl rfl rfl rfl rfl rfl rfl ⟨rfl,rfl,rfl,rfl,rfl⟩ rfl rfl rfl rfl rfl (by kernel_rfl) Tryz.func3 decodes_joined
  (of_decide_eq_true (by kernel_rfl)) (by unfold Func.isWrapper;rw[if_neg (of_decide_eq_false (by kernel_rfl))];exact⟨rfl,rfl⟩)
  (fun os started H enc _=>decodes_lifted os started H enc)
end Go.Proofs.YtpheelbbpiieiaaGreatDoor
