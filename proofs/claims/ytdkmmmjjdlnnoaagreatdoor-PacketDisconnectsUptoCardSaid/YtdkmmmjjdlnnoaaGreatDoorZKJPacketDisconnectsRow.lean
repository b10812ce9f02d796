/- Proved here: the plain row of dovecotelaw4.PacketDisconnects in the second form, on which its card stands. -/
import Derived.Test.YtdkmmmjjdlnnoaaGreatDoorZC45
import Derived.Test.YtdkmmmjjdlnnoaaGreatDoorZC4
import Derived.Test.YtdkmmmjjdlnnoaaGreatDoorZKJPacketDisconnectsLift
namespace Go.Proofs.YtdkmmmjjdlnnoaaGreatDoor
open Go.ChangeShapes Go.WideShapes Go.ChangeAt Go.RowKit Go.Deep
theorem disconnects_k9:(Rows.packetDisconnectsUptoRow.inPlace == Tryz.prog.inPlace 14)=true:=by kernel_rfl
theorem disconnects_k10:(Rows.packetDisconnectsUptoRow.unfollowed == Tryz.prog.unfollowed 14)=true:=by kernel_rfl
theorem disconnects_k11:(Rows.packetDisconnectsUptoRow.recurses == Tryz.prog.recurses 14)=true:=by kernel_rfl
theorem disconnects_k12:(Rows.packetDisconnectsUptoRow.named == Tryz.prog.varsNamed 14)=true:=by kernel_rfl
theorem disconnects_joined:joinedFacts Tryz.prog 14 Tryz.f14 (Rows.OpenSpec.upto Rows.packetDisconnectsSpec).bare Rows.packetDisconnectsUptoRow=true:=joined_parts _ _ _ _ _ (by kernel_rfl) Tryz.laidOut (by kernel_rfl) (by kernel_rfl) (by kernel_rfl) (by kernel_rfl) (by kernel_rfl) (by kernel_rfl) (by kernel_rfl) disconnects_k9 disconnects_k10 disconnects_k11 disconnects_k12 (by kernel_rfl) (by kernel_rfl) (by kernel_rfl) (by kernel_rfl) (by kernel_rfl) (by kernel_rfl) (by kernel_rfl) (by kernel_rfl) (by kernel_rfl) (by kernel_rfl) (by kernel_rfl) (by kernel_rfl) io_enter (by rw[io_lifts];kernel_rfl) (by rw[io_make];kernel_rfl) (by kernel_rfl) (by kernel_rfl) (by kernel_rfl) (by kernel_rfl)
theorem disconnects_row:Rows.PacketDisconnectsUptoSaid :=
 OpenClaim.holds_of_cond 14 Tryz.f14 rfl rfl rfl rfl rfl rfl rfl ⟨rfl,rfl,rfl,rfl,rfl⟩ rfl rfl rfl rfl rfl (by kernel_rfl) Tryz.func14 disconnects_joined
  (of_decide_eq_true (by kernel_rfl)) (by unfold Func.isWrapper;rw[if_neg (of_decide_eq_false (by kernel_rfl))];exact⟨rfl,rfl⟩)
  (fun os started H enc _ F=>by rw[OpenClaim.pre_eq_preRow];exact disconnects_lifted os started H enc F)
end Go.Proofs.YtdkmmmjjdlnnoaaGreatDoor
