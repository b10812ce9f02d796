/- Proved here: the plain row of dovecotelaw4.PacketSubscribes in the second form, on which its card stands. -/
import Derived.Test.YtdkmmmjjdlnnoaaGreatDoorZC45
import Derived.Test.YtdkmmmjjdlnnoaaGreatDoorZC4
import Derived.Test.YtdkmmmjjdlnnoaaGreatDoorZKJPacketSubscribesLift
namespace Go.Proofs.YtdkmmmjjdlnnoaaGreatDoor
open Go.ChangeShapes Go.WideShapes Go.ChangeAt Go.RowKit Go.Deep
theorem subscribes_k9:(Rows.packetSubscribesUptoRow.inPlace == Tryz.prog.inPlace 10)=true:=by kernel_rfl
theorem subscribes_k10:(Rows.packetSubscribesUptoRow.unfollowed == Tryz.prog.unfollowed 10)=true:=by kernel_rfl
theorem subscribes_k11:(Rows.packetSubscribesUptoRow.recurses == Tryz.prog.recurses 10)=true:=by kernel_rfl
theorem subscribes_k12:(Rows.packetSubscribesUptoRow.named == Tryz.prog.varsNamed 10)=true:=by kernel_rfl
theorem subscribes_joined:joinedFacts Tryz.prog 10 Tryz.f10 (Rows.OpenSpec.upto Rows.packetSubscribesSpec).bare Rows.packetSubscribesUptoRow=true:=joined_parts _ _ _ _ _ (by kernel_rfl) Tryz.laidOut (by kernel_rfl) (by kernel_rfl) (by kernel_rfl) (by kernel_rfl) (by kernel_rfl) (by kernel_rfl) (by kernel_rfl) subscribes_k9 subscribes_k10 subscribes_k11 subscribes_k12 (by kernel_rfl) (by kernel_rfl) (by kernel_rfl) (by kernel_rfl) (by kernel_rfl) (by kernel_rfl) (by kernel_rfl) (by kernel_rfl) (by kernel_rfl) (by kernel_rfl) (by kernel_rfl) (by kernel_rfl) io_enter (by rw[io_lifts];kernel_rfl) (by rw[io_make];kernel_rfl) (by kernel_rfl) (by kernel_rfl) (by kernel_rfl) (by kernel_rfl)
theorem subscribes_row:Rows.PacketSubscribesUptoSaid :=
 OpenClaim.holds_of_cond 10 Tryz.f10 rfl rfl rfl rfl rfl rfl rfl ⟨rfl,rfl,rfl,rfl,rfl⟩ rfl rfl rfl rfl rfl (by kernel_rfl) Tryz.func10 subscribes_joined
  (of_decide_eq_true (by kernel_rfl)) (by unfold Func.isWrapper;rw[if_neg (of_decide_eq_false (by kernel_rfl))];exact⟨rfl,rfl⟩)
  (fun os started H enc _ F=>by rw[OpenClaim.pre_eq_preRow];exact subscribes_lifted os started H enc F)
end Go.Proofs.YtdkmmmjjdlnnoaaGreatDoor
