/- Proved here: the plain row of dovecotelaw4.PacketUnsubscribes in the second form, on which its card stands. -/
import Derived.Test.YtdkmmmjjdlnnoaaGreatDoorZC45
import Derived.Test.YtdkmmmjjdlnnoaaGreatDoorZC4
import Derived.Test.YtdkmmmjjdlnnoaaGreatDoorZKJPacketUnsubscribesLift
namespace Go.Proofs.YtdkmmmjjdlnnoaaGreatDoor
open Go.ChangeShapes Go.WideShapes Go.ChangeAt Go.RowKit Go.Deep
theorem unsubscribes_k9:(Rows.packetUnsubscribesUptoRow.inPlace == Tryz.prog.inPlace 12)=true:=by kernel_rfl
theorem unsubscribes_k10:(Rows.packetUnsubscribesUptoRow.unfollowed == Tryz.prog.unfollowed 12)=true:=by kernel_rfl
theorem unsubscribes_k11:(Rows.packetUnsubscribesUptoRow.recurses == Tryz.prog.recurses 12)=true:=by kernel_rfl
theorem unsubscribes_k12:(Rows.packetUnsubscribesUptoRow.named == Tryz.prog.varsNamed 12)=true:=by kernel_rfl
theorem unsubscribes_joined:joinedFacts Tryz.prog 12 Tryz.f12 (Rows.OpenSpec.upto Rows.packetUnsubscribesSpec).bare Rows.packetUnsubscribesUptoRow=true:=joined_parts _ _ _ _ _ (by kernel_rfl) Tryz.laidOut (by kernel_rfl) (by kernel_rfl) (by kernel_rfl) (by kernel_rfl) (by kernel_rfl) (by kernel_rfl) (by kernel_rfl) unsubscribes_k9 unsubscribes_k10 unsubscribes_k11 unsubscribes_k12 (by kernel_rfl) (by kernel_rfl) (by kernel_rfl) (by kernel_rfl) (by kernel_rfl) (by kernel_rfl) (by kernel_rfl) (by kernel_rfl) (by kernel_rfl) (by kernel_rfl) (by kernel_rfl) (by kernel_rfl) io_enter (by rw[io_lifts];kernel_rfl) (by rw[io_make];kernel_rfl) (by kernel_rfl) (by kernel_rfl) (by kernel_rfl) (by kernel_rfl)
theorem unsubscribes_row:Rows.PacketUnsubscribesUptoSaid :=
 OpenClaim.holds_of_cond 12 Tryz.f12 rfl rfl rfl rfl rfl rfl rfl ⟨rfl,rfl,rfl,rfl,rfl⟩ rfl rfl rfl rfl rfl (by kernel_rfl) Tryz.func12 unsubscribes_joined
  (of_decide_eq_true (by kernel_rfl)) (by unfold Func.isWrapper;rw[if_neg (of_decide_eq_false (by kernel_rfl))];exact⟨rfl,rfl⟩)
  (fun os started H enc _ F=>by rw[OpenClaim.pre_eq_preRow];exact unsubscribes_lifted os started H enc F)
end Go.Proofs.YtdkmmmjjdlnnoaaGreatDoor
