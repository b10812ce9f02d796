/- Proved here: the plain row of dovecotelaw4.PacketUnsubacks in the second form, on which its card stands. -/
import Derived.Test.YtdkmmmjjdlnnoaaGreatDoorZC45
import Derived.Test.YtdkmmmjjdlnnoaaGreatDoorZC4
import Derived.Test.YtdkmmmjjdlnnoaaGreatDoorZKJPacketUnsubacksLift
namespace Go.Proofs.YtdkmmmjjdlnnoaaGreatDoor
open Go.ChangeShapes Go.WideShapes Go.ChangeAt Go.RowKit Go.Deep
theorem unsubacks_k9:(Rows.packetUnsubacksUptoRow.inPlace == Tryz.prog.inPlace 13)=true:=by kernel_rfl
theorem unsubacks_k10:(Rows.packetUnsubacksUptoRow.unfollowed == Tryz.prog.unfollowed 13)=true:=by kernel_rfl
theorem unsubacks_k11:(Rows.packetUnsubacksUptoRow.recurses == Tryz.prog.recurses 13)=true:=by kernel_rfl
theorem unsubacks_k12:(Rows.packetUnsubacksUptoRow.named == Tryz.prog.varsNamed 13)=true:=by kernel_rfl
theorem unsubacks_joined:joinedFacts Tryz.prog 13 Tryz.f13 (Rows.OpenSpec.upto Rows.packetUnsubacksSpec).bare Rows.packetUnsubacksUptoRow=true:=joined_parts _ _ _ _ _ (by kernel_rfl) Tryz.laidOut (by kernel_rfl) (by kernel_rfl) (by kernel_rfl) (by kernel_rfl) (by kernel_rfl) (by kernel_rfl) (by kernel_rfl) unsubacks_k9 unsubacks_k10 unsubacks_k11 unsubacks_k12 (by kernel_rfl) (by kernel_rfl) (by kernel_rfl) (by kernel_rfl) (by kernel_rfl) (by kernel_rfl) (by kernel_rfl) (by kernel_rfl) (by kernel_rfl) (by kernel_rfl) (by kernel_rfl) (by kernel_rfl) io_enter (by rw[io_lifts];kernel_rfl) (by rw[io_make];kernel_rfl) (by kernel_rfl) (by kernel_rfl) (by kernel_rfl) (by kernel_rfl)
theorem unsubacks_row:Rows.PacketUnsubacksUptoSaid :=
 OpenClaim.holds_of_cond 13 Tryz.f13 rfl rfl rfl rfl rfl rfl rfl ⟨rfl,rfl,rfl,rfl,rfl⟩ rfl rfl rfl rfl rfl (by kernel_rfl) Tryz.func13 unsubacks_joined
  (of_decide_eq_true (by kernel_rfl)) (by unfold Func.isWrapper;rw[if_neg (of_decide_eq_false (by kernel_rfl))];exact⟨rfl,rfl⟩)
  (fun os started H enc _ F=>by rw[OpenClaim.pre_eq_preRow];exact unsubacks_lifted os started H enc F)
end Go.Proofs.YtdkmmmjjdlnnoaaGreatDoor
