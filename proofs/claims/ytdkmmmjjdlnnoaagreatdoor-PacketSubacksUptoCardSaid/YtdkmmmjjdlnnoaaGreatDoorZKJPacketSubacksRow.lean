/- Proved here: the plain row of dovecotelaw4.PacketSubacks in the second form, on which its card stands. -/
import Derived.Test.YtdkmmmjjdlnnoaaGreatDoorZC45
import Derived.Test.YtdkmmmjjdlnnoaaGreatDoorZC4
import Derived.Test.YtdkmmmjjdlnnoaaGreatDoorZKJPacketSubacksLift
namespace Go.Proofs.YtdkmmmjjdlnnoaaGreatDoor
open Go.ChangeShapes Go.WideShapes Go.ChangeAt Go.RowKit Go.Deep
theorem subacks_k9:(Rows.packetSubacksUptoRow.inPlace == Tryz.prog.inPlace 11)=true:=by kernel_rfl
theorem subacks_k10:(Rows.packetSubacksUptoRow.unfollowed == Tryz.prog.unfollowed 11)=true:=by kernel_rfl
theorem subacks_k11:(Rows.packetSubacksUptoRow.recurses == Tryz.prog.recurses 11)=true:=by kernel_rfl
theorem subacks_k12:(Rows.packetSubacksUptoRow.named == Tryz.prog.varsNamed 11)=true:=by kernel_rfl
theorem subacks_joined:joinedFacts Tryz.prog 11 Tryz.f11 (Rows.OpenSpec.upto Rows.packetSubacksSpec).bare Rows.packetSubacksUptoRow=true:=joined_parts _ _ _ _ _ (by kernel_rfl) Tryz.laidOut (by kernel_rfl) (by kernel_rfl) (by kernel_rfl) (by kernel_rfl) (by kernel_rfl) (by kernel_rfl) (by kernel_rfl) subacks_k9 subacks_k10 subacks_k11 subacks_k12 (by kernel_rfl) (by kernel_rfl) (by kernel_rfl) (by kernel_rfl) (by kernel_rfl) (by kernel_rfl) (by kernel_rfl) (by kernel_rfl) (by kernel_rfl) (by kernel_rfl) (by kernel_rfl) (by kernel_rfl) io_enter (by rw[io_lifts];kernel_rfl) (by rw[io_make];kernel_rfl) (by kernel_rfl) (by kernel_rfl) (by kernel_rfl) (by kernel_rfl)
theorem subacks_row:Rows.PacketSubacksUptoSaid :=
 OpenClaim.holds_of_cond 11 Tryz.f11 rfl rfl rfl rfl rfl rfl rfl ⟨rfl,rfl,rfl,rfl,rfl⟩ rfl rfl rfl rfl rfl (by kernel_rfl) Tryz.func11 subacks_joined
  (of_decide_eq_true (by kernel_rfl)) (by unfold Func.isWrapper;rw[if_neg (of_decide_eq_false (by kernel_rfl))];exact⟨rfl,rfl⟩)
  (fun os started H enc _ F=>by rw[OpenClaim.pre_eq_preRow];exact subacks_lifted os started H enc F)
end Go.Proofs.YtdkmmmjjdlnnoaaGreatDoor
