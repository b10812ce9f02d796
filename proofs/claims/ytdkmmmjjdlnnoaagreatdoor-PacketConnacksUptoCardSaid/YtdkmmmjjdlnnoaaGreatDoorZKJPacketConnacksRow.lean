/- Proved here: the plain row of dovecotelaw4.PacketConnacks in the second form, on which its card stands. -/
import Derived.Test.YtdkmmmjjdlnnoaaGreatDoorZC45
import Derived.Test.YtdkmmmjjdlnnoaaGreatDoorZC4
import Derived.Test.YtdkmmmjjdlnnoaaGreatDoorZKJPacketConnacksLift
namespace Go.Proofs.YtdkmmmjjdlnnoaaGreatDoor
open Go.ChangeShapes Go.WideShapes Go.ChangeAt Go.RowKit Go.Deep
theorem connacks_k9:(Rows.packetConnacksUptoRow.inPlace == Tryz.prog.inPlace 4)=true:=by kernel_rfl
theorem connacks_k10:(Rows.packetConnacksUptoRow.unfollowed == Tryz.prog.unfollowed 4)=true:=by kernel_rfl
theorem connacks_k11:(Rows.packetConnacksUptoRow.recurses == Tryz.prog.recurses 4)=true:=by kernel_rfl
theorem connacks_k12:(Rows.packetConnacksUptoRow.named == Tryz.prog.varsNamed 4)=true:=by kernel_rfl
theorem connacks_joined:joinedFacts Tryz.prog 4 Tryz.f4 (Rows.OpenSpec.upto Rows.packetConnacksSpec).bare Rows.packetConnacksUptoRow=true:=joined_parts _ _ _ _ _ (by kernel_rfl) Tryz.laidOut (by kernel_rfl) (by kernel_rfl) (by kernel_rfl) (by kernel_rfl) (by kernel_rfl) (by kernel_rfl) (by kernel_rfl) connacks_k9 connacks_k10 connacks_k11 connacks_k12 (by kernel_rfl) (by kernel_rfl) (by kernel_rfl) (by kernel_rfl) (by kernel_rfl) (by kernel_rfl) (by kernel_rfl) (by kernel_rfl) (by kernel_rfl) (by kernel_rfl) (by kernel_rfl) (by kernel_rfl) io_enter (by rw[io_lifts];kernel_rfl) (by rw[io_make];kernel_rfl) (by kernel_rfl) (by kernel_rfl) (by kernel_rfl) (by kernel_rfl)
theorem connacks_row:Rows.PacketConnacksUptoSaid :=
 OpenClaim.holds_of_cond 4 Tryz.f4 rfl rfl rfl rfl rfl rfl rfl ⟨rfl,rfl,rfl,rfl,rfl⟩ rfl rfl rfl rfl rfl (by kernel_rfl) Tryz.func4 connacks_joined
  (of_decide_eq_true (by kernel_rfl)) (by unfold Func.isWrapper;rw[if_neg (of_decide_eq_false (by kernel_rfl))];exact⟨rfl,rfl⟩)
  (fun os started H enc _ F=>by rw[OpenClaim.pre_eq_preRow];exact connacks_lifted os started H enc F)
end Go.Proofs.YtdkmmmjjdlnnoaaGreatDoor
