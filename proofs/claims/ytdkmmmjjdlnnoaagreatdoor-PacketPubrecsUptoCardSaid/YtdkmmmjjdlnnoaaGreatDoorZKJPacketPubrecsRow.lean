/- Proved here: the plain row of dovecotelaw4.PacketPubrecs in the second form, on which its card stands. -/
import Derived.Test.YtdkmmmjjdlnnoaaGreatDoorZC45
import Derived.Test.YtdkmmmjjdlnnoaaGreatDoorZC4
import Derived.Test.YtdkmmmjjdlnnoaaGreatDoorZKJPacketPubrecsLift
namespace Go.Proofs.YtdkmmmjjdlnnoaaGreatDoor
open Go.ChangeShapes Go.WideShapes Go.ChangeAt Go.RowKit Go.Deep
theorem pubrecs_k9:(Rows.packetPubrecsUptoRow.inPlace == Tryz.prog.inPlace 7)=true:=by kernel_rfl
theorem pubrecs_k10:(Rows.packetPubrecsUptoRow.unfollowed == Tryz.prog.unfollowed 7)=true:=by kernel_rfl
theorem pubrecs_k11:(Rows.packetPubrecsUptoRow.recurses == Tryz.prog.recurses 7)=true:=by kernel_rfl
theorem pubrecs_k12:(Rows.packetPubrecsUptoRow.named == Tryz.prog.varsNamed 7)=true:=by kernel_rfl
theorem pubrecs_joined:joinedFacts Tryz.prog 7 Tryz.f7 (Rows.OpenSpec.upto Rows.packetPubrecsSpec).bare Rows.packetPubrecsUptoRow=true:=joined_parts _ _ _ _ _ (by kernel_rfl) Tryz.laidOut (by kernel_rfl) (by kernel_rfl) (by kernel_rfl) (by kernel_rfl) (by kernel_rfl) (by kernel_rfl) (by kernel_rfl) pubrecs_k9 pubrecs_k10 pubrecs_k11 pubrecs_k12 (by kernel_rfl) (by kernel_rfl) (by kernel_rfl) (by kernel_rfl) (by kernel_rfl) (by kernel_rfl) (by kernel_rfl) (by kernel_rfl) (by kernel_rfl) (by kernel_rfl) (by kernel_rfl) (by kernel_rfl) io_enter (by rw[io_lifts];kernel_rfl) (by rw[io_make];kernel_rfl) (by kernel_rfl) (by kernel_rfl) (by kernel_rfl) (by kernel_rfl)
theorem pubrecs_row:Rows.PacketPubrecsUptoSaid :=
 OpenClaim.holds_of_cond 7 Tryz.f7 rfl rfl rfl rfl rfl rfl rfl ⟨rfl,rfl,rfl,rfl,rfl⟩ rfl rfl rfl rfl rfl (by kernel_rfl) Tryz.func7 pubrecs_joined
  (of_decide_eq_true (by kernel_rfl)) (by unfold Func.isWrapper;rw[if_neg (of_decide_eq_false (by kernel_rfl))];exact⟨rfl,rfl⟩)
  (fun os started H enc _ F=>by rw[OpenClaim.pre_eq_preRow];exact pubrecs_lifted os started H enc F)
end Go.Proofs.YtdkmmmjjdlnnoaaGreatDoor
