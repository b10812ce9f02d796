/- Proved here: the plain row of dovecotelaw4.PacketPubrels in the second form, on which its card stands. -/
import Derived.Test.YtdkmmmjjdlnnoaaGreatDoorZC45
import Derived.Test.YtdkmmmjjdlnnoaaGreatDoorZC4
import Derived.Test.YtdkmmmjjdlnnoaaGreatDoorZKJPacketPubrelsLift
namespace Go.Proofs.YtdkmmmjjdlnnoaaGreatDoor
open Go.ChangeShapes Go.WideShapes Go.ChangeAt Go.RowKit Go.Deep
theorem pubrels_k9:(Rows.packetPubrelsUptoRow.inPlace == Tryz.prog.inPlace 8)=true:=by kernel_rfl
theorem pubrels_k10:(Rows.packetPubrelsUptoRow.unfollowed == Tryz.prog.unfollowed 8)=true:=by kernel_rfl
theorem pubrels_k11:(Rows.packetPubrelsUptoRow.recurses == Tryz.prog.recurses 8)=true:=by kernel_rfl
theorem pubrels_k12:(Rows.packetPubrelsUptoRow.named == Tryz.prog.varsNamed 8)=true:=by kernel_rfl
theorem pubrels_joined:joinedFacts Tryz.prog 8 Tryz.f8 (Rows.OpenSpec.upto Rows.packetPubrelsSpec).bare Rows.packetPubrelsUptoRow=true:=joined_parts _ _ _ _ _ (by kernel_rfl) Tryz.laidOut (by kernel_rfl) (by kernel_rfl) (by kernel_rfl) (by kernel_rfl) (by kernel_rfl) (by kernel_rfl) (by kernel_rfl) pubrels_k9 pubrels_k10 pubrels_k11 pubrels_k12 (by kernel_rfl) (by kernel_rfl) (by kernel_rfl) (by kernel_rfl) (by kernel_rfl) (by kernel_rfl) (by kernel_rfl) (by kernel_rfl) (by kernel_rfl) (by kernel_rfl) (by kernel_rfl) (by kernel_rfl) io_enter (by rw[io_lifts];kernel_rfl) (by rw[io_make];kernel_rfl) (by kernel_rfl) (by kernel_rfl) (by kernel_rfl) (by kernel_rfl)
theorem pubrels_row:Rows.PacketPubrelsUptoSaid :=
 OpenClaim.holds_of_cond 8 Tryz.f8 rfl rfl rfl rfl rfl rfl rfl ⟨rfl,rfl,rfl,rfl,rfl⟩ rfl rfl rfl rfl rfl (by kernel_rfl) Tryz.func8 pubrels_joined
  (of_decide_eq_true (by kernel_rfl)) (by unfold Func.isWrapper;rw[if_neg (of_decide_eq_false (by kernel_rfl))];exact⟨rfl,rfl⟩)
  (fun os started H enc _ F=>by rw[OpenClaim.pre_eq_preRow];exact pubrels_lifted os started H enc F)
end Go.Proofs.YtdkmmmjjdlnnoaaGreatDoor
