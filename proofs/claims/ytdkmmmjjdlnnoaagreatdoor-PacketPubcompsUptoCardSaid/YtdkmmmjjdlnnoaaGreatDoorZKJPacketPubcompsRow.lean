/- Proved here: the plain row of dovecotelaw4.PacketPubcomps in the second form, on which its card stands. -/
import Derived.Test.YtdkmmmjjdlnnoaaGreatDoorZC45
import Derived.Test.YtdkmmmjjdlnnoaaGreatDoorZC4
import Derived.Test.YtdkmmmjjdlnnoaaGreatDoorZKJPacketPubcompsLift
namespace Go.Proofs.YtdkmmmjjdlnnoaaGreatDoor
open Go.ChangeShapes Go.WideShapes Go.ChangeAt Go.RowKit Go.Deep
theorem pubcomps_k9:(Rows.packetPubcompsUptoRow.inPlace == Tryz.prog.inPlace 9)=true:=by kernel_rfl
theorem pubcomps_k10:(Rows.packetPubcompsUptoRow.unfollowed == Tryz.prog.unfollowed 9)=true:=by kernel_rfl
theorem pubcomps_k11:(Rows.packetPubcompsUptoRow.recurses == Tryz.prog.recurses 9)=true:=by kernel_rfl
theorem pubcomps_k12:(Rows.packetPubcompsUptoRow.named == Tryz.prog.varsNamed 9)=true:=by kernel_rfl
theorem pubcomps_joined:joinedFacts Tryz.prog 9 Tryz.f9 (Rows.OpenSpec.upto Rows.packetPubcompsSpec).bare Rows.packetPubcompsUptoRow=true:=joined_parts _ _ _ _ _ (by kernel_rfl) Tryz.laidOut (by kernel_rfl) (by kernel_rfl) (by kernel_rfl) (by kernel_rfl) (by kernel_rfl) (by kernel_rfl) (by kernel_rfl) pubcomps_k9 pubcomps_k10 pubcomps_k11 pubcomps_k12 (by kernel_rfl) (by kernel_rfl) (by kernel_rfl) (by kernel_rfl) (by kernel_rfl) (by kernel_rfl) (by kernel_rfl) (by kernel_rfl) (by kernel_rfl) (by kernel_rfl) (by kernel_rfl) (by kernel_rfl) io_enter (by rw[io_lifts];kernel_rfl) (by rw[io_make];kernel_rfl) (by kernel_rfl) (by kernel_rfl) (by kernel_rfl) (by kernel_rfl)
theorem pubcomps_row:Rows.PacketPubcompsUptoSaid :=
 OpenClaim.holds_of_cond 9 Tryz.f9 rfl rfl rfl rfl rfl rfl rfl ⟨rfl,rfl,rfl,rfl,rfl⟩ rfl rfl rfl rfl rfl (by kernel_rfl) Tryz.func9 pubcomps_joined
  (of_decide_eq_true (by kernel_rfl)) (by unfold Func.isWrapper;rw[if_neg (of_decide_eq_false (by kernel_rfl))];exact⟨rfl,rfl⟩)
  (fun os started H enc _ F=>by rw[OpenClaim.pre_eq_preRow];exact pubcomps_lifted os started H enc F)
end Go.Proofs.YtdkmmmjjdlnnoaaGreatDoor
