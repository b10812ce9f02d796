/- Proved here: the plain row of dovecotelaw4.PacketPubacks in the second form, on which its card stands. -/
import Derived.Test.YtdkmmmjjdlnnoaaGreatDoorZC45
import Derived.Test.YtdkmmmjjdlnnoaaGreatDoorZC4
import Derived.Test.YtdkmmmjjdlnnoaaGreatDoorZKJPacketPubacksLift
namespace Go.Proofs.YtdkmmmjjdlnnoaaGreatDoor
open Go.ChangeShapes Go.WideShapes Go.ChangeAt Go.RowKit Go.Deep
theorem pubacks_k9:(Rows.packetPubacksUptoRow.inPlace == Tryz.prog.inPlace 6)=true:=by kernel_rfl
theorem pubacks_k10:(Rows.packetPubacksUptoRow.unfollowed == Tryz.prog.unfollowed 6)=true:=by kernel_rfl
theorem pubacks_k11:(Rows.packetPubacksUptoRow.recurses == Tryz.prog.recurses 6)=true:=by kernel_rfl
theorem pubacks_k12:(Rows.packetPubacksUptoRow.named == Tryz.prog.varsNamed 6)=true:=by kernel_rfl
theorem pubacks_joined:joinedFacts Tryz.prog 6 Tryz.f6 (Rows.OpenSpec.upto Rows.packetPubacksSpec).bare Rows.packetPubacksUptoRow=true:=joined_parts _ _ _ _ _ (by kernel_rfl) Tryz.laidOut (by kernel_rfl) (by kernel_rfl) (by kernel_rfl) (by kernel_rfl) (by kernel_rfl) (by kernel_rfl) (by kernel_rfl) pubacks_k9 pubacks_k10 pubacks_k11 pubacks_k12 (by kernel_rfl) (by kernel_rfl) (by kernel_rfl) (by kernel_rfl) (by kernel_rfl) (by kernel_rfl) (by kernel_rfl) (by kernel_rfl) (by kernel_rfl) (by kernel_rfl) (by kernel_rfl) (by kernel_rfl) io_enter (by rw[io_lifts];kernel_rfl) (by rw[io_make];kernel_rfl) (by kernel_rfl) (by kernel_rfl) (by kernel_rfl) (by kernel_rfl)
theorem pubacks_row:Rows.PacketPubacksUptoSaid :=
 OpenClaim.holds_of_cond 6 Tryz.f6 rfl rfl rfl rfl rfl rfl rfl ⟨rfl,rfl,rfl,rfl,rfl⟩ rfl rfl rfl rfl rfl (by kernel_rfl) Tryz.func6 pubacks_joined
  (of_decide_eq_true (by kernel_rfl)) (by unfold Func.isWrapper;rw[if_neg (of_decide_eq_false (by kernel_rfl))];exact⟨rfl,rfl⟩)
  (fun os started H enc _ F=>by rw[OpenClaim.pre_eq_preRow];exact pubacks_lifted os started H enc F)
end Go.Proofs.YtdkmmmjjdlnnoaaGreatDoor
