/- Proved here: the plain row of dovecotelaw4.PacketConnects in the second form, on which its card stands. -/
import Derived.Test.YtmpijpjlbhfccaaGreatDoorZC48
import Derived.Test.YtmpijpjlbhfccaaGreatDoorZC4
import Derived.Test.YtmpijpjlbhfccaaGreatDoorZKJPacketConnectsLift
namespace Go.Proofs.YtmpijpjlbhfccaaGreatDoor
open Go.ChangeShapes Go.WideShapes Go.ChangeAt Go.RowKit Go.Deep
theorem connects_k9:(Rows.packetConnectsUptoRow.inPlace==Tryz.prog.inPlace 3)=true:=by kernel_rfl
theorem connects_k10:(Rows.packetConnectsUptoRow.unfollowed==Tryz.prog.unfollowed 3)=true:=by kernel_rfl
theorem connects_k11:(Rows.packetConnectsUptoRow.recurses==Tryz.prog.recurses 3)=true:=by kernel_rfl
theorem connects_k12:(Rows.packetConnectsUptoRow.named==Tryz.prog.varsNamed 3)=true:=by kernel_rfl
theorem connects_joined:joinedFacts Tryz.prog 3 Tryz.f3 (Rows.OpenSpec.upto Rows.packetConnectsSpec).bare Rows.packetConnectsUptoRow=true:=joined_parts _ _ _ _ _ (by kernel_rfl) Tryz.laidOut (by kernel_rfl) (by kernel_rfl) (by kernel_rfl) (by kernel_rfl) (by kernel_rfl) (by kernel_rfl) (by kernel_rfl) connects_k9 connects_k10 connects_k11 connects_k12 (by kernel_rfl) (by kernel_rfl) (by kernel_rfl) (by kernel_rfl) (by kernel_rfl) (by kernel_rfl) (by kernel_rfl) (by kernel_rfl) (by kernel_rfl) (by kernel_rfl) (by kernel_rfl) (by kernel_rfl) io_enter (by rw[io_lifts];kernel_rfl) (by rw[io_make];kernel_rfl) (by kernel_rfl) (by kernel_rfl) (by kernel_rfl) (by kernel_rfl)
theorem connects_row:Rows.PacketConnectsUptoSaid :=
 OpenClaim.holds_of_cond 3 Tryz.f3 rfl rfl rfl rfl rfl rfl rfl ⟨rfl,rfl,rfl,rfl,rfl⟩ rfl rfl rfl rfl rfl (by kernel_rfl) Tryz.func3 connects_joined
  (of_decide_eq_true (by kernel_rfl)) (by unfold Func.isWrapper;rw[if_neg (of_decide_eq_false (by kernel_rfl))];exact⟨rfl,rfl⟩)
  (fun os started H enc _ F=>by rw[OpenClaim.pre_eq_preRow];exact connects_lifted os started H enc F)
end Go.Proofs.YtmpijpjlbhfccaaGreatDoor
