/- Proved here: the plain row of dovecotelaw4.PacketAuths in the second form, on which its card stands. -/
import Derived.Test.YtdkmmmjjdlnnoaaGreatDoorZC45
import Derived.Test.YtdkmmmjjdlnnoaaGreatDoorZC4
import Derived.Test.YtdkmmmjjdlnnoaaGreatDoorZKJPacketAuthsLift
namespace Go.Proofs.YtdkmmmjjdlnnoaaGreatDoor
open Go.ChangeShapes Go.WideShapes Go.ChangeAt Go.RowKit Go.Deep
theorem auths_k9:(Rows.packetAuthsUptoRow.inPlace == Tryz.prog.inPlace 15)=true:=by kernel_rfl
theorem auths_k10:(Rows.packetAuthsUptoRow.unfollowed == Tryz.prog.unfollowed 15)=true:=by kernel_rfl
theorem auths_k11:(Rows.packetAuthsUptoRow.recurses == Tryz.prog.recurses 15)=true:=by kernel_rfl
theorem auths_k12:(Rows.packetAuthsUptoRow.named == Tryz.prog.varsNamed 15)=true:=by kernel_rfl
theorem auths_joined:joinedFacts Tryz.prog 15 Tryz.f15 (Rows.OpenSpec.upto Rows.packetAuthsSpec).bare Rows.packetAuthsUptoRow=true:=joined_parts _ _ _ _ _ (by kernel_rfl) Tryz.laidOut (by kernel_rfl) (by kernel_rfl) (by kernel_rfl) (by kernel_rfl) (by kernel_rfl) (by kernel_rfl) (by kernel_rfl) auths_k9 auths_k10 auths_k11 auths_k12 (by kernel_rfl) (by kernel_rfl) (by kernel_rfl) (by kernel_rfl) (by kernel_rfl) (by kernel_rfl) (by kernel_rfl) (by kernel_rfl) (by kernel_rfl) (by kernel_rfl) (by kernel_rfl) (by kernel_rfl) io_enter (by rw[io_lifts];kernel_rfl) (by rw[io_make];kernel_rfl) (by kernel_rfl) (by kernel_rfl) (by kernel_rfl) (by kernel_rfl)
theorem auths_row:Rows.PacketAuthsUptoSaid :=
 OpenClaim.holds_of_cond 15 Tryz.f15 rfl rfl rfl rfl rfl rfl rfl ⟨rfl,rfl,rfl,rfl,rfl⟩ rfl rfl rfl rfl rfl (by kernel_rfl) Tryz.func15 auths_joined
  (of_decide_eq_true (by kernel_rfl)) (by unfold Func.isWrapper;rw[if_neg (of_decide_eq_false (by kernel_rfl))];exact⟨rfl,rfl⟩)
  (fun os started H enc _ F=>by rw[OpenClaim.pre_eq_preRow];exact auths_lifted os started H enc F)
end Go.Proofs.YtdkmmmjjdlnnoaaGreatDoor
