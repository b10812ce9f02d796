/- Proved here: the plain row of dovecotelaw5.StreamLimits, on which its card stands. -/
import Derived.Test.YtpheelbbpiieiaaGreatDoorZC4
import Derived.Test.YtpheelbbpiieiaaGreatDoorZC27
import Derived.Test.YtpheelbbpiieiaaGreatDoorZSStreamLimitsLift
namespace Go.Proofs.YtpheelbbpiieiaaGreatDoor
open Go.ChangeShapes Go.WideShapes Go.ChangeAt Go.RowKit Go.Deep
theorem limits_k9:(Rows.streamLimitsRow.inPlace == Tryz.prog.inPlace 5)=true:=by kernel_rfl
theorem limits_k10:(Rows.streamLimitsRow.unfollowed == Tryz.prog.unfollowed 5)=true:=by kernel_rfl
theorem limits_k11:(Rows.streamLimitsRow.recurses == Tryz.prog.recurses 5)=true:=by kernel_rfl
theorem limits_k12:(Rows.streamLimitsRow.named == Tryz.prog.varsNamed 5)=true:=by kernel_rfl
theorem limits_joined:joinedFacts Tryz.prog 5 Tryz.f5 Rows.streamLimitsSpec Rows.streamLimitsRow=true:=joined_parts _ _ _ _ _ (by kernel_rfl) Tryz.laidOut (by kernel_rfl) (by kernel_rfl) (by kernel_rfl) (by kernel_rfl) (by kernel_rfl) (by kernel_rfl) (by kernel_rfl) limits_k9 limits_k10 limits_k11 limits_k12 (by kernel_rfl) (by kernel_rfl) (by kernel_rfl) (by kernel_rfl) (by kernel_rfl) (by kernel_rfl) (by kernel_rfl) (by kernel_rfl) (by kernel_rfl) (by kernel_rfl) (by kernel_rfl) (by kernel_rfl) io_enter (by rw[io_lifts];kernel_rfl) (by rw[io_make];kernel_rfl) (by kernel_rfl) (by kernel_rfl) (by kernel_rfl) (by kernel_rfl)
theorem limits_row:Rows.StreamLimitsSaid :=
 OpenClaim.holds_of_wide 5 Tryz.f5 rfl rfl rfl rfl rfl rfl rfl ⟨rfl,rfl,rfl,rfl,rfl⟩ rfl rfl rfl rfl rfl (by kernel_rfl) Tryz.func5 limits_joined
  (of_decide_eq_true (by kernel_rfl)) (by unfold Func.isWrapper;rw[if_neg (of_decide_eq_false (by kernel_rfl))];exact⟨rfl,rfl⟩)
  (fun os started H enc _=>limits_lifted os started H enc)
end Go.Proofs.YtpheelbbpiieiaaGreatDoor
