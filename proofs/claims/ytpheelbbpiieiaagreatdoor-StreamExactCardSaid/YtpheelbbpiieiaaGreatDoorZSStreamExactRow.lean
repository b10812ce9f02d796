/- Proved here: the plain row of dovecotelaw5.StreamExact, on which its card stands. -/
import Derived.Test.YtpheelbbpiieiaaGreatDoorZC41
import Derived.Test.YtpheelbbpiieiaaGreatDoorZC4
import Derived.Test.YtpheelbbpiieiaaGreatDoorZSStreamExactLift
namespace Go.Proofs.YtpheelbbpiieiaaGreatDoor
open Go.ChangeShapes Go.WideShapes Go.ChangeAt Go.RowKit Go.Deep
theorem exact_k9:(Rows.streamExactRow.inPlace == Tryz.prog.inPlace 4)=true:=by kernel_rfl
theorem exact_k10:(Rows.streamExactRow.unfollowed == Tryz.prog.unfollowed 4)=true:=by kernel_rfl
theorem exact_k11:(Rows.streamExactRow.recurses == Tryz.prog.recurses 4)=true:=by kernel_rfl
theorem exact_k12:(Rows.streamExactRow.named == Tryz.prog.varsNamed 4)=true:=by kernel_rfl
theorem exact_joined:joinedFacts Tryz.prog 4 Tryz.f4 Rows.streamExactSpec Rows.streamExactRow=true:=joined_parts _ _ _ _ _ (by kernel_rfl) Tryz.laidOut (by kernel_rfl) (by kernel_rfl) (by kernel_rfl) (by kernel_rfl) (by kernel_rfl) (by kernel_rfl) (by kernel_rfl) exact_k9 exact_k10 exact_k11 exact_k12 (by kernel_rfl) (by kernel_rfl) (by kernel_rfl) (by kernel_rfl) (by kernel_rfl) (by kernel_rfl) (by kernel_rfl) (by kernel_rfl) (by kernel_rfl) (by kernel_rfl) (by kernel_rfl) (by kernel_rfl) io_enter (by rw[io_lifts];kernel_rfl) (by rw[io_make];kernel_rfl) (by kernel_rfl) (by kernel_rfl) (by kernel_rfl) (by kernel_rfl)
theorem exact_row:Rows.StreamExactSaid :=
 OpenClaim.holds_of_wide 4 Tryz.f4 rfl rfl rfl rfl rfl rfl rfl ⟨rfl,rfl,rfl,rfl,rfl⟩ rfl rfl rfl rfl rfl (by kernel_rfl) Tryz.func4 exact_joined
  (of_decide_eq_true (by kernel_rfl)) (by unfold Func.isWrapper;rw[if_neg (of_decide_eq_false (by kernel_rfl))];exact⟨rfl,rfl⟩)
  (fun os started H enc _=>exact_lifted os started H enc)
end Go.Proofs.YtpheelbbpiieiaaGreatDoor
