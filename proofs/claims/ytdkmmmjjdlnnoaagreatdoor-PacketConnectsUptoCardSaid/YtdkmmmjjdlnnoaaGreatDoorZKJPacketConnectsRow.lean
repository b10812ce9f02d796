/- Proved here: the plain row of dovecotelaw4.PacketConnects in the second form, on which its card stands. -/
import Derived.Test.YtdkmmmjjdlnnoaaGreatDoorZC46
import Derived.Test.YtdkmmmjjdlnnoaaGreatDoorZC44
import Derived.Test.YtdkmmmjjdlnnoaaGreatDoorZKJPacketConnectsLift
namespace Go.Proofs.YtdkmmmjjdlnnoaaGreatDoor
open Go.ChangeShapes Go.WideShapes Go.ChangeAt Go.RowKit Go.Deep
theorem connects_row:Rows.PacketConnectsUptoSaid :=
 OpenClaim.holds_of_cond 3 Tryz.f3 rfl rfl rfl rfl rfl rfl rfl ⟨rfl,rfl,rfl,rfl,rfl⟩ rfl rfl rfl rfl rfl (by kernel_rfl) Tryz.func3 (by kernel_rfl)
  (of_decide_eq_true (by kernel_rfl)) (by unfold Func.isWrapper;rw[if_neg (of_decide_eq_false (by kernel_rfl))];exact⟨rfl,rfl⟩)
  (fun os started H enc _ F=>by rw[OpenClaim.pre_eq_preRow];exact connects_lifted os started H enc F)
end Go.Proofs.YtdkmmmjjdlnnoaaGreatDoor
