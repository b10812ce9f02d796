/- Proved here: helpers, one text behind the other. -/
import Derived.Test.YtdkmmmjjdlnnoaaGreatDoorZC15
import Derived.Test.YtdkmmmjjdlnnoaaGreatDoorZC6
namespace Go.Proofs.YtdkmmmjjdlnnoaaGreatDoor.K
open Go.RowKit
set_option maxRecDepth 100000
theorem mayCount_any (n:Int) (w:World):Calls Tryz.prog 118 #[.int .i64 n] w fun e w'=>e=.returned (.bool (mc n))/\w'=w:=by
 by_cases h0:1<=n
 ·by_cases h2:n<=16
  ·go_enter Tryz.func118,Tryz.ntmps118
   go_wp2
   go_ret
   exact⟨by unfold mc;rw[decide_eq_true h0,decide_eq_true h2];rfl,rfl⟩
  ·go_enter Tryz.func118,Tryz.ntmps118
   go_wp2
   go_ret
   exact⟨by unfold mc;rw[decide_eq_true h0,decide_eq_false (by omega)];rfl,rfl⟩
 ·go_enter Tryz.func118,Tryz.ntmps118
  go_wp2
  go_ret
  exact⟨by unfold mc;rw[decide_eq_false (by omega)];rfl,rfl⟩
end Go.Proofs.YtdkmmmjjdlnnoaaGreatDoor.K
