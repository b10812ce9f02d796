/- Proved here: helpers, one text behind the other. -/
import Derived.Handy
import Derived.Test.YtpheelbbpiieiaaGreatDoorZC9
namespace Go.Proofs.YtpheelbbpiieiaaGreatDoor
open Go.RowKit
set_option maxRecDepth 100000
theorem copyb_nil (ao:Option Addr) (cap:Nat) (w:World):Calls Tryz.prog 6 #[.slice ao 0 cap] w fun e w'=>e=.returned (.slice none 0 0)/\w'=w:=by
 go_enter Tryz.func6,Tryz.ntmps6
 go_wp2
 refine wp_loop_rounds 1 ?_
 rw[rounds_succ]
 go_wp2
 go_ret
 exact⟨rfl,rfl⟩
theorem copyb_any (v:Value) (l:List Int) (w:World) (h:Byt w v l) (hl:l.length<=140737488355328):Calls Tryz.prog 6 #[v] w fun e w'=>∃ v',e=.returned v'/\Hid (w'.ownsRow w.heap.size 5 1 v' l.length (l.map (Value.int .u8)))/\Hid (Byt w' v' l)/\Below w.heap.size w w':=by
 have hr:=h.range
 obtain⟨ao,cap,rfl,hlen,-,hcase⟩:=h
 rcases hcase with rfl | ⟨b,off,rfl,hc⟩
 ·refine (copyb_nil ao cap w).mono ?_
  rintro e w' ⟨rfl,rfl⟩
  exact⟨_,rfl,World.ownsRow_nil _ _ _ _,⟨none,0,rfl,⟨Nat.le_refl _,by unfold maxLen;omega⟩,fun j=>by simp,.inl rfl⟩,Below.refl _ _⟩
 ·refine (copy_core b off l.length cap l w rfl hl hc).mono ?_
  rintro e w' ⟨v',rfl,hown,hb⟩
  exact⟨v',rfl,hown,byt_of_owns hown hr,hb⟩
end Go.Proofs.YtpheelbbpiieiaaGreatDoor
