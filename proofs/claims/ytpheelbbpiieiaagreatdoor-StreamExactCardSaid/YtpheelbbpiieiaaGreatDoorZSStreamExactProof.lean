/- Proved here: the card of dovecotelaw5.StreamExact: called on any readable argument it returns true and its argument reads afterwards as it did. Conditions: errors.errorType holds what the program's text lays (tied by the given tie); nothing else. -/
import Derived.Test.YtpheelbbpiieiaaGreatDoorTie
import Derived.Test.YtpheelbbpiieiaaGreatDoorCards
import Derived.SevenTiedAt
import Derived.Test.YtpheelbbpiieiaaGreatDoorZC41
import Derived.Test.YtpheelbbpiieiaaGreatDoorZC4
import Derived.Test.YtpheelbbpiieiaaGreatDoorZSStreamExactRow
namespace Go.Proofs.YtpheelbbpiieiaaGreatDoor
open Go.ChangeShapes Go.WideShapes Go.ChangeAt Go.RowKit Go.Deep
theorem exact_holds:Rows.StreamExactCardSaid :=
 Claim7.holds_tied_plain_at .later [] [.handle] true (true, "becd12c2c7fc54b8542c96311241f18922e08555d13d063f854c4dffce37b352") true
  exact_row (fun _ h=>by cases h) (by kernel_rfl) (fun _ h=>by cases h) streamExact_row_tie rfl ⟨rfl,rfl⟩ io_main rfl
  (fun f fn hf hfn=>by
   obtain rfl:f=4:=Option.some.inj ((show Tryz.prog.funcNamed "dovecote/dovecotelaw5.StreamExact" = some 4 by kernel_rfl).symm.trans hf) |>.symm
   obtain rfl:fn=Tryz.f4:=(Option.some.inj (Tryz.func4.symm.trans hfn)).symm
   exact⟨by kernel_rfl,fun j t ht=>by
    rw[Tryz.params4]at ht
    have h3:t=48:=by
     rcases j with _ | j
     ·simpa using ht.symm
     ·simp at ht
    subst h3
    exact (show Tryz.prog.wantsStandIn 48=false by kernel_rfl)⟩)
  (by kernel_rfl)
end Go.Proofs.YtpheelbbpiieiaaGreatDoor
