/- Proved here: the card of dovecotelaw4.PacketPubrecs: called on any readable argument of bulk at most 1048576 (the second form) it returns true and its argument reads afterwards as it did. Conditions: errors.errorType holds what the program's text lays (tied by the given tie). -/
import Derived.Test.YtdkmmmjjdlnnoaaGreatDoorTie
import Derived.Test.YtdkmmmjjdlnnoaaGreatDoorCards
import Derived.SevenTiedAt
import Derived.Test.YtdkmmmjjdlnnoaaGreatDoorZC45
import Derived.Test.YtdkmmmjjdlnnoaaGreatDoorZC4
import Derived.Test.YtdkmmmjjdlnnoaaGreatDoorZKJPacketPubrecsRow
namespace Go.Proofs.YtdkmmmjjdlnnoaaGreatDoor
open Go.ChangeShapes Go.WideShapes Go.ChangeAt Go.RowKit Go.Deep
theorem pubrecs_holds:Rows.PacketPubrecsUptoCardSaid :=
 Claim7.holds_tied_plain_at .later [] [.handle] true (true, "05904688d19150acd3b45287d9850a71480caeca9b8449986752f872cd77956b") true
  pubrecs_row (fun _ h=>by cases h) (by kernel_rfl) (fun _ h=>by cases h) packetPubrecsUpto_row_tie rfl ⟨rfl,rfl⟩ io_main rfl
  (fun f fn hf hfn=>by
   obtain rfl:f=7:=Option.some.inj ((show Tryz.prog.funcNamed "dovecote/dovecotelaw4.PacketPubrecs" = some 7 by kernel_rfl).symm.trans hf) |>.symm
   obtain rfl:fn=Tryz.f7:=(Option.some.inj (Tryz.func7.symm.trans hfn)).symm
   exact⟨by kernel_rfl,fun j t ht=>by
    rw[Tryz.params7]at ht
    have h3:t=22:=by
     rcases j with _ | j
     ·simpa using ht.symm
     ·simp at ht
    subst h3
    exact (show Tryz.prog.wantsStandIn 22=false by kernel_rfl)⟩)
  (by kernel_rfl)
end Go.Proofs.YtdkmmmjjdlnnoaaGreatDoor
