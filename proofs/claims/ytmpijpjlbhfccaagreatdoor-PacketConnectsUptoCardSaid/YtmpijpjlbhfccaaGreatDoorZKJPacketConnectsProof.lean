/- Proved here: the card of dovecotelaw4.PacketConnects: called on any readable argument of bulk at most 1048576 (the second form) it returns true and its argument reads afterwards as it did. Conditions: errors.errorType holds what the program's text lays (tied by the given tie). -/
import Derived.Test.YtmpijpjlbhfccaaGreatDoorTie
import Derived.Test.YtmpijpjlbhfccaaGreatDoorCards
import Derived.SevenTiedAt
import Derived.Test.YtmpijpjlbhfccaaGreatDoorZC48
import Derived.Test.YtmpijpjlbhfccaaGreatDoorZC4
import Derived.Test.YtmpijpjlbhfccaaGreatDoorZKJPacketConnectsRow
namespace Go.Proofs.YtmpijpjlbhfccaaGreatDoor
open Go.ChangeShapes Go.WideShapes Go.ChangeAt Go.RowKit Go.Deep
theorem connects_holds:Rows.PacketConnectsUptoCardSaid :=
 Claim7.holds_tied_plain_at .later [] [.handle] true (true, "cee9eb05a50ecc55430d01fb0fd55d556cc9ac1a484c33a5c65a598ec5320918") true
  connects_row (fun _ h=>by cases h) (by kernel_rfl) (fun _ h=>by cases h) packetConnectsUpto_row_tie rfl ⟨rfl,rfl⟩ io_main rfl
  (fun f fn hf hfn=>by
   obtain rfl:f=3:=Option.some.inj ((show Tryz.prog.funcNamed "dovecote/dovecotelaw4.PacketConnects" = some 3 by kernel_rfl).symm.trans hf) |>.symm
   obtain rfl:fn=Tryz.f3:=(Option.some.inj (Tryz.func3.symm.trans hfn)).symm
   exact⟨by kernel_rfl,fun j t ht=>by
    rw[Tryz.params3]at ht
    have h3:t=22:=by
     rcases j with _|j
     ·simpa using ht.symm
     ·simp at ht
    subst h3
    exact (show Tryz.prog.wantsStandIn 22=false by kernel_rfl)⟩)
  (by kernel_rfl)
end Go.Proofs.YtmpijpjlbhfccaaGreatDoor
