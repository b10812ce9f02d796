/- Proved here: the card of dovecotelaw5.StreamPieces: called on any readable argument it returns true and its argument reads afterwards as it did. Conditions: errors.errorType holds what the program's text lays (tied by the given tie); nothing else. -/
import Derived.Test.YtccnjdgaldbgnaaGreatDoorTie
import Derived.Test.YtccnjdgaldbgnaaGreatDoorCards
import Derived.SevenTiedAt
import Derived.Test.YtccnjdgaldbgnaaGreatDoorZC44
import Derived.Test.YtccnjdgaldbgnaaGreatDoorZC4
import Derived.Test.YtccnjdgaldbgnaaGreatDoorZSStreamPiecesRow
namespace Go.Proofs.YtccnjdgaldbgnaaGreatDoor
open Go.ChangeShapes Go.WideShapes Go.ChangeAt Go.RowKit Go.Deep
theorem pcs_holds:Rows.StreamPiecesCardSaid :=
 Claim7.holds_tied_plain_at .later [] [.handle] true (true, "f9ec5cc50407a3f0a477aec6d13b317944f0390d6115483e145a58bd7d16983b") true
  pcs_row (fun _ h=>by cases h) (by kernel_rfl) (fun _ h=>by cases h) streamPieces_row_tie rfl ⟨rfl,rfl⟩ io_main rfl
  (fun f fn hf hfn=>by
   obtain rfl:f=3:=Option.some.inj ((show Tryz.prog.funcNamed "dovecote/dovecotelaw5.StreamPieces" = some 3 by kernel_rfl).symm.trans hf) |>.symm
   obtain rfl:fn=Tryz.f3:=(Option.some.inj (Tryz.func3.symm.trans hfn)).symm
   exact⟨by kernel_rfl,fun j t ht=>by
    rw[Tryz.params3]at ht
    have h3:t=24:=by
     rcases j with _ | j
     ·simpa using ht.symm
     ·simp at ht
    subst h3
    exact (show Tryz.prog.wantsStandIn 24=false by kernel_rfl)⟩)
  (by kernel_rfl)
end Go.Proofs.YtccnjdgaldbgnaaGreatDoor
