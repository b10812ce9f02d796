/- Proved here: the card of dovecotelaw5.StreamExact: called on any readable argument it returns true and its argument reads afterwards as it did. Conditions: errors.errorType holds what the program's text lays (tied by the given tie); nothing else. -/
import Derived.Test.YtpoeakillimibaaGreatDoorM56
import Derived.Test.YtpoeakillimibaaGreatDoorTie
import Derived.Test.YtpoeakillimibaaGreatDoorCards
import Derived.SevenTiedAt
namespace Go.Proofs.YtpoeakillimibaaGreatDoor
open Go.ChangeShapes Go.WideShapes Go.ChangeAt Go.RowKit Go.Deep
theorem exact_holds : Rows.StreamExactCardSaid :=
 Claim7.holds_tied_plain_at .later [] [.handle] true (true, "03da4b826129efbcc8fac24dd8745b6762f7510ab276b102bc78b233da634436") true
  exact_row (fun _ h => by cases h) (by kernel_rfl) (fun _ h => by cases h) streamExact_row_tie rfl ⟨rfl,rfl⟩ io_main rfl
  (fun f fn hf hfn => by
   obtain rfl : f = 20 := Option.some.inj ((show Tryz.prog.funcNamed "dovecote/dovecotelaw5.StreamExact" = some 20 by kernel_rfl).symm.trans hf) |>.symm
   obtain rfl : fn = Tryz.f20 := (Option.some.inj (Tryz.func20.symm.trans hfn)).symm
   exact ⟨by kernel_rfl,fun j t ht => by
    rw [Tryz.params20] at ht
    have h3 : t = 57 := by
     rcases j with _ | j
     ·simpa using ht.symm
     ·simp at ht
    subst h3
    exact (show Tryz.prog.wantsStandIn 57 = false by kernel_rfl)⟩)
  (by kernel_rfl)
end Go.Proofs.YtpoeakillimibaaGreatDoor
