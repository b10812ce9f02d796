/- Proved here: the card of dovecotelaw4.PacketBack: called on any readable argument of bulk at most 1048576 (the second form) it returns true and its argument reads afterwards as it did. Conditions: errors.errorType holds what the program's text lays (tied by the given tie). -/
import Derived.Test.YtemedclhglkfjaaGreatDoorB4
import Derived.Test.YtemedclhglkfjaaGreatDoorTie
import Derived.Test.YtemedclhglkfjaaGreatDoorCards
import Derived.SevenTiedAt
namespace Go.Proofs.YtemedclhglkfjaaGreatDoor
open Go.ChangeShapes Go.WideShapes Go.ChangeAt Go.RowKit Go.Deep
theorem pback_holds : Rows.PacketBackUptoCardSaid :=
 Claim7.holds_tied_plain_at .later [] [.handle] true (true, "41e7bcfdf72a8795e2ab64a5b7d8bd889e1956feb5919fbb13f96d3e38664e1c") true
  pback_row (fun _ h => by cases h) (by kernel_rfl) (fun _ h => by cases h) packetBackUpto_row_tie rfl ⟨rfl,rfl⟩ (by kernel_rfl) rfl
  (fun f fn hf hfn => by
   obtain rfl : f = 4 := Option.some.inj ((show Tryz.prog.funcNamed "dovecote/dovecotelaw4.PacketBack" = some 4 by kernel_rfl).symm.trans hf) |>.symm
   obtain rfl : fn = Tryz.f4 := (Option.some.inj (Tryz.func4.symm.trans hfn)).symm
   exact ⟨by kernel_rfl,fun j t ht => by
    rw [Tryz.params4] at ht
    have h3 : t = 22 := by
     rcases j with _ | j
     ·simpa using ht.symm
     ·simp at ht
    subst h3
    exact (show Tryz.prog.wantsStandIn 22 = false by kernel_rfl)⟩)
  (by kernel_rfl)
end Go.Proofs.YtemedclhglkfjaaGreatDoor
