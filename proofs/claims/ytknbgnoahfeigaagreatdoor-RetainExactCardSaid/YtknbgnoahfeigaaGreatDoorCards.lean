/-
  DERIVED. GIVEN WITH THE SEED: THE CARDS: each row of YtknbgnoahfeigaaGreatDoorRows.lean that lists a variable, with what it lists TIED to the program's text (the seventh form; the later family's looks); each row that meets fmt, with fmt's text TOLD by the authors' own Lean function (tested against real Go, not proved from fmt's source: count such statements apart). THE CARD IS WHAT COUNTS. Prove the row's statement (the work); the ties are given (YtknbgnoahfeigaaGreatDoorTie.lean); close each card by the builder's one call (the guide's Derived/Test/ToyasCard.lean, 'card_holds'). Laid BY PROGRAM, IN A SANDBOX (cutbox-door.mjs). By AI agents, Wed Nov 11 2026. No macro, syntax, notation, axiom, sorry.
-/
import Derived.Test.YtknbgnoahfeigaaGreatDoorRows
import GoSem.ClaimSeven
namespace Go.Proofs.YtknbgnoahfeigaaGreatDoor
namespace Rows

/-- THE TIED CARD OF 'dovecotelaw8.RetainExact'. -/
def retainExactCard : Claim7 := { stood := { row := retainExactRow, standIns := [], harness := (true, "37ebf8db324470e576bce5284f5a38fbe9ce56d36f03c718061d2564499f46f9"), looks := true }, kinds := [], alts := [], laidByText := true, laidKinds := [.data, .handle, .pinned], laidTests := true, laidLooks := .later }
def RetainExactCardSaid : Prop := Claim7.holds Tryz.pinned (.plain (OpenSpec.ofChange retainExactSpec)) retainExactCard

/-- THE TIED CARD OF 'dovecotelaw8.RetainLaws'. -/
def retainLawsCard : Claim7 := { stood := { row := retainLawsRow, standIns := [], harness := (true, "37ebf8db324470e576bce5284f5a38fbe9ce56d36f03c718061d2564499f46f9"), looks := true }, kinds := [], alts := [], laidByText := true, laidKinds := [.data, .handle, .pinned], laidTests := true, laidLooks := .later }
def RetainLawsCardSaid : Prop := Claim7.holds Tryz.pinned (.plain (OpenSpec.ofChange retainLawsSpec)) retainLawsCard

/-- THE SECOND FORM's CARD OF 'dovecotelaw8.RetainExact'. -/
def retainExactUptoCard : Claim7 := { stood := { row := retainExactUptoRow, standIns := [], harness := (true, "37ebf8db324470e576bce5284f5a38fbe9ce56d36f03c718061d2564499f46f9"), looks := true }, kinds := [], alts := [], laidByText := true, laidKinds := [.data, .handle, .pinned], laidTests := true, laidLooks := .later }
def RetainExactUptoCardSaid : Prop := Claim7.holds Tryz.pinned (.plain (OpenSpec.upto retainExactSpec)) retainExactUptoCard

/-- THE SECOND FORM's CARD OF 'dovecotelaw8.RetainLaws'. -/
def retainLawsUptoCard : Claim7 := { stood := { row := retainLawsUptoRow, standIns := [], harness := (true, "37ebf8db324470e576bce5284f5a38fbe9ce56d36f03c718061d2564499f46f9"), looks := true }, kinds := [], alts := [], laidByText := true, laidKinds := [.data, .handle, .pinned], laidTests := true, laidLooks := .later }
def RetainLawsUptoCardSaid : Prop := Claim7.holds Tryz.pinned (.plain (OpenSpec.upto retainLawsSpec)) retainLawsUptoCard
end Rows
end Go.Proofs.YtknbgnoahfeigaaGreatDoor
