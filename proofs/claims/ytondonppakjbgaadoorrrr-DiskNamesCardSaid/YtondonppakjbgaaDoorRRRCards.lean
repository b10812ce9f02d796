/-
  DERIVED. GIVEN WITH THE SEED: THE CARDS: each row of YtondonppakjbgaaDoorRRRRows.lean that lists a variable, with what it lists TIED to the program's text (the seventh form; the later family's looks); each row that meets fmt, with fmt's text TOLD by the authors' own Lean function (tested against real Go, not proved from fmt's source: count such statements apart). THE CARD IS WHAT COUNTS. Prove the row's statement (the work); the ties are given (YtondonppakjbgaaDoorRRRTie.lean); close each card by the builder's one call (the guide's Derived/Test/ToyasCard.lean, 'card_holds'). Laid BY PROGRAM, IN A SANDBOX (cutbox-door.mjs). By AI agents, Wed Nov 11 2026. No macro, syntax, notation, axiom, sorry.
-/
import Derived.Test.YtondonppakjbgaaDoorRRRRows
import GoSem.ClaimSeven
namespace Go.Proofs.YtondonppakjbgaaDoorRRR
namespace Rows

/-- THE TIED CARD OF 'dovecotelaw10.DiskNames'. -/
def diskNamesCard : Claim7 := { stood := { row := diskNamesRow, standIns := [], harness := (true, "2a1db4d3c133e97abc27ab84c872b09f4bb368293a9f47ddf62a34a8e7a8e5c8"), looks := true }, kinds := [], alts := [], laidByText := true, laidKinds := [.handle], laidTests := true, laidLooks := .later }
def DiskNamesCardSaid : Prop := Claim7.holds Tryd.pinned (.plain (OpenSpec.ofChange diskNamesSpec)) diskNamesCard

/-- THE SECOND FORM's CARD OF 'dovecotelaw10.DiskNames'. -/
def diskNamesUptoCard : Claim7 := { stood := { row := diskNamesUptoRow, standIns := [], harness := (true, "2a1db4d3c133e97abc27ab84c872b09f4bb368293a9f47ddf62a34a8e7a8e5c8"), looks := true }, kinds := [], alts := [], laidByText := true, laidKinds := [.handle], laidTests := true, laidLooks := .later }
def DiskNamesUptoCardSaid : Prop := Claim7.holds Tryd.pinned (.plain (OpenSpec.upto diskNamesSpec)) diskNamesUptoCard
end Rows
end Go.Proofs.YtondonppakjbgaaDoorRRR
