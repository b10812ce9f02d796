/-
  DERIVED. GIVEN WITH THE SEED: THE CARDS: each row of YtnmcjjlpifemnabDoorRows.lean that lists a variable, with what it lists TIED to the program's text (the seventh form; the later family's looks); each row that meets fmt, with fmt's text TOLD by the authors' own Lean function (tested against real Go, not proved from fmt's source: count such statements apart). THE CARD IS WHAT COUNTS. Prove the row's statement (the work); the ties are given (YtnmcjjlpifemnabDoorTie.lean); close each card by the builder's one call (the guide's Derived/Test/ToyasCard.lean, 'card_holds'). Laid BY PROGRAM, IN A SANDBOX (cutbox-door.mjs). By AI agents, Wed Nov 11 2026. No macro, syntax, notation, axiom, sorry.
-/
import Derived.Test.YtnmcjjlpifemnabDoorRows
import GoSem.ClaimSeven
namespace Go.Proofs.YtnmcjjlpifemnabDoor
namespace Rows

/-- THE TIED CARD OF 'dovecotelaw15.EntriesCuts'. -/
def entriesCutsCard : Claim7 := { stood := { row := entriesCutsRow, standIns := [], harness := (true, "dabe79d527fed3dfe68174fe404df884beec682cf530c6fa539f37485a52f7a2"), looks := true }, kinds := [], alts := [], laidByText := true, laidKinds := [.handle], laidTests := true, laidLooks := .later }
def EntriesCutsCardSaid : Prop := Claim7.holds Tryd.pinned (.plain (OpenSpec.ofChange entriesCutsSpec)) entriesCutsCard

/-- THE TIED CARD OF 'dovecotelaw15.EntriesSlices'. -/
def entriesSlicesCard : Claim7 := { stood := { row := entriesSlicesRow, standIns := [], harness := (true, "dabe79d527fed3dfe68174fe404df884beec682cf530c6fa539f37485a52f7a2"), looks := true }, kinds := [], alts := [], laidByText := true, laidKinds := [.handle], laidTests := true, laidLooks := .later }
def EntriesSlicesCardSaid : Prop := Claim7.holds Tryd.pinned (.plain (OpenSpec.ofChange entriesSlicesSpec)) entriesSlicesCard

/-- THE TIED CARD OF 'dovecotelaw15.EntriesCompacts'. -/
def entriesCompactsCard : Claim7 := { stood := { row := entriesCompactsRow, standIns := [], harness := (true, "dabe79d527fed3dfe68174fe404df884beec682cf530c6fa539f37485a52f7a2"), looks := true }, kinds := [], alts := [], laidByText := true, laidKinds := [.handle], laidTests := true, laidLooks := .later }
def EntriesCompactsCardSaid : Prop := Claim7.holds Tryd.pinned (.plain (OpenSpec.ofChange entriesCompactsSpec)) entriesCompactsCard

/-- THE TIED CARD OF 'dovecotelaw15.EntriesNewer'. -/
def entriesNewerCard : Claim7 := { stood := { row := entriesNewerRow, standIns := [], harness := (true, "dabe79d527fed3dfe68174fe404df884beec682cf530c6fa539f37485a52f7a2"), looks := true }, kinds := [], alts := [], laidByText := true, laidKinds := [.handle], laidTests := true, laidLooks := .later }
def EntriesNewerCardSaid : Prop := Claim7.holds Tryd.pinned (.plain (OpenSpec.ofChange entriesNewerSpec)) entriesNewerCard

/-- THE SECOND FORM's CARD OF 'dovecotelaw15.EntriesCuts'. -/
def entriesCutsUptoCard : Claim7 := { stood := { row := entriesCutsUptoRow, standIns := [], harness := (true, "dabe79d527fed3dfe68174fe404df884beec682cf530c6fa539f37485a52f7a2"), looks := true }, kinds := [], alts := [], laidByText := true, laidKinds := [.handle], laidTests := true, laidLooks := .later }
def EntriesCutsUptoCardSaid : Prop := Claim7.holds Tryd.pinned (.plain (OpenSpec.upto entriesCutsSpec)) entriesCutsUptoCard

/-- THE SECOND FORM's CARD OF 'dovecotelaw15.EntriesSlices'. -/
def entriesSlicesUptoCard : Claim7 := { stood := { row := entriesSlicesUptoRow, standIns := [], harness := (true, "dabe79d527fed3dfe68174fe404df884beec682cf530c6fa539f37485a52f7a2"), looks := true }, kinds := [], alts := [], laidByText := true, laidKinds := [.handle], laidTests := true, laidLooks := .later }
def EntriesSlicesUptoCardSaid : Prop := Claim7.holds Tryd.pinned (.plain (OpenSpec.upto entriesSlicesSpec)) entriesSlicesUptoCard

/-- THE SECOND FORM's CARD OF 'dovecotelaw15.EntriesCompacts'. -/
def entriesCompactsUptoCard : Claim7 := { stood := { row := entriesCompactsUptoRow, standIns := [], harness := (true, "dabe79d527fed3dfe68174fe404df884beec682cf530c6fa539f37485a52f7a2"), looks := true }, kinds := [], alts := [], laidByText := true, laidKinds := [.handle], laidTests := true, laidLooks := .later }
def EntriesCompactsUptoCardSaid : Prop := Claim7.holds Tryd.pinned (.plain (OpenSpec.upto entriesCompactsSpec)) entriesCompactsUptoCard

/-- THE SECOND FORM's CARD OF 'dovecotelaw15.EntriesNewer'. -/
def entriesNewerUptoCard : Claim7 := { stood := { row := entriesNewerUptoRow, standIns := [], harness := (true, "dabe79d527fed3dfe68174fe404df884beec682cf530c6fa539f37485a52f7a2"), looks := true }, kinds := [], alts := [], laidByText := true, laidKinds := [.handle], laidTests := true, laidLooks := .later }
def EntriesNewerUptoCardSaid : Prop := Claim7.holds Tryd.pinned (.plain (OpenSpec.upto entriesNewerSpec)) entriesNewerUptoCard
end Rows
end Go.Proofs.YtnmcjjlpifemnabDoor
