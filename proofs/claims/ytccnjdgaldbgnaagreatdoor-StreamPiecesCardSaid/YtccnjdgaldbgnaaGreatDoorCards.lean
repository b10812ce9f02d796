/-
  DERIVED. GIVEN WITH THE SEED: THE CARDS: each row of YtccnjdgaldbgnaaGreatDoorRows.lean that lists a variable, with what it lists TIED to the program's text (the seventh form; the later family's looks); each row that meets fmt, with fmt's text TOLD by the authors' own Lean function (tested against real Go, not proved from fmt's source: count such statements apart). THE CARD IS WHAT COUNTS. Prove the row's statement (the work); the ties are given (YtccnjdgaldbgnaaGreatDoorTie.lean); close each card by the builder's one call (the guide's Derived/Test/ToyasCard.lean, 'card_holds'). Laid BY PROGRAM, IN A SANDBOX (cutbox-door.mjs). By AI agents, Wed Nov 11 2026. No macro, syntax, notation, axiom, sorry.
-/
import Derived.Test.YtccnjdgaldbgnaaGreatDoorRows
import GoSem.ClaimSeven
namespace Go.Proofs.YtccnjdgaldbgnaaGreatDoor
namespace Rows

/-- THE TIED CARD OF 'dovecotelaw5.StreamPieces'. -/
def streamPiecesCard : Claim7 := { stood := { row := streamPiecesRow, standIns := [], harness := (true, "f9ec5cc50407a3f0a477aec6d13b317944f0390d6115483e145a58bd7d16983b"), looks := true }, kinds := [], alts := [], laidByText := true, laidKinds := [.handle], laidTests := true, laidLooks := .later }
def StreamPiecesCardSaid : Prop := Claim7.holds Tryz.pinned (.plain (OpenSpec.ofChange streamPiecesSpec)) streamPiecesCard

/-- THE SECOND FORM's CARD OF 'dovecotelaw5.StreamPieces'. -/
def streamPiecesUptoCard : Claim7 := { stood := { row := streamPiecesUptoRow, standIns := [], harness := (true, "f9ec5cc50407a3f0a477aec6d13b317944f0390d6115483e145a58bd7d16983b"), looks := true }, kinds := [], alts := [], laidByText := true, laidKinds := [.handle], laidTests := true, laidLooks := .later }
def StreamPiecesUptoCardSaid : Prop := Claim7.holds Tryz.pinned (.plain (OpenSpec.upto streamPiecesSpec)) streamPiecesUptoCard
end Rows
end Go.Proofs.YtccnjdgaldbgnaaGreatDoor
