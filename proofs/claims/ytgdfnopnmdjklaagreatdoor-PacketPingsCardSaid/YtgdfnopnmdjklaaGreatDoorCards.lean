/-
  DERIVED. GIVEN WITH THE SEED: THE CARDS: each row of YtgdfnopnmdjklaaGreatDoorRows.lean that lists a variable, with what it lists TIED to the program's text (the seventh form; the later family's looks); each row that meets fmt, with fmt's text TOLD by the authors' own Lean function (tested against real Go, not proved from fmt's source: count such statements apart). THE CARD IS WHAT COUNTS. Prove the row's statement (the work); the ties are given (YtgdfnopnmdjklaaGreatDoorTie.lean); close each card by the builder's one call (the guide's Derived/Test/ToyasCard.lean, 'card_holds'). Laid BY PROGRAM, IN A SANDBOX (cutbox-door.mjs). By AI agents, Wed Nov 11 2026. No macro, syntax, notation, axiom, sorry.
-/
import Derived.Test.YtgdfnopnmdjklaaGreatDoorRows
import GoSem.ClaimSeven
namespace Go.Proofs.YtgdfnopnmdjklaaGreatDoor
namespace Rows

/-- THE TIED CARD OF 'dovecotelaw4.PacketPings'. -/
def packetPingsCard : Claim7 := { stood := { row := packetPingsRow, standIns := [], harness := (true, "c93d16db4d43e07caaedb21ccc72bafe5d3758875ab07e91e6b2a8a419f4a462"), looks := true }, kinds := [], alts := [], laidByText := true, laidKinds := [.handle], laidTests := true, laidLooks := .later }
def PacketPingsCardSaid : Prop := Claim7.holds Tryz.pinned (.plain (OpenSpec.ofChange packetPingsSpec)) packetPingsCard

/-- THE SECOND FORM's CARD OF 'dovecotelaw4.PacketPings'. -/
def packetPingsUptoCard : Claim7 := { stood := { row := packetPingsUptoRow, standIns := [], harness := (true, "c93d16db4d43e07caaedb21ccc72bafe5d3758875ab07e91e6b2a8a419f4a462"), looks := true }, kinds := [], alts := [], laidByText := true, laidKinds := [.handle], laidTests := true, laidLooks := .later }
def PacketPingsUptoCardSaid : Prop := Claim7.holds Tryz.pinned (.plain (OpenSpec.upto packetPingsSpec)) packetPingsUptoCard
end Rows
end Go.Proofs.YtgdfnopnmdjklaaGreatDoor
