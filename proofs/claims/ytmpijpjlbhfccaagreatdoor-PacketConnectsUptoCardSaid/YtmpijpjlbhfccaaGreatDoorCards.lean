/-
  DERIVED. GIVEN WITH THE SEED: THE CARDS: each row of YtmpijpjlbhfccaaGreatDoorRows.lean that lists a variable, with what it lists TIED to the program's text (the seventh form; the later family's looks); each row that meets fmt, with fmt's text TOLD by the authors' own Lean function (tested against real Go, not proved from fmt's source: count such statements apart). THE CARD IS WHAT COUNTS. Prove the row's statement (the work); the ties are given (YtmpijpjlbhfccaaGreatDoorTie.lean); close each card by the builder's one call (the guide's Derived/Test/ToyasCard.lean, 'card_holds'). Laid BY PROGRAM, IN A SANDBOX (cutbox-door.mjs). By AI agents, Wed Nov 11 2026. No macro, syntax, notation, axiom, sorry.
-/
import Derived.Test.YtmpijpjlbhfccaaGreatDoorRows
import GoSem.ClaimSeven
namespace Go.Proofs.YtmpijpjlbhfccaaGreatDoor
namespace Rows

/-- THE TIED CARD OF 'dovecotelaw4.PacketConnects'. -/
def packetConnectsCard : Claim7 := { stood := { row := packetConnectsRow, standIns := [], harness := (true, "cee9eb05a50ecc55430d01fb0fd55d556cc9ac1a484c33a5c65a598ec5320918"), looks := true }, kinds := [], alts := [], laidByText := true, laidKinds := [.handle], laidTests := true, laidLooks := .later }
def PacketConnectsCardSaid : Prop := Claim7.holds Tryz.pinned (.plain (OpenSpec.ofChange packetConnectsSpec)) packetConnectsCard

/-- THE SECOND FORM's CARD OF 'dovecotelaw4.PacketConnects'. -/
def packetConnectsUptoCard : Claim7 := { stood := { row := packetConnectsUptoRow, standIns := [], harness := (true, "cee9eb05a50ecc55430d01fb0fd55d556cc9ac1a484c33a5c65a598ec5320918"), looks := true }, kinds := [], alts := [], laidByText := true, laidKinds := [.handle], laidTests := true, laidLooks := .later }
def PacketConnectsUptoCardSaid : Prop := Claim7.holds Tryz.pinned (.plain (OpenSpec.upto packetConnectsSpec)) packetConnectsUptoCard
end Rows
end Go.Proofs.YtmpijpjlbhfccaaGreatDoor
