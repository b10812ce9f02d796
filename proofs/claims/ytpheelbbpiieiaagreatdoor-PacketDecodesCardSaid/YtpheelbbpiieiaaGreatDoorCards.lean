/-
  DERIVED. GIVEN WITH THE SEED: THE CARDS: each row of YtpheelbbpiieiaaGreatDoorRows.lean that lists a variable, with what it lists TIED to the program's text (the seventh form; the later family's looks); each row that meets fmt, with fmt's text TOLD by the authors' own Lean function (tested against real Go, not proved from fmt's source: count such statements apart). THE CARD IS WHAT COUNTS. Prove the row's statement (the work); the ties are given (YtpheelbbpiieiaaGreatDoorTie.lean); close each card by the builder's one call (the guide's Derived/Test/ToyasCard.lean, 'card_holds'). Laid BY PROGRAM, IN A SANDBOX (cutbox-door.mjs). By AI agents, Wed Nov 11 2026. No macro, syntax, notation, axiom, sorry.
-/
import Derived.Test.YtpheelbbpiieiaaGreatDoorRows
import GoSem.ClaimSeven
namespace Go.Proofs.YtpheelbbpiieiaaGreatDoor
namespace Rows

/-- THE TIED CARD OF 'dovecotelaw4.PacketDecodes'. -/
def packetDecodesCard : Claim7 := { stood := { row := packetDecodesRow, standIns := [], harness := (true, "becd12c2c7fc54b8542c96311241f18922e08555d13d063f854c4dffce37b352"), looks := true }, kinds := [], alts := [], laidByText := true, laidKinds := [.handle], laidTests := true, laidLooks := .later }
def PacketDecodesCardSaid : Prop := Claim7.holds Tryz.pinned (.plain (OpenSpec.ofChange packetDecodesSpec)) packetDecodesCard

/-- THE TIED CARD OF 'dovecotelaw5.StreamExact'. -/
def streamExactCard : Claim7 := { stood := { row := streamExactRow, standIns := [], harness := (true, "becd12c2c7fc54b8542c96311241f18922e08555d13d063f854c4dffce37b352"), looks := true }, kinds := [], alts := [], laidByText := true, laidKinds := [.handle], laidTests := true, laidLooks := .later }
def StreamExactCardSaid : Prop := Claim7.holds Tryz.pinned (.plain (OpenSpec.ofChange streamExactSpec)) streamExactCard

/-- THE TIED CARD OF 'dovecotelaw5.StreamLimits'. -/
def streamLimitsCard : Claim7 := { stood := { row := streamLimitsRow, standIns := [], harness := (true, "becd12c2c7fc54b8542c96311241f18922e08555d13d063f854c4dffce37b352"), looks := true }, kinds := [], alts := [], laidByText := true, laidKinds := [.handle], laidTests := true, laidLooks := .later }
def StreamLimitsCardSaid : Prop := Claim7.holds Tryz.pinned (.plain (OpenSpec.ofChange streamLimitsSpec)) streamLimitsCard

/-- THE SECOND FORM's CARD OF 'dovecotelaw4.PacketDecodes'. -/
def packetDecodesUptoCard : Claim7 := { stood := { row := packetDecodesUptoRow, standIns := [], harness := (true, "becd12c2c7fc54b8542c96311241f18922e08555d13d063f854c4dffce37b352"), looks := true }, kinds := [], alts := [], laidByText := true, laidKinds := [.handle], laidTests := true, laidLooks := .later }
def PacketDecodesUptoCardSaid : Prop := Claim7.holds Tryz.pinned (.plain (OpenSpec.upto packetDecodesSpec)) packetDecodesUptoCard

/-- THE SECOND FORM's CARD OF 'dovecotelaw5.StreamExact'. -/
def streamExactUptoCard : Claim7 := { stood := { row := streamExactUptoRow, standIns := [], harness := (true, "becd12c2c7fc54b8542c96311241f18922e08555d13d063f854c4dffce37b352"), looks := true }, kinds := [], alts := [], laidByText := true, laidKinds := [.handle], laidTests := true, laidLooks := .later }
def StreamExactUptoCardSaid : Prop := Claim7.holds Tryz.pinned (.plain (OpenSpec.upto streamExactSpec)) streamExactUptoCard

/-- THE SECOND FORM's CARD OF 'dovecotelaw5.StreamLimits'. -/
def streamLimitsUptoCard : Claim7 := { stood := { row := streamLimitsUptoRow, standIns := [], harness := (true, "becd12c2c7fc54b8542c96311241f18922e08555d13d063f854c4dffce37b352"), looks := true }, kinds := [], alts := [], laidByText := true, laidKinds := [.handle], laidTests := true, laidLooks := .later }
def StreamLimitsUptoCardSaid : Prop := Claim7.holds Tryz.pinned (.plain (OpenSpec.upto streamLimitsSpec)) streamLimitsUptoCard
end Rows
end Go.Proofs.YtpheelbbpiieiaaGreatDoor
