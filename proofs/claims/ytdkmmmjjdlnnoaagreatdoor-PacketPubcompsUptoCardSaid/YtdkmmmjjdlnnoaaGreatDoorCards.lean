/-
  DERIVED. GIVEN WITH THE SEED: THE CARDS: each row of YtdkmmmjjdlnnoaaGreatDoorRows.lean that lists a variable, with what it lists TIED to the program's text (the seventh form; the later family's looks); each row that meets fmt, with fmt's text TOLD by the authors' own Lean function (tested against real Go, not proved from fmt's source: count such statements apart). THE CARD IS WHAT COUNTS. Prove the row's statement (the work); the ties are given (YtdkmmmjjdlnnoaaGreatDoorTie.lean); close each card by the builder's one call (the guide's Derived/Test/ToyasCard.lean, 'card_holds'). Laid BY PROGRAM, IN A SANDBOX (cutbox-door.mjs). By AI agents, Wed Nov 11 2026. No macro, syntax, notation, axiom, sorry.
-/
import Derived.Test.YtdkmmmjjdlnnoaaGreatDoorRows
import GoSem.ClaimSeven
namespace Go.Proofs.YtdkmmmjjdlnnoaaGreatDoor
namespace Rows

/-- THE TIED CARD OF 'dovecotelaw4.PacketConnects'. -/
def packetConnectsCard : Claim7 := { stood := { row := packetConnectsRow, standIns := [], harness := (true, "05904688d19150acd3b45287d9850a71480caeca9b8449986752f872cd77956b"), looks := true }, kinds := [], alts := [], laidByText := true, laidKinds := [.handle], laidTests := true, laidLooks := .later }
def PacketConnectsCardSaid : Prop := Claim7.holds Tryz.pinned (.plain (OpenSpec.ofChange packetConnectsSpec)) packetConnectsCard

/-- THE TIED CARD OF 'dovecotelaw4.PacketConnacks'. -/
def packetConnacksCard : Claim7 := { stood := { row := packetConnacksRow, standIns := [], harness := (true, "05904688d19150acd3b45287d9850a71480caeca9b8449986752f872cd77956b"), looks := true }, kinds := [], alts := [], laidByText := true, laidKinds := [.handle], laidTests := true, laidLooks := .later }
def PacketConnacksCardSaid : Prop := Claim7.holds Tryz.pinned (.plain (OpenSpec.ofChange packetConnacksSpec)) packetConnacksCard

/-- THE TIED CARD OF 'dovecotelaw4.PacketPublishes'. -/
def packetPublishesCard : Claim7 := { stood := { row := packetPublishesRow, standIns := [], harness := (true, "05904688d19150acd3b45287d9850a71480caeca9b8449986752f872cd77956b"), looks := true }, kinds := [], alts := [], laidByText := true, laidKinds := [.handle], laidTests := true, laidLooks := .later }
def PacketPublishesCardSaid : Prop := Claim7.holds Tryz.pinned (.plain (OpenSpec.ofChange packetPublishesSpec)) packetPublishesCard

/-- THE TIED CARD OF 'dovecotelaw4.PacketPubacks'. -/
def packetPubacksCard : Claim7 := { stood := { row := packetPubacksRow, standIns := [], harness := (true, "05904688d19150acd3b45287d9850a71480caeca9b8449986752f872cd77956b"), looks := true }, kinds := [], alts := [], laidByText := true, laidKinds := [.handle], laidTests := true, laidLooks := .later }
def PacketPubacksCardSaid : Prop := Claim7.holds Tryz.pinned (.plain (OpenSpec.ofChange packetPubacksSpec)) packetPubacksCard

/-- THE TIED CARD OF 'dovecotelaw4.PacketPubrecs'. -/
def packetPubrecsCard : Claim7 := { stood := { row := packetPubrecsRow, standIns := [], harness := (true, "05904688d19150acd3b45287d9850a71480caeca9b8449986752f872cd77956b"), looks := true }, kinds := [], alts := [], laidByText := true, laidKinds := [.handle], laidTests := true, laidLooks := .later }
def PacketPubrecsCardSaid : Prop := Claim7.holds Tryz.pinned (.plain (OpenSpec.ofChange packetPubrecsSpec)) packetPubrecsCard

/-- THE TIED CARD OF 'dovecotelaw4.PacketPubrels'. -/
def packetPubrelsCard : Claim7 := { stood := { row := packetPubrelsRow, standIns := [], harness := (true, "05904688d19150acd3b45287d9850a71480caeca9b8449986752f872cd77956b"), looks := true }, kinds := [], alts := [], laidByText := true, laidKinds := [.handle], laidTests := true, laidLooks := .later }
def PacketPubrelsCardSaid : Prop := Claim7.holds Tryz.pinned (.plain (OpenSpec.ofChange packetPubrelsSpec)) packetPubrelsCard

/-- THE TIED CARD OF 'dovecotelaw4.PacketPubcomps'. -/
def packetPubcompsCard : Claim7 := { stood := { row := packetPubcompsRow, standIns := [], harness := (true, "05904688d19150acd3b45287d9850a71480caeca9b8449986752f872cd77956b"), looks := true }, kinds := [], alts := [], laidByText := true, laidKinds := [.handle], laidTests := true, laidLooks := .later }
def PacketPubcompsCardSaid : Prop := Claim7.holds Tryz.pinned (.plain (OpenSpec.ofChange packetPubcompsSpec)) packetPubcompsCard

/-- THE TIED CARD OF 'dovecotelaw4.PacketSubscribes'. -/
def packetSubscribesCard : Claim7 := { stood := { row := packetSubscribesRow, standIns := [], harness := (true, "05904688d19150acd3b45287d9850a71480caeca9b8449986752f872cd77956b"), looks := true }, kinds := [], alts := [], laidByText := true, laidKinds := [.handle], laidTests := true, laidLooks := .later }
def PacketSubscribesCardSaid : Prop := Claim7.holds Tryz.pinned (.plain (OpenSpec.ofChange packetSubscribesSpec)) packetSubscribesCard

/-- THE TIED CARD OF 'dovecotelaw4.PacketSubacks'. -/
def packetSubacksCard : Claim7 := { stood := { row := packetSubacksRow, standIns := [], harness := (true, "05904688d19150acd3b45287d9850a71480caeca9b8449986752f872cd77956b"), looks := true }, kinds := [], alts := [], laidByText := true, laidKinds := [.handle], laidTests := true, laidLooks := .later }
def PacketSubacksCardSaid : Prop := Claim7.holds Tryz.pinned (.plain (OpenSpec.ofChange packetSubacksSpec)) packetSubacksCard

/-- THE TIED CARD OF 'dovecotelaw4.PacketUnsubscribes'. -/
def packetUnsubscribesCard : Claim7 := { stood := { row := packetUnsubscribesRow, standIns := [], harness := (true, "05904688d19150acd3b45287d9850a71480caeca9b8449986752f872cd77956b"), looks := true }, kinds := [], alts := [], laidByText := true, laidKinds := [.handle], laidTests := true, laidLooks := .later }
def PacketUnsubscribesCardSaid : Prop := Claim7.holds Tryz.pinned (.plain (OpenSpec.ofChange packetUnsubscribesSpec)) packetUnsubscribesCard

/-- THE TIED CARD OF 'dovecotelaw4.PacketUnsubacks'. -/
def packetUnsubacksCard : Claim7 := { stood := { row := packetUnsubacksRow, standIns := [], harness := (true, "05904688d19150acd3b45287d9850a71480caeca9b8449986752f872cd77956b"), looks := true }, kinds := [], alts := [], laidByText := true, laidKinds := [.handle], laidTests := true, laidLooks := .later }
def PacketUnsubacksCardSaid : Prop := Claim7.holds Tryz.pinned (.plain (OpenSpec.ofChange packetUnsubacksSpec)) packetUnsubacksCard

/-- THE TIED CARD OF 'dovecotelaw4.PacketDisconnects'. -/
def packetDisconnectsCard : Claim7 := { stood := { row := packetDisconnectsRow, standIns := [], harness := (true, "05904688d19150acd3b45287d9850a71480caeca9b8449986752f872cd77956b"), looks := true }, kinds := [], alts := [], laidByText := true, laidKinds := [.handle], laidTests := true, laidLooks := .later }
def PacketDisconnectsCardSaid : Prop := Claim7.holds Tryz.pinned (.plain (OpenSpec.ofChange packetDisconnectsSpec)) packetDisconnectsCard

/-- THE TIED CARD OF 'dovecotelaw4.PacketAuths'. -/
def packetAuthsCard : Claim7 := { stood := { row := packetAuthsRow, standIns := [], harness := (true, "05904688d19150acd3b45287d9850a71480caeca9b8449986752f872cd77956b"), looks := true }, kinds := [], alts := [], laidByText := true, laidKinds := [.handle], laidTests := true, laidLooks := .later }
def PacketAuthsCardSaid : Prop := Claim7.holds Tryz.pinned (.plain (OpenSpec.ofChange packetAuthsSpec)) packetAuthsCard

/-- THE SECOND FORM's CARD OF 'dovecotelaw4.PacketConnects'. -/
def packetConnectsUptoCard : Claim7 := { stood := { row := packetConnectsUptoRow, standIns := [], harness := (true, "05904688d19150acd3b45287d9850a71480caeca9b8449986752f872cd77956b"), looks := true }, kinds := [], alts := [], laidByText := true, laidKinds := [.handle], laidTests := true, laidLooks := .later }
def PacketConnectsUptoCardSaid : Prop := Claim7.holds Tryz.pinned (.plain (OpenSpec.upto packetConnectsSpec)) packetConnectsUptoCard

/-- THE SECOND FORM's CARD OF 'dovecotelaw4.PacketConnacks'. -/
def packetConnacksUptoCard : Claim7 := { stood := { row := packetConnacksUptoRow, standIns := [], harness := (true, "05904688d19150acd3b45287d9850a71480caeca9b8449986752f872cd77956b"), looks := true }, kinds := [], alts := [], laidByText := true, laidKinds := [.handle], laidTests := true, laidLooks := .later }
def PacketConnacksUptoCardSaid : Prop := Claim7.holds Tryz.pinned (.plain (OpenSpec.upto packetConnacksSpec)) packetConnacksUptoCard

/-- THE SECOND FORM's CARD OF 'dovecotelaw4.PacketPublishes'. -/
def packetPublishesUptoCard : Claim7 := { stood := { row := packetPublishesUptoRow, standIns := [], harness := (true, "05904688d19150acd3b45287d9850a71480caeca9b8449986752f872cd77956b"), looks := true }, kinds := [], alts := [], laidByText := true, laidKinds := [.handle], laidTests := true, laidLooks := .later }
def PacketPublishesUptoCardSaid : Prop := Claim7.holds Tryz.pinned (.plain (OpenSpec.upto packetPublishesSpec)) packetPublishesUptoCard

/-- THE SECOND FORM's CARD OF 'dovecotelaw4.PacketPubacks'. -/
def packetPubacksUptoCard : Claim7 := { stood := { row := packetPubacksUptoRow, standIns := [], harness := (true, "05904688d19150acd3b45287d9850a71480caeca9b8449986752f872cd77956b"), looks := true }, kinds := [], alts := [], laidByText := true, laidKinds := [.handle], laidTests := true, laidLooks := .later }
def PacketPubacksUptoCardSaid : Prop := Claim7.holds Tryz.pinned (.plain (OpenSpec.upto packetPubacksSpec)) packetPubacksUptoCard

/-- THE SECOND FORM's CARD OF 'dovecotelaw4.PacketPubrecs'. -/
def packetPubrecsUptoCard : Claim7 := { stood := { row := packetPubrecsUptoRow, standIns := [], harness := (true, "05904688d19150acd3b45287d9850a71480caeca9b8449986752f872cd77956b"), looks := true }, kinds := [], alts := [], laidByText := true, laidKinds := [.handle], laidTests := true, laidLooks := .later }
def PacketPubrecsUptoCardSaid : Prop := Claim7.holds Tryz.pinned (.plain (OpenSpec.upto packetPubrecsSpec)) packetPubrecsUptoCard

/-- THE SECOND FORM's CARD OF 'dovecotelaw4.PacketPubrels'. -/
def packetPubrelsUptoCard : Claim7 := { stood := { row := packetPubrelsUptoRow, standIns := [], harness := (true, "05904688d19150acd3b45287d9850a71480caeca9b8449986752f872cd77956b"), looks := true }, kinds := [], alts := [], laidByText := true, laidKinds := [.handle], laidTests := true, laidLooks := .later }
def PacketPubrelsUptoCardSaid : Prop := Claim7.holds Tryz.pinned (.plain (OpenSpec.upto packetPubrelsSpec)) packetPubrelsUptoCard

/-- THE SECOND FORM's CARD OF 'dovecotelaw4.PacketPubcomps'. -/
def packetPubcompsUptoCard : Claim7 := { stood := { row := packetPubcompsUptoRow, standIns := [], harness := (true, "05904688d19150acd3b45287d9850a71480caeca9b8449986752f872cd77956b"), looks := true }, kinds := [], alts := [], laidByText := true, laidKinds := [.handle], laidTests := true, laidLooks := .later }
def PacketPubcompsUptoCardSaid : Prop := Claim7.holds Tryz.pinned (.plain (OpenSpec.upto packetPubcompsSpec)) packetPubcompsUptoCard

/-- THE SECOND FORM's CARD OF 'dovecotelaw4.PacketSubscribes'. -/
def packetSubscribesUptoCard : Claim7 := { stood := { row := packetSubscribesUptoRow, standIns := [], harness := (true, "05904688d19150acd3b45287d9850a71480caeca9b8449986752f872cd77956b"), looks := true }, kinds := [], alts := [], laidByText := true, laidKinds := [.handle], laidTests := true, laidLooks := .later }
def PacketSubscribesUptoCardSaid : Prop := Claim7.holds Tryz.pinned (.plain (OpenSpec.upto packetSubscribesSpec)) packetSubscribesUptoCard

/-- THE SECOND FORM's CARD OF 'dovecotelaw4.PacketSubacks'. -/
def packetSubacksUptoCard : Claim7 := { stood := { row := packetSubacksUptoRow, standIns := [], harness := (true, "05904688d19150acd3b45287d9850a71480caeca9b8449986752f872cd77956b"), looks := true }, kinds := [], alts := [], laidByText := true, laidKinds := [.handle], laidTests := true, laidLooks := .later }
def PacketSubacksUptoCardSaid : Prop := Claim7.holds Tryz.pinned (.plain (OpenSpec.upto packetSubacksSpec)) packetSubacksUptoCard

/-- THE SECOND FORM's CARD OF 'dovecotelaw4.PacketUnsubscribes'. -/
def packetUnsubscribesUptoCard : Claim7 := { stood := { row := packetUnsubscribesUptoRow, standIns := [], harness := (true, "05904688d19150acd3b45287d9850a71480caeca9b8449986752f872cd77956b"), looks := true }, kinds := [], alts := [], laidByText := true, laidKinds := [.handle], laidTests := true, laidLooks := .later }
def PacketUnsubscribesUptoCardSaid : Prop := Claim7.holds Tryz.pinned (.plain (OpenSpec.upto packetUnsubscribesSpec)) packetUnsubscribesUptoCard

/-- THE SECOND FORM's CARD OF 'dovecotelaw4.PacketUnsubacks'. -/
def packetUnsubacksUptoCard : Claim7 := { stood := { row := packetUnsubacksUptoRow, standIns := [], harness := (true, "05904688d19150acd3b45287d9850a71480caeca9b8449986752f872cd77956b"), looks := true }, kinds := [], alts := [], laidByText := true, laidKinds := [.handle], laidTests := true, laidLooks := .later }
def PacketUnsubacksUptoCardSaid : Prop := Claim7.holds Tryz.pinned (.plain (OpenSpec.upto packetUnsubacksSpec)) packetUnsubacksUptoCard

/-- THE SECOND FORM's CARD OF 'dovecotelaw4.PacketDisconnects'. -/
def packetDisconnectsUptoCard : Claim7 := { stood := { row := packetDisconnectsUptoRow, standIns := [], harness := (true, "05904688d19150acd3b45287d9850a71480caeca9b8449986752f872cd77956b"), looks := true }, kinds := [], alts := [], laidByText := true, laidKinds := [.handle], laidTests := true, laidLooks := .later }
def PacketDisconnectsUptoCardSaid : Prop := Claim7.holds Tryz.pinned (.plain (OpenSpec.upto packetDisconnectsSpec)) packetDisconnectsUptoCard

/-- THE SECOND FORM's CARD OF 'dovecotelaw4.PacketAuths'. -/
def packetAuthsUptoCard : Claim7 := { stood := { row := packetAuthsUptoRow, standIns := [], harness := (true, "05904688d19150acd3b45287d9850a71480caeca9b8449986752f872cd77956b"), looks := true }, kinds := [], alts := [], laidByText := true, laidKinds := [.handle], laidTests := true, laidLooks := .later }
def PacketAuthsUptoCardSaid : Prop := Claim7.holds Tryz.pinned (.plain (OpenSpec.upto packetAuthsSpec)) packetAuthsUptoCard
end Rows
end Go.Proofs.YtdkmmmjjdlnnoaaGreatDoor
