/-
  DERIVED. GIVEN WITH THE SEED: THE CARDS: each row of YtdjpllmgjmnolaaGreatDoorRows.lean that lists a variable, with what it lists TIED to the program's text (the seventh form; the later family's looks); each row that meets fmt, with fmt's text TOLD by the authors' own Lean function (tested against real Go, not proved from fmt's source: count such statements apart). THE CARD IS WHAT COUNTS. Prove the row's statement (the work); the ties are given (YtdjpllmgjmnolaaGreatDoorTie.lean); close each card by the builder's one call (the guide's Derived/Test/ToyasCard.lean, 'card_holds'). Laid BY PROGRAM, IN A SANDBOX (cutbox-door.mjs). By AI agents, Wed Nov 11 2026. No macro, syntax, notation, axiom, sorry.
-/
import Derived.Test.YtdjpllmgjmnolaaGreatDoorRows
import GoSem.ClaimSeven
namespace Go.Proofs.YtdjpllmgjmnolaaGreatDoor
namespace Rows

/-- THE TIED CARD OF 'dovecotelaw7.TrieExact'. -/
def trieExactCard : Claim7 := { stood := { row := trieExactRow, standIns := [], harness := (true, "6521b7848a9b79b52161cdf6f9e2ad66e8261de10aeaa63dbb08f72957c64e22"), looks := true }, kinds := [], alts := [], laidByText := true, laidKinds := [.data, .handle, .pinned], laidTests := true, laidLooks := .later }
def TrieExactCardSaid : Prop := Claim7.holds Tryz.pinned (.plain (OpenSpec.ofChange trieExactSpec)) trieExactCard

/-- THE TIED CARD OF 'dovecotelaw7.TrieOrders'. -/
def trieOrdersCard : Claim7 := { stood := { row := trieOrdersRow, standIns := [], harness := (true, "6521b7848a9b79b52161cdf6f9e2ad66e8261de10aeaa63dbb08f72957c64e22"), looks := true }, kinds := [], alts := [], laidByText := true, laidKinds := [.data, .handle, .pinned], laidTests := true, laidLooks := .later }
def TrieOrdersCardSaid : Prop := Claim7.holds Tryz.pinned (.plain (OpenSpec.ofChange trieOrdersSpec)) trieOrdersCard

/-- THE SECOND FORM's CARD OF 'dovecotelaw7.TrieExact'. -/
def trieExactUptoCard : Claim7 := { stood := { row := trieExactUptoRow, standIns := [], harness := (true, "6521b7848a9b79b52161cdf6f9e2ad66e8261de10aeaa63dbb08f72957c64e22"), looks := true }, kinds := [], alts := [], laidByText := true, laidKinds := [.data, .handle, .pinned], laidTests := true, laidLooks := .later }
def TrieExactUptoCardSaid : Prop := Claim7.holds Tryz.pinned (.plain (OpenSpec.upto trieExactSpec)) trieExactUptoCard

/-- THE SECOND FORM's CARD OF 'dovecotelaw7.TrieOrders'. -/
def trieOrdersUptoCard : Claim7 := { stood := { row := trieOrdersUptoRow, standIns := [], harness := (true, "6521b7848a9b79b52161cdf6f9e2ad66e8261de10aeaa63dbb08f72957c64e22"), looks := true }, kinds := [], alts := [], laidByText := true, laidKinds := [.data, .handle, .pinned], laidTests := true, laidLooks := .later }
def TrieOrdersUptoCardSaid : Prop := Claim7.holds Tryz.pinned (.plain (OpenSpec.upto trieOrdersSpec)) trieOrdersUptoCard
end Rows
end Go.Proofs.YtdjpllmgjmnolaaGreatDoor
