/-
  DERIVED. GIVEN WITH THE SEED: THE CARDS: each row of YtcffbkgkdoaplaaDoorRows.lean that lists a variable, with what it lists TIED to the program's text (the seventh form; the later family's looks); each row that meets fmt, with fmt's text TOLD by the authors' own Lean function (tested against real Go, not proved from fmt's source: count such statements apart). THE CARD IS WHAT COUNTS. Prove the row's statement (the work); the ties are given (YtcffbkgkdoaplaaDoorTie.lean); close each card by the builder's one call (the guide's Derived/Test/ToyasCard.lean, 'card_holds'). Laid BY PROGRAM, IN A SANDBOX (cutbox-door.mjs). By AI agents, Wed Nov 11 2026. No macro, syntax, notation, axiom, sorry.
-/
import Derived.Test.YtcffbkgkdoaplaaDoorRows
import GoSem.ClaimSeven
namespace Go.Proofs.YtcffbkgkdoaplaaDoor
namespace Rows

/-- THE TIED CARD OF 'dovecotelaw15.EntriesExact'. -/
def entriesExactCard : Claim7 := { stood := { row := entriesExactRow, standIns := [], harness := (true, "0b2371fca9a50882ea56daf3df2698a5b5e259ff880cd5419ccab33b6e9e1e00"), looks := true }, kinds := [], alts := [], laidByText := true, laidKinds := [.handle], laidTests := true, laidLooks := .later }
def EntriesExactCardSaid : Prop := Claim7.holds Tryd.pinned (.plain (OpenSpec.ofChange entriesExactSpec)) entriesExactCard

/-- THE TIED CARD OF 'dovecotelaw15.EntriesMerge'. -/
def entriesMergeCard : Claim7 := { stood := { row := entriesMergeRow, standIns := [], harness := (true, "0b2371fca9a50882ea56daf3df2698a5b5e259ff880cd5419ccab33b6e9e1e00"), looks := true }, kinds := [], alts := [], laidByText := true, laidKinds := [.handle], laidTests := true, laidLooks := .later }
def EntriesMergeCardSaid : Prop := Claim7.holds Tryd.pinned (.plain (OpenSpec.ofChange entriesMergeSpec)) entriesMergeCard

/-- THE SECOND FORM's CARD OF 'dovecotelaw15.EntriesExact'. -/
def entriesExactUptoCard : Claim7 := { stood := { row := entriesExactUptoRow, standIns := [], harness := (true, "0b2371fca9a50882ea56daf3df2698a5b5e259ff880cd5419ccab33b6e9e1e00"), looks := true }, kinds := [], alts := [], laidByText := true, laidKinds := [.handle], laidTests := true, laidLooks := .later }
def EntriesExactUptoCardSaid : Prop := Claim7.holds Tryd.pinned (.plain (OpenSpec.upto entriesExactSpec)) entriesExactUptoCard

/-- THE SECOND FORM's CARD OF 'dovecotelaw15.EntriesMerge'. -/
def entriesMergeUptoCard : Claim7 := { stood := { row := entriesMergeUptoRow, standIns := [], harness := (true, "0b2371fca9a50882ea56daf3df2698a5b5e259ff880cd5419ccab33b6e9e1e00"), looks := true }, kinds := [], alts := [], laidByText := true, laidKinds := [.handle], laidTests := true, laidLooks := .later }
def EntriesMergeUptoCardSaid : Prop := Claim7.holds Tryd.pinned (.plain (OpenSpec.upto entriesMergeSpec)) entriesMergeUptoCard
end Rows
end Go.Proofs.YtcffbkgkdoaplaaDoor
