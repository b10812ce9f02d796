/-
  DERIVED. GIVEN WITH THE SEED: THE CARDS: each row of YtnmcjjlpifemnaaDoorRows.lean that lists a variable, with what it lists TIED to the program's text (the seventh form; the later family's looks); each row that meets fmt, with fmt's text TOLD by the authors' own Lean function (tested against real Go, not proved from fmt's source: count such statements apart). THE CARD IS WHAT COUNTS. Prove the row's statement (the work); the ties are given (YtnmcjjlpifemnaaDoorTie.lean); close each card by the builder's one call (the guide's Derived/Test/ToyasCard.lean, 'card_holds'). Laid BY PROGRAM, IN A SANDBOX (cutbox-door.mjs). By AI agents, Wed Nov 11 2026. No macro, syntax, notation, axiom, sorry.
-/
import Derived.Test.YtnmcjjlpifemnaaDoorRows
import GoSem.ClaimSeven
namespace Go.Proofs.YtnmcjjlpifemnaaDoor
namespace Rows

/-- THE TIED CARD OF 'dovecotelaw15.EntriesExact'. -/
def entriesExactCard : Claim7 := { stood := { row := entriesExactRow, standIns := [], harness := (true, "a59337c98cde26b3c764d868e22ed7179210fbd33c609c1de7d5e8c1d7844a6e"), looks := true }, kinds := [], alts := [], laidByText := true, laidKinds := [.handle], laidTests := true, laidLooks := .later }
def EntriesExactCardSaid : Prop := Claim7.holds Tryd.pinned (.plain (OpenSpec.ofChange entriesExactSpec)) entriesExactCard

/-- THE TIED CARD OF 'dovecotelaw15.EntriesMerge'. -/
def entriesMergeCard : Claim7 := { stood := { row := entriesMergeRow, standIns := [], harness := (true, "a59337c98cde26b3c764d868e22ed7179210fbd33c609c1de7d5e8c1d7844a6e"), looks := true }, kinds := [], alts := [], laidByText := true, laidKinds := [.handle], laidTests := true, laidLooks := .later }
def EntriesMergeCardSaid : Prop := Claim7.holds Tryd.pinned (.plain (OpenSpec.ofChange entriesMergeSpec)) entriesMergeCard

/-- THE TIED CARD OF 'dovecotelaw15.EntriesAgain'. -/
def entriesAgainCard : Claim7 := { stood := { row := entriesAgainRow, standIns := [], harness := (true, "a59337c98cde26b3c764d868e22ed7179210fbd33c609c1de7d5e8c1d7844a6e"), looks := true }, kinds := [], alts := [], laidByText := true, laidKinds := [.handle], laidTests := true, laidLooks := .later }
def EntriesAgainCardSaid : Prop := Claim7.holds Tryd.pinned (.plain (OpenSpec.ofChange entriesAgainSpec)) entriesAgainCard

/-- THE TIED CARD OF 'dovecotelaw15.EntriesLast'. -/
def entriesLastCard : Claim7 := { stood := { row := entriesLastRow, standIns := [], harness := (true, "a59337c98cde26b3c764d868e22ed7179210fbd33c609c1de7d5e8c1d7844a6e"), looks := true }, kinds := [], alts := [], laidByText := true, laidKinds := [.handle], laidTests := true, laidLooks := .later }
def EntriesLastCardSaid : Prop := Claim7.holds Tryd.pinned (.plain (OpenSpec.ofChange entriesLastSpec)) entriesLastCard

/-- THE TIED CARD OF 'dovecotelaw15.EntriesTerms'. -/
def entriesTermsCard : Claim7 := { stood := { row := entriesTermsRow, standIns := [], harness := (true, "a59337c98cde26b3c764d868e22ed7179210fbd33c609c1de7d5e8c1d7844a6e"), looks := true }, kinds := [], alts := [], laidByText := true, laidKinds := [.handle], laidTests := true, laidLooks := .later }
def EntriesTermsCardSaid : Prop := Claim7.holds Tryd.pinned (.plain (OpenSpec.ofChange entriesTermsSpec)) entriesTermsCard

/-- THE TIED CARD OF 'dovecotelaw15.EntriesAppends'. -/
def entriesAppendsCard : Claim7 := { stood := { row := entriesAppendsRow, standIns := [], harness := (true, "a59337c98cde26b3c764d868e22ed7179210fbd33c609c1de7d5e8c1d7844a6e"), looks := true }, kinds := [], alts := [], laidByText := true, laidKinds := [.handle], laidTests := true, laidLooks := .later }
def EntriesAppendsCardSaid : Prop := Claim7.holds Tryd.pinned (.plain (OpenSpec.ofChange entriesAppendsSpec)) entriesAppendsCard

/-- THE SECOND FORM's CARD OF 'dovecotelaw15.EntriesExact'. -/
def entriesExactUptoCard : Claim7 := { stood := { row := entriesExactUptoRow, standIns := [], harness := (true, "a59337c98cde26b3c764d868e22ed7179210fbd33c609c1de7d5e8c1d7844a6e"), looks := true }, kinds := [], alts := [], laidByText := true, laidKinds := [.handle], laidTests := true, laidLooks := .later }
def EntriesExactUptoCardSaid : Prop := Claim7.holds Tryd.pinned (.plain (OpenSpec.upto entriesExactSpec)) entriesExactUptoCard

/-- THE SECOND FORM's CARD OF 'dovecotelaw15.EntriesMerge'. -/
def entriesMergeUptoCard : Claim7 := { stood := { row := entriesMergeUptoRow, standIns := [], harness := (true, "a59337c98cde26b3c764d868e22ed7179210fbd33c609c1de7d5e8c1d7844a6e"), looks := true }, kinds := [], alts := [], laidByText := true, laidKinds := [.handle], laidTests := true, laidLooks := .later }
def EntriesMergeUptoCardSaid : Prop := Claim7.holds Tryd.pinned (.plain (OpenSpec.upto entriesMergeSpec)) entriesMergeUptoCard

/-- THE SECOND FORM's CARD OF 'dovecotelaw15.EntriesAgain'. -/
def entriesAgainUptoCard : Claim7 := { stood := { row := entriesAgainUptoRow, standIns := [], harness := (true, "a59337c98cde26b3c764d868e22ed7179210fbd33c609c1de7d5e8c1d7844a6e"), looks := true }, kinds := [], alts := [], laidByText := true, laidKinds := [.handle], laidTests := true, laidLooks := .later }
def EntriesAgainUptoCardSaid : Prop := Claim7.holds Tryd.pinned (.plain (OpenSpec.upto entriesAgainSpec)) entriesAgainUptoCard

/-- THE SECOND FORM's CARD OF 'dovecotelaw15.EntriesLast'. -/
def entriesLastUptoCard : Claim7 := { stood := { row := entriesLastUptoRow, standIns := [], harness := (true, "a59337c98cde26b3c764d868e22ed7179210fbd33c609c1de7d5e8c1d7844a6e"), looks := true }, kinds := [], alts := [], laidByText := true, laidKinds := [.handle], laidTests := true, laidLooks := .later }
def EntriesLastUptoCardSaid : Prop := Claim7.holds Tryd.pinned (.plain (OpenSpec.upto entriesLastSpec)) entriesLastUptoCard

/-- THE SECOND FORM's CARD OF 'dovecotelaw15.EntriesTerms'. -/
def entriesTermsUptoCard : Claim7 := { stood := { row := entriesTermsUptoRow, standIns := [], harness := (true, "a59337c98cde26b3c764d868e22ed7179210fbd33c609c1de7d5e8c1d7844a6e"), looks := true }, kinds := [], alts := [], laidByText := true, laidKinds := [.handle], laidTests := true, laidLooks := .later }
def EntriesTermsUptoCardSaid : Prop := Claim7.holds Tryd.pinned (.plain (OpenSpec.upto entriesTermsSpec)) entriesTermsUptoCard

/-- THE SECOND FORM's CARD OF 'dovecotelaw15.EntriesAppends'. -/
def entriesAppendsUptoCard : Claim7 := { stood := { row := entriesAppendsUptoRow, standIns := [], harness := (true, "a59337c98cde26b3c764d868e22ed7179210fbd33c609c1de7d5e8c1d7844a6e"), looks := true }, kinds := [], alts := [], laidByText := true, laidKinds := [.handle], laidTests := true, laidLooks := .later }
def EntriesAppendsUptoCardSaid : Prop := Claim7.holds Tryd.pinned (.plain (OpenSpec.upto entriesAppendsSpec)) entriesAppendsUptoCard
end Rows
end Go.Proofs.YtnmcjjlpifemnaaDoor
