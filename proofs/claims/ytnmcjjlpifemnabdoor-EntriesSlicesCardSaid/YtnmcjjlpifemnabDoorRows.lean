/-
  NARROWER THAN 'FOR EVERY INPUT', by the rows' own cells (each row's printed sentence says how): EntriesCuts: laid · EntriesSlices: laid · EntriesCompacts: laid · EntriesNewer: laid.
  DERIVED. THE GIVEN ROWS OF THIS SEAT. 4 by the template 'for every input the law returns true; each argument reads behind the call as it read before'; 0 by the template 'total and deterministic' (their statements: YtnmcjjlpifemnabDoorTotals.lean).
  GIVEN WITH THE SEED: the statements are not yours to turn. If you find one false, say at which input.
  Laid BY PROGRAM, IN A SANDBOX (cutbox-rows.mjs): the forced cells as the released guide's own fill.sh prints them over the translation 1a83a923ba947a8a… (all of the seat's roots in one cut). By AI agents, Wed Nov 11 2026. No macro, syntax, notation, axiom, sorry.
-/
import Derived.Test.YtnmcjjlpifemnabDoorChecked
import GoSem.Claim
import GoSem.ClaimJoined
import GoSem.ClaimMapViews
import Derived.JoinedTies
import Derived.KernelRfl
namespace Go.Proofs.YtnmcjjlpifemnabDoor
/- THE CELL 'sum', in the pinned program and in every row, IS THE sha256 OF THE DUMP (.gsa) THAT YtnmcjjlpifemnabDoorProg.lean LOADS. Nothing in Lean hashes anything: it is a label: what it is worth is what the hold of that sum in a sandbox is worth. -/
noncomputable def Tryd.pinned : Pinned := { name := "ytnmcjjlpifemnabdoor", sum := "1a83a923ba947a8a9747bb96bfbf2e9ce1a439e5fed788b00894ada961790054", checked := Tryd.checked }
namespace Rows
def none {H : Type} : Left H := { results := [], args := [] }

/- WHAT THE LISTED PACKAGE-LEVEL VARIABLES READ AS WHEN THE CALL BEGINS. Each datum BY PROGRAM (the guide's laid-datum.mjs) off the statement by which the dump's own 'gosem.cut.vars' lays the variable. In a bare row this is a premise. The card (YtnmcjjlpifemnabDoorCards.lean) ties it to the program's text. -/
def laid_errors_errorType {H : Type} : DataW H := .iface "internal/reflectlite.rtype" (.agg [.ptr (.lit (.string [101, 114, 114, 111, 114]))])

/-- 'dovecotelaw15.EntriesCuts': WHATEVER THE INPUT: true; the input reads as it did. -/
def entriesCutsSpec : ChangeSpec := { name := "entriesCuts", fn := fun _ => fun
  | [d] => { results := [.lit (.bool true)], args := [d] }
  | _ => none }
def entriesCutsRow : OpenClaim := { program := "ytnmcjjlpifemnabdoor", sum := "1a83a923ba947a8a9747bb96bfbf2e9ce1a439e5fed788b00894ada961790054", func := "dovecote/dovecotelaw15.EntriesCuts", spec := "entriesCuts", inPlace := ["internal/reflectlite.ValueOf", "(internal/reflectlite.Value).Type", "(internal/reflectlite.Value).IsNil", "internal/reflectlite.TypeOf", "(internal/reflectlite.Value).Elem", "(internal/reflectlite.Value).Set"], unfollowed := true, recurses := true, named := ["errors.errorType"], apart := false, laid := [("errors.errorType", laid_errors_errorType)] }
def EntriesCutsSaid : Prop := entriesCutsRow.holds Tryd.pinned (OpenSpec.ofChange entriesCutsSpec)

/-- ITS FALSE NEIGHBOUR: 'it returns false'. Refute it at one input. -/
def entriesCutsWrong : ChangeSpec := { name := "entriesCuts", fn := fun _ => fun
  | [d] => { results := [.lit (.bool false)], args := [d] }
  | _ => none }
def EntriesCutsWrongFalsely : Prop := entriesCutsRow.holds Tryd.pinned (OpenSpec.ofChange entriesCutsWrong)

/-- 'dovecotelaw15.EntriesSlices': WHATEVER THE INPUT: true; the input reads as it did. -/
def entriesSlicesSpec : ChangeSpec := { name := "entriesSlices", fn := fun _ => fun
  | [d] => { results := [.lit (.bool true)], args := [d] }
  | _ => none }
def entriesSlicesRow : OpenClaim := { program := "ytnmcjjlpifemnabdoor", sum := "1a83a923ba947a8a9747bb96bfbf2e9ce1a439e5fed788b00894ada961790054", func := "dovecote/dovecotelaw15.EntriesSlices", spec := "entriesSlices", inPlace := ["internal/reflectlite.ValueOf", "(internal/reflectlite.Value).Type", "(internal/reflectlite.Value).IsNil", "internal/reflectlite.TypeOf", "(internal/reflectlite.Value).Elem", "(internal/reflectlite.Value).Set"], unfollowed := true, recurses := true, named := ["errors.errorType"], apart := false, laid := [("errors.errorType", laid_errors_errorType)] }
def EntriesSlicesSaid : Prop := entriesSlicesRow.holds Tryd.pinned (OpenSpec.ofChange entriesSlicesSpec)

/-- ITS FALSE NEIGHBOUR: 'it returns false'. Refute it at one input. -/
def entriesSlicesWrong : ChangeSpec := { name := "entriesSlices", fn := fun _ => fun
  | [d] => { results := [.lit (.bool false)], args := [d] }
  | _ => none }
def EntriesSlicesWrongFalsely : Prop := entriesSlicesRow.holds Tryd.pinned (OpenSpec.ofChange entriesSlicesWrong)

/-- 'dovecotelaw15.EntriesCompacts': WHATEVER THE INPUT: true; the input reads as it did. -/
def entriesCompactsSpec : ChangeSpec := { name := "entriesCompacts", fn := fun _ => fun
  | [d] => { results := [.lit (.bool true)], args := [d] }
  | _ => none }
def entriesCompactsRow : OpenClaim := { program := "ytnmcjjlpifemnabdoor", sum := "1a83a923ba947a8a9747bb96bfbf2e9ce1a439e5fed788b00894ada961790054", func := "dovecote/dovecotelaw15.EntriesCompacts", spec := "entriesCompacts", inPlace := ["internal/reflectlite.ValueOf", "(internal/reflectlite.Value).Type", "(internal/reflectlite.Value).IsNil", "internal/reflectlite.TypeOf", "(internal/reflectlite.Value).Elem", "(internal/reflectlite.Value).Set"], unfollowed := true, recurses := true, named := ["errors.errorType"], apart := false, laid := [("errors.errorType", laid_errors_errorType)] }
def EntriesCompactsSaid : Prop := entriesCompactsRow.holds Tryd.pinned (OpenSpec.ofChange entriesCompactsSpec)

/-- ITS FALSE NEIGHBOUR: 'it returns false'. Refute it at one input. -/
def entriesCompactsWrong : ChangeSpec := { name := "entriesCompacts", fn := fun _ => fun
  | [d] => { results := [.lit (.bool false)], args := [d] }
  | _ => none }
def EntriesCompactsWrongFalsely : Prop := entriesCompactsRow.holds Tryd.pinned (OpenSpec.ofChange entriesCompactsWrong)

/-- 'dovecotelaw15.EntriesNewer': WHATEVER THE INPUT: true; the input reads as it did. -/
def entriesNewerSpec : ChangeSpec := { name := "entriesNewer", fn := fun _ => fun
  | [d] => { results := [.lit (.bool true)], args := [d] }
  | _ => none }
def entriesNewerRow : OpenClaim := { program := "ytnmcjjlpifemnabdoor", sum := "1a83a923ba947a8a9747bb96bfbf2e9ce1a439e5fed788b00894ada961790054", func := "dovecote/dovecotelaw15.EntriesNewer", spec := "entriesNewer", inPlace := ["internal/reflectlite.ValueOf", "(internal/reflectlite.Value).Type", "(internal/reflectlite.Value).IsNil", "internal/reflectlite.TypeOf", "(internal/reflectlite.Value).Elem", "(internal/reflectlite.Value).Set"], unfollowed := true, recurses := true, named := ["errors.errorType"], apart := false, laid := [("errors.errorType", laid_errors_errorType)] }
def EntriesNewerSaid : Prop := entriesNewerRow.holds Tryd.pinned (OpenSpec.ofChange entriesNewerSpec)

/-- ITS FALSE NEIGHBOUR: 'it returns false'. Refute it at one input. -/
def entriesNewerWrong : ChangeSpec := { name := "entriesNewer", fn := fun _ => fun
  | [d] => { results := [.lit (.bool false)], args := [d] }
  | _ => none }
def EntriesNewerWrongFalsely : Prop := entriesNewerRow.holds Tryd.pinned (OpenSpec.ofChange entriesNewerWrong)

/- THE SECOND FORM. 'bulk': how many values and letters a reading holds, each counted each time it is reached (what is shared counts as often as it is met; a slice's spare places count too). A statement '..UptoSaid' is the law's where the arguments, and the package variables that the reading takes, are together of bulk at most 1048576: NARROWER than '..Said'. Prove '..Said' where nothing that the law and all that it calls make is longer than what came in: it says more and counts as full. Else prove '..UptoSaid'. A law counts once. -/
mutual
def uptoBulk {H : Type} : DataW H → Nat
  | .lit (.string bytes) => bytes.length + 1
  | .lit _ => 1
  | .nil => 1
  | .ptr d => uptoBulk d + 1
  | .slice elems spare => uptoBulkAll elems + uptoBulkAll spare + 1
  | .agg parts => uptoBulkAll parts + 1
  | .iface _ d => uptoBulk d + 1
  | .map entries => uptoBulkEntries entries + 1
  | .held _ => 1
def uptoBulkAll {H : Type} : List (DataW H) → Nat
  | [] => 0
  | d :: r => uptoBulk d + uptoBulkAll r
def uptoBulkEntries {H : Type} : List (Lit × DataW H) → Nat
  | [] => 0
  | x :: r => uptoBulkEntry x + uptoBulkEntries r
def uptoBulkEntry {H : Type} : Lit × DataW H → Nat
  | (.string bytes, d) => bytes.length + uptoBulk d + 1
  | (_, d) => uptoBulk d + 1
 end
def uptoSmall : (H : Type) → List (DataW H) → Bool := fun _ ds => decide (uptoBulkAll ds ≤ 1048576)
def OpenSpec.upto (s : _root_.Go.ChangeSpec) : _root_.Go.OpenSpec := { _root_.Go.OpenSpec.ofChange s with cond := some uptoSmall }

/-- 'dovecotelaw15.EntriesCuts', WHERE WHAT IT READS IS OF BULK AT MOST 1048576: true; the input reads as it did. -/
def entriesCutsUptoRow : OpenClaim := { program := "ytnmcjjlpifemnabdoor", sum := "1a83a923ba947a8a9747bb96bfbf2e9ce1a439e5fed788b00894ada961790054", func := "dovecote/dovecotelaw15.EntriesCuts", spec := "entriesCuts", inPlace := ["internal/reflectlite.ValueOf", "(internal/reflectlite.Value).Type", "(internal/reflectlite.Value).IsNil", "internal/reflectlite.TypeOf", "(internal/reflectlite.Value).Elem", "(internal/reflectlite.Value).Set"], unfollowed := true, recurses := true, named := ["errors.errorType"], apart := false, laid := [("errors.errorType", laid_errors_errorType)], narrowed := true }
def EntriesCutsUptoSaid : Prop := entriesCutsUptoRow.holds Tryd.pinned (OpenSpec.upto entriesCutsSpec)

/-- 'dovecotelaw15.EntriesSlices', WHERE WHAT IT READS IS OF BULK AT MOST 1048576: true; the input reads as it did. -/
def entriesSlicesUptoRow : OpenClaim := { program := "ytnmcjjlpifemnabdoor", sum := "1a83a923ba947a8a9747bb96bfbf2e9ce1a439e5fed788b00894ada961790054", func := "dovecote/dovecotelaw15.EntriesSlices", spec := "entriesSlices", inPlace := ["internal/reflectlite.ValueOf", "(internal/reflectlite.Value).Type", "(internal/reflectlite.Value).IsNil", "internal/reflectlite.TypeOf", "(internal/reflectlite.Value).Elem", "(internal/reflectlite.Value).Set"], unfollowed := true, recurses := true, named := ["errors.errorType"], apart := false, laid := [("errors.errorType", laid_errors_errorType)], narrowed := true }
def EntriesSlicesUptoSaid : Prop := entriesSlicesUptoRow.holds Tryd.pinned (OpenSpec.upto entriesSlicesSpec)

/-- 'dovecotelaw15.EntriesCompacts', WHERE WHAT IT READS IS OF BULK AT MOST 1048576: true; the input reads as it did. -/
def entriesCompactsUptoRow : OpenClaim := { program := "ytnmcjjlpifemnabdoor", sum := "1a83a923ba947a8a9747bb96bfbf2e9ce1a439e5fed788b00894ada961790054", func := "dovecote/dovecotelaw15.EntriesCompacts", spec := "entriesCompacts", inPlace := ["internal/reflectlite.ValueOf", "(internal/reflectlite.Value).Type", "(internal/reflectlite.Value).IsNil", "internal/reflectlite.TypeOf", "(internal/reflectlite.Value).Elem", "(internal/reflectlite.Value).Set"], unfollowed := true, recurses := true, named := ["errors.errorType"], apart := false, laid := [("errors.errorType", laid_errors_errorType)], narrowed := true }
def EntriesCompactsUptoSaid : Prop := entriesCompactsUptoRow.holds Tryd.pinned (OpenSpec.upto entriesCompactsSpec)

/-- 'dovecotelaw15.EntriesNewer', WHERE WHAT IT READS IS OF BULK AT MOST 1048576: true; the input reads as it did. -/
def entriesNewerUptoRow : OpenClaim := { program := "ytnmcjjlpifemnabdoor", sum := "1a83a923ba947a8a9747bb96bfbf2e9ce1a439e5fed788b00894ada961790054", func := "dovecote/dovecotelaw15.EntriesNewer", spec := "entriesNewer", inPlace := ["internal/reflectlite.ValueOf", "(internal/reflectlite.Value).Type", "(internal/reflectlite.Value).IsNil", "internal/reflectlite.TypeOf", "(internal/reflectlite.Value).Elem", "(internal/reflectlite.Value).Set"], unfollowed := true, recurses := true, named := ["errors.errorType"], apart := false, laid := [("errors.errorType", laid_errors_errorType)], narrowed := true }
def EntriesNewerUptoSaid : Prop := entriesNewerUptoRow.holds Tryd.pinned (OpenSpec.upto entriesNewerSpec)

end Rows
end Go.Proofs.YtnmcjjlpifemnabDoor
