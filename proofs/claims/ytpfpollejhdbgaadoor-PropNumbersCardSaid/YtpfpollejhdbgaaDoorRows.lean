/-
  NARROWER THAN 'FOR EVERY INPUT', by the rows' own cells (each row's printed sentence says how): PropPuts: laid · PropGets: laid · PropBack: laid · PropPlaces: laid · PropNumbers: laid · PropUsers: laid.
  DERIVED. THE GIVEN ROWS OF THIS SEAT. 6 by the template 'for every input the law returns true; each argument reads behind the call as it read before'; 0 by the template 'total and deterministic' (their statements: YtpfpollejhdbgaaDoorTotals.lean).
  GIVEN WITH THE SEED: the statements are not yours to turn. If you find one false, say at which input.
  Laid BY PROGRAM, IN A SANDBOX (cutbox-rows.mjs): the forced cells as the released guide's own fill.sh prints them over the translation 27d31c45837ca170… (all of the seat's roots in one cut). By AI agents, Wed Nov 11 2026. No macro, syntax, notation, axiom, sorry.
-/
import Derived.Test.YtpfpollejhdbgaaDoorChecked
import GoSem.Claim
import GoSem.ClaimJoined
import GoSem.ClaimMapViews
import Derived.JoinedTies
import Derived.KernelRfl
namespace Go.Proofs.YtpfpollejhdbgaaDoor
/- THE CELL 'sum', in the pinned program and in every row, IS THE sha256 OF THE DUMP (.gsa) THAT YtpfpollejhdbgaaDoorProg.lean LOADS. Nothing in Lean hashes anything: it is a label: what it is worth is what the hold of that sum in a sandbox is worth. -/
noncomputable def Tryd.pinned : Pinned := { name := "ytpfpollejhdbgaadoor", sum := "27d31c45837ca1702d6b3b930dab7ce4f5319934e21dda5dfd3ff12303efd67d", checked := Tryd.checked }
namespace Rows
def none {H : Type} : Left H := { results := [], args := [] }

/- WHAT THE LISTED PACKAGE-LEVEL VARIABLES READ AS WHEN THE CALL BEGINS. Each datum BY PROGRAM (the guide's laid-datum.mjs) off the statement by which the dump's own 'gosem.cut.vars' lays the variable. In a bare row this is a premise. The card (YtpfpollejhdbgaaDoorCards.lean) ties it to the program's text. -/
def laid_errors_errorType {H : Type} : DataW H := .iface "internal/reflectlite.rtype" (.agg [.ptr (.lit (.string [101, 114, 114, 111, 114]))])

/-- 'dovecotelaw3.PropPuts': WHATEVER THE INPUT: true; the input reads as it did. -/
def propPutsSpec : ChangeSpec := { name := "propPuts", fn := fun _ => fun
  | [d] => { results := [.lit (.bool true)], args := [d] }
  | _ => none }
def propPutsRow : OpenClaim := { program := "ytpfpollejhdbgaadoor", sum := "27d31c45837ca1702d6b3b930dab7ce4f5319934e21dda5dfd3ff12303efd67d", func := "dovecote/dovecotelaw3.PropPuts", spec := "propPuts", inPlace := ["internal/reflectlite.TypeOf", "internal/reflectlite.ValueOf", "(internal/reflectlite.Value).Type", "(internal/reflectlite.Value).IsNil", "(internal/reflectlite.Value).Elem", "(internal/reflectlite.Value).Set"], unfollowed := true, recurses := true, named := ["errors.errorType"], apart := false, laid := [("errors.errorType", laid_errors_errorType)] }
def PropPutsSaid : Prop := propPutsRow.holds Tryd.pinned (OpenSpec.ofChange propPutsSpec)

/-- ITS FALSE NEIGHBOUR: 'it returns false'. Refute it at one input. -/
def propPutsWrong : ChangeSpec := { name := "propPuts", fn := fun _ => fun
  | [d] => { results := [.lit (.bool false)], args := [d] }
  | _ => none }
def PropPutsWrongFalsely : Prop := propPutsRow.holds Tryd.pinned (OpenSpec.ofChange propPutsWrong)

/-- 'dovecotelaw3.PropGets': WHATEVER THE INPUT: true; the input reads as it did. -/
def propGetsSpec : ChangeSpec := { name := "propGets", fn := fun _ => fun
  | [d] => { results := [.lit (.bool true)], args := [d] }
  | _ => none }
def propGetsRow : OpenClaim := { program := "ytpfpollejhdbgaadoor", sum := "27d31c45837ca1702d6b3b930dab7ce4f5319934e21dda5dfd3ff12303efd67d", func := "dovecote/dovecotelaw3.PropGets", spec := "propGets", inPlace := ["internal/reflectlite.TypeOf", "internal/reflectlite.ValueOf", "(internal/reflectlite.Value).Type", "(internal/reflectlite.Value).IsNil", "(internal/reflectlite.Value).Elem", "(internal/reflectlite.Value).Set"], unfollowed := true, recurses := true, named := ["errors.errorType"], apart := false, laid := [("errors.errorType", laid_errors_errorType)] }
def PropGetsSaid : Prop := propGetsRow.holds Tryd.pinned (OpenSpec.ofChange propGetsSpec)

/-- ITS FALSE NEIGHBOUR: 'it returns false'. Refute it at one input. -/
def propGetsWrong : ChangeSpec := { name := "propGets", fn := fun _ => fun
  | [d] => { results := [.lit (.bool false)], args := [d] }
  | _ => none }
def PropGetsWrongFalsely : Prop := propGetsRow.holds Tryd.pinned (OpenSpec.ofChange propGetsWrong)

/-- 'dovecotelaw3.PropBack': WHATEVER THE INPUT: true; the input reads as it did. -/
def propBackSpec : ChangeSpec := { name := "propBack", fn := fun _ => fun
  | [d] => { results := [.lit (.bool true)], args := [d] }
  | _ => none }
def propBackRow : OpenClaim := { program := "ytpfpollejhdbgaadoor", sum := "27d31c45837ca1702d6b3b930dab7ce4f5319934e21dda5dfd3ff12303efd67d", func := "dovecote/dovecotelaw3.PropBack", spec := "propBack", inPlace := ["internal/reflectlite.TypeOf", "internal/reflectlite.ValueOf", "(internal/reflectlite.Value).Type", "(internal/reflectlite.Value).IsNil", "(internal/reflectlite.Value).Elem", "(internal/reflectlite.Value).Set"], unfollowed := true, recurses := true, named := ["errors.errorType"], apart := false, laid := [("errors.errorType", laid_errors_errorType)] }
def PropBackSaid : Prop := propBackRow.holds Tryd.pinned (OpenSpec.ofChange propBackSpec)

/-- ITS FALSE NEIGHBOUR: 'it returns false'. Refute it at one input. -/
def propBackWrong : ChangeSpec := { name := "propBack", fn := fun _ => fun
  | [d] => { results := [.lit (.bool false)], args := [d] }
  | _ => none }
def PropBackWrongFalsely : Prop := propBackRow.holds Tryd.pinned (OpenSpec.ofChange propBackWrong)

/-- 'dovecotelaw3.PropPlaces': WHATEVER THE INPUT: true; the input reads as it did. -/
def propPlacesSpec : ChangeSpec := { name := "propPlaces", fn := fun _ => fun
  | [d] => { results := [.lit (.bool true)], args := [d] }
  | _ => none }
def propPlacesRow : OpenClaim := { program := "ytpfpollejhdbgaadoor", sum := "27d31c45837ca1702d6b3b930dab7ce4f5319934e21dda5dfd3ff12303efd67d", func := "dovecote/dovecotelaw3.PropPlaces", spec := "propPlaces", inPlace := ["internal/reflectlite.TypeOf", "internal/reflectlite.ValueOf", "(internal/reflectlite.Value).Type", "(internal/reflectlite.Value).IsNil", "(internal/reflectlite.Value).Elem", "(internal/reflectlite.Value).Set"], unfollowed := true, recurses := true, named := ["errors.errorType"], apart := false, laid := [("errors.errorType", laid_errors_errorType)] }
def PropPlacesSaid : Prop := propPlacesRow.holds Tryd.pinned (OpenSpec.ofChange propPlacesSpec)

/-- ITS FALSE NEIGHBOUR: 'it returns false'. Refute it at one input. -/
def propPlacesWrong : ChangeSpec := { name := "propPlaces", fn := fun _ => fun
  | [d] => { results := [.lit (.bool false)], args := [d] }
  | _ => none }
def PropPlacesWrongFalsely : Prop := propPlacesRow.holds Tryd.pinned (OpenSpec.ofChange propPlacesWrong)

/-- 'dovecotelaw3.PropNumbers': WHATEVER THE INPUT: true; the input reads as it did. -/
def propNumbersSpec : ChangeSpec := { name := "propNumbers", fn := fun _ => fun
  | [d] => { results := [.lit (.bool true)], args := [d] }
  | _ => none }
def propNumbersRow : OpenClaim := { program := "ytpfpollejhdbgaadoor", sum := "27d31c45837ca1702d6b3b930dab7ce4f5319934e21dda5dfd3ff12303efd67d", func := "dovecote/dovecotelaw3.PropNumbers", spec := "propNumbers", inPlace := ["internal/reflectlite.TypeOf", "internal/reflectlite.ValueOf", "(internal/reflectlite.Value).Type", "(internal/reflectlite.Value).IsNil", "(internal/reflectlite.Value).Elem", "(internal/reflectlite.Value).Set"], unfollowed := true, recurses := true, named := ["errors.errorType"], apart := false, laid := [("errors.errorType", laid_errors_errorType)] }
def PropNumbersSaid : Prop := propNumbersRow.holds Tryd.pinned (OpenSpec.ofChange propNumbersSpec)

/-- ITS FALSE NEIGHBOUR: 'it returns false'. Refute it at one input. -/
def propNumbersWrong : ChangeSpec := { name := "propNumbers", fn := fun _ => fun
  | [d] => { results := [.lit (.bool false)], args := [d] }
  | _ => none }
def PropNumbersWrongFalsely : Prop := propNumbersRow.holds Tryd.pinned (OpenSpec.ofChange propNumbersWrong)

/-- 'dovecotelaw3.PropUsers': WHATEVER THE INPUT: true; the input reads as it did. -/
def propUsersSpec : ChangeSpec := { name := "propUsers", fn := fun _ => fun
  | [d] => { results := [.lit (.bool true)], args := [d] }
  | _ => none }
def propUsersRow : OpenClaim := { program := "ytpfpollejhdbgaadoor", sum := "27d31c45837ca1702d6b3b930dab7ce4f5319934e21dda5dfd3ff12303efd67d", func := "dovecote/dovecotelaw3.PropUsers", spec := "propUsers", inPlace := ["internal/reflectlite.TypeOf", "internal/reflectlite.ValueOf", "(internal/reflectlite.Value).Type", "(internal/reflectlite.Value).IsNil", "(internal/reflectlite.Value).Elem", "(internal/reflectlite.Value).Set"], unfollowed := true, recurses := true, named := ["errors.errorType"], apart := false, laid := [("errors.errorType", laid_errors_errorType)] }
def PropUsersSaid : Prop := propUsersRow.holds Tryd.pinned (OpenSpec.ofChange propUsersSpec)

/-- ITS FALSE NEIGHBOUR: 'it returns false'. Refute it at one input. -/
def propUsersWrong : ChangeSpec := { name := "propUsers", fn := fun _ => fun
  | [d] => { results := [.lit (.bool false)], args := [d] }
  | _ => none }
def PropUsersWrongFalsely : Prop := propUsersRow.holds Tryd.pinned (OpenSpec.ofChange propUsersWrong)

/- THE SECOND FORM. 'bulk': how many values and letters a reading holds, each counted each time it is reached (what is shared counts as often as it is met; a slice's spare places count too). A statement '..UptoSaid' is the law's where the arguments, and the package variables that the reading takes, are together of bulk at most 1048576: NARROWER than '..Said'. Prove '..Said' where nothing that the law and all that it calls make is longer than what came in: it says more and counts as full. Else prove '..UptoSaid'. A law counts once. -/
mutual
def uptoBulk {H : Type} : DataW H → Nat
  | .lit (.string bytes) => bytes.length + 1
  | .lit _ => 1
  | .nil => 1
  | .ptr d => uptoBulk d + 1
  | .slice elems spare => uptoBulkAll elems + uptoBulkAll spare + 1
  | .agg parts => uptoBulkAll parts + 1
  | .iface _ d => uptoBulk d + 1
  | .map entries => uptoBulkEntries entries + 1
  | .held _ => 1
def uptoBulkAll {H : Type} : List (DataW H) → Nat
  | [] => 0
  | d :: r => uptoBulk d + uptoBulkAll r
def uptoBulkEntries {H : Type} : List (Lit × DataW H) → Nat
  | [] => 0
  | x :: r => uptoBulkEntry x + uptoBulkEntries r
def uptoBulkEntry {H : Type} : Lit × DataW H → Nat
  | (.string bytes, d) => bytes.length + uptoBulk d + 1
  | (_, d) => uptoBulk d + 1
 end
def uptoSmall : (H : Type) → List (DataW H) → Bool := fun _ ds => decide (uptoBulkAll ds ≤ 1048576)
def OpenSpec.upto (s : _root_.Go.ChangeSpec) : _root_.Go.OpenSpec := { _root_.Go.OpenSpec.ofChange s with cond := some uptoSmall }

/-- 'dovecotelaw3.PropPuts', WHERE WHAT IT READS IS OF BULK AT MOST 1048576: true; the input reads as it did. -/
def propPutsUptoRow : OpenClaim := { program := "ytpfpollejhdbgaadoor", sum := "27d31c45837ca1702d6b3b930dab7ce4f5319934e21dda5dfd3ff12303efd67d", func := "dovecote/dovecotelaw3.PropPuts", spec := "propPuts", inPlace := ["internal/reflectlite.TypeOf", "internal/reflectlite.ValueOf", "(internal/reflectlite.Value).Type", "(internal/reflectlite.Value).IsNil", "(internal/reflectlite.Value).Elem", "(internal/reflectlite.Value).Set"], unfollowed := true, recurses := true, named := ["errors.errorType"], apart := false, laid := [("errors.errorType", laid_errors_errorType)], narrowed := true }
def PropPutsUptoSaid : Prop := propPutsUptoRow.holds Tryd.pinned (OpenSpec.upto propPutsSpec)

/-- 'dovecotelaw3.PropGets', WHERE WHAT IT READS IS OF BULK AT MOST 1048576: true; the input reads as it did. -/
def propGetsUptoRow : OpenClaim := { program := "ytpfpollejhdbgaadoor", sum := "27d31c45837ca1702d6b3b930dab7ce4f5319934e21dda5dfd3ff12303efd67d", func := "dovecote/dovecotelaw3.PropGets", spec := "propGets", inPlace := ["internal/reflectlite.TypeOf", "internal/reflectlite.ValueOf", "(internal/reflectlite.Value).Type", "(internal/reflectlite.Value).IsNil", "(internal/reflectlite.Value).Elem", "(internal/reflectlite.Value).Set"], unfollowed := true, recurses := true, named := ["errors.errorType"], apart := false, laid := [("errors.errorType", laid_errors_errorType)], narrowed := true }
def PropGetsUptoSaid : Prop := propGetsUptoRow.holds Tryd.pinned (OpenSpec.upto propGetsSpec)

/-- 'dovecotelaw3.PropBack', WHERE WHAT IT READS IS OF BULK AT MOST 1048576: true; the input reads as it did. -/
def propBackUptoRow : OpenClaim := { program := "ytpfpollejhdbgaadoor", sum := "27d31c45837ca1702d6b3b930dab7ce4f5319934e21dda5dfd3ff12303efd67d", func := "dovecote/dovecotelaw3.PropBack", spec := "propBack", inPlace := ["internal/reflectlite.TypeOf", "internal/reflectlite.ValueOf", "(internal/reflectlite.Value).Type", "(internal/reflectlite.Value).IsNil", "(internal/reflectlite.Value).Elem", "(internal/reflectlite.Value).Set"], unfollowed := true, recurses := true, named := ["errors.errorType"], apart := false, laid := [("errors.errorType", laid_errors_errorType)], narrowed := true }
def PropBackUptoSaid : Prop := propBackUptoRow.holds Tryd.pinned (OpenSpec.upto propBackSpec)

/-- 'dovecotelaw3.PropPlaces', WHERE WHAT IT READS IS OF BULK AT MOST 1048576: true; the input reads as it did. -/
def propPlacesUptoRow : OpenClaim := { program := "ytpfpollejhdbgaadoor", sum := "27d31c45837ca1702d6b3b930dab7ce4f5319934e21dda5dfd3ff12303efd67d", func := "dovecote/dovecotelaw3.PropPlaces", spec := "propPlaces", inPlace := ["internal/reflectlite.TypeOf", "internal/reflectlite.ValueOf", "(internal/reflectlite.Value).Type", "(internal/reflectlite.Value).IsNil", "(internal/reflectlite.Value).Elem", "(internal/reflectlite.Value).Set"], unfollowed := true, recurses := true, named := ["errors.errorType"], apart := false, laid := [("errors.errorType", laid_errors_errorType)], narrowed := true }
def PropPlacesUptoSaid : Prop := propPlacesUptoRow.holds Tryd.pinned (OpenSpec.upto propPlacesSpec)

/-- 'dovecotelaw3.PropNumbers', WHERE WHAT IT READS IS OF BULK AT MOST 1048576: true; the input reads as it did. -/
def propNumbersUptoRow : OpenClaim := { program := "ytpfpollejhdbgaadoor", sum := "27d31c45837ca1702d6b3b930dab7ce4f5319934e21dda5dfd3ff12303efd67d", func := "dovecote/dovecotelaw3.PropNumbers", spec := "propNumbers", inPlace := ["internal/reflectlite.TypeOf", "internal/reflectlite.ValueOf", "(internal/reflectlite.Value).Type", "(internal/reflectlite.Value).IsNil", "(internal/reflectlite.Value).Elem", "(internal/reflectlite.Value).Set"], unfollowed := true, recurses := true, named := ["errors.errorType"], apart := false, laid := [("errors.errorType", laid_errors_errorType)], narrowed := true }
def PropNumbersUptoSaid : Prop := propNumbersUptoRow.holds Tryd.pinned (OpenSpec.upto propNumbersSpec)

/-- 'dovecotelaw3.PropUsers', WHERE WHAT IT READS IS OF BULK AT MOST 1048576: true; the input reads as it did. -/
def propUsersUptoRow : OpenClaim := { program := "ytpfpollejhdbgaadoor", sum := "27d31c45837ca1702d6b3b930dab7ce4f5319934e21dda5dfd3ff12303efd67d", func := "dovecote/dovecotelaw3.PropUsers", spec := "propUsers", inPlace := ["internal/reflectlite.TypeOf", "internal/reflectlite.ValueOf", "(internal/reflectlite.Value).Type", "(internal/reflectlite.Value).IsNil", "(internal/reflectlite.Value).Elem", "(internal/reflectlite.Value).Set"], unfollowed := true, recurses := true, named := ["errors.errorType"], apart := false, laid := [("errors.errorType", laid_errors_errorType)], narrowed := true }
def PropUsersUptoSaid : Prop := propUsersUptoRow.holds Tryd.pinned (OpenSpec.upto propUsersSpec)

end Rows
end Go.Proofs.YtpfpollejhdbgaaDoor
