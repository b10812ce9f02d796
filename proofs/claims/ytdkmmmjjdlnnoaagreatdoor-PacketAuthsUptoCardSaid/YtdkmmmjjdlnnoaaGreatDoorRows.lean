/-
  NARROWER THAN 'FOR EVERY INPUT', by the rows' own cells (each row's printed sentence says how): PacketConnects: laid · PacketConnacks: laid · PacketPublishes: laid · PacketPubacks: laid · PacketPubrecs: laid · PacketPubrels: laid · PacketPubcomps: laid · PacketSubscribes: laid · PacketSubacks: laid · PacketUnsubscribes: laid · PacketUnsubacks: laid · PacketDisconnects: laid · PacketAuths: laid.
  DERIVED. THE GIVEN ROWS OF THIS SEAT. 13 by the template 'for every input the law returns true; each argument reads behind the call as it read before'; 0 by the template 'total and deterministic' (their statements: YtdkmmmjjdlnnoaaGreatDoorTotals.lean).
  GIVEN WITH THE SEED: the statements are not yours to turn. If you find one false, say at which input.
  Laid BY PROGRAM, IN A SANDBOX (cutbox-rows.mjs): the forced cells as the released guide's own fill.sh prints them over the translation b3f714db87fa0a4a… (all of the seat's roots in one cut). By AI agents, Wed Nov 11 2026. No macro, syntax, notation, axiom, sorry.
-/
import Derived.Test.YtdkmmmjjdlnnoaaGreatDoorChecked
import GoSem.Claim
import GoSem.ClaimJoined
import GoSem.ClaimMapViews
import Derived.JoinedTies
import Derived.KernelRfl
namespace Go.Proofs.YtdkmmmjjdlnnoaaGreatDoor
/- THE CELL 'sum', in the pinned program and in every row, IS THE sha256 OF THE DUMP (.gsa) THAT YtdkmmmjjdlnnoaaGreatDoorProg.lean LOADS. Nothing in Lean hashes anything: it is a label: what it is worth is what the hold of that sum in a sandbox is worth. -/
noncomputable def Tryz.pinned : Pinned := { name := "ytdkmmmjjdlnnoaagreatdoor", sum := "b3f714db87fa0a4a486d2d9f960d42ac4186d5ebc5addb86734bc5168faf52eb", checked := Tryz.checked }
namespace Rows
def none {H : Type} : Left H := { results := [], args := [] }

/- WHAT THE LISTED PACKAGE-LEVEL VARIABLES READ AS WHEN THE CALL BEGINS. Each datum BY PROGRAM (the guide's laid-datum.mjs) off the statement by which the dump's own 'gosem.cut.vars' lays the variable. In a bare row this is a premise. The card (YtdkmmmjjdlnnoaaGreatDoorCards.lean) ties it to the program's text. -/
def laid_errors_errorType {H : Type} : DataW H := .iface "internal/reflectlite.rtype" (.agg [.ptr (.lit (.string [101, 114, 114, 111, 114]))])

/-- 'dovecotelaw4.PacketConnects': WHATEVER THE INPUT: true; the input reads as it did. -/
def packetConnectsSpec : ChangeSpec := { name := "packetConnects", fn := fun _ => fun
  | [d] => { results := [.lit (.bool true)], args := [d] }
  | _ => none }
def packetConnectsRow : OpenClaim := { program := "ytdkmmmjjdlnnoaagreatdoor", sum := "b3f714db87fa0a4a486d2d9f960d42ac4186d5ebc5addb86734bc5168faf52eb", func := "dovecote/dovecotelaw4.PacketConnects", spec := "packetConnects", inPlace := ["internal/reflectlite.TypeOf", "internal/reflectlite.ValueOf", "(internal/reflectlite.Value).Type", "(internal/reflectlite.Value).IsNil", "(internal/reflectlite.Value).Elem", "(internal/reflectlite.Value).Set"], unfollowed := true, recurses := true, named := ["errors.errorType"], apart := false, laid := [("errors.errorType", laid_errors_errorType)] }
def PacketConnectsSaid : Prop := packetConnectsRow.holds Tryz.pinned (OpenSpec.ofChange packetConnectsSpec)

/-- ITS FALSE NEIGHBOUR: 'it returns false'. Refute it at one input. -/
def packetConnectsWrong : ChangeSpec := { name := "packetConnects", fn := fun _ => fun
  | [d] => { results := [.lit (.bool false)], args := [d] }
  | _ => none }
def PacketConnectsWrongFalsely : Prop := packetConnectsRow.holds Tryz.pinned (OpenSpec.ofChange packetConnectsWrong)

/-- 'dovecotelaw4.PacketConnacks': WHATEVER THE INPUT: true; the input reads as it did. -/
def packetConnacksSpec : ChangeSpec := { name := "packetConnacks", fn := fun _ => fun
  | [d] => { results := [.lit (.bool true)], args := [d] }
  | _ => none }
def packetConnacksRow : OpenClaim := { program := "ytdkmmmjjdlnnoaagreatdoor", sum := "b3f714db87fa0a4a486d2d9f960d42ac4186d5ebc5addb86734bc5168faf52eb", func := "dovecote/dovecotelaw4.PacketConnacks", spec := "packetConnacks", inPlace := ["internal/reflectlite.TypeOf", "internal/reflectlite.ValueOf", "(internal/reflectlite.Value).Type", "(internal/reflectlite.Value).IsNil", "(internal/reflectlite.Value).Elem", "(internal/reflectlite.Value).Set"], unfollowed := true, recurses := true, named := ["errors.errorType"], apart := false, laid := [("errors.errorType", laid_errors_errorType)] }
def PacketConnacksSaid : Prop := packetConnacksRow.holds Tryz.pinned (OpenSpec.ofChange packetConnacksSpec)

/-- ITS FALSE NEIGHBOUR: 'it returns false'. Refute it at one input. -/
def packetConnacksWrong : ChangeSpec := { name := "packetConnacks", fn := fun _ => fun
  | [d] => { results := [.lit (.bool false)], args := [d] }
  | _ => none }
def PacketConnacksWrongFalsely : Prop := packetConnacksRow.holds Tryz.pinned (OpenSpec.ofChange packetConnacksWrong)

/-- 'dovecotelaw4.PacketPublishes': WHATEVER THE INPUT: true; the input reads as it did. -/
def packetPublishesSpec : ChangeSpec := { name := "packetPublishes", fn := fun _ => fun
  | [d] => { results := [.lit (.bool true)], args := [d] }
  | _ => none }
def packetPublishesRow : OpenClaim := { program := "ytdkmmmjjdlnnoaagreatdoor", sum := "b3f714db87fa0a4a486d2d9f960d42ac4186d5ebc5addb86734bc5168faf52eb", func := "dovecote/dovecotelaw4.PacketPublishes", spec := "packetPublishes", inPlace := ["internal/reflectlite.TypeOf", "internal/reflectlite.ValueOf", "(internal/reflectlite.Value).Type", "(internal/reflectlite.Value).IsNil", "(internal/reflectlite.Value).Elem", "(internal/reflectlite.Value).Set"], unfollowed := true, recurses := true, named := ["errors.errorType"], apart := false, laid := [("errors.errorType", laid_errors_errorType)] }
def PacketPublishesSaid : Prop := packetPublishesRow.holds Tryz.pinned (OpenSpec.ofChange packetPublishesSpec)

/-- ITS FALSE NEIGHBOUR: 'it returns false'. Refute it at one input. -/
def packetPublishesWrong : ChangeSpec := { name := "packetPublishes", fn := fun _ => fun
  | [d] => { results := [.lit (.bool false)], args := [d] }
  | _ => none }
def PacketPublishesWrongFalsely : Prop := packetPublishesRow.holds Tryz.pinned (OpenSpec.ofChange packetPublishesWrong)

/-- 'dovecotelaw4.PacketPubacks': WHATEVER THE INPUT: true; the input reads as it did. -/
def packetPubacksSpec : ChangeSpec := { name := "packetPubacks", fn := fun _ => fun
  | [d] => { results := [.lit (.bool true)], args := [d] }
  | _ => none }
def packetPubacksRow : OpenClaim := { program := "ytdkmmmjjdlnnoaagreatdoor", sum := "b3f714db87fa0a4a486d2d9f960d42ac4186d5ebc5addb86734bc5168faf52eb", func := "dovecote/dovecotelaw4.PacketPubacks", spec := "packetPubacks", inPlace := ["internal/reflectlite.TypeOf", "internal/reflectlite.ValueOf", "(internal/reflectlite.Value).Type", "(internal/reflectlite.Value).IsNil", "(internal/reflectlite.Value).Elem", "(internal/reflectlite.Value).Set"], unfollowed := true, recurses := true, named := ["errors.errorType"], apart := false, laid := [("errors.errorType", laid_errors_errorType)] }
def PacketPubacksSaid : Prop := packetPubacksRow.holds Tryz.pinned (OpenSpec.ofChange packetPubacksSpec)

/-- ITS FALSE NEIGHBOUR: 'it returns false'. Refute it at one input. -/
def packetPubacksWrong : ChangeSpec := { name := "packetPubacks", fn := fun _ => fun
  | [d] => { results := [.lit (.bool false)], args := [d] }
  | _ => none }
def PacketPubacksWrongFalsely : Prop := packetPubacksRow.holds Tryz.pinned (OpenSpec.ofChange packetPubacksWrong)

/-- 'dovecotelaw4.PacketPubrecs': WHATEVER THE INPUT: true; the input reads as it did. -/
def packetPubrecsSpec : ChangeSpec := { name := "packetPubrecs", fn := fun _ => fun
  | [d] => { results := [.lit (.bool true)], args := [d] }
  | _ => none }
def packetPubrecsRow : OpenClaim := { program := "ytdkmmmjjdlnnoaagreatdoor", sum := "b3f714db87fa0a4a486d2d9f960d42ac4186d5ebc5addb86734bc5168faf52eb", func := "dovecote/dovecotelaw4.PacketPubrecs", spec := "packetPubrecs", inPlace := ["internal/reflectlite.TypeOf", "internal/reflectlite.ValueOf", "(internal/reflectlite.Value).Type", "(internal/reflectlite.Value).IsNil", "(internal/reflectlite.Value).Elem", "(internal/reflectlite.Value).Set"], unfollowed := true, recurses := true, named := ["errors.errorType"], apart := false, laid := [("errors.errorType", laid_errors_errorType)] }
def PacketPubrecsSaid : Prop := packetPubrecsRow.holds Tryz.pinned (OpenSpec.ofChange packetPubrecsSpec)

/-- ITS FALSE NEIGHBOUR: 'it returns false'. Refute it at one input. -/
def packetPubrecsWrong : ChangeSpec := { name := "packetPubrecs", fn := fun _ => fun
  | [d] => { results := [.lit (.bool false)], args := [d] }
  | _ => none }
def PacketPubrecsWrongFalsely : Prop := packetPubrecsRow.holds Tryz.pinned (OpenSpec.ofChange packetPubrecsWrong)

/-- 'dovecotelaw4.PacketPubrels': WHATEVER THE INPUT: true; the input reads as it did. -/
def packetPubrelsSpec : ChangeSpec := { name := "packetPubrels", fn := fun _ => fun
  | [d] => { results := [.lit (.bool true)], args := [d] }
  | _ => none }
def packetPubrelsRow : OpenClaim := { program := "ytdkmmmjjdlnnoaagreatdoor", sum := "b3f714db87fa0a4a486d2d9f960d42ac4186d5ebc5addb86734bc5168faf52eb", func := "dovecote/dovecotelaw4.PacketPubrels", spec := "packetPubrels", inPlace := ["internal/reflectlite.TypeOf", "internal/reflectlite.ValueOf", "(internal/reflectlite.Value).Type", "(internal/reflectlite.Value).IsNil", "(internal/reflectlite.Value).Elem", "(internal/reflectlite.Value).Set"], unfollowed := true, recurses := true, named := ["errors.errorType"], apart := false, laid := [("errors.errorType", laid_errors_errorType)] }
def PacketPubrelsSaid : Prop := packetPubrelsRow.holds Tryz.pinned (OpenSpec.ofChange packetPubrelsSpec)

/-- ITS FALSE NEIGHBOUR: 'it returns false'. Refute it at one input. -/
def packetPubrelsWrong : ChangeSpec := { name := "packetPubrels", fn := fun _ => fun
  | [d] => { results := [.lit (.bool false)], args := [d] }
  | _ => none }
def PacketPubrelsWrongFalsely : Prop := packetPubrelsRow.holds Tryz.pinned (OpenSpec.ofChange packetPubrelsWrong)

/-- 'dovecotelaw4.PacketPubcomps': WHATEVER THE INPUT: true; the input reads as it did. -/
def packetPubcompsSpec : ChangeSpec := { name := "packetPubcomps", fn := fun _ => fun
  | [d] => { results := [.lit (.bool true)], args := [d] }
  | _ => none }
def packetPubcompsRow : OpenClaim := { program := "ytdkmmmjjdlnnoaagreatdoor", sum := "b3f714db87fa0a4a486d2d9f960d42ac4186d5ebc5addb86734bc5168faf52eb", func := "dovecote/dovecotelaw4.PacketPubcomps", spec := "packetPubcomps", inPlace := ["internal/reflectlite.TypeOf", "internal/reflectlite.ValueOf", "(internal/reflectlite.Value).Type", "(internal/reflectlite.Value).IsNil", "(internal/reflectlite.Value).Elem", "(internal/reflectlite.Value).Set"], unfollowed := true, recurses := true, named := ["errors.errorType"], apart := false, laid := [("errors.errorType", laid_errors_errorType)] }
def PacketPubcompsSaid : Prop := packetPubcompsRow.holds Tryz.pinned (OpenSpec.ofChange packetPubcompsSpec)

/-- ITS FALSE NEIGHBOUR: 'it returns false'. Refute it at one input. -/
def packetPubcompsWrong : ChangeSpec := { name := "packetPubcomps", fn := fun _ => fun
  | [d] => { results := [.lit (.bool false)], args := [d] }
  | _ => none }
def PacketPubcompsWrongFalsely : Prop := packetPubcompsRow.holds Tryz.pinned (OpenSpec.ofChange packetPubcompsWrong)

/-- 'dovecotelaw4.PacketSubscribes': WHATEVER THE INPUT: true; the input reads as it did. -/
def packetSubscribesSpec : ChangeSpec := { name := "packetSubscribes", fn := fun _ => fun
  | [d] => { results := [.lit (.bool true)], args := [d] }
  | _ => none }
def packetSubscribesRow : OpenClaim := { program := "ytdkmmmjjdlnnoaagreatdoor", sum := "b3f714db87fa0a4a486d2d9f960d42ac4186d5ebc5addb86734bc5168faf52eb", func := "dovecote/dovecotelaw4.PacketSubscribes", spec := "packetSubscribes", inPlace := ["internal/reflectlite.TypeOf", "internal/reflectlite.ValueOf", "(internal/reflectlite.Value).Type", "(internal/reflectlite.Value).IsNil", "(internal/reflectlite.Value).Elem", "(internal/reflectlite.Value).Set"], unfollowed := true, recurses := true, named := ["errors.errorType"], apart := false, laid := [("errors.errorType", laid_errors_errorType)] }
def PacketSubscribesSaid : Prop := packetSubscribesRow.holds Tryz.pinned (OpenSpec.ofChange packetSubscribesSpec)

/-- ITS FALSE NEIGHBOUR: 'it returns false'. Refute it at one input. -/
def packetSubscribesWrong : ChangeSpec := { name := "packetSubscribes", fn := fun _ => fun
  | [d] => { results := [.lit (.bool false)], args := [d] }
  | _ => none }
def PacketSubscribesWrongFalsely : Prop := packetSubscribesRow.holds Tryz.pinned (OpenSpec.ofChange packetSubscribesWrong)

/-- 'dovecotelaw4.PacketSubacks': WHATEVER THE INPUT: true; the input reads as it did. -/
def packetSubacksSpec : ChangeSpec := { name := "packetSubacks", fn := fun _ => fun
  | [d] => { results := [.lit (.bool true)], args := [d] }
  | _ => none }
def packetSubacksRow : OpenClaim := { program := "ytdkmmmjjdlnnoaagreatdoor", sum := "b3f714db87fa0a4a486d2d9f960d42ac4186d5ebc5addb86734bc5168faf52eb", func := "dovecote/dovecotelaw4.PacketSubacks", spec := "packetSubacks", inPlace := ["internal/reflectlite.TypeOf", "internal/reflectlite.ValueOf", "(internal/reflectlite.Value).Type", "(internal/reflectlite.Value).IsNil", "(internal/reflectlite.Value).Elem", "(internal/reflectlite.Value).Set"], unfollowed := true, recurses := true, named := ["errors.errorType"], apart := false, laid := [("errors.errorType", laid_errors_errorType)] }
def PacketSubacksSaid : Prop := packetSubacksRow.holds Tryz.pinned (OpenSpec.ofChange packetSubacksSpec)

/-- ITS FALSE NEIGHBOUR: 'it returns false'. Refute it at one input. -/
def packetSubacksWrong : ChangeSpec := { name := "packetSubacks", fn := fun _ => fun
  | [d] => { results := [.lit (.bool false)], args := [d] }
  | _ => none }
def PacketSubacksWrongFalsely : Prop := packetSubacksRow.holds Tryz.pinned (OpenSpec.ofChange packetSubacksWrong)

/-- 'dovecotelaw4.PacketUnsubscribes': WHATEVER THE INPUT: true; the input reads as it did. -/
def packetUnsubscribesSpec : ChangeSpec := { name := "packetUnsubscribes", fn := fun _ => fun
  | [d] => { results := [.lit (.bool true)], args := [d] }
  | _ => none }
def packetUnsubscribesRow : OpenClaim := { program := "ytdkmmmjjdlnnoaagreatdoor", sum := "b3f714db87fa0a4a486d2d9f960d42ac4186d5ebc5addb86734bc5168faf52eb", func := "dovecote/dovecotelaw4.PacketUnsubscribes", spec := "packetUnsubscribes", inPlace := ["internal/reflectlite.TypeOf", "internal/reflectlite.ValueOf", "(internal/reflectlite.Value).Type", "(internal/reflectlite.Value).IsNil", "(internal/reflectlite.Value).Elem", "(internal/reflectlite.Value).Set"], unfollowed := true, recurses := true, named := ["errors.errorType"], apart := false, laid := [("errors.errorType", laid_errors_errorType)] }
def PacketUnsubscribesSaid : Prop := packetUnsubscribesRow.holds Tryz.pinned (OpenSpec.ofChange packetUnsubscribesSpec)

/-- ITS FALSE NEIGHBOUR: 'it returns false'. Refute it at one input. -/
def packetUnsubscribesWrong : ChangeSpec := { name := "packetUnsubscribes", fn := fun _ => fun
  | [d] => { results := [.lit (.bool false)], args := [d] }
  | _ => none }
def PacketUnsubscribesWrongFalsely : Prop := packetUnsubscribesRow.holds Tryz.pinned (OpenSpec.ofChange packetUnsubscribesWrong)

/-- 'dovecotelaw4.PacketUnsubacks': WHATEVER THE INPUT: true; the input reads as it did. -/
def packetUnsubacksSpec : ChangeSpec := { name := "packetUnsubacks", fn := fun _ => fun
  | [d] => { results := [.lit (.bool true)], args := [d] }
  | _ => none }
def packetUnsubacksRow : OpenClaim := { program := "ytdkmmmjjdlnnoaagreatdoor", sum := "b3f714db87fa0a4a486d2d9f960d42ac4186d5ebc5addb86734bc5168faf52eb", func := "dovecote/dovecotelaw4.PacketUnsubacks", spec := "packetUnsubacks", inPlace := ["internal/reflectlite.TypeOf", "internal/reflectlite.ValueOf", "(internal/reflectlite.Value).Type", "(internal/reflectlite.Value).IsNil", "(internal/reflectlite.Value).Elem", "(internal/reflectlite.Value).Set"], unfollowed := true, recurses := true, named := ["errors.errorType"], apart := false, laid := [("errors.errorType", laid_errors_errorType)] }
def PacketUnsubacksSaid : Prop := packetUnsubacksRow.holds Tryz.pinned (OpenSpec.ofChange packetUnsubacksSpec)

/-- ITS FALSE NEIGHBOUR: 'it returns false'. Refute it at one input. -/
def packetUnsubacksWrong : ChangeSpec := { name := "packetUnsubacks", fn := fun _ => fun
  | [d] => { results := [.lit (.bool false)], args := [d] }
  | _ => none }
def PacketUnsubacksWrongFalsely : Prop := packetUnsubacksRow.holds Tryz.pinned (OpenSpec.ofChange packetUnsubacksWrong)

/-- 'dovecotelaw4.PacketDisconnects': WHATEVER THE INPUT: true; the input reads as it did. -/
def packetDisconnectsSpec : ChangeSpec := { name := "packetDisconnects", fn := fun _ => fun
  | [d] => { results := [.lit (.bool true)], args := [d] }
  | _ => none }
def packetDisconnectsRow : OpenClaim := { program := "ytdkmmmjjdlnnoaagreatdoor", sum := "b3f714db87fa0a4a486d2d9f960d42ac4186d5ebc5addb86734bc5168faf52eb", func := "dovecote/dovecotelaw4.PacketDisconnects", spec := "packetDisconnects", inPlace := ["internal/reflectlite.TypeOf", "internal/reflectlite.ValueOf", "(internal/reflectlite.Value).Type", "(internal/reflectlite.Value).IsNil", "(internal/reflectlite.Value).Elem", "(internal/reflectlite.Value).Set"], unfollowed := true, recurses := true, named := ["errors.errorType"], apart := false, laid := [("errors.errorType", laid_errors_errorType)] }
def PacketDisconnectsSaid : Prop := packetDisconnectsRow.holds Tryz.pinned (OpenSpec.ofChange packetDisconnectsSpec)

/-- ITS FALSE NEIGHBOUR: 'it returns false'. Refute it at one input. -/
def packetDisconnectsWrong : ChangeSpec := { name := "packetDisconnects", fn := fun _ => fun
  | [d] => { results := [.lit (.bool false)], args := [d] }
  | _ => none }
def PacketDisconnectsWrongFalsely : Prop := packetDisconnectsRow.holds Tryz.pinned (OpenSpec.ofChange packetDisconnectsWrong)

/-- 'dovecotelaw4.PacketAuths': WHATEVER THE INPUT: true; the input reads as it did. -/
def packetAuthsSpec : ChangeSpec := { name := "packetAuths", fn := fun _ => fun
  | [d] => { results := [.lit (.bool true)], args := [d] }
  | _ => none }
def packetAuthsRow : OpenClaim := { program := "ytdkmmmjjdlnnoaagreatdoor", sum := "b3f714db87fa0a4a486d2d9f960d42ac4186d5ebc5addb86734bc5168faf52eb", func := "dovecote/dovecotelaw4.PacketAuths", spec := "packetAuths", inPlace := ["internal/reflectlite.TypeOf", "internal/reflectlite.ValueOf", "(internal/reflectlite.Value).Type", "(internal/reflectlite.Value).IsNil", "(internal/reflectlite.Value).Elem", "(internal/reflectlite.Value).Set"], unfollowed := true, recurses := true, named := ["errors.errorType"], apart := false, laid := [("errors.errorType", laid_errors_errorType)] }
def PacketAuthsSaid : Prop := packetAuthsRow.holds Tryz.pinned (OpenSpec.ofChange packetAuthsSpec)

/-- ITS FALSE NEIGHBOUR: 'it returns false'. Refute it at one input. -/
def packetAuthsWrong : ChangeSpec := { name := "packetAuths", fn := fun _ => fun
  | [d] => { results := [.lit (.bool false)], args := [d] }
  | _ => none }
def PacketAuthsWrongFalsely : Prop := packetAuthsRow.holds Tryz.pinned (OpenSpec.ofChange packetAuthsWrong)

/- THE SECOND FORM. 'bulk': how many values and letters a reading holds, each counted each time it is reached (what is shared counts as often as it is met; a slice's spare places count too). A statement '..UptoSaid' is the law's where the arguments, and the package variables that the reading takes, are together of bulk at most 1048576: NARROWER than '..Said'. Prove '..Said' where nothing that the law and all that it calls make is longer than what came in: it says more and counts as full. Else prove '..UptoSaid'. A law counts once. -/
mutual
def uptoBulk {H : Type} : DataW H → Nat
  | .lit (.string bytes) => bytes.length + 1
  | .lit _ => 1
  | .nil => 1
  | .ptr d => uptoBulk d + 1
  | .slice elems spare => uptoBulkAll elems + uptoBulkAll spare + 1
  | .agg parts => uptoBulkAll parts + 1
  | .iface _ d => uptoBulk d + 1
  | .map entries => uptoBulkEntries entries + 1
  | .held _ => 1
def uptoBulkAll {H : Type} : List (DataW H) → Nat
  | [] => 0
  | d :: r => uptoBulk d + uptoBulkAll r
def uptoBulkEntries {H : Type} : List (Lit × DataW H) → Nat
  | [] => 0
  | x :: r => uptoBulkEntry x + uptoBulkEntries r
def uptoBulkEntry {H : Type} : Lit × DataW H → Nat
  | (.string bytes, d) => bytes.length + uptoBulk d + 1
  | (_, d) => uptoBulk d + 1
 end
def uptoSmall : (H : Type) → List (DataW H) → Bool := fun _ ds => decide (uptoBulkAll ds ≤ 1048576)
def OpenSpec.upto (s : _root_.Go.ChangeSpec) : _root_.Go.OpenSpec := { _root_.Go.OpenSpec.ofChange s with cond := some uptoSmall }

/-- 'dovecotelaw4.PacketConnects', WHERE WHAT IT READS IS OF BULK AT MOST 1048576: true; the input reads as it did. -/
def packetConnectsUptoRow : OpenClaim := { program := "ytdkmmmjjdlnnoaagreatdoor", sum := "b3f714db87fa0a4a486d2d9f960d42ac4186d5ebc5addb86734bc5168faf52eb", func := "dovecote/dovecotelaw4.PacketConnects", spec := "packetConnects", inPlace := ["internal/reflectlite.TypeOf", "internal/reflectlite.ValueOf", "(internal/reflectlite.Value).Type", "(internal/reflectlite.Value).IsNil", "(internal/reflectlite.Value).Elem", "(internal/reflectlite.Value).Set"], unfollowed := true, recurses := true, named := ["errors.errorType"], apart := false, laid := [("errors.errorType", laid_errors_errorType)], narrowed := true }
def PacketConnectsUptoSaid : Prop := packetConnectsUptoRow.holds Tryz.pinned (OpenSpec.upto packetConnectsSpec)

/-- 'dovecotelaw4.PacketConnacks', WHERE WHAT IT READS IS OF BULK AT MOST 1048576: true; the input reads as it did. -/
def packetConnacksUptoRow : OpenClaim := { program := "ytdkmmmjjdlnnoaagreatdoor", sum := "b3f714db87fa0a4a486d2d9f960d42ac4186d5ebc5addb86734bc5168faf52eb", func := "dovecote/dovecotelaw4.PacketConnacks", spec := "packetConnacks", inPlace := ["internal/reflectlite.TypeOf", "internal/reflectlite.ValueOf", "(internal/reflectlite.Value).Type", "(internal/reflectlite.Value).IsNil", "(internal/reflectlite.Value).Elem", "(internal/reflectlite.Value).Set"], unfollowed := true, recurses := true, named := ["errors.errorType"], apart := false, laid := [("errors.errorType", laid_errors_errorType)], narrowed := true }
def PacketConnacksUptoSaid : Prop := packetConnacksUptoRow.holds Tryz.pinned (OpenSpec.upto packetConnacksSpec)

/-- 'dovecotelaw4.PacketPublishes', WHERE WHAT IT READS IS OF BULK AT MOST 1048576: true; the input reads as it did. -/
def packetPublishesUptoRow : OpenClaim := { program := "ytdkmmmjjdlnnoaagreatdoor", sum := "b3f714db87fa0a4a486d2d9f960d42ac4186d5ebc5addb86734bc5168faf52eb", func := "dovecote/dovecotelaw4.PacketPublishes", spec := "packetPublishes", inPlace := ["internal/reflectlite.TypeOf", "internal/reflectlite.ValueOf", "(internal/reflectlite.Value).Type", "(internal/reflectlite.Value).IsNil", "(internal/reflectlite.Value).Elem", "(internal/reflectlite.Value).Set"], unfollowed := true, recurses := true, named := ["errors.errorType"], apart := false, laid := [("errors.errorType", laid_errors_errorType)], narrowed := true }
def PacketPublishesUptoSaid : Prop := packetPublishesUptoRow.holds Tryz.pinned (OpenSpec.upto packetPublishesSpec)

/-- 'dovecotelaw4.PacketPubacks', WHERE WHAT IT READS IS OF BULK AT MOST 1048576: true; the input reads as it did. -/
def packetPubacksUptoRow : OpenClaim := { program := "ytdkmmmjjdlnnoaagreatdoor", sum := "b3f714db87fa0a4a486d2d9f960d42ac4186d5ebc5addb86734bc5168faf52eb", func := "dovecote/dovecotelaw4.PacketPubacks", spec := "packetPubacks", inPlace := ["internal/reflectlite.TypeOf", "internal/reflectlite.ValueOf", "(internal/reflectlite.Value).Type", "(internal/reflectlite.Value).IsNil", "(internal/reflectlite.Value).Elem", "(internal/reflectlite.Value).Set"], unfollowed := true, recurses := true, named := ["errors.errorType"], apart := false, laid := [("errors.errorType", laid_errors_errorType)], narrowed := true }
def PacketPubacksUptoSaid : Prop := packetPubacksUptoRow.holds Tryz.pinned (OpenSpec.upto packetPubacksSpec)

/-- 'dovecotelaw4.PacketPubrecs', WHERE WHAT IT READS IS OF BULK AT MOST 1048576: true; the input reads as it did. -/
def packetPubrecsUptoRow : OpenClaim := { program := "ytdkmmmjjdlnnoaagreatdoor", sum := "b3f714db87fa0a4a486d2d9f960d42ac4186d5ebc5addb86734bc5168faf52eb", func := "dovecote/dovecotelaw4.PacketPubrecs", spec := "packetPubrecs", inPlace := ["internal/reflectlite.TypeOf", "internal/reflectlite.ValueOf", "(internal/reflectlite.Value).Type", "(internal/reflectlite.Value).IsNil", "(internal/reflectlite.Value).Elem", "(internal/reflectlite.Value).Set"], unfollowed := true, recurses := true, named := ["errors.errorType"], apart := false, laid := [("errors.errorType", laid_errors_errorType)], narrowed := true }
def PacketPubrecsUptoSaid : Prop := packetPubrecsUptoRow.holds Tryz.pinned (OpenSpec.upto packetPubrecsSpec)

/-- 'dovecotelaw4.PacketPubrels', WHERE WHAT IT READS IS OF BULK AT MOST 1048576: true; the input reads as it did. -/
def packetPubrelsUptoRow : OpenClaim := { program := "ytdkmmmjjdlnnoaagreatdoor", sum := "b3f714db87fa0a4a486d2d9f960d42ac4186d5ebc5addb86734bc5168faf52eb", func := "dovecote/dovecotelaw4.PacketPubrels", spec := "packetPubrels", inPlace := ["internal/reflectlite.TypeOf", "internal/reflectlite.ValueOf", "(internal/reflectlite.Value).Type", "(internal/reflectlite.Value).IsNil", "(internal/reflectlite.Value).Elem", "(internal/reflectlite.Value).Set"], unfollowed := true, recurses := true, named := ["errors.errorType"], apart := false, laid := [("errors.errorType", laid_errors_errorType)], narrowed := true }
def PacketPubrelsUptoSaid : Prop := packetPubrelsUptoRow.holds Tryz.pinned (OpenSpec.upto packetPubrelsSpec)

/-- 'dovecotelaw4.PacketPubcomps', WHERE WHAT IT READS IS OF BULK AT MOST 1048576: true; the input reads as it did. -/
def packetPubcompsUptoRow : OpenClaim := { program := "ytdkmmmjjdlnnoaagreatdoor", sum := "b3f714db87fa0a4a486d2d9f960d42ac4186d5ebc5addb86734bc5168faf52eb", func := "dovecote/dovecotelaw4.PacketPubcomps", spec := "packetPubcomps", inPlace := ["internal/reflectlite.TypeOf", "internal/reflectlite.ValueOf", "(internal/reflectlite.Value).Type", "(internal/reflectlite.Value).IsNil", "(internal/reflectlite.Value).Elem", "(internal/reflectlite.Value).Set"], unfollowed := true, recurses := true, named := ["errors.errorType"], apart := false, laid := [("errors.errorType", laid_errors_errorType)], narrowed := true }
def PacketPubcompsUptoSaid : Prop := packetPubcompsUptoRow.holds Tryz.pinned (OpenSpec.upto packetPubcompsSpec)

/-- 'dovecotelaw4.PacketSubscribes', WHERE WHAT IT READS IS OF BULK AT MOST 1048576: true; the input reads as it did. -/
def packetSubscribesUptoRow : OpenClaim := { program := "ytdkmmmjjdlnnoaagreatdoor", sum := "b3f714db87fa0a4a486d2d9f960d42ac4186d5ebc5addb86734bc5168faf52eb", func := "dovecote/dovecotelaw4.PacketSubscribes", spec := "packetSubscribes", inPlace := ["internal/reflectlite.TypeOf", "internal/reflectlite.ValueOf", "(internal/reflectlite.Value).Type", "(internal/reflectlite.Value).IsNil", "(internal/reflectlite.Value).Elem", "(internal/reflectlite.Value).Set"], unfollowed := true, recurses := true, named := ["errors.errorType"], apart := false, laid := [("errors.errorType", laid_errors_errorType)], narrowed := true }
def PacketSubscribesUptoSaid : Prop := packetSubscribesUptoRow.holds Tryz.pinned (OpenSpec.upto packetSubscribesSpec)

/-- 'dovecotelaw4.PacketSubacks', WHERE WHAT IT READS IS OF BULK AT MOST 1048576: true; the input reads as it did. -/
def packetSubacksUptoRow : OpenClaim := { program := "ytdkmmmjjdlnnoaagreatdoor", sum := "b3f714db87fa0a4a486d2d9f960d42ac4186d5ebc5addb86734bc5168faf52eb", func := "dovecote/dovecotelaw4.PacketSubacks", spec := "packetSubacks", inPlace := ["internal/reflectlite.TypeOf", "internal/reflectlite.ValueOf", "(internal/reflectlite.Value).Type", "(internal/reflectlite.Value).IsNil", "(internal/reflectlite.Value).Elem", "(internal/reflectlite.Value).Set"], unfollowed := true, recurses := true, named := ["errors.errorType"], apart := false, laid := [("errors.errorType", laid_errors_errorType)], narrowed := true }
def PacketSubacksUptoSaid : Prop := packetSubacksUptoRow.holds Tryz.pinned (OpenSpec.upto packetSubacksSpec)

/-- 'dovecotelaw4.PacketUnsubscribes', WHERE WHAT IT READS IS OF BULK AT MOST 1048576: true; the input reads as it did. -/
def packetUnsubscribesUptoRow : OpenClaim := { program := "ytdkmmmjjdlnnoaagreatdoor", sum := "b3f714db87fa0a4a486d2d9f960d42ac4186d5ebc5addb86734bc5168faf52eb", func := "dovecote/dovecotelaw4.PacketUnsubscribes", spec := "packetUnsubscribes", inPlace := ["internal/reflectlite.TypeOf", "internal/reflectlite.ValueOf", "(internal/reflectlite.Value).Type", "(internal/reflectlite.Value).IsNil", "(internal/reflectlite.Value).Elem", "(internal/reflectlite.Value).Set"], unfollowed := true, recurses := true, named := ["errors.errorType"], apart := false, laid := [("errors.errorType", laid_errors_errorType)], narrowed := true }
def PacketUnsubscribesUptoSaid : Prop := packetUnsubscribesUptoRow.holds Tryz.pinned (OpenSpec.upto packetUnsubscribesSpec)

/-- 'dovecotelaw4.PacketUnsubacks', WHERE WHAT IT READS IS OF BULK AT MOST 1048576: true; the input reads as it did. -/
def packetUnsubacksUptoRow : OpenClaim := { program := "ytdkmmmjjdlnnoaagreatdoor", sum := "b3f714db87fa0a4a486d2d9f960d42ac4186d5ebc5addb86734bc5168faf52eb", func := "dovecote/dovecotelaw4.PacketUnsubacks", spec := "packetUnsubacks", inPlace := ["internal/reflectlite.TypeOf", "internal/reflectlite.ValueOf", "(internal/reflectlite.Value).Type", "(internal/reflectlite.Value).IsNil", "(internal/reflectlite.Value).Elem", "(internal/reflectlite.Value).Set"], unfollowed := true, recurses := true, named := ["errors.errorType"], apart := false, laid := [("errors.errorType", laid_errors_errorType)], narrowed := true }
def PacketUnsubacksUptoSaid : Prop := packetUnsubacksUptoRow.holds Tryz.pinned (OpenSpec.upto packetUnsubacksSpec)

/-- 'dovecotelaw4.PacketDisconnects', WHERE WHAT IT READS IS OF BULK AT MOST 1048576: true; the input reads as it did. -/
def packetDisconnectsUptoRow : OpenClaim := { program := "ytdkmmmjjdlnnoaagreatdoor", sum := "b3f714db87fa0a4a486d2d9f960d42ac4186d5ebc5addb86734bc5168faf52eb", func := "dovecote/dovecotelaw4.PacketDisconnects", spec := "packetDisconnects", inPlace := ["internal/reflectlite.TypeOf", "internal/reflectlite.ValueOf", "(internal/reflectlite.Value).Type", "(internal/reflectlite.Value).IsNil", "(internal/reflectlite.Value).Elem", "(internal/reflectlite.Value).Set"], unfollowed := true, recurses := true, named := ["errors.errorType"], apart := false, laid := [("errors.errorType", laid_errors_errorType)], narrowed := true }
def PacketDisconnectsUptoSaid : Prop := packetDisconnectsUptoRow.holds Tryz.pinned (OpenSpec.upto packetDisconnectsSpec)

/-- 'dovecotelaw4.PacketAuths', WHERE WHAT IT READS IS OF BULK AT MOST 1048576: true; the input reads as it did. -/
def packetAuthsUptoRow : OpenClaim := { program := "ytdkmmmjjdlnnoaagreatdoor", sum := "b3f714db87fa0a4a486d2d9f960d42ac4186d5ebc5addb86734bc5168faf52eb", func := "dovecote/dovecotelaw4.PacketAuths", spec := "packetAuths", inPlace := ["internal/reflectlite.TypeOf", "internal/reflectlite.ValueOf", "(internal/reflectlite.Value).Type", "(internal/reflectlite.Value).IsNil", "(internal/reflectlite.Value).Elem", "(internal/reflectlite.Value).Set"], unfollowed := true, recurses := true, named := ["errors.errorType"], apart := false, laid := [("errors.errorType", laid_errors_errorType)], narrowed := true }
def PacketAuthsUptoSaid : Prop := packetAuthsUptoRow.holds Tryz.pinned (OpenSpec.upto packetAuthsSpec)

end Rows
end Go.Proofs.YtdkmmmjjdlnnoaaGreatDoor
