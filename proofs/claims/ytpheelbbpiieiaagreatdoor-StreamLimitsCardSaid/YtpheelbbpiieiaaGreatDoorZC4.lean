/- Proved here: helpers, one text behind the other. -/
import Derived.Test.YtpheelbbpiieiaaGreatDoorRows
import Derived.ProofKit
import Derived.SizedLaws
import Derived.Deep.SlicePairs
import Derived.ChangeSame
import Derived.ChangeVars
import Derived.JoinedOf
import Derived.RowKit
import Derived.RowKitTokens
import Derived.LaidLaws
import Derived.LaidHandle
import Derived.Stop.Joined
import Derived.Test.YtpheelbbpiieiaaGreatDoorZC1
import Derived.Test.YtpheelbbpiieiaaGreatDoorZC3
namespace Go.Proofs.YtpheelbbpiieiaaGreatDoor
open Go.ChangeShapes Go.WideShapes Go.ChangeAt Go.RowKit Go.Deep
theorem Tryz.own:ownKnob Tryz.prog.godebug=none:=by kernel_rfl
theorem Tryz.laidOut:laidOutB Tryz.prog=true:=by kernel_rfl
theorem Tryz.et:Tryz.prog.globalNamed "errors.errorType" = some 0:=by kernel_rfl
theorem Tryz.rt:(Tryz.prog.cutTypes.find? (·.1 == "internal/reflectlite.rtype")).map (·.2)=some 163:=by kernel_rfl
theorem Tryz.oneRow:((List.range 266).filter fun t=>Tryz.prog.rowNamed t [101,114,114,111,114])=[35]:=by kernel_rfl
theorem Tryz.tsize:Tryz.prog.types.size=266:=by kernel_rfl
def laidL:List (String×DataW Unit):=[("errors.errorType",Rows.laid_errors_errorType)]
theorem handle_of_laid {W:World} (h:laidMetH Tryz.prog laidL W):Laid W:=by
 have h':laidMet Tryz.prog [] W/\handlesMet Tryz.prog laidL W:=h
 obtain⟨name,u,ty,e1,e2,e3,e4,e5⟩:=h'.2 _ (List.mem_singleton.2 rfl)
 have en:name=[101,114,114,111,114]:=(Option.some.inj e1).symm
 subst en
 obtain rfl:=Option.some.inj (Tryz.rt.symm.trans e2)
 have hm:ty ∈ (List.range 266).filter fun t=>Tryz.prog.rowNamed t [101,114,114,111,114]:=List.mem_filter.2 ⟨List.mem_range.2 (by rw[<- Tryz.tsize];exact e3),e4⟩
 rw[Tryz.oneRow]at hm
 obtain rfl:=List.mem_singleton.1 hm
 have hh:typeHandle Tryz.prog 35=.pointer (some ⟨1,35,none⟩):=by kernel_rfl
 rw[hh]at e5
 unfold Laid
 simpa using World.var?_cell Tryz.et e5 0
theorem laidWorld_met (os:Os) (args:Array Value):laidMetH Tryz.prog laidL (World.forCall ({ World.holding Tryz.prog os ⟨#[],#[],[]⟩with heap:=(World.holding Tryz.prog os ⟨#[],#[],[]⟩).heap.modify 0 fun | .cells _ t frozen=>.cells #[.iface 163 (.agg #[.pointer (some ⟨1,35,none⟩)])] t frozen | o=>o }:World) (fun _ _=>0) ⟨#[],args,[]⟩).memory :=
 laidMetH_of_parts (laidMet_nil _ _) (by kernel_rfl)
set_option maxRecDepth 100000
set_option maxHeartbeats 2000000
def ioC:List Char:=List.map Char.ofNat [104,97,114,110,101,115,115,32,98,101,99,100,49,50,99,50,99,55,102,99,53,52,98,56,53,52,50,99,57,54,51,49,49,50,52,49,102,49,56,57,50,50,101,48,56,53,53,53,100,49,51,100,48,54,51,102,56,53,52,99,52,100,102,102,99,101,51,55,98,51,53,50,32,99,117,116,32,97,116,32,100,111,118,101,99,111,116,101,47,100,111,118,101,99,111,116,101,108,97,119,52,46,80,97,99,107,101,116,68,101,99,111,100,101,115,32,100,111,118,101,99,111,116,101,47,100,111,118,101,99,111,116,101,108,97,119,53,46,83,116,114,101,97,109,69,120,97,99,116,32,100,111,118,101,99,111,116,101,47,100,111,118,101,99,111,116,101,108,97,119,53,46,83,116,114,101,97,109,76,105,109,105,116,115]
def ioW:List (List Char):=List.map (List.map Char.ofNat) [[99,117,116],[97,116],[100,111,118,101,99,111,116,101,47,100,111,118,101,99,111,116,101,108,97,119,52,46,80,97,99,107,101,116,68,101,99,111,100,101,115],[100,111,118,101,99,111,116,101,47,100,111,118,101,99,111,116,101,108,97,119,53,46,83,116,114,101,97,109,69,120,97,99,116],[100,111,118,101,99,111,116,101,47,100,111,118,101,99,111,116,101,108,97,119,53,46,83,116,114,101,97,109,76,105,109,105,116,115]]
def ioS:List Char:=List.map Char.ofNat [98,101,99,100,49,50,99,50,99,55,102,99,53,52,98,56,53,52,50,99,57,54,51,49,49,50,52,49,102,49,56,57,50,50,101,48,56,53,53,53,100,49,51,100,48,54,51,102,56,53,52,99,52,100,102,102,99,101,51,55,98,51,53,50]
theorem io_is:Tryz.prog.initOrder=String.ofList ioC:=by kernel_rfl
theorem io_chars:Tryz.prog.initOrder.toList=ioC:=by rw[io_is];exact String.toList_ofList
theorem io_words1:wordsSigns ioC = "harness".toList :: ioS :: ioW:=by kernel_rfl
theorem io_sum:isSumSigns ioS=true:=by kernel_rfl
theorem io_words2:wordsSigns Tryz.prog.initOrder.toList = "harness".toList :: ioS :: ioW:=by rw[io_chars];exact io_words1
theorem behind_harness (s:List Char) (r:List (List Char)) (h:isSumSigns s=true):behindMainWord ("harness".toList :: s :: r)=r:=by
 unfold behindMainWord
 dsimp only
 rw[h]
 rfl
theorem io_words:behindMainWord (wordsSigns Tryz.prog.initOrder.toList)=ioW:=by rw[io_words2];exact behind_harness _ _ io_sum
theorem main_harness (P:Program) (s:List Char) (r:List (List Char)) (h:wordsSigns P.initOrder.toList = "harness".toList :: s :: r) (hs:isSumSigns s=true):P.mainIs=some (true,s):=by
 unfold Program.mainIs
 rw[h]
 dsimp only
 rw[hs]
 rfl
theorem io_sumIs:ioS = "becd12c2c7fc54b8542c96311241f18922e08555d13d063f854c4dffce37b352".toList:=by
 rw[show "becd12c2c7fc54b8542c96311241f18922e08555d13d063f854c4dffce37b352" = String.ofList ioS by kernel_rfl]
 exact String.toList_ofList.symm
theorem io_main:Tryz.prog.mainIs=some (true, "becd12c2c7fc54b8542c96311241f18922e08555d13d063f854c4dffce37b352".toList):=by rw[<- io_sumIs];exact main_harness _ _ _ io_words2 io_sum
theorem make_cut (P:Program) (r:List (List Char)) (h:behindMainWord (wordsSigns P.initOrder.toList) = "cut".toList :: r):P.make=some .cut:=by
 unfold Program.make
 rw[h]
 rfl
theorem strip_cut (r:List (List Char)):stripLifts liftWords ("cut".toList :: r)=([], "cut".toList :: r):=by rfl
theorem enter_cut (P:Program) (r:List (List Char)) (h:behindMainWord (wordsSigns P.initOrder.toList) = "cut".toList :: r) (hl:P.laysLater=false) (hr:P.bearsReflect=false) (hd:P.doorFits []=true):P.mayEnter=true:=by
 unfold Program.mayEnter
 rw[h]
 dsimp only
 rw[strip_cut,hl,hr]
 dsimp only
 rw[hd]
 rfl
theorem lifts_cut (P:Program) (r:List (List Char)) (h:behindMainWord (wordsSigns P.initOrder.toList) = "cut".toList :: r):P.liftsFinal=false:=by
 unfold Program.liftsFinal Program.headLifts
 rw[h,strip_cut]
 rfl
theorem io_cut:ioW = "cut".toList :: ioW.tail:=by kernel_rfl
theorem io_w:behindMainWord (wordsSigns Tryz.prog.initOrder.toList) = "cut".toList :: ioW.tail:=io_words.trans io_cut
theorem io_make:Tryz.prog.make=some .cut:=make_cut _ _ io_w
theorem io_lifts:Tryz.prog.liftsFinal=false:=lifts_cut _ _ io_w
theorem io_lays:Tryz.prog.laysLater=false:=by kernel_rfl
theorem io_refl:Tryz.prog.bearsReflect=false:=by kernel_rfl
theorem io_door:Tryz.prog.doorFits []=true:=by kernel_rfl
theorem io_enter:Tryz.prog.mayEnter=true:=enter_cut _ _ io_w io_lays io_refl io_door
theorem andT {a b:Bool} (h1:a=true) (h2:b=true):(a && b)=true:=by rw[h1,h2];rfl
theorem joined_parts (P:Program) (f:FuncId) (fn:Func) (s:ChangeSpec) (c:OpenClaim) (k0:c.wf (OpenSpec.ofChange s)=true) (k1:laidOutB P=true) (k2:mapsRowed P=true) (k3:(fn.params.all (P.readableRec ·))=true) (k4:namedTie P c.named s.vars=true) (k5:(c.stops == [])=true) (k6:(P.stops == [])=true) (k7:(c.knobs == [])=true) (k8:(P.stopKnobs == [])=true) (k9:(c.inPlace == P.inPlace f)=true) (k10:(c.unfollowed == P.unfollowed f)=true) (k11:(c.recurses == P.recurses f)=true) (k12:(c.named == P.varsNamed f)=true) (k13:(c.maps == (fn.params.toList++s.plain.varTypes P).any (P.mapsRec ·))=true) (k14:(c.ifaces == (fn.params.toList++s.plain.varTypes P).any (P.ifacesRec ·))=true) (k15:(c.mapsOut == P.mapsAmong fn.resultTypes.toList)=true) (k16:(c.loops == (fn.params.toList++s.plain.varTypes P).any (P.loopsFrom ·))=true) (k17:(c.wideKeys == (fn.params.toList++s.plain.varTypes P++fn.resultTypes.toList).any (P.wideKeysFrom ·))=true) (k18:s.vars.all (P.varReadable ·)=true) (k19:fn.resultTypes.all (fun t=>P.readableRec t && decide (t < P.types.size))=true) (k20:(c.ifacesOut == fn.resultTypes.toList.any (P.ifacesRec ·))=true) (k21:(c.loopsOut == fn.resultTypes.toList.any (P.loopsFrom ·))=true) (k22:(c.plainKeys == P.plainKeys)=true) (k23:c.shortTexts.isNone=true) (k24:P.stopsHeard=true) (k25:P.mayEnter=true) (k26:(c.lifted == P.liftsFinal)=true) (k27:(P.make == some c.make)=true) (k28:(c.kinds == (if c.domain.isEmpty then [] else fn.params.toList.map fun t=>match P.underlying t with | some (.int k)=>some k | _=>none))=true) (k29:(c.pinned == c.pinnedBy)=true) (k30:(c.veiled == (fn.params.toList++s.plain.varTypes P++fn.resultTypes.toList).any (P.veiledRec ·))=true) (k31:c.veiledFits P fn.params.toList (fn.params.toList++s.plain.varTypes P++fn.resultTypes.toList)=true):joinedFacts P f fn s c=true:=by
 unfold joinedFacts
 exact (andT (andT (andT (andT (andT (andT (andT (andT (andT (andT (andT (andT (andT (andT (andT (andT (andT (andT (andT (andT (andT (andT (andT (andT (andT (andT (andT (andT (andT (andT (andT k0 k1) k2) k3) k4) k5) k6) k7) k8) k9) k10) k11) k12) k13) k14) k15) k16) k17) k18) k19) k20) k21) k22) k23) k24) k25) k26) k27) k28) k29) k30) k31)
end Go.Proofs.YtpheelbbpiieiaaGreatDoor
