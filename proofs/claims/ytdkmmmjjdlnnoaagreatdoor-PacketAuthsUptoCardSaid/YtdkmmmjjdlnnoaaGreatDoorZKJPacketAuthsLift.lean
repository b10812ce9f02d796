/- Proved here: helper for the card of dovecotelaw4.PacketAuths: called on any readable argument of bulk at most 1048576 it returns true and its argument reads afterwards as it did. Conditions: errors.errorType holds what the program's text lays (tied by the given tie). -/
import Derived.Deep.DeepHandedRow
import Derived.Test.YtdkmmmjjdlnnoaaGreatDoorZC45
import Derived.Test.YtdkmmmjjdlnnoaaGreatDoorZK15R3
namespace Go.Proofs.YtdkmmmjjdlnnoaaGreatDoor
open Go.ChangeShapes Go.WideShapes Go.ChangeAt Go.RowKit Go.Deep
open K K.W
theorem auths_calls (v:Value) (w:World) (hg:Laid w) (h:AsksB w v) :
  Calls Tryz.prog 15 #[v] w fun e w'=>e=.returned (.bool true)/\Below w.heap.size w w':=by
 go_enter Tryz.func15,Tryz.ntmps15
 go_wp2_with (go_at_call 16;refine (kind_calls 15 kindok_15 v w hg h).mono ?_;rintro e w' ⟨rfl,hb⟩)
 go_ret
 exact⟨rfl,hb⟩
set_option maxRecDepth 100000 in
theorem auths_contract (H:Type) (enc:TypeId×Value->H) (W:World) (base:Nat) (args:Array Value) (ds gs:List (DataW H)) (before:List MemPlace)
  (hval0:∀ (j:Nat) t v,Tryz.f15.params[j]?=some t->args[j]?=some v->Value.okWide Tryz.prog W .any base t v)
  (hW:DataW.Whole enc Tryz.prog Tryz.f15.params.toList Rows.packetAuthsSpec.vars false W args.toList ds gs before) (hk:Rows.uptoSmall H (ds++gs)=true) (hL:laidMetH Tryz.prog laidL W) :
  Calls Tryz.prog 15 args W fun e W'=>∃ v,e=.returned v/\Rows.packetAuthsSpec.post enc Tryz.prog Tryz.f15 false true false false W args v W':=by
 have hval:∀ (j:Nat) t v,Tryz.f15.params[j]?=some t->args[j]?=some v->Value.okWide Tryz.prog W .any base t v:=hval0
 have hW':=hW
 obtain⟨p,q,hA0,hV0,rfl,hfz,hnd⟩:=hW
 have hA:DataW.TrodAll enc Tryz.prog W 0 (fun _=>true) true Tryz.f15.params.toList args.toList ds p:=hA0
 have hV:DataW.TrodVars enc Tryz.prog W (fun _=>true) [] gs q:=hV0
 rw[Tryz.params15]at hA hval
 obtain⟨v0,d0,rfl,rfl,h0⟩:=trodAll_one hA
 have hg:=handle_of_laid hL
 obtain⟨rfl,rfl⟩:gs=[]/\q=[]:=by
  cases gs with
  | nil=>exact⟨rfl,hV⟩
  | cons g r=>exact absurd hV (by intro h;cases h)
 simp only[List.append_nil]at hW' hk
 have hbk:Rows.uptoBulk d0<=1048576:=by
  have h:=of_decide_eq_true hk
  simp only[Rows.uptoBulkAll]at h
  omega
 have hlt:∀ x ∈ p,x.block < W.heap.size:=fun x hx=>by simpa using hW'.lt x hx
 have e1:Rows.packetAuthsSpec.fn H ([d0]++[])={ results:=[.lit (.bool true)],args:=[d0] }:=by simp[Rows.packetAuthsSpec]
 have hask:AsksB W v0:=asks_openB h0 (okWide_slice Tryz.underlying22 (hval 0 22 v0 rfl rfl)) hbk
 refine (auths_calls v0 W hg hask).mono fun e W' ⟨he,hb⟩=>?_
 subst he
 refine⟨_,rfl,_,_,_,[],p,[],hW',?_,?_,?_,hb.frame _,fun h=>by cases h⟩
 ·rw[e1];exact trodAll_mk1 (shut_bool Tryz.underlying4 true)
 ·rw[e1];exact trodAll_mk1 (Below.trod Tryz.laidOut (by kernel_rfl) (of_decide_eq_true (by kernel_rfl)) h0 hb hlt)
 ·rw[e1];rfl
set_option maxRecDepth 100000 in
theorem auths_reads (os:Os) {H:Type} (enc:TypeId×Value->H):∃ places,DataW.whole enc Tryz.prog (World.forCall ({ World.holding Tryz.prog os ⟨#[],#[],[]⟩with heap:=(World.holding Tryz.prog os ⟨#[],#[],[]⟩).heap.modify 0 fun | .cells _ t frozen=>.cells #[.iface 178 (.agg #[.pointer (some ⟨1,38,none⟩)])] t frozen | o=>o }:World) (fun _ _=>0) ⟨#[],#[.slice none 0 0],[]⟩).memory Tryz.f15.params.toList Rows.packetAuthsSpec.vars false #[Value.slice none 0 0].toList 8=some ([.nil],[],places) :=
 ⟨[],by kernel_rfl⟩
set_option maxRecDepth 100000 in
theorem auths_lifted (os:Os) (started:os.Started) (H:Type) (enc:TypeId×Value->H) (F:Stop.Interp) :
  ReturnsInHanded {} Tryz.checked os 15 .any ((Rows.OpenSpec.upto Rows.packetAuthsSpec).preRow enc Tryz.prog Tryz.f15 Rows.packetAuthsUptoRow.domain false Rows.packetAuthsUptoRow.laid) (((Rows.OpenSpec.upto Rows.packetAuthsSpec).at F).post enc Tryz.prog Tryz.f15 false true false false):=by
 obtain⟨places,hx⟩:=auths_reads os enc
 refine returnsInHanded_of_row (C:=Tryz.checked) (s:=Rows.OpenSpec.upto Rows.packetAuthsSpec) Tryz.own started (by kernel_rfl) Tryz.func15
  (witness_row_at (enc:=enc) (C:=Tryz.checked) false ({ World.holding Tryz.prog os ⟨#[],#[],[]⟩with heap:=(World.holding Tryz.prog os ⟨#[],#[],[]⟩).heap.modify 0 fun | .cells _ t frozen=>.cells #[.iface 178 (.agg #[.pointer (some ⟨1,38,none⟩)])] t frozen | o=>o }:World) #[.slice none 0 0] rfl (by kernel_rfl) (by kernel_rfl) (by kernel_rfl)
   (OpenSpec.preRow_of_cond 8 hx (by kernel_rfl) (fun k hk=>by cases hk;kernel_rfl) (by kernel_rfl) (laidWorld_met os _))) ?_
 intro W base args ds gs before hval hW _ hcond _ hL _ _
 exact auths_contract H enc W base args ds gs before hval hW (hcond _ rfl) hL
end Go.Proofs.YtdkmmmjjdlnnoaaGreatDoor
