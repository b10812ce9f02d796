/- Proved here: helper for the card of dovecotelaw5.StreamLimits: called on any readable argument it returns true and its argument reads afterwards as it did. Conditions: errors.errorType holds what the program's text lays (tied by the given tie); nothing else. -/
import Derived.Test.YtpheelbbpiieiaaGreatDoorZC4
import Derived.Test.YtpheelbbpiieiaaGreatDoorZC27
namespace Go.Proofs.YtpheelbbpiieiaaGreatDoor
open Go.ChangeShapes Go.WideShapes Go.ChangeAt Go.RowKit Go.Deep
set_option maxRecDepth 100000 in
theorem pieces_open {W:World} {base:Nat} {v:Value} (h:Value.okWide Tryz.prog W .any base 48 v):∃ lim ao len cap,v=.agg #[.int .i64 lim,.slice ao len cap]:=by
 have hu0:(match Tryz.prog.underlying 48 with | some (.struct _)=>true | _=>false)=true:=by kernel_rfl
 have hu:∃ fs,Tryz.prog.underlying 48=some (.struct fs):=by
  revert hu0
  generalize Tryz.prog.underlying 48=u
  intro hu0
  match u,hu0 with
  | some (.struct fs),_=>exact⟨fs,rfl⟩
 clear hu0
 obtain⟨fs,hu⟩:=hu
 have h':∃ cs,v=.agg cs/\cs.size=Tryz.prog.cellsOf 48/\Row.okWide Tryz.prog W .any base 48 cs:=by
  unfold Value.okWide at h
  rw[hu]at h
  exact h
 obtain⟨cs,rfl,hs,ts,hts,-,hc⟩:=h'
 have e2:Tryz.prog.cellsOf 48=2:=by kernel_rfl
 have e3:Tryz.prog.cellTypes Tryz.prog.depth 48=some [3,46]:=by kernel_rfl
 obtain rfl:ts=[3,46]:=Option.some.inj (hts.symm.trans e3)
 rw[e2]at hs
 obtain⟨a,b,rfl⟩:∃ a b,cs=#[a,b]:=by
  obtain⟨l⟩:=cs
  match l,hs with
  | [a,b],_=>exact⟨a,b,rfl⟩
 obtain⟨u,hu0,ha⟩:=hc 0 a rfl
 obtain rfl:3=u:=Option.some.inj hu0
 obtain⟨u,hu1,hb⟩:=hc 1 b rfl
 obtain rfl:46=u:=Option.some.inj hu1
 have hi:Tryz.prog.underlying 3=some (.int .i64):=by kernel_rfl
 have hl:Tryz.prog.underlying 46=some (.slice 30):=by kernel_rfl
 obtain⟨n,rfl⟩:=okWide_int (w:=W) (r:=.any) (base:=base) hi (by unfold Value.okWide;rw[hi];exact ha)
 obtain⟨ao,len,cap,rfl⟩:=okWide_slice (w:=W) (r:=.any) (base:=base) hl (by unfold Value.okWide;rw[hl];exact hb)
 exact⟨n,ao,len,cap,rfl⟩
theorem limits_calls (v:Value) (w:World) (hg:Laid w) (h:∃ lim ao len cap,v=.agg #[.int .i64 lim,.slice ao len cap]) :
  Calls Tryz.prog 5 #[v] w fun e w'=>e=.returned (.bool true)/\Below w.heap.size w w':=by
 obtain⟨lim,ao,len,cap,rfl⟩:=h
 exact K.limits_walk lim ao len cap w hg
set_option maxRecDepth 100000 in
theorem limits_lifted (os:Os) (started:os.Started) (H:Type) (enc:TypeId×Value->H) :
  ReturnsInHanded {} Tryz.checked os 5 .any (fun w args=>(Rows.streamLimitsSpec.pre enc Tryz.prog Tryz.f5 [] false w args/\laidMetH Tryz.prog laidL w)/\sizedMet enc Tryz.prog Tryz.f5 (OpenSpec.ofChange Rows.streamLimitsSpec) false w args)
   (Rows.streamLimitsSpec.post enc Tryz.prog Tryz.f5 false true false false):=by
 refine returnsInHanded_of_change_and (C:=Tryz.checked) (X:=fun w _=>laidMetH Tryz.prog laidL w) (fun _ _ _ hh h=>h.of_heap hh) Tryz.own started (by kernel_rfl) Tryz.func5
  (ChangeSpec.witness_at (enc:=enc) (C:=Tryz.checked) (os:=os) (X:=fun w _=>laidMetH Tryz.prog laidL w) false ({ World.holding Tryz.prog os ⟨#[],#[],[]⟩with heap:=(World.holding Tryz.prog os ⟨#[],#[],[]⟩).heap.modify 0 fun | .cells _ t frozen=>.cells #[.iface 163 (.agg #[.pointer (some ⟨1,35,none⟩)])] t frozen | o=>o }:World) #[.agg #[.int .i64 0,.slice none 0 0]] 8 rfl (by kernel_rfl) (by kernel_rfl) (by kernel_rfl) (by kernel_rfl) (by kernel_rfl) (laidWorld_met os _)) ?_
 intro W base args ds gs before hval0 hW _ hsz0 hL _
 have hsz:(DataW.weightsEach Tryz.prog (Tryz.f5.params.toList++Rows.streamLimitsSpec.plain.varTypes Tryz.prog) (ds++gs)).all (·<=reachBytes)=true:=hsz0
 clear hsz0
 have hval:∀ (j:Nat) t v,Tryz.f5.params[j]?=some t->args[j]?=some v->Value.okWide Tryz.prog W .any base t v:=hval0
 have hW':=hW
 obtain⟨p,q,hA0,hV0,rfl,hfz,hnd⟩:=hW
 have hA:DataW.TrodAll enc Tryz.prog W 0 (fun _=>true) true Tryz.f5.params.toList args.toList ds p:=hA0
 have hV:DataW.TrodVars enc Tryz.prog W (fun _=>true) [] gs q:=hV0
 rw[Tryz.params5]at hA hval hsz
 obtain⟨v0,d0,rfl,rfl,h0⟩:=trodAll_one hA
 have hg:=handle_of_laid hL
 obtain⟨rfl,rfl⟩:gs=[]/\q=[]:=by
  cases gs with
  | nil=>exact⟨rfl,hV⟩
  | cons g r=>exact absurd hV (by intro h;cases h)
 simp only[List.append_nil]at hW'
 have hlt:∀ x ∈ p,x.block < W.heap.size:=fun x hx=>by simpa using hW'.lt x hx
 have e1:Rows.streamLimitsSpec.fn H ([d0]++[])={ results:=[.lit (.bool true)],args:=[d0] }:=by simp[Rows.streamLimitsSpec]
 have hask:∃ lim ao len cap,v0=.agg #[.int .i64 lim,.slice ao len cap]:=pieces_open (hval 0 48 v0 rfl rfl)
 refine (limits_calls v0 W hg hask).mono fun e W' ⟨he,hb⟩=>?_
 subst he
 refine⟨_,rfl,_,_,_,[],p,[],hW',?_,?_,?_,hb.frame _,fun h=>by cases h⟩
 ·rw[e1];exact trodAll_mk1 (shut_bool Tryz.underlying4 true)
 ·rw[e1];exact trodAll_mk1 (Below.trod Tryz.laidOut (by kernel_rfl) (of_decide_eq_true (by kernel_rfl)) h0 hb hlt)
 ·rw[e1];rfl
end Go.Proofs.YtpheelbbpiieiaaGreatDoor
