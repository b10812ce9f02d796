/- Proved here: helpers, one text behind the other. -/
import Derived.Test.YtpoeakillimibaaGreatDoorM4
import Derived.Test.YtpoeakillimibaaGreatDoorM55
namespace Go.Proofs.YtpoeakillimibaaGreatDoor
open Go.ChangeShapes Go.WideShapes Go.ChangeAt Go.RowKit Go.Deep
set_option maxRecDepth 100000
theorem Tryz.cellsBytes : Tryz.prog.cellsOf 31 = 1 := by kernel_rfl
theorem Tryz.cellsPl : Tryz.prog.cellsOf 55 = 1 := by kernel_rfl
theorem Tryz.cellsU8 : Tryz.prog.cellsOf 5 = 1 := by kernel_rfl
theorem Tryz.bytesU8 : Tryz.prog.bytesOf 5 = 1 := by kernel_rfl
theorem weights_all_mem {H : Type} {P : Program} {e : TypeId} {ds : List (DataW H)} {d : DataW H} (h : d ∈ ds) : ∀ n ∈ d.weights P e,n ∈ DataW.weightsAll P e ds := by
 induction ds with
 | nil => cases h
 | cons x r ih =>
  intro n hn
  simp only [DataW.weightsAll,List.mem_append]
  rcases List.mem_cons.1 h with rfl | h
  ·exact .inl hn
  ·exact .inr (ih h n hn)
theorem byt_of_trod {H : Type} {enc : TypeId × Value -> H} {W : World} {fuel : Nat} {v : Value} {d : DataW H} {ps : List MemPlace} (h : DataW.trod enc Tryz.prog W 0 (fun _ => true) true fuel 31 [v] = some (d,ps)) :
  ∃ bs,Byt W v bs /\ ((∀ n ∈ d.weights Tryz.prog 31,n <= reachBytes) -> bs.length <= 140737488351232) := by
 rcases open_ints Tryz.underlying31 Tryz.underlying5 Tryz.cellsU8 h with ⟨hcs,hx⟩ | ⟨a,len,cap,zs,hcs,_,hl,hm,hz,hx,hcell,hwz⟩
 ·simp at hcs
  subst hcs
  exact ⟨[],⟨none,0,rfl,⟨by simp,by simp⟩,by intro j; simp,.inl rfl⟩,fun _ => by simp⟩
 ·simp at hcs
  subst hcs
  simp only [if_true] at hz
  simp only [Prod.mk.injEq] at hx
  obtain ⟨rfl,rfl⟩ := hx
  have hr : ∀ j,0 <= (zs.take len).getD j 0 /\ (zs.take len).getD j 0 <= 255 := by
   intro j
   by_cases hj : j < (zs.take len).length
   ·have hmem : (zs.take len).getD j 0 ∈ zs := by
     rw [List.getD_eq_getElem?_getD,List.getElem?_eq_getElem hj]
     exact List.mem_of_mem_take (List.getElem_mem hj)
    have := hwz _ hmem
    have h1 : IntKind.u8.min = 0 := rfl
    have h2 : IntKind.u8.max = 255 := rfl
    simp only [Lit.wf,Bool.and_eq_true,decide_eq_true_eq] at this
    omega
   ·rw [List.getD_eq_getElem?_getD,List.getElem?_eq_none (by omega)]; simp
  have hlen : (zs.take len).length = len := by rw [List.length_take]; omega
  refine ⟨zs.take len,⟨some a,cap,by rw [hlen],⟨by rw [hlen]; exact hl,hm⟩,hr,?_⟩,?_⟩
  ·by_cases h0 : len = 0
   ·exact .inl (by rw [h0]; rfl)
   ·obtain ⟨b,off,spot⟩ := a
    have hspot : spot = none := by simpa [Addr.add] using World.cell?_spot (hcell 0 (by omega))
    subst hspot
    refine .inr ⟨b,off,rfl,fun j hj => ?_⟩
    rw [hlen] at hj
    rw [<- add_plain,hcell j (by omega),List.getD_eq_getElem?_getD,List.getD_eq_getElem?_getD,List.getElem?_take,if_pos hj]
  ·intro hw
   have := hw ((((lits (H := H) .u8 (zs.take len)).length + (lits (H := H) .u8 (zs.drop len)).length)) * Tryz.prog.bytesOf 5) (by simp [DataW.weights,Tryz.underlying31])
   rw [Tryz.bytesU8] at this
   simp only [lits,List.length_map,List.length_take,List.length_drop,reachBytes] at this
   rw [hlen]
   omega
set_option maxRecDepth 100000 in
theorem pieces_open {W : World} {base : Nat} {v : Value} (h : Value.okWide Tryz.prog W .any base 57 v) : ∃ lim ao len cap,v = .agg #[.int .i64 lim,.slice ao len cap] := by
 have hu0 : (match Tryz.prog.underlying 57 with | some (.struct _) => true | _ => false) = true := by kernel_rfl
 have hu : ∃ fs,Tryz.prog.underlying 57 = some (.struct fs) := by
  revert hu0
  generalize Tryz.prog.underlying 57 = u
  intro hu0
  match u,hu0 with
  | some (.struct fs),_ => exact ⟨fs,rfl⟩
 clear hu0
 obtain ⟨fs,hu⟩ := hu
 have h' : ∃ cs,v = .agg cs /\ cs.size = Tryz.prog.cellsOf 57 /\ Row.okWide Tryz.prog W .any base 57 cs := by
  unfold Value.okWide at h
  rw [hu] at h
  exact h
 obtain ⟨cs,rfl,hs,ts,hts,-,hc⟩ := h'
 have e2 : Tryz.prog.cellsOf 57 = 2 := by kernel_rfl
 have e3 : Tryz.prog.cellTypes Tryz.prog.depth 57 = some [3,55] := by kernel_rfl
 obtain rfl : ts = [3,55] := Option.some.inj (hts.symm.trans e3)
 rw [e2] at hs
 obtain ⟨a,b,rfl⟩ : ∃ a b,cs = #[a,b] := by
  obtain ⟨l⟩ := cs
  match l,hs with
  | [a,b],_ => exact ⟨a,b,rfl⟩
 obtain ⟨u,hu0,ha⟩ := hc 0 a rfl
 obtain rfl : 3 = u := Option.some.inj hu0
 obtain ⟨u,hu1,hb⟩ := hc 1 b rfl
 obtain rfl : 55 = u := Option.some.inj hu1
 have hi : Tryz.prog.underlying 3 = some (.int .i64) := by kernel_rfl
 have hl : Tryz.prog.underlying 55 = some (.slice 31) := by kernel_rfl
 obtain ⟨n,rfl⟩ := okWide_int (w := W) (r := .any) (base := base) hi (by unfold Value.okWide; rw [hi]; exact ha)
 obtain ⟨ao,len,cap,rfl⟩ := okWide_slice (w := W) (r := .any) (base := base) hl (by unfold Value.okWide; rw [hl]; exact hb)
 exact ⟨n,ao,len,cap,rfl⟩
def PiecesB (W : World) (v : Value) : Prop :=
 ∃ lim ao len cap,v = .agg #[.int .i64 lim,.slice ao len cap] /\ len <= maxLen /\ (len = 0 \/ ∃ b off,ao = some ⟨b,off,none⟩ /\ ∃ (vb : Nat -> Value) (bs : Nat -> List Int),∀ k,k < len -> K.PieceB W b off k (vb k) (bs k))
theorem pieces_openB {H : Type} {enc : TypeId × Value -> H} {W : World} {v : Value} {d : DataW H} {ps : List MemPlace} (h : DataW.Trod enc Tryz.prog W 0 (fun _ => true) true 57 v d ps) (hs : ∃ lim ao len cap,v = .agg #[.int .i64 lim,.slice ao len cap])
  (hw : ∀ n ∈ d.weights Tryz.prog 57,n <= reachBytes) : PiecesB W v := by
 obtain ⟨lim,ao,len,cap,rfl⟩ := hs
 obtain ⟨fuel,hf⟩ := h
 refine ⟨lim,ao,len,cap,rfl,?_⟩
 obtain ⟨xs,k,hk,hxy,_,hxl,hfl⟩ := DataW.trod_struct Tryz.underlying57 hf
 match xs,hxl with
 | [y0,y1],_ =>
  have g1 := hfl 1 _ rfl
  simp [Tryz.cellsPl] at g1
  obtain ⟨d1,p1'⟩ := y1
  have g2 : DataW.trod enc Tryz.prog W 0 (fun _ => true) true k 55 [Value.slice ao len cap] = some (d1,p1') := by simpa [Value.cells] using g1
  clear g1
  rcases open_slice Tryz.underlying55 g2 with ⟨hcs,hx⟩ | ⟨a,len',cap',m,n,D,Pl,hcs,_,hl,hm,hmm,hx,hel⟩
  ·simp at hcs
   obtain ⟨rfl,rfl,rfl⟩ := hcs
   exact ⟨by simp,.inl rfl⟩
  ·simp at hcs
   obtain ⟨rfl,rfl,rfl⟩ := hcs
   refine ⟨by omega,?_⟩
   simp only [if_true] at hmm
   subst hmm
   by_cases h0 : len = 0
   ·exact .inl h0
   right
   simp only [Prod.mk.injEq] at hx hxy
   obtain ⟨rfl,_⟩ := hx
   rw [Tryz.cellsBytes] at hel
   obtain ⟨b,off,spot⟩ := a
   have hspot : spot = none := by
    obtain ⟨cs',h1,_⟩ := hel 0 (by omega)
    obtain ⟨_,hlen,hcell⟩ := World.cells?_some h1
    have hc := hcell 0 (by omega)
    rw [List.getElem?_eq_getElem (by omega)] at hc
    simpa [Addr.add] using World.cell?_spot hc
   subst hspot
   have key : ∀ i,i < len -> ∃ x : Value × List Int,K.PieceB W b off i x.1 x.2 := by
    intro i hi
    obtain ⟨cs',h1,h2⟩ := hel i (by omega)
    obtain ⟨_,hlen,hcell⟩ := World.cells?_some h1
    match cs',hlen with
    | [v],_ =>
     obtain ⟨bs,hb,hbl⟩ := byt_of_trod h2
     have e0 := hcell 0 (by omega)
     rw [add_add,add_plain] at e0
     have hD : ∀ n,n ∈ (D i).weights Tryz.prog 31 -> n <= reachBytes := fun n hn => hw n (by
      have h3 := weights_all_mem (P := Tryz.prog) (e := 31) (ds := (List.range len).map D) (d := D i) (List.mem_map.2 ⟨i,List.mem_range.2 hi,rfl⟩) n hn
      rw [hxy.1]
      simp only [DataW.weights,Tryz.underlying57,Tryz.underlying55,DataW.weightsEach,List.map,List.mem_append,List.mem_cons]
      exact .inr (.inl (.inr (.inl h3))))
     exact ⟨(v,bs),by simpa [Nat.add_assoc] using e0,hb,hbl hD⟩
   obtain ⟨f,hf'⟩ := choose_lt key
   exact ⟨b,off,rfl,fun k => (f k).1,fun k => (f k).2,fun k hk => hf' k hk⟩
theorem exact_calls (v : Value) (w : World) (hg : Laid w) (h : PiecesB w v) :
  Calls Tryz.prog 20 #[v] w fun e w' => e = .returned (.bool true) /\ Below w.heap.size w w' := by
 obtain ⟨lim,ao,len,cap,rfl,hlen,h0 | ⟨b,off,rfl,vb,bs,hk⟩⟩ := h
 ·subst h0
  exact K.exact_walk0 lim ao cap w hg
 ·exact K.exact_walk lim b off len cap vb bs w hlen hg hk
set_option maxRecDepth 100000 in
theorem exact_lifted (os : Os) (started : os.Started) (H : Type) (enc : TypeId × Value -> H) :
  ReturnsInHanded {} Tryz.checked os 20 .any (fun w args => (Rows.streamExactSpec.pre enc Tryz.prog Tryz.f20 [] false w args /\ laidMetH Tryz.prog laidL w) /\ sizedMet enc Tryz.prog Tryz.f20 (OpenSpec.ofChange Rows.streamExactSpec) false w args)
   (Rows.streamExactSpec.post enc Tryz.prog Tryz.f20 false true false false) := by
 refine returnsInHanded_of_change_and (C := Tryz.checked) (X := fun w _ => laidMetH Tryz.prog laidL w) (fun _ _ _ hh h => h.of_heap hh) Tryz.own started (by kernel_rfl) Tryz.func20
  (ChangeSpec.witness_at (enc := enc) (C := Tryz.checked) (os := os) (X := fun w _ => laidMetH Tryz.prog laidL w) false ({ World.holding Tryz.prog os ⟨#[],#[],[]⟩ with heap := (World.holding Tryz.prog os ⟨#[],#[],[]⟩).heap.modify 0 fun | .cells _ t frozen => .cells #[.iface 199 (.agg #[.pointer (some ⟨1,37,none⟩)])] t frozen | o => o } : World) #[.agg #[.int .i64 0,.slice none 0 0]] 8 rfl (by kernel_rfl) (by kernel_rfl) (by kernel_rfl) (by kernel_rfl) (by kernel_rfl) (laidWorld_met os _)) ?_
 intro W base args ds gs before hval0 hW _ hsz0 hL _
 have hsz : (DataW.weightsEach Tryz.prog (Tryz.f20.params.toList ++ Rows.streamExactSpec.plain.varTypes Tryz.prog) (ds ++ gs)).all (· <= reachBytes) = true := hsz0
 clear hsz0
 have hval : ∀ (j : Nat) t v,Tryz.f20.params[j]? = some t -> args[j]? = some v -> Value.okWide Tryz.prog W .any base t v := hval0
 have hW' := hW
 obtain ⟨p,q,hA0,hV0,rfl,hfz,hnd⟩ := hW
 have hA : DataW.TrodAll enc Tryz.prog W 0 (fun _ => true) true Tryz.f20.params.toList args.toList ds p := hA0
 have hV : DataW.TrodVars enc Tryz.prog W (fun _ => true) [] gs q := hV0
 rw [Tryz.params20] at hA hval hsz
 obtain ⟨v0,d0,rfl,rfl,h0⟩ := trodAll_one hA
 have hg := handle_of_laid hL
 obtain ⟨rfl,rfl⟩ : gs = [] /\ q = [] := by
  cases gs with
  | nil => exact ⟨rfl,hV⟩
  | cons g r => exact absurd hV (by intro h; cases h)
 simp only [List.append_nil] at hW'
 have hlt : ∀ x ∈ p,x.block < W.heap.size := fun x hx => by simpa using hW'.lt x hx
 have e1 : Rows.streamExactSpec.fn H ([d0] ++ []) = { results := [.lit (.bool true)],args := [d0] } := by simp [Rows.streamExactSpec]
 have hask : PiecesB W v0 := pieces_openB h0 (pieces_open (hval 0 57 v0 rfl rfl)) (fun n hn => by
  have := List.all_eq_true.1 hsz n (DataW.weights_mem_each (j := 0) rfl rfl n hn)
  simpa using this)
 refine (exact_calls v0 W hg hask).mono fun e W' ⟨he,hb⟩ => ?_
 subst he
 refine ⟨_,rfl,_,_,_,[],p,[],hW',?_,?_,?_,hb.frame _,fun h => by cases h⟩
 ·rw [e1]; exact trodAll_mk1 (shut_bool Tryz.underlying4 true)
 ·rw [e1]; exact trodAll_mk1 (Below.trod Tryz.laidOut (by kernel_rfl) (of_decide_eq_true (by kernel_rfl)) h0 hb hlt)
 ·rw [e1]; rfl
theorem exact_k9 : (Rows.streamExactRow.inPlace == Tryz.prog.inPlace 20) = true := by kernel_rfl
theorem exact_k10 : (Rows.streamExactRow.unfollowed == Tryz.prog.unfollowed 20) = true := by kernel_rfl
theorem exact_k11 : (Rows.streamExactRow.recurses == Tryz.prog.recurses 20) = true := by kernel_rfl
theorem exact_k12 : (Rows.streamExactRow.named == Tryz.prog.varsNamed 20) = true := by kernel_rfl
theorem exact_joined : joinedFacts Tryz.prog 20 Tryz.f20 Rows.streamExactSpec Rows.streamExactRow = true := joined_parts _ _ _ _ _ (by kernel_rfl) Tryz.laidOut (by kernel_rfl) (by kernel_rfl) (by kernel_rfl) (by kernel_rfl) (by kernel_rfl) (by kernel_rfl) (by kernel_rfl) exact_k9 exact_k10 exact_k11 exact_k12 (by kernel_rfl) (by kernel_rfl) (by kernel_rfl) (by kernel_rfl) (by kernel_rfl) (by kernel_rfl) (by kernel_rfl) (by kernel_rfl) (by kernel_rfl) (by kernel_rfl) (by kernel_rfl) (by kernel_rfl) io_enter (by rw [io_lifts]; kernel_rfl) (by rw [io_make]; kernel_rfl) (by kernel_rfl) (by kernel_rfl) (by kernel_rfl) (by kernel_rfl)
theorem exact_row : Rows.StreamExactSaid :=
 OpenClaim.holds_of_wide 20 Tryz.f20 rfl rfl rfl rfl rfl rfl rfl ⟨rfl,rfl,rfl,rfl,rfl⟩ rfl rfl rfl rfl rfl (by kernel_rfl) Tryz.func20 exact_joined
  (of_decide_eq_true (by kernel_rfl)) (by unfold Func.isWrapper; rw [if_neg (of_decide_eq_false (by kernel_rfl))]; exact ⟨rfl,rfl⟩)
  (fun os started H enc _ => exact_lifted os started H enc)
end Go.Proofs.YtpoeakillimibaaGreatDoor
