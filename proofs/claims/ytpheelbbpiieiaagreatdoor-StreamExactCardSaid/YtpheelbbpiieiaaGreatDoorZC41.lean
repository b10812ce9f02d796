/- Proved here: helpers, one text behind the other. -/
import Derived.Test.YtpheelbbpiieiaaGreatDoorZC4
import Derived.Test.YtpheelbbpiieiaaGreatDoorZC40
namespace Go.Proofs.YtpheelbbpiieiaaGreatDoor
open Go.ChangeShapes Go.WideShapes Go.ChangeAt Go.RowKit Go.Deep
set_option maxRecDepth 100000
theorem Tryz.cellsBytes:Tryz.prog.cellsOf 30=1:=by kernel_rfl
theorem Tryz.cellsPl:Tryz.prog.cellsOf 46=1:=by kernel_rfl
theorem Tryz.cellsU8:Tryz.prog.cellsOf 5=1:=by kernel_rfl
theorem Tryz.bytesU8:Tryz.prog.bytesOf 5=1:=by kernel_rfl
theorem weights_all_mem {H:Type} {P:Program} {e:TypeId} {ds:List (DataW H)} {d:DataW H} (h:d ∈ ds):∀ n ∈ d.weights P e,n ∈ DataW.weightsAll P e ds:=by
 induction ds with
 | nil=>cases h
 | cons x r ih =>
  intro n hn
  simp only[DataW.weightsAll,List.mem_append]
  rcases List.mem_cons.1 h with rfl | h
  ·exact .inl hn
  ·exact .inr (ih h n hn)
theorem byt_of_trod {H:Type} {enc:TypeId×Value->H} {W:World} {fuel:Nat} {v:Value} {d:DataW H} {ps:List MemPlace} (h:DataW.trod enc Tryz.prog W 0 (fun _=>true) true fuel 30 [v]=some (d,ps)) :
  ∃ bs,Byt W v bs/\((∀ n ∈ d.weights Tryz.prog 30,n<=reachBytes)->bs.length<=140737488351232):=by
 rcases open_ints Tryz.underlying30 Tryz.underlying5 Tryz.cellsU8 h with⟨hcs,hx⟩ | ⟨a,len,cap,zs,hcs,_,hl,hm,hz,hx,hcell,hwz⟩
 ·simp at hcs
  subst hcs
  exact⟨[],⟨none,0,rfl,⟨by simp,by simp⟩,by intro j;simp,.inl rfl⟩,fun _=>by simp⟩
 ·simp at hcs
  subst hcs
  simp only[if_true]at hz
  simp only[Prod.mk.injEq]at hx
  obtain⟨rfl,rfl⟩:=hx
  have hr:∀ j,0<=(zs.take len).getD j 0/\(zs.take len).getD j 0<=255:=by
   intro j
   by_cases hj:j < (zs.take len).length
   ·have hmem:(zs.take len).getD j 0 ∈ zs:=by
     rw[List.getD_eq_getElem?_getD,List.getElem?_eq_getElem hj]
     exact List.mem_of_mem_take (List.getElem_mem hj)
    have:=hwz _ hmem
    have h1:IntKind.u8.min=0:=rfl
    have h2:IntKind.u8.max=255:=rfl
    simp only[Lit.wf,Bool.and_eq_true,decide_eq_true_eq]at this
    omega
   ·rw[List.getD_eq_getElem?_getD,List.getElem?_eq_none (by omega)];simp
  have hlen:(zs.take len).length=len:=by rw[List.length_take];omega
  refine⟨zs.take len,⟨some a,cap,by rw[hlen],⟨by rw[hlen];exact hl,hm⟩,hr,?_⟩,?_⟩
  ·by_cases h0:len=0
   ·exact .inl (by rw[h0];rfl)
   ·obtain⟨b,off,spot⟩:=a
    have hspot:spot=none:=by simpa [Addr.add] using World.cell?_spot (hcell 0 (by omega))
    subst hspot
    refine .inr ⟨b,off,rfl,fun j hj=>?_⟩
    rw[hlen]at hj
    rw[<- add_plain,hcell j (by omega),List.getD_eq_getElem?_getD,List.getD_eq_getElem?_getD,List.getElem?_take,if_pos hj]
  ·intro hw
   have:=hw ((((lits (H:=H) .u8 (zs.take len)).length+(lits (H:=H) .u8 (zs.drop len)).length)) * Tryz.prog.bytesOf 5) (by simp[DataW.weights,Tryz.underlying30])
   rw[Tryz.bytesU8]at this
   simp only[lits,List.length_map,List.length_take,List.length_drop,reachBytes]at this
   rw[hlen]
   omega
set_option maxRecDepth 100000 in
theorem pieces_open {W:World} {base:Nat} {v:Value} (h:Value.okWide Tryz.prog W .any base 48 v):∃ lim ao len cap,v=.agg #[.int .i64 lim,.slice ao len cap]:=by
 have hu0:(match Tryz.prog.underlying 48 with | some (.struct _)=>true | _=>false)=true:=by kernel_rfl
 have hu:∃ fs,Tryz.prog.underlying 48=some (.struct fs):=by
  revert hu0
  generalize Tryz.prog.underlying 48=u
  intro hu0
  match u,hu0 with
  | some (.struct fs),_=>exact⟨fs,rfl⟩
 clear hu0
 obtain⟨fs,hu⟩:=hu
 have h':∃ cs,v=.agg cs/\cs.size=Tryz.prog.cellsOf 48/\Row.okWide Tryz.prog W .any base 48 cs:=by
  unfold Value.okWide at h
  rw[hu]at h
  exact h
 obtain⟨cs,rfl,hs,ts,hts,-,hc⟩:=h'
 have e2:Tryz.prog.cellsOf 48=2:=by kernel_rfl
 have e3:Tryz.prog.cellTypes Tryz.prog.depth 48=some [3,46]:=by kernel_rfl
 obtain rfl:ts=[3,46]:=Option.some.inj (hts.symm.trans e3)
 rw[e2]at hs
 obtain⟨a,b,rfl⟩:∃ a b,cs=#[a,b]:=by
  obtain⟨l⟩:=cs
  match l,hs with
  | [a,b],_=>exact⟨a,b,rfl⟩
 obtain⟨u,hu0,ha⟩:=hc 0 a rfl
 obtain rfl:3=u:=Option.some.inj hu0
 obtain⟨u,hu1,hb⟩:=hc 1 b rfl
 obtain rfl:46=u:=Option.some.inj hu1
 have hi:Tryz.prog.underlying 3=some (.int .i64):=by kernel_rfl
 have hl:Tryz.prog.underlying 46=some (.slice 30):=by kernel_rfl
 obtain⟨n,rfl⟩:=okWide_int (w:=W) (r:=.any) (base:=base) hi (by unfold Value.okWide;rw[hi];exact ha)
 obtain⟨ao,len,cap,rfl⟩:=okWide_slice (w:=W) (r:=.any) (base:=base) hl (by unfold Value.okWide;rw[hl];exact hb)
 exact⟨n,ao,len,cap,rfl⟩
def PiecesB (W:World) (v:Value):Prop :=
 ∃ lim ao len cap,v=.agg #[.int .i64 lim,.slice ao len cap]/\len<=maxLen/\(len=0\/∃ b off,ao=some ⟨b,off,none⟩/\∃ (vb:Nat->Value) (bs:Nat->List Int),∀ k,k < len->K.PieceB W b off k (vb k) (bs k))
theorem pieces_openB {H:Type} {enc:TypeId×Value->H} {W:World} {v:Value} {d:DataW H} {ps:List MemPlace} (h:DataW.Trod enc Tryz.prog W 0 (fun _=>true) true 48 v d ps) (hs:∃ lim ao len cap,v=.agg #[.int .i64 lim,.slice ao len cap])
  (hw:∀ n ∈ d.weights Tryz.prog 48,n<=reachBytes):PiecesB W v:=by
 obtain⟨lim,ao,len,cap,rfl⟩:=hs
 obtain⟨fuel,hf⟩:=h
 refine⟨lim,ao,len,cap,rfl,?_⟩
 obtain⟨xs,k,hk,hxy,_,hxl,hfl⟩:=DataW.trod_struct Tryz.underlying48 hf
 match xs,hxl with
 | [y0,y1],_ =>
  have g1:=hfl 1 _ rfl
  simp[Tryz.cellsPl]at g1
  obtain⟨d1,p1'⟩:=y1
  have g2:DataW.trod enc Tryz.prog W 0 (fun _=>true) true k 46 [Value.slice ao len cap]=some (d1,p1'):=by simpa [Value.cells] using g1
  clear g1
  rcases open_slice Tryz.underlying46 g2 with⟨hcs,hx⟩ | ⟨a,len',cap',m,n,D,Pl,hcs,_,hl,hm,hmm,hx,hel⟩
  ·simp at hcs
   obtain⟨rfl,rfl,rfl⟩:=hcs
   exact⟨by simp,.inl rfl⟩
  ·simp at hcs
   obtain⟨rfl,rfl,rfl⟩:=hcs
   refine⟨by omega,?_⟩
   simp only[if_true]at hmm
   subst hmm
   by_cases h0:len=0
   ·exact .inl h0
   right
   simp only[Prod.mk.injEq]at hx hxy
   obtain⟨rfl,_⟩:=hx
   rw[Tryz.cellsBytes]at hel
   obtain⟨b,off,spot⟩:=a
   have hspot:spot=none:=by
    obtain⟨cs',h1,_⟩:=hel 0 (by omega)
    obtain⟨_,hlen,hcell⟩:=World.cells?_some h1
    have hc:=hcell 0 (by omega)
    rw[List.getElem?_eq_getElem (by omega)]at hc
    simpa [Addr.add] using World.cell?_spot hc
   subst hspot
   have key:∀ i,i < len->∃ x:Value×List Int,K.PieceB W b off i x.1 x.2:=by
    intro i hi
    obtain⟨cs',h1,h2⟩:=hel i (by omega)
    obtain⟨_,hlen,hcell⟩:=World.cells?_some h1
    match cs',hlen with
    | [v],_ =>
     obtain⟨bs,hb,hbl⟩:=byt_of_trod h2
     have e0:=hcell 0 (by omega)
     rw[add_add,add_plain]at e0
     have hD:∀ n,n ∈ (D i).weights Tryz.prog 30->n<=reachBytes:=fun n hn=>hw n (by
      have h3:=weights_all_mem (P:=Tryz.prog) (e:=30) (ds:=(List.range len).map D) (d:=D i) (List.mem_map.2 ⟨i,List.mem_range.2 hi,rfl⟩) n hn
      rw[hxy.1]
      simp only[DataW.weights,Tryz.underlying48,Tryz.underlying46,DataW.weightsEach,List.map,List.mem_append,List.mem_cons]
      exact .inr (.inl (.inr (.inl h3))))
     exact⟨(v,bs),by simpa [Nat.add_assoc] using e0,hb,hbl hD⟩
   obtain⟨f,hf'⟩:=choose_lt key
   exact⟨b,off,rfl,fun k=>(f k).1,fun k=>(f k).2,fun k hk=>hf' k hk⟩
end Go.Proofs.YtpheelbbpiieiaaGreatDoor
