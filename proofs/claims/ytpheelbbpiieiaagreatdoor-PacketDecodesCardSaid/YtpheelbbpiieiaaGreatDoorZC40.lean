/- Proved here: helpers, one text behind the other. -/
import Derived.Test.YtpheelbbpiieiaaGreatDoorZC4
import Derived.Test.YtpheelbbpiieiaaGreatDoorZC39
namespace Go.Proofs.YtpheelbbpiieiaaGreatDoor
open Go.ChangeShapes Go.WideShapes Go.ChangeAt Go.RowKit Go.Deep
set_option maxRecDepth 100000
theorem Tryz.cellsAsk:Tryz.prog.cellsOf 32=20:=by kernel_rfl
theorem Tryz.cellsBytes:Tryz.prog.cellsOf 30=1:=by kernel_rfl
theorem Tryz.cellsU8:Tryz.prog.cellsOf 5=1:=by kernel_rfl
theorem Tryz.bytesU8:Tryz.prog.bytesOf 5=1:=by kernel_rfl
theorem weights_all_mem {H:Type} {P:Program} {e:TypeId} {ds:List (DataW H)} {d:DataW H} (h:d ∈ ds):∀ n ∈ d.weights P e,n ∈ DataW.weightsAll P e ds:=by
 induction ds with
 | nil=>cases h
 | cons x r ih =>
  intro n hn
  simp only[DataW.weightsAll,List.mem_append]
  rcases List.mem_cons.1 h with rfl | h
  ·exact .inl hn
  ·exact .inr (ih h n hn)
theorem byt_of_trod {H:Type} {enc:TypeId×Value->H} {W:World} {fuel:Nat} {v:Value} {d:DataW H} {ps:List MemPlace} (h:DataW.trod enc Tryz.prog W 0 (fun _=>true) true fuel 30 [v]=some (d,ps)) :
  ∃ bs,Byt W v bs/\((∀ n ∈ d.weights Tryz.prog 30,n<=reachBytes)->bs.length<=140737488351232):=by
 rcases open_ints Tryz.underlying30 Tryz.underlying5 Tryz.cellsU8 h with⟨hcs,hx⟩ | ⟨a,len,cap,zs,hcs,_,hl,hm,hz,hx,hcell,hwz⟩
 ·simp at hcs
  subst hcs
  exact⟨[],⟨none,0,rfl,⟨by simp,by simp⟩,by intro j;simp,.inl rfl⟩,fun _=>by simp⟩
 ·simp at hcs
  subst hcs
  simp only[if_true]at hz
  simp only[Prod.mk.injEq]at hx
  obtain⟨rfl,rfl⟩:=hx
  have hr:∀ j,0<=(zs.take len).getD j 0/\(zs.take len).getD j 0<=255:=by
   intro j
   by_cases hj:j < (zs.take len).length
   ·have hmem:(zs.take len).getD j 0 ∈ zs:=by
     rw[List.getD_eq_getElem?_getD,List.getElem?_eq_getElem hj]
     exact List.mem_of_mem_take (List.getElem_mem hj)
    have:=hwz _ hmem
    have h1:IntKind.u8.min=0:=rfl
    have h2:IntKind.u8.max=255:=rfl
    simp only[Lit.wf,Bool.and_eq_true,decide_eq_true_eq]at this
    omega
   ·rw[List.getD_eq_getElem?_getD,List.getElem?_eq_none (by omega)];simp
  have hlen:(zs.take len).length=len:=by rw[List.length_take];omega
  refine⟨zs.take len,⟨some a,cap,by rw[hlen],⟨by rw[hlen];exact hl,hm⟩,hr,?_⟩,?_⟩
  ·by_cases h0:len=0
   ·exact .inl (by rw[h0];rfl)
   ·obtain⟨b,off,spot⟩:=a
    have hspot:spot=none:=by simpa [Addr.add] using World.cell?_spot (hcell 0 (by omega))
    subst hspot
    refine .inr ⟨b,off,rfl,fun j hj=>?_⟩
    rw[hlen]at hj
    rw[<- add_plain,hcell j (by omega),List.getD_eq_getElem?_getD,List.getD_eq_getElem?_getD,List.getElem?_take,if_pos hj]
  ·intro hw
   have:=hw ((((lits (H:=H) .u8 (zs.take len)).length+(lits (H:=H) .u8 (zs.drop len)).length)) * Tryz.prog.bytesOf 5) (by simp[DataW.weights,Tryz.underlying30])
   rw[Tryz.bytesU8]at this
   simp only[lits,List.length_map,List.length_take,List.length_drop,reachBytes]at this
   rw[hlen]
   omega
def AsksB (W:World) (v:Value):Prop :=
 ∃ ao len cap,v=.slice ao len cap/\len<=maxLen/\(len=0\/∃ b off,ao=some ⟨b,off,none⟩/\∃ (vb:Nat->Value) (bs:Nat->List Int),∀ k,k < len->K.AskB W b (off+k * 20) (vb k) (bs k))
theorem asks_openB {H:Type} {enc:TypeId×Value->H} {W:World} {v:Value} {d:DataW H} {ps:List MemPlace} (h:DataW.Trod enc Tryz.prog W 0 (fun _=>true) true 22 v d ps) (hs:∃ ao len cap,v=.slice ao len cap)
  (hw:∀ n ∈ d.weights Tryz.prog 22,n<=reachBytes):AsksB W v:=by
 obtain⟨ao,len,cap,rfl⟩:=hs
 obtain⟨fuel,hf⟩:=h
 refine⟨ao,len,cap,rfl,?_⟩
 rcases open_slice Tryz.underlying22 hf with⟨hcs,hx⟩ | ⟨a,len',cap',m,n,D,Pl,hcs,_,hl,hm,hmm,hx,hel⟩
 ·simp[Value.cells]at hcs
  obtain⟨rfl,rfl,rfl⟩:=hcs
  exact⟨by simp,.inl rfl⟩
 ·simp[Value.cells]at hcs
  obtain⟨rfl,rfl,rfl⟩:=hcs
  refine⟨by omega,?_⟩
  simp only[if_true]at hmm
  subst hmm
  by_cases h0:len=0
  ·exact .inl h0
  right
  simp only[Prod.mk.injEq]at hx
  obtain⟨rfl,_⟩:=hx
  rw[Tryz.cellsAsk]at hel
  obtain⟨b,off,spot⟩:=a
  have hspot:spot=none:=by
   obtain⟨cs',h1,_⟩:=hel 0 (by omega)
   obtain⟨_,hlen,hcell⟩:=World.cells?_some h1
   have hc:=hcell 0 (by omega)
   rw[List.getElem?_eq_getElem (by omega)]at hc
   simpa [Addr.add] using World.cell?_spot hc
  subst hspot
  have key:∀ i,i < len->∃ x:Value×List Int,K.AskB W b (off+i * 20) x.1 x.2:=by
   intro i hi
   obtain⟨cs',h1,h2⟩:=hel i (by omega)
   obtain⟨_,hlen,hcell⟩:=World.cells?_some h1
   obtain⟨xs,k,hk,hxy,_,hxl,hfl⟩:=DataW.trod_struct Tryz.underlying32 h2
   match xs,hxl,cs',hlen with
   | [y0,y1],_,[v0,v1,v2,v3,v4,v5,v6,v7,v8,v9,v10,v11,v12,v13,v14,v15,v16,v17,v18,v19],_ =>
    have g1:=hfl 1 _ rfl
    simp[Tryz.cellsBytes]at g1
    obtain⟨d1,p1'⟩:=y1
    obtain⟨bs,hb,hbl⟩:=byt_of_trod g1
    have e19:=hcell 19 (by omega)
    rw[add_add,add_plain]at e19
    simp only[Prod.mk.injEq]at hxy
    have hD:∀ n,n ∈ (D i).weights Tryz.prog 32->n<=reachBytes:=fun n hn=>hw n (by
     have:=weights_all_mem (P:=Tryz.prog) (e:=32) (ds:=(List.range len).map D) (d:=D i) (List.mem_map.2 ⟨i,List.mem_range.2 hi,rfl⟩) n hn
     simp only[DataW.weights,Tryz.underlying22,List.mem_cons,List.mem_append]
     right;left
     exact this)
    rw[hxy.1]at hD
    refine⟨(v19,bs),by simpa [Nat.add_assoc] using e19,hb,hbl ?_⟩
    intro n hn
    apply hD
    simp only[DataW.weights,Tryz.underlying32,DataW.weightsEach,List.map,List.mem_append]
    right;left
    exact hn
  obtain⟨f,hf'⟩:=choose_lt key
  exact⟨b,off,rfl,fun k=>(f k).1,fun k=>(f k).2,fun k hk=>hf' k hk⟩
end Go.Proofs.YtpheelbbpiieiaaGreatDoor
