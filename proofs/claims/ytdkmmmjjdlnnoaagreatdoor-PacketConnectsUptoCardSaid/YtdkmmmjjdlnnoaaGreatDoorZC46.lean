/- Proved here: helpers, one text behind the other. -/
import Derived.Test.YtdkmmmjjdlnnoaaGreatDoorZC45
namespace Go.Proofs.YtdkmmmjjdlnnoaaGreatDoor.K.W
open Go.ChangeShapes Go.WideShapes Go.ChangeAt Go.RowKit Go.Deep
open Go.Proofs.YtdkmmmjjdlnnoaaGreatDoor.K
set_option maxRecDepth 100000
theorem cU8:Tryz.prog.cellsOf 5=1:=by kernel_rfl
theorem byt_of_trod {H:Type} {enc:TypeId×Value->H} {W:World} {fuel:Nat} {v:Value} {d:DataW H} {ps:List MemPlace} (h:DataW.trod enc Tryz.prog W 0 (fun _=>true) true fuel 33 [v]=some (d,ps)) :
  ∃ bs,Byt W v bs:=by
 rcases open_ints Tryz.underlying33 Tryz.underlying5 cU8 h with⟨hcs,hx⟩ | ⟨a,len,cap,zs,hcs,_,hl,hm,hz,hx,hcell,hwz⟩
 ·simp at hcs
  subst hcs
  exact⟨[],⟨none,0,rfl,⟨by simp,by simp⟩,by intro j;simp,.inl rfl⟩⟩
 ·simp at hcs
  subst hcs
  simp only[if_true]at hz
  simp only[Prod.mk.injEq]at hx
  obtain⟨rfl,rfl⟩:=hx
  have hr:∀ j,0<=(zs.take len).getD j 0/\(zs.take len).getD j 0<=255:=by
   intro j
   by_cases hj:j < (zs.take len).length
   ·have hmem:(zs.take len).getD j 0 ∈ zs:=by
     rw[List.getD_eq_getElem?_getD,List.getElem?_eq_getElem hj]
     exact List.mem_of_mem_take (List.getElem_mem hj)
    have:=hwz _ hmem
    have h1:IntKind.u8.min=0:=rfl
    have h2:IntKind.u8.max=255:=rfl
    simp only[Lit.wf,Bool.and_eq_true,decide_eq_true_eq]at this
    omega
   ·rw[List.getD_eq_getElem?_getD,List.getElem?_eq_none (by omega)];simp
  have hlen:(zs.take len).length=len:=by rw[List.length_take];omega
  refine⟨zs.take len,⟨some a,cap,by rw[hlen],⟨by rw[hlen];exact hl,hm⟩,hr,?_⟩⟩
  ·by_cases h0:len=0
   ·exact .inl (by rw[h0];rfl)
   ·obtain⟨b,off,spot⟩:=a
    have hspot:spot=none:=by simpa [Addr.add] using World.cell?_spot (hcell 0 (by omega))
    subst hspot
    refine .inr ⟨b,off,rfl,fun j hj=>?_⟩
    rw[hlen]at hj
    rw[<- add_plain,hcell j (by omega),List.getD_eq_getElem?_getD,List.getD_eq_getElem?_getD,List.getElem?_take,if_pos hj]
def AsksB (W:World) (v:Value):Prop :=
 ∃ ao len cap,v=.slice ao len cap/\len<=maxLen/\(len=0\/∃ b off,ao=some ⟨b,off,none⟩/\∃ (qs:Nat->Pkv) (Pp:Nat->Pa) (vs:Nat->Value) (zs:Nat->List Int),∀ k,k < len->AskB W b (off+k * 20) (qs k) (Pp k) (vs k) (zs k))
abbrev AskT:=(Pkv×Pa)×Value×List Int
abbrev akc (x:AskT):List Value:=x.1.1.cells++[x.2.1]
theorem cells_len (q:Pkv):q.cells.length=19:=rfl
theorem ask_of {H:Type} {enc:TypeId×Value->H} {W:World} {n:Nat} {cs:List Value} {d0:DataW H} {ps:List MemPlace} (h:DataW.trod enc Tryz.prog W 0 (fun _=>true) true n 35 cs=some (d0,ps)) (hb:Rows.uptoBulk d0<=1048576) :
  (∃ x:AskT,cs=akc x/\RPk W x.1.1 x.1.2/\Ok x.1.2/\Byt W x.2.1 x.2.2)/\1<=Rows.uptoBulk d0:=by
 refine⟨?_,one_le d0⟩
 obtain⟨xs,k,hk,hxy,hcl,hxl,hf⟩:=DataW.trod_struct Tryz.underlying35 h
 rw[cAsk]at hcl
 simp only[Prod.mk.injEq]at hxy
 match xs,hxl with
 | [y0,y1],_ =>
  have g0:=hf 0 _ rfl
  simp[cPk]at g0
  have g1:=hf 1 _ rfl
  simp[cBytes]at g1
  obtain⟨d1,p1⟩:=y0
  obtain⟨q,P,hq,hR,hO⟩:=pk_of g0 (by
   have k1:=part_le (d:=d1) (l:=[d1,y1.1]) (by simp)
   rw[hxy.1]at hb
   simp only[List.map,Rows.uptoBulk]at hb
   omega)
  have hd:cs=cs.take 19++cs.drop 19:=(List.take_append_drop 19 cs).symm
  have hl:(cs.drop 19).length=1:=by rw[List.length_drop,hcl]
  obtain⟨v,hv⟩:=List.length_eq_one_iff.1 hl
  rw[hv]at g1
  obtain⟨d2,p2⟩:=y1
  obtain⟨bs,hB⟩:=byt_of_trod (v:=v) (by simpa using g1)
  exact⟨((q,P),v,bs),by rw[hd,hv,hq],hR,hO,hB⟩
theorem asks_openB {H:Type} {enc:TypeId×Value->H} {W:World} {v:Value} {d:DataW H} {ps:List MemPlace} (h:DataW.Trod enc Tryz.prog W 0 (fun _=>true) true 22 v d ps) (hs:∃ ao len cap,v=.slice ao len cap)
  (hb:Rows.uptoBulk d<=1048576):AsksB W v:=by
 obtain⟨ao,len,cap,rfl⟩:=hs
 obtain⟨fuel,hf⟩:=h
 obtain⟨s,l,hv,hn,hc,hat,hg,-⟩:=list_of_trod (α:=AskT) ((pkz,pa0 0 false 0 false),.nilIface,[]) 22 35 20 1 Tryz.underlying22 cAsk (by omega) akc (fun x=>by simp[akc,cells_len]) (fun x=>RPk W x.1.1 x.1.2/\Ok x.1.2/\Byt W x.2.1 x.2.2) (fun n cs d ps h hb=>ask_of h hb) (v:=.slice ao len cap) (by simpa [Value.cells] using hf) hb
 have e1:ao=s.ao/\len=s.n/\cap=s.cap:=by
  have:=hv
  simp only[Sl.val,Value.slice.injEq]at this
  exact this
 obtain⟨e1,e2,e3⟩:=e1
 refine⟨ao,len,cap,rfl,by rw[e2,hn];omega,?_⟩
 rcases hat with h0 | ⟨b,off,e,hat⟩
 ·exact .inl (by rw[e2,hn,h0];rfl)
 ·refine .inr ⟨b,off,by rw[e1,e],fun k=>(l.getD k ((pkz,pa0 0 false 0 false),.nilIface,[])).1.1,fun k=>(l.getD k ((pkz,pa0 0 false 0 false),.nilIface,[])).1.2,fun k=>(l.getD k ((pkz,pa0 0 false 0 false),.nilIface,[])).2.1,fun k=>(l.getD k ((pkz,pa0 0 false 0 false),.nilIface,[])).2.2,fun k hk=>?_⟩
  rw[e2,hn]at hk
  refine⟨fun j u hu=>hat k hk j u ?_,(hg k hk).1,(hg k hk).2.1,hat k hk 19 _ ?_,(hg k hk).2.2⟩
  ·have hj:=(List.getElem?_eq_some_iff.1 hu).1
   rw[List.getElem?_append_left hj]
   exact hu
  ·rw[List.getElem?_append_right (by rw[cells_len];omega),cells_len]
   rfl
theorem kind_calls (kk:Int) (H:KindOk kk) (v:Value) (w:World) (hg:Laid w) (h:AsksB w v) :
  Calls Tryz.prog 16 #[v,.int .i64 kk] w fun e w'=>e=.returned (.bool true)/\Below w.heap.size w w':=by
 obtain⟨ao,len,cap,rfl,hlen,h0 | ⟨b,off,rfl,qs,Pp,vs,zs,hk⟩⟩:=h
 ·subst h0
  exact kind_walk0 kk ao cap w
 ·exact kind_walk kk H b off len cap qs Pp vs zs w hlen hg hk
end Go.Proofs.YtdkmmmjjdlnnoaaGreatDoor.K.W
