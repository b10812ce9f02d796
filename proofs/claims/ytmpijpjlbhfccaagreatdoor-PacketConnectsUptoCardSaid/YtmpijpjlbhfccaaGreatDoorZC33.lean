/- Helpers of the proof. -/
import Derived.Test.YtmpijpjlbhfccaaGreatDoorZC4
import Derived.Test.YtmpijpjlbhfccaaGreatDoorZC32
set_option maxHeartbeats 20000000
namespace Go.Proofs.YtmpijpjlbhfccaaGreatDoor.K.W
open Go.ChangeShapes Go.WideShapes Go.ChangeAt Go.RowKit Go.Deep
open Go.Proofs.YtmpijpjlbhfccaaGreatDoor.K
set_option maxRecDepth 100000
theorem one_le {H:Type} (d:DataW H):1<=Rows.uptoBulk d:=by
 cases d with
 | lit l=>cases l<;>simp[Rows.uptoBulk]
 | nil=>simp[Rows.uptoBulk]
 | ptr d=>simp[Rows.uptoBulk]
 | slice elems spare=>simp[Rows.uptoBulk]
 | agg parts=>simp[Rows.uptoBulk]
 | iface t d=>simp[Rows.uptoBulk]
 | map entries=>simp[Rows.uptoBulk]
 | held h=>simp[Rows.uptoBulk]
theorem part_le {H:Type} {d:DataW H} {l:List (DataW H)} (h:d∈l):Rows.uptoBulk d<=Rows.uptoBulkAll l:=by
 induction l with
 | nil=>cases h
 | cons x r ih =>
  simp only[Rows.uptoBulkAll]
  cases List.mem_cons.1 h with
  | inl e=>subst e;omega
  | inr e=>have:=ih e;omega
theorem many_le {H:Type} (m:Nat) (l:List (DataW H)) (h:∀ d∈l,m<=Rows.uptoBulk d):m*l.length<=Rows.uptoBulkAll l:=by
 induction l with
 | nil=>simp[Rows.uptoBulkAll]
 | cons x r ih =>
  have h1:=h x (List.mem_cons_self ..)
  have h2:=ih (fun d hd=>h d (List.mem_cons_of_mem _ hd))
  simp only[Rows.uptoBulkAll,List.length_cons,Nat.mul_add,Nat.mul_one]
  omega
theorem list_of_trod {α:Type} {H:Type} {enc:TypeId×Value->H} {W:World} (x0:α) (t e:TypeId) (C m:Nat) (ht:Tryz.prog.underlying t=some (.slice e)) (hC:Tryz.prog.cellsOf e=C) (hC1:1<=C) (F:α->List Value) (hF:∀ x,(F x).length=C) (Φ:α->Prop)
  (good:∀ n cs d ps,DataW.trod enc Tryz.prog W 0 (fun _=>true) true n e cs=some (d,ps)->Rows.uptoBulk d<=1048576->(∃ x:α,cs=F x/\Φ x)/\m<=Rows.uptoBulk d)
  {fuel:Nat} {v:Value} {d:DataW H} {ps:List MemPlace} (h:DataW.trod enc Tryz.prog W 0 (fun _=>true) true fuel t [v]=some (d,ps)) (hb:Rows.uptoBulk d<=1048576) :
  ∃ (s:Sl) (l:List α),v=s.val/\s.n=l.length/\(l.length<=s.cap/\s.cap<=maxLen)/\(l=[]\/∃ b off,s.ao=some ⟨b,off,none⟩/\∀ k,k<l.length->∀ j u,(F (l.getD k x0))[j]?=some u->W.cell? ⟨b,off+k*C+j,none⟩=some u)/\(∀ k,k<l.length->Φ (l.getD k x0))/\m*l.length<=1048576:=by
 rcases open_slice ht h with⟨hcs,hx⟩|⟨a,len,cap,mm,n,D,Pl,hcs,_,hl,hm,hmm,hx,hel⟩
 ·exact⟨⟨none,0,0⟩,[],(List.cons.inj hcs).1,rfl,⟨Nat.le_refl _,Nat.zero_le _⟩,.inl rfl,fun k hk=>absurd hk (Nat.not_lt_zero k),by simp⟩
 ·simp only[if_true]at hmm
  subst hmm
  simp only[Prod.mk.injEq]at hx
  obtain⟨rfl,_⟩:=hx
  rw[hC]at hel
  have hin:∀ i,i<len->Rows.uptoBulk (D i)<=1048576:=fun i hi=>by
   have k1:=part_le (d:=D i) (l:=(List.range len).map D) (List.mem_map.2 ⟨i,List.mem_range.2 hi,rfl⟩)
   simp only[Rows.uptoBulk]at hb
   omega
  have key:∀ i,i<len->∃ x:α,(W.cells? 0 (a.add (i*C)) C=some (F x)/\Φ x)/\m<=Rows.uptoBulk (D i):=by
   intro i hi
   obtain⟨cs',h1,h2⟩:=hel i (by omega)
   obtain⟨⟨x,rfl,hx⟩,hm⟩:=good _ _ _ _ h2 (hin i hi)
   exact⟨x,⟨h1,hx⟩,hm⟩
  obtain⟨f,hf⟩:∃ f:Nat->α,∀ i,i<len->(W.cells? 0 (a.add (i*C)) C=some (F (f i))/\Φ (f i))/\m<=Rows.uptoBulk (D i):=by
   refine⟨fun i=>if hi:i<len then (key i hi).choose else x0,fun i hi=>?_⟩
   simp only[hi,dif_pos]
   exact (key i hi).choose_spec
  have hg:∀ k,k<len->((List.range len).map f).getD k x0=f k:=fun k hk=>by
   rw[List.getD_eq_getElem?_getD,List.getElem?_map,List.getElem?_range hk]
   rfl
  have hln:((List.range len).map f).length=len:=by simp
  refine⟨⟨some a,len,mm⟩,(List.range len).map f,(List.cons.inj hcs).1,hln.symm,by rw[hln];exact⟨hl,hm⟩,?_,?_,?_⟩
  ·by_cases h0:len=0
   ·exact .inl (by rw[h0];rfl)
   right
   obtain⟨b,off,spot⟩:=a
   have hspot:spot=none:=by
    obtain⟨_,_,hcell⟩:=World.cells?_some (hf 0 (by omega)).1.1
    have hc:=hcell 0 (by omega)
    rw[List.getElem?_eq_getElem (by rw[hF];omega)]at hc
    simpa [Addr.add] using World.cell?_spot hc
   subst hspot
   refine⟨b,off,rfl,fun k hk j u hu=>?_⟩
   rw[hln]at hk
   rw[hg k hk]at hu
   obtain⟨_,_,hcell⟩:=World.cells?_some (hf k hk).1.1
   have hj:j<C:=by rw[<- hF (f k)];exact (List.getElem?_eq_some_iff.1 hu).1
   have hc:=hcell j hj
   rw[add_add,add_plain]at hc
   rw[<- hu,Nat.add_assoc]
   exact hc
  ·intro k hk
   rw[hln]at hk
   rw[hg k hk]
   exact (hf k hk).1.2
  ·have k1:=many_le m ((List.range len).map D) (fun d hd=>by
    obtain⟨i,hi,rfl⟩:=List.mem_map.1 hd
    exact (hf i (List.mem_range.1 hi)).2)
   simp only[List.length_map,List.length_range]at k1 |-
   simp only[Rows.uptoBulk]at hb
   omega
theorem cInt:Tryz.prog.cellsOf 3=1:=by kernel_rfl
theorem cBool:Tryz.prog.cellsOf 4=1:=by kernel_rfl
theorem cStr:Tryz.prog.cellsOf 9=1:=by kernel_rfl
theorem cProps:Tryz.prog.cellsOf 25=1:=by kernel_rfl
theorem cWills:Tryz.prog.cellsOf 26=1:=by kernel_rfl
theorem cStrs:Tryz.prog.cellsOf 27=1:=by kernel_rfl
theorem cSubs:Tryz.prog.cellsOf 28=1:=by kernel_rfl
theorem cInts:Tryz.prog.cellsOf 29=1:=by kernel_rfl
theorem cBytes:Tryz.prog.cellsOf 33=1:=by kernel_rfl
theorem cProp:Tryz.prog.cellsOf 88=4:=by kernel_rfl
theorem cWill:Tryz.prog.cellsOf 90=5:=by kernel_rfl
theorem cSub:Tryz.prog.cellsOf 93=5:=by kernel_rfl
theorem cPk:Tryz.prog.cellsOf 31=19:=by kernel_rfl
theorem cAsk:Tryz.prog.cellsOf 35=20:=by kernel_rfl
def I64 (x:Int):Prop:=-9223372036854775808<=x/\x<=9223372036854775807
theorem wf64 {x:Int} (h:(Lit.int .i64 x).wf=true):I64 x:=by
 have h1:IntKind.i64.min=-9223372036854775808:=rfl
 have h2:IntKind.i64.max=9223372036854775807:=rfl
 simp only[Lit.wf,Bool.and_eq_true,decide_eq_true_eq]at h
 unfold I64
 omega
theorem nms_of {H:Type} {enc:TypeId×Value->H} {W:World} {fuel:Nat} {v:Value} {d:DataW H} {ps:List MemPlace} (h:DataW.trod enc Tryz.prog W 0 (fun _=>true) true fuel 29 [v]=some (d,ps)) (hb:Rows.uptoBulk d<=1048576) :
  ∃ (s:Sl) (l:List Int),v=s.val/\Nms W s.val l/\l.length<=1048576/\∀ k,k<l.length->I64 (l.getD k 0):=by
 obtain⟨s,l,rfl,hn,hc,hat,hg,hm⟩:=list_of_trod (α:=Int) 0 29 3 1 1 Tryz.underlying29 cInt (by omega) (fun x=>[.int .i64 x]) (fun _=>rfl) I64 (fun n cs d ps h hb=>by
  obtain⟨z,hz,hy,hw⟩:=DataW.trod_int Tryz.underlying3 h
  exact⟨⟨z,hz,wf64 hw⟩,one_le d⟩) h hb
 refine⟨s,l,rfl,⟨s.ao,s.cap,by rw[<- hn],hc,?_⟩,by omega,hg⟩
 rcases hat with h0|⟨b,off,e,hat⟩
 ·exact .inl h0
 ·exact .inr ⟨b,off,e,fun j hj=>by simpa using hat j hj 0 _ rfl⟩
theorem txs_of {H:Type} {enc:TypeId×Value->H} {W:World} {fuel:Nat} {v:Value} {d:DataW H} {ps:List MemPlace} (h:DataW.trod enc Tryz.prog W 0 (fun _=>true) true fuel 27 [v]=some (d,ps)) (hb:Rows.uptoBulk d<=1048576) :
  ∃ (s:Sl) (l:List ByteArray),v=s.val/\Txs W s.val l/\UbT l:=by
 obtain⟨s,l,rfl,hn,hc,hat,hg,hm⟩:=list_of_trod (α:=ByteArray) ⟨#[]⟩ 27 9 1 1 Tryz.underlying27 cStr (by omega) (fun x=>[.string x]) (fun _=>rfl) (fun x=>x.size<=1048576) (fun n cs d ps h hb=>by
  obtain⟨z,hz,hy,hw⟩:=DataW.trod_string Tryz.underlying9 h
  refine⟨⟨z,hz,?_⟩,one_le d⟩
  simp only[Prod.mk.injEq]at hy
  rw[hy.1]at hb
  simp only[Rows.uptoBulk]at hb
  have e:z.data.toList.length=z.size:=rfl
  omega) h hb
 refine⟨s,l,rfl,⟨s.ao,s.cap,by rw[<- hn],hc,?_⟩,by omega,hg⟩
 rcases hat with h0|⟨b,off,e,hat⟩
 ·exact .inl h0
 ·exact .inr ⟨b,off,e,fun j hj=>by simpa using hat j hj 0 _ rfl⟩
abbrev pcl (p:Pr):List Value:=[.int .i64 p.1,.int .i64 p.2.1,.string p.2.2.1,.string p.2.2.2]
theorem prp_of {H:Type} {enc:TypeId×Value->H} {W:World} {fuel:Nat} {v:Value} {d:DataW H} {ps:List MemPlace} (h:DataW.trod enc Tryz.prog W 0 (fun _=>true) true fuel 25 [v]=some (d,ps)) (hb:Rows.uptoBulk d<=1048576) :
  ∃ (s:Sl) (l:List Pr),v=s.val/\Prp W s.val l/\UbP l/\l.length<=209715:=by
 obtain⟨s,l,rfl,hn,hc,hat,hg,hm⟩:=list_of_trod (α:=Pr) (at0 [] 0) 25 88 4 5 Tryz.underlying25 cProp (by omega) pcl (fun _=>rfl) (fun x=>x.2.2.1.size<=1048576/\x.2.2.2.size<=1048576) (fun n cs d0 ps h hb=>by
  obtain⟨xs,k,hk,hxy,hcl,hxl,hf⟩:=DataW.trod_struct Tryz.underlying88 h
  rw[cProp]at hcl
  match xs,hxl,cs,hcl with
  | [y0,y1,y2,y3],_,[v0,v1,v2,v3],_ =>
   have g0:=hf 0 _ rfl
   have g1:=hf 1 _ rfl
   have g2:=hf 2 _ rfl
   have g3:=hf 3 _ rfl
   simp[cInt,cStr]at g0 g1 g2 g3
   obtain⟨z0,hz0,hy0,_⟩:=DataW.trod_int Tryz.underlying3 g0
   obtain⟨z1,hz1,hy1,_⟩:=DataW.trod_int Tryz.underlying3 g1
   obtain⟨z2,hz2,hy2,_⟩:=DataW.trod_string Tryz.underlying9 g2
   obtain⟨z3,hz3,hy3,_⟩:=DataW.trod_string Tryz.underlying9 g3
   simp at hz0 hz1 hz2 hz3
   subst hz0 hz1 hz2 hz3
   simp only[Prod.mk.injEq]at hxy
   rw[hxy.1,hy0,hy1,hy2,hy3]at hb
   have e2:z2.data.toList.length=z2.size:=rfl
   have e3:z3.data.toList.length=z3.size:=rfl
   rw[hxy.1,hy0,hy1,hy2,hy3]
   simp only[List.map,Rows.uptoBulk,Rows.uptoBulkAll]at hb |-
   exact⟨⟨(z0,z1,z2,z3),rfl,by dsimp only;omega,by dsimp only;omega⟩,by omega⟩) h hb
 refine⟨s,l,rfl,⟨s.ao,s.cap,by rw[<- hn],?_⟩,⟨by omega,fun k hk=>?_⟩,by omega⟩
 ·rcases hat with h0|⟨b,off,e,hat⟩
  ·exact .inl h0
  ·exact .inr ⟨b,off,e,fun j hj=>⟨hat j hj 0 _ rfl,hat j hj 1 _ rfl,hat j hj 2 _ rfl,hat j hj 3 _ rfl⟩⟩
 ·exact hg k hk
theorem sbs_of {H:Type} {enc:TypeId×Value->H} {W:World} {fuel:Nat} {v:Value} {d:DataW H} {ps:List MemPlace} (h:DataW.trod enc Tryz.prog W 0 (fun _=>true) true fuel 28 [v]=some (d,ps)) (hb:Rows.uptoBulk d<=1048576) :
  ∃ (s:Sl) (l:List Sb),v=s.val/\Sbs W s.val l/\l.length<=209715/\∀ k,k<l.length->(l.getD k sb0).filter.size<=1048576:=by
 obtain⟨s,l,rfl,hn,hc,hat,hg,hm⟩:=list_of_trod (α:=Sb) sb0 28 93 5 5 Tryz.underlying28 cSub (by omega) Sb.cells (fun _=>rfl) (fun x=>x.filter.size<=1048576) (fun n cs d0 ps h hb=>by
  obtain⟨xs,k,hk,hxy,hcl,hxl,hf⟩:=DataW.trod_struct Tryz.underlying93 h
  rw[cSub]at hcl
  match xs,hxl,cs,hcl with
  | [y0,y1,y2,y3,y4],_,[v0,v1,v2,v3,v4],_ =>
   have g0:=hf 0 _ rfl
   have g1:=hf 1 _ rfl
   have g2:=hf 2 _ rfl
   have g3:=hf 3 _ rfl
   have g4:=hf 4 _ rfl
   simp[cInt,cStr,cBool]at g0 g1 g2 g3 g4
   obtain⟨z0,hz0,hy0,_⟩:=DataW.trod_string Tryz.underlying9 g0
   obtain⟨z1,hz1,hy1,_⟩:=DataW.trod_int Tryz.underlying3 g1
   obtain⟨z2,hz2,hy2⟩:=DataW.trod_bool Tryz.underlying4 g2
   obtain⟨z3,hz3,hy3⟩:=DataW.trod_bool Tryz.underlying4 g3
   obtain⟨z4,hz4,hy4,_⟩:=DataW.trod_int Tryz.underlying3 g4
   simp at hz0 hz1 hz2 hz3 hz4
   subst hz0 hz1 hz2 hz3 hz4
   simp only[Prod.mk.injEq]at hxy
   rw[hxy.1,hy0,hy1,hy2,hy3,hy4]at hb
   have e0:z0.data.toList.length=z0.size:=rfl
   rw[hxy.1,hy0,hy1,hy2,hy3,hy4]
   simp only[List.map,Rows.uptoBulk,Rows.uptoBulkAll]at hb |-
   exact⟨⟨⟨z0,z1,z2,z3,z4⟩,rfl,by dsimp only;omega⟩,by omega⟩) h hb
 refine⟨s,l,rfl,⟨s.ao,s.cap,by rw[<- hn],hc,?_⟩,by omega,hg⟩
 rcases hat with h0|⟨b,off,e,hat⟩
 ·exact .inl h0
 ·exact .inr ⟨b,off,e,fun j hj=>⟨hat j hj 0 _ rfl,hat j hj 1 _ rfl,hat j hj 2 _ rfl,hat j hj 3 _ rfl,hat j hj 4 _ rfl⟩⟩
def WlG (W:World) (x:Wl×Sl):Prop:=Prp W x.2.val x.1.props/\(x.1.topic.size<=1048576/\x.1.payload.size<=1048576/\UbP x.1.props)/\x.1.props.length<=209715
theorem wls_of {H:Type} {enc:TypeId×Value->H} {W:World} {fuel:Nat} {v:Value} {d:DataW H} {ps:List MemPlace} (h:DataW.trod enc Tryz.prog W 0 (fun _=>true) true fuel 26 [v]=some (d,ps)) (hb:Rows.uptoBulk d<=1048576) :
  ∃ (s:Sl) (l:List Wl),v=s.val/\Wls W s.val l/\l.length<=209715/\∀ k,k<l.length->((l.getD k wl0).topic.size<=1048576/\(l.getD k wl0).payload.size<=1048576/\UbP (l.getD k wl0).props)/\(l.getD k wl0).props.length<=209715:=by
 obtain⟨s,l,rfl,hn,hc,hat,hg,hm⟩:=list_of_trod (α:=Wl×Sl) (wl0,slz) 26 90 5 5 Tryz.underlying26 cWill (by omega) (fun x=>wcl x.1 x.2.val) (fun _=>rfl) (WlG W) (fun n cs d0 ps h hb=>by
  obtain⟨xs,k,hk,hxy,hcl,hxl,hf⟩:=DataW.trod_struct Tryz.underlying90 h
  rw[cWill]at hcl
  match xs,hxl,cs,hcl with
  | [y0,y1,y2,y3,y4],_,[v0,v1,v2,v3,v4],_ =>
   have g0:=hf 0 _ rfl
   have g1:=hf 1 _ rfl
   have g2:=hf 2 _ rfl
   have g3:=hf 3 _ rfl
   have g4:=hf 4 _ rfl
   simp[cInt,cStr,cBool,cProps]at g0 g1 g2 g3 g4
   obtain⟨z0,hz0,hy0,_⟩:=DataW.trod_string Tryz.underlying9 g0
   obtain⟨z1,hz1,hy1,_⟩:=DataW.trod_string Tryz.underlying9 g1
   obtain⟨z2,hz2,hy2,_⟩:=DataW.trod_int Tryz.underlying3 g2
   obtain⟨z3,hz3,hy3⟩:=DataW.trod_bool Tryz.underlying4 g3
   simp at hz0 hz1 hz2 hz3
   subst hz0 hz1 hz2 hz3
   obtain⟨d4,p4⟩:=y4
   simp only[Prod.mk.injEq]at hxy
   rw[hxy.1,hy0,hy1,hy2,hy3]at hb
   have e0:z0.data.toList.length=z0.size:=rfl
   have e1:z1.data.toList.length=z1.size:=rfl
   rw[hxy.1,hy0,hy1,hy2,hy3]
   have k4:=one_le d4
   simp only[List.map,Rows.uptoBulk,Rows.uptoBulkAll]at hb |-
   obtain⟨s4,l4,rfl,h4,h5,h6⟩:=prp_of g4 (by omega)
   exact⟨⟨(⟨z0,z1,z2,z3,l4⟩,s4),rfl,h4,⟨by dsimp only;omega,by dsimp only;omega,h5⟩,h6⟩,by omega⟩) h hb
 have hgd:∀ k,k<l.length->(l.map (·.1)).getD k wl0=(l.getD k (wl0,slz)).1:=fun k hk=>by
  rw[List.getD_eq_getElem?_getD,List.getElem?_map,List.getD_eq_getElem?_getD,List.getElem?_eq_getElem hk]
  rfl
 have hln:(l.map (·.1)).length=l.length:=List.length_map ..
 refine⟨s,l.map (·.1),rfl,⟨s.ao,s.cap,by rw[hln,<- hn],by rw[hln];exact hc,?_⟩,by rw[hln];omega,fun k hk=>?_⟩
 ·rcases hat with h0|⟨b,off,e,hat⟩
  ·exact .inl (by rw[h0];rfl)
  ·refine .inr ⟨b,off,e,fun j hj=>?_⟩
   rw[hln]at hj
   rw[hgd j hj]
   have hw:=hg j hj
   exact⟨_,_,_,⟨hat j hj 0 _ rfl,hat j hj 1 _ rfl,hat j hj 2 _ rfl,hat j hj 3 _ rfl,hat j hj 4 _ rfl⟩,hw.1,by have:=hw.2.2;omega⟩
 ·rw[hln]at hk
  rw[hgd k hk]
  exact (hg k hk).2
structure Ok (P:Pa):Prop where
 ub:Ub P
 props:P.props.length<=209715
 wills:P.wills.length<=209715
 wprops:∀ k,k<P.wills.length->(P.wills.getD k wl0).props.length<=209715
 subs:P.subs.length<=209715
 nums:I64 P.qos/\I64 P.id/\I64 P.keep/\I64 P.code
 codes:∀ k,k<P.codes.length->I64 (P.codes.getD k 0)
theorem pk_of {H:Type} {enc:TypeId×Value->H} {W:World} {n:Nat} {cs:List Value} {d0:DataW H} {ps:List MemPlace} (h:DataW.trod enc Tryz.prog W 0 (fun _=>true) true n 31 cs=some (d0,ps)) (hb:Rows.uptoBulk d0<=1048576) :
  ∃ (q:Pkv) (P:Pa),cs=q.cells/\RPk W q P/\Ok P:=by
 obtain⟨xs,k,hk,hxy,hcl,hxl,hf⟩:=DataW.trod_struct Tryz.underlying31 h
 rw[cPk]at hcl
 simp only[Prod.mk.injEq]at hxy
 match xs,hxl,cs,hcl with
 | [y0,y1,y2,y3,y4,y5,y6,y7,y8,y9,y10,y11,y12,y13,y14,y15,y16,y17,y18],_,[v0,v1,v2,v3,v4,v5,v6,v7,v8,v9,v10,v11,v12,v13,v14,v15,v16,v17,v18],_ =>
  have g0:=hf 0 _ rfl
  have g1:=hf 1 _ rfl
  have g2:=hf 2 _ rfl
  have g3:=hf 3 _ rfl
  have g4:=hf 4 _ rfl
  have g5:=hf 5 _ rfl
  have g6:=hf 6 _ rfl
  have g7:=hf 7 _ rfl
  have g8:=hf 8 _ rfl
  have g9:=hf 9 _ rfl
  have g10:=hf 10 _ rfl
  have g11:=hf 11 _ rfl
  have g12:=hf 12 _ rfl
  have g13:=hf 13 _ rfl
  have g14:=hf 14 _ rfl
  have g15:=hf 15 _ rfl
  have g16:=hf 16 _ rfl
  have g17:=hf 17 _ rfl
  have g18:=hf 18 _ rfl
  simp[cInt,cBool,cStr,cProps,cWills,cStrs,cSubs,cInts]at g0 g1 g2 g3 g4 g5 g6 g7 g8 g9 g10 g11 g12 g13 g14 g15 g16 g17 g18
  have hB:∀ d∈[y0.1,y1.1,y2.1,y3.1,y4.1,y5.1,y6.1,y7.1,y8.1,y9.1,y10.1,y11.1,y12.1,y13.1,y14.1,y15.1,y16.1,y17.1,y18.1],Rows.uptoBulk d<=1048576:=fun d hd=>by
   have k1:=part_le hd
   have k2:Rows.uptoBulk d0<=1048576:=hb
   rw[hxy.1]at k2
   simp only[Rows.uptoBulk]at k2
   simp only[List.map]at k2
   omega
  obtain⟨z0,hz0,hy0,hw0⟩:=DataW.trod_int Tryz.underlying3 g0
  obtain⟨z1,hz1,hy1⟩:=DataW.trod_bool Tryz.underlying4 g1
  obtain⟨z2,hz2,hy2,hw2⟩:=DataW.trod_int Tryz.underlying3 g2
  obtain⟨z3,hz3,hy3⟩:=DataW.trod_bool Tryz.underlying4 g3
  obtain⟨z4,hz4,hy4,hw4⟩:=DataW.trod_string Tryz.underlying9 g4
  obtain⟨z5,hz5,hy5,hw5⟩:=DataW.trod_int Tryz.underlying3 g5
  obtain⟨z6,hz6,hy6,hw6⟩:=DataW.trod_string Tryz.underlying9 g6
  obtain⟨z8,hz8,hy8,hw8⟩:=DataW.trod_string Tryz.underlying9 g8
  obtain⟨z9,hz9,hy9⟩:=DataW.trod_bool Tryz.underlying4 g9
  obtain⟨z10,hz10,hy10,hw10⟩:=DataW.trod_int Tryz.underlying3 g10
  obtain⟨z14,hz14,hy14,hw14⟩:=DataW.trod_int Tryz.underlying3 g14
  obtain⟨z15,hz15,hy15⟩:=DataW.trod_bool Tryz.underlying4 g15
  simp at hz0 hz1 hz2 hz3 hz4 hz5 hz6 hz8 hz9 hz10 hz14 hz15
  subst hz0 hz1 hz2 hz3 hz4 hz5 hz6 hz8 hz9 hz10 hz14 hz15
  obtain⟨d8,p7⟩:=y7
  obtain⟨s7,l7,rfl,r7,b7⟩:=prp_of g7 (hB _ (by simp))
  obtain⟨d12,p11⟩:=y11
  obtain⟨s11,l11,rfl,r11,b11⟩:=wls_of g11 (hB _ (by simp))
  obtain⟨d13,p12⟩:=y12
  obtain⟨s12,l12,rfl,r12,b12⟩:=txs_of g12 (hB _ (by simp))
  obtain⟨d14,p13⟩:=y13
  obtain⟨s13,l13,rfl,r13,b13⟩:=txs_of g13 (hB _ (by simp))
  obtain⟨d17,p16⟩:=y16
  obtain⟨s16,l16,rfl,r16,b16⟩:=sbs_of g16 (hB _ (by simp))
  obtain⟨d18,p17⟩:=y17
  obtain⟨s17,l17,rfl,r17,b17⟩:=txs_of g17 (hB _ (by simp))
  obtain⟨d19,p18⟩:=y18
  obtain⟨s18,l18,rfl,r18,b18⟩:=nms_of g18 (hB _ (by simp))
  have t4:z4.size<=1048576:=by
    have:=hB y4.1 (by simp)
    rw[hy4]at this
    simp only[Rows.uptoBulk]at this
    have e:z4.data.toList.length=z4.size:=rfl
    omega
  have t6:z6.size<=1048576:=by
    have:=hB y6.1 (by simp)
    rw[hy6]at this
    simp only[Rows.uptoBulk]at this
    have e:z6.data.toList.length=z6.size:=rfl
    omega
  have t8:z8.size<=1048576:=by
    have:=hB y8.1 (by simp)
    rw[hy8]at this
    simp only[Rows.uptoBulk]at this
    have e:z8.data.toList.length=z8.size:=rfl
    omega
  refine⟨(⟨z0,z1,z2,z3,z4,z5,z6,s7,z8,z9,z10,s11,s12,s13,z14,z15,s16,s17,s18⟩:Pkv),(⟨z0,z1,z2,z3,z4,z5,z6,l7,z8,z9,z10,l11,l12,l13,z14,z15,l16,l17,l18⟩:Pa),rfl,⟨⟨rfl,rfl,rfl,rfl,rfl,rfl,rfl,rfl,rfl,rfl,rfl,rfl⟩,r7,r11,r12,r13,r16,r17,r18⟩,⟨⟨t4,t6,t8⟩,b7.1,⟨Nat.le_trans b11.1 (by omega),fun k hk=>(b11.2 k hk).1⟩,b12,b13,⟨Nat.le_trans b16.1 (by omega),b16.2⟩,b17,b18.1⟩,b7.2,b11.1,fun k hk=>(b11.2 k hk).2,b16.1,⟨wf64 hw2,wf64 hw5,wf64 hw10,wf64 hw14⟩,b18.2⟩
end Go.Proofs.YtmpijpjlbhfccaaGreatDoor.K.W
