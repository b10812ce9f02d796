/- Proved here: helpers, one text behind the other. -/
import Derived.Test.YtccnjdgaldbgnaaGreatDoorZC41
import Derived.Test.YtccnjdgaldbgnaaGreatDoorZC40
set_option maxHeartbeats 20000000
namespace Go.Proofs.YtccnjdgaldbgnaaGreatDoor.K
open Go.RowKit
set_option maxRecDepth 100000
def PieceB (W:World) (b off k:Nat) (vb:Value) (bs:List Int):Prop:=W.cell? ⟨b,off+k,none⟩=some vb/\Byt W vb bs/\bs.length<=140737488351232
theorem heavy_any (lim:Int) (b off len cap:Nat) (vb:Nat->Value) (bs:Nat->List Int) (w:World) (_hlen:len<=maxLen) (hc:∀ k,k < len->PieceB w b off k (vb k) (bs k)) :
  Calls Tryz.prog 4 #[.agg #[.int .i64 lim,.slice (some ⟨b,off,none⟩) len cap]] w fun e w'=>∃ c,e=.returned (.bool c)/\Hid (c=false->∀ k,k < len->k < 20->(bs k).length<=10000)/\Below w.heap.size w w':=by
 unfold maxLen at _hlen
 have HC:=zh hc
 clear hc
 go_enter Tryz.func4,Tryz.ntmps4
 go_wp2
 have HW0:Hid (Below w.heap.size w (w.alloc (.cells #[.int .i64 lim,.slice (some ⟨b,off,none⟩) len cap] 24))):=bal _ _
 have hcL:(w.alloc (.cells #[.int .i64 lim,.slice (some ⟨b,off,none⟩) len cap] 24)).cell? ⟨w.heap.size,1,none⟩=some (.slice (some ⟨b,off,none⟩) len cap):=by simp
 generalize w.alloc (.cells #[.int .i64 lim,.slice (some ⟨b,off,none⟩) len cap] 24)=W0 at HW0 hcL |-
 go_loopw [3,4] (fun s i wr=>∃ k n:Nat,k<=len/\k<=20/\s=.int .i64 n/\i=.int .i64 k/\n<=k * 140737488355328/\Hid (∀ j,j < k->(bs j).length<=n)/\wr=W0) (fun _ i _=>20 - (intOf i).toNat)
 case atStart=>exact⟨0,0,Nat.zero_le _,by omega,rfl,rfl,by omega,fun _ h=>by omega,rfl⟩
 case round =>
  obtain⟨k,n,hk,hk20,rfl,rfl,hn,HJ,hwr⟩:=hrel
  subst hwr
  by_cases hlt:k < len/\k < 20
  ·obtain⟨hlt,hlt20⟩:=hlt
   obtain⟨hc0,hby,h2⟩:=(uh HC) k hlt
   have c0:=((uh HW0).cell (p:=⟨b,off+k,none⟩) (cell_lt hc0)).trans hc0
   obtain⟨ao,vc,hv,h1,-⟩:=hby.form
   rw[hv]at c0
   have HJ2:Hid (∀ j,j < k+1->(bs j).length<=n+(bs k).length):=fun j hj=>by
    by_cases hjk:j=k
    ·subst hjk;omega
    ·have:=(uh HJ) j (by omega);omega
   generalize (bs k).length=m at c0 h1 h2 HJ2
   clear hc0 hby hv HJ
   go_wp2
   go_roundw
   case rel=>exact⟨k+1,n+m,by omega,by omega,by go_num,by go_num,by omega,HJ2,by first | rfl | trivial⟩
   case measure=>simp[intOf];omega
  ·have HR:Hid (decide ((10000:Int) < n)=false->∀ k,k < len->k < 20->(bs k).length<=10000):=fun h j h1 h2=>by
    have h3:=of_decide_eq_false h
    have:=(uh HJ) j (by omega)
    omega
   have HB:=HW0
   clear HC HJ HW0
   go_wp2
   all_goals (
    go_ret
    exact⟨_,rfl,HR,uh HB⟩)
theorem Str.grown {w w':World} {S:Nat} {lim f:Int} {hv:Value} {L:List Int} {row:Option Nat} (h:Str w S lim f hv L) (hg:w.grownBy w' row) (hr:∀ g,row=some g->S≠g/\hv.ownBlock≠some g):Str w' S lim f hv L:=by
 have hS:S < w.heap.size:=cell_lt h.c0
 have hb:w'.heap[S]?=w.heap[S]?:=hg.block S hS (fun e=>(hr S e.symm).1 rfl)
 refine⟨(World.cell?_of_block hb).trans h.c0,(World.cell?_of_block hb).trans h.c1,(World.cell?_of_block hb).trans h.c2,(World.frozen?_of_block hb).trans h.f1,(World.frozen?_of_block hb).trans h.f2,h.row.kept hg ?_,h.rng⟩
 cases e:hv.ownBlock with
 | none=>exact .inl rfl
 | some g=>exact .inr (fun k=>(hr g k.symm).2 e)
theorem owns_fb {w w':World} {S B:Nat} {row:Option Nat} {e:TypeId} {s:Nat} {v:Value} {n:Nat} {xs:List Value} (h:w.ownsRow B e s v n xs) (hf:FB S row w w') (hr:∀ g,v.ownBlock=some g->g≠S/\row≠some g):w'.ownsRow B e s v n xs:=by
 refine⟨h.1,?_⟩
 rcases h.2 with h2 | ⟨g,cap,cur,rfl,hB,hg,rest⟩
 ·exact .inl h2
 ·exact .inr ⟨g,cap,cur,rfl,hB,(hf.block g (Array.getElem?_eq_some_iff.1 hg).1 (hr g rfl).1 (fun e=>(hr g rfl).2 e.symm)).trans hg,rest⟩
theorem owns_lt {w:World} {B:Nat} {e:TypeId} {s:Nat} {v:Value} {n:Nat} {xs:List Value} (h:w.ownsRow B e s v n xs):∀ g,v.ownBlock=some g->B<=g/\g < w.heap.size/\∃ cur fz,w.heap[g]?=some (.cells cur e fz):=by
 intro g hg
 rcases h.2 with⟨rfl,_⟩ | ⟨g',cap,cur,rfl,hB,hgg,_⟩
 ·cases hg
 ·cases hg
  exact⟨hB,(Array.getElem?_eq_some_iff.1 hgg).1,cur,_,hgg⟩
theorem eqpks_nil (ao bo:Option Addr) (ca cb:Nat) (w:World):Calls Tryz.prog 8 #[.slice ao 0 ca,.slice bo 0 cb] w fun e w'=>e=.returned (.bool true)/\Below w.heap.size w w':=by
 go_enter Tryz.func8,Tryz.ntmps8
 go_wp2
 refine wp_loop_rounds 1 ?_
 rw[rounds_succ]
 go_wp2
 go_ret
 exact⟨rfl,Below.refl _ _⟩
theorem pcs_get (d:List Pkv):∀ (i:Nat) (u:Pkv),d[i]?=some u->∀ j,j < 19->(d.flatMap Pkv.cells)[i * 19+j]?=u.cells[j]?:=by
 induction d with
 | nil=>intro i u h;simp at h
 | cons v us ih =>
  intro i u h j hj
  have hl:v.cells.length=19:=rfl
  cases i with
  | zero =>
   simp at h
   subst h
   rw[List.flatMap_cons,Nat.zero_mul,Nat.zero_add,List.getElem?_append_left (by omega)]
  | succ i =>
   simp at h
   have:=ih i u h j hj
   rw[List.flatMap_cons,List.getElem?_append_right (by omega),<- this]
   congr 1
   omega
def ErY (w:World) (B:Nat) (v:Value) (n:Int):Prop:=(n=0/\v=.nilIface)\/ErB w B v n
theorem ErY.below {w w':World} {B:Nat} {v:Value} {n:Int} (h:ErY w B v n) (hb:Below w.heap.size w w'):ErY w' B v n:=h.imp id (fun h=>h.below hb)
theorem ErY.grown {w w':World} {B:Nat} {v:Value} {n:Int} {row:Option Nat} (h:ErY w B v n) (hg:w.grownBy w' row) (hr:∀ g,row=some g->g < B):ErY w' B v n:=h.imp id (fun h=>h.grown hg hr)
theorem ErY.errx {w:World} {B:Nat} {v:Value} {n:Int} (h:ErY w B v n):ErrX w v n:=h.imp id (fun h=>⟨1,by omega,h.er⟩)
theorem owns_form {w:World} {B:Nat} {e:TypeId} {s:Nat} {v:Value} {n:Nat} {xs:List Value} (h:w.ownsRow B e s v n xs):∃ a c,v=.slice a n c:=by
 rcases h.2 with⟨rfl,rfl⟩ | ⟨g,cap,cur,rfl,_⟩
 ·exact⟨_,_,rfl⟩
 ·exact⟨_,_,rfl⟩
structure PkY (w:World) (B:Nat) (v:Value) (qs:List Pkv) (Ps:List Pa):Prop where
 row:w.ownsRow B 45 19 v qs.length (qs.flatMap Pkv.cells)
 len:qs.length=Ps.length
 mean:∀ (i:Nat) (q:Pkv) (P:Pa),qs[i]?=some q->Ps[i]?=some P->Mean w B q P
theorem Pks.y {w:World} {B:Nat} {v:Value} {qs:List Pkv} {Ps:List Pa} (h:Pks w B v qs Ps):PkY w B v qs Ps:=⟨h.row,h.len,h.mean⟩
theorem PkY.nil (w:World) (B:Nat):PkY w B (.slice none 0 0) [] []:=⟨World.ownsRow_nil _ _ _ _,rfl,fun i q P h=>by simp at h⟩
theorem PkY.below {w w':World} {B:Nat} {v:Value} {qs:List Pkv} {Ps:List Pa} (h:PkY w B v qs Ps) (hb:Below w.heap.size w w'):PkY w' B v qs Ps :=
 ⟨owns_below h.row hb,h.len,fun i q P h1 h2=>(h.mean i q P h1 h2).below hb⟩
theorem owns_fbp {w w':World} {S B:Nat} {row:Option Nat} {e:TypeId} {s:Nat} {v:Value} {n:Nat} {xs:List Value} (h:w.ownsRow B e s v n xs) (hf:FB S row w w') (hS:S < B) (hr:∀ g,row=some g->∃ cur fz,w.heap[g]?=some (.cells cur 5 fz)) (hne:e≠5):w'.ownsRow B e s v n xs :=
 owns_fb h hf fun g hg=>by
  obtain⟨k1,k2,cur,fz,k3⟩:=owns_lt h g hg
  refine⟨by omega,fun e1=>?_⟩
  obtain⟨c2,f2,k4⟩:=hr g e1
  rw[k3]at k4
  cases k4
  exact hne rfl
theorem PkY.fb {w w':World} {S B:Nat} {row:Option Nat} {v:Value} {qs:List Pkv} {Ps:List Pa} (h:PkY w B v qs Ps) (hf:FB S row w w') (hS:S < B) (hr:∀ g,row=some g->∃ cur fz,w.heap[g]?=some (.cells cur 5 fz)):PkY w' B v qs Ps :=
 ⟨owns_fbp h.row hf hS hr (by decide),h.len,fun i q P h1 h2=>by
  have k:=h.mean i q P h1 h2
  exact⟨k.sc,owns_fbp k.props hf hS hr (by decide),by
   obtain⟨ws,k1,k2,k3⟩:=k.wills
   exact⟨ws,owns_fbp k1 hf hS hr (by decide),k2,fun i a b ha hb=>by
    obtain⟨j1,j2,j3,j4,j5⟩:=k3 i a b ha hb
    exact⟨j1,j2,j3,j4,owns_fbp j5 hf hS hr (by decide)⟩⟩,owns_fbp k.user hf hS hr (by decide),owns_fbp k.pass hf hS hr (by decide),owns_fbp k.subs hf hS hr (by decide),owns_fbp k.filters hf hS hr (by decide),owns_fbp k.codes hf hS hr (by decide)⟩⟩
theorem PkY.join {w w':World} {B B':Nat} {v v1 v':Value} {qs qs1:List Pkv} {Ps Ps1:List Pa} (h:PkY w B v qs Ps) (h1:PkY w B' v1 qs1 Ps1) (hB:B<=B') (hg:w.grownBy w' v.ownBlock) (ho:w'.ownsRow B 45 19 v' (qs.length+qs1.length) (qs.flatMap Pkv.cells++qs1.flatMap Pkv.cells)):PkY w' B v' (qs++qs1) (Ps++Ps1):=by
 have ht:∀ g,v.ownBlock=some g->∃ cur fz,w.heap[g]?=some (.cells cur 45 fz):=fun g e=>(owns_lt h.row g e).2.2
 refine⟨?_,by rw[List.length_append,List.length_append,h.len,h1.len],fun i q P hq hP=>?_⟩
 ·rw[List.length_append,List.flatMap_append]
  exact ho
 ·by_cases hi:i < qs.length
  ·rw[List.getElem?_append_left hi]at hq
   rw[List.getElem?_append_left (by rw[<- h.len];exact hi)]at hP
   exact (h.mean i q P hq hP).ty hg ht
  ·rw[List.getElem?_append_right (by omega)]at hq
   rw[List.getElem?_append_right (by rw[<- h.len];omega),<- h.len]at hP
   exact ((h1.mean _ q P hq hP).base hB).ty hg ht
theorem PkY.range {w:World} {B1 g n cap:Nat} {qs:List Pkv} {Ps:List Pa} (h:PkY w B1 (.slice (some ⟨g,0,none⟩) n cap) qs Ps) (hl:∀ P ∈ Ps,B.Md P):∀ k,k < qs.length->w.rangeAt g (0+k * 19) (qs.getD k pkz).cells/\RPk w (qs.getD k pkz) (Ps.getD k (pa0 0 false 0 false)):=by
 intro k hk
 have hq:qs[k]?=some (qs.getD k pkz):=by rw[List.getD_eq_getElem?_getD,List.getElem?_eq_getElem hk];rfl
 have hk2:k < Ps.length:=by rw[<- h.len];exact hk
 have hP:Ps[k]?=some (Ps.getD k (pa0 0 false 0 false)):=by rw[List.getD_eq_getElem?_getD,List.getElem?_eq_getElem hk2];rfl
 have hv:n=qs.length:=by
  rcases h.row.2 with⟨e,_⟩ | ⟨g',cap',cur,e,_⟩
  ·cases e
  ·cases e;rfl
 subst hv
 refine⟨fun j u hu=>?_,B.mean_rpk (h.mean k _ _ hq hP) (hl _ (List.mem_of_getElem? hP))⟩
 have hj:j < 19:=(List.getElem?_eq_some_iff.1 hu).1
 rw[Nat.zero_add,h.row.cellAt (k * 19+j) (by omega),pcs_get qs k _ hq j hj]
 exact hu
theorem md_small {P:Pa} (h:B.Md P):Small P:=⟨by have:=h.props.1;omega,by have:=h.wills;omega,by have:=h.subs;omega⟩
theorem eqpks_y (B1 B2:Nat) (v v':Value) (qs qs':List Pkv) (Ps:List Pa) (w:World) (h:PkY w B1 v qs Ps) (h':PkY w B2 v' qs' Ps) (hl:∀ P ∈ Ps,B.Md P) (hn:Ps.length<=1000000000) :
  Calls Tryz.prog 8 #[v,v'] w fun e w'=>e=.returned (.bool true)/\Below w.heap.size w w':=by
 by_cases h0:Ps.length=0
 ·obtain⟨ao,ca,rfl,-⟩:=own0 (by have k:=h.row;rw[List.length_eq_zero_iff.1 (h.len.trans h0)]at k;exact k)
  obtain⟨bo,cb,rfl,-⟩:=own0 (by have k:=h'.row;rw[List.length_eq_zero_iff.1 (h'.len.trans h0)]at k;exact k)
  exact eqpks_nil ao bo ca cb w
 ·have e1:=h.len
  have e2:=h'.len
  obtain⟨g,cap,rfl⟩:∃ g cap,v=.slice (some ⟨g,0,none⟩) qs.length cap:=by
   rcases h.row.2 with⟨_,e⟩ | ⟨g,cap,cur,e,_⟩
   ·omega
   ·exact⟨g,cap,e⟩
  obtain⟨g',cap',rfl⟩:∃ g cap,v'=.slice (some ⟨g,0,none⟩) qs'.length cap:=by
   rcases h'.row.2 with⟨_,e⟩ | ⟨g,cap,cur,e,_⟩
   ·omega
   ·exact⟨g,cap,e⟩
  have r1:=h.range hl
  have r2:=h'.range hl
  rw[show qs'.length=qs.length by omega]at r2 |-
  refine eqpks_same g 0 g' 0 qs.length cap cap' (fun k=>qs.getD k pkz) (fun k=>qs'.getD k pkz) (fun k=>Ps.getD k (pa0 0 false 0 false)) w (by omega) r1 r2 (fun k hk=>?_)
  exact md_small (hl _ (by rw[List.getD_eq_getElem?_getD,List.getElem?_eq_getElem (by omega)];exact List.getElem_mem _))
theorem Str.fb {w w':World} {S S':Nat} {lim f:Int} {hv:Value} {L:List Int} {row:Option Nat} (h:Str w S lim f hv L) (hf:FB S' row w w') (hS:S≠S') (hrow:row≠some S) (hr:∀ g,hv.ownBlock=some g->g≠S'/\row≠some g):Str w' S lim f hv L:=by
 have hb:w'.heap[S]?=w.heap[S]?:=hf.block S (cell_lt h.c0) hS (fun e=>hrow e.symm)
 exact⟨(World.cell?_of_block hb).trans h.c0,(World.cell?_of_block hb).trans h.c1,(World.cell?_of_block hb).trans h.c2,(World.frozen?_of_block hb).trans h.f1,(World.frozen?_of_block hb).trans h.f2,owns_fb h.row hf hr,h.rng⟩
theorem ErY.fb {w w':World} {S B:Nat} {v:Value} {n:Int} {row:Option Nat} (h:ErY w B v n) (hf:FB S row w w') (hS:S < B) (hr:∀ g,row=some g->g < B\/w.heap.size<=g):ErY w' B v n:=by
 rcases h with h | ⟨b,rfl,hb,hc⟩
 ·exact .inl h
 ·have hb2:w'.heap[b]?=w.heap[b]?:=hf.block b (cell_lt hc) (by omega) (fun e=>by
   have k:=cell_lt hc
   rcases hr b e.symm with h | h
   ·omega
   ·exact absurd k (by simpa using h))
  exact .inr ⟨b,rfl,hb,(World.cell?_of_block hb2).trans hc⟩
theorem flat19 (qs:List Pkv):(qs.flatMap Pkv.cells).length=qs.length * 19:=by
 induction qs with
 | nil=>rfl
 | cons q qs ih =>
  rw[List.flatMap_cons,List.length_append,ih,List.length_cons]
  have:q.cells.length=19:=rfl
  omega
theorem wpList_append_pks (w:World) {ops:Array Oper} {rest:List Oper} {o:Oper} {a:Act} {Q:Exit->Act->World->Prop} (hgd:o.guard=none) (s x:Operand)
  (ho:o.op=.call { callee:=.builtin .append,args:=#[s,x],argTypes:=#[29,29] })
  (B:Nat) (v:Value) (qs:List Pkv) (Ps:List Pa) (hs:a.eval s=v) (h:PkY w B v qs Ps) (B':Nat) (v1:Value) (qs1:List Pkv) (Ps1:List Pa) (hx:a.eval x=v1) (h1:PkY w B' v1 qs1 Ps1)
  (hB:B<=B') (hn:qs.length+qs1.length<=100000) (hbase:B<=w.heap.size)
  (hk:∀ v' w',PkY w' B v' (qs++qs1) (Ps++Ps1)->w.grownBy w' v.ownBlock->wpList Tryz.prog ops Q rest (a.put o.dst v') w'):wpList Tryz.prog ops Q (o :: rest) a w:=by
 obtain⟨i0,hi,hz0,hz1,hz2⟩:=info_parts infoPk
 rcases h1.row.2 with⟨e,h0⟩ | ⟨g,cap,cur,e,_⟩
 ·obtain rfl:qs1=[]:=List.length_eq_zero_iff.1 h0
  obtain rfl:Ps1=[]:=List.length_eq_zero_iff.1 (h1.len.symm.trans h0)
  refine wpList_plain hgd fun K hK=>?_
  have hr:=run_append_owned_none (P:=Tryz.prog) (w:=w) B 29 o.type 45 i0 19 Tryz.underlying29 hi v qs.length _ h.row
  unfold Oper.wp execOp
  simp only[ho,resolve,invoke,builtin,Sem.run_bind,Sem.run_pure,Result.andThen_ok,List.map_toArray,List.map_cons,List.map_nil,hs,hx,e,hr]
  exact hK _ _ (hk v w (by rw[List.append_nil,List.append_nil];exact h) ⟨rfl,rfl,rfl,Nat.le_refl _,fun _ _ _=>rfl⟩)
 ·subst e
  refine wpList_append_own _ hgd s x 29 ho B 45 i0 _ 19 288 Tryz.underlying29 hi hz0 hz1 hz2 rfl (by decide) v qs.length _ hs h.row ⟨g,0,none⟩ qs1.length cap (qs1.flatMap Pkv.cells) hx (flat19 qs1) (fun j u hu=>?_) (fun u hu=>?_) (by unfold maxLen;omega) (by omega) hbase ?_
  ·rw[addr_add,Nat.zero_add]
   have hj:j < qs1.length * 19:=by rw[<- flat19];exact (List.getElem?_eq_some_iff.1 hu).1
   exact (h1.row.cellAt j hj).trans hu
  ·obtain⟨q,_,hq⟩:=List.mem_flatMap.1 hu
   exact q.ones u hq
  ·intro v' w' ho' hg' _
   exact hk v' w' (h.join h1 hB hg' ho') hg'
theorem enc_told {w:World} {q:Pkv} {P:Pa} {l:List Int} {N:Nat} (hR:RPk w q P) (hB:Big P) (h1:(fkA P).2=true) (h2:eb P=some l) (h3:(ebytes P.kind (fkA P).1 l).length<=N) (h4:N<=65536):Calls Tryz.prog 10 #[q.val] w fun e w'=>∃ v ys,e=.returned (.tuple #[v,.nilIface])/\ys.length<=N/\Hid (Byt w' v ys)/\Below w.heap.size w w':=by
 refine (enc_any hR hB).mono ?_
 rintro e w' ⟨hb,⟨h,x,rfl,hE⟩ | ⟨_,l',k2,k3,x,rfl,hE⟩ | ⟨_,l',k2,k3,v,rfl,hO,hr⟩⟩
 ·rcases h with h | h
  ·rw[h1]at h;cases h
  ·rw[h2]at h;cases h
 ·rw[h2]at k2
  cases k2
  omega
 ·rw[h2]at k2
  cases k2
  exact⟨v,_,rfl,h3,byt_of_owns (uh hO) (uh hr),hb⟩
structure LI (W4 wr:World) (S:Nat) (L:Int) (al:List Int) (i:Nat) (y hv:Value) (qs:List Pkv) (Ps:List Pa) (n:Nat) (e:Int):Prop where
 run:SRun L (al.take i) Ps n e
 ne:e≠0
 pk:PkY wr W4.heap.size y qs Ps
 str:Str wr S L (if e=3 then 0 else e) hv (if e=3 then (al.take i).drop n else [])
 hvb:∀ g,hv.ownBlock=some g->W4.heap.size<=g
 fb:FB S none W4 wr
theorem LI.below {W4 wr w':World} {S:Nat} {L:Int} {al:List Int} {i:Nat} {y hv:Value} {qs:List Pkv} {Ps:List Pa} {n:Nat} {e:Int} (h:LI W4 wr S L al i y hv qs Ps n e) (hb:Below wr.heap.size wr w'):LI W4 w' S L al i y hv qs Ps n e :=
 ⟨h.run,h.ne,h.pk.below hb,h.str.below hb,h.hvb,h.fb.trans (row':=none) (FB.of_below hb) (fun g e=>by cases e)⟩
structure LJ (W4 wr w2:World) (S:Nat) (L:Int) (al:List Int) (i:Nat) (y v2 E2 hv:Value) (qs:List Pkv) (Ps:List Pa) (qs2:List Pkv) (Ps2:List Pa) (n:Nat) (e:Int):Prop where
 run:SRun L (al.take i) (Ps++Ps2) n e
 ne:e≠0
 pk:PkY w2 W4.heap.size y qs Ps
 yb:∀ g,y.ownBlock=some g->g < wr.heap.size
 pk2:PkY w2 wr.heap.size v2 qs2 Ps2
 str:Str w2 S L (if e=3 then 0 else e) hv (if e=3 then (al.take i).drop n else [])
 hvb:∀ g,hv.ownBlock=some g->W4.heap.size<=g
 fb:FB S none W4 w2
 er:ErY w2 wr.heap.size E2 (if e=3 then 0 else e)
theorem LJ.lens {W4 wr w2:World} {S:Nat} {L:Int} {al:List Int} {i:Nat} {y v2 E2 hv:Value} {qs:List Pkv} {Ps:List Pa} {qs2:List Pkv} {Ps2:List Pa} {n:Nat} {e:Int} (h:LJ W4 wr w2 S L al i y v2 E2 hv qs Ps qs2 Ps2 n e) (hi:i<=2000):qs.length+qs2.length<=100000:=by
 have h1:=h.run.len
 have h2:=h.run.le
 rw[List.length_append]at h1
 rw[List.length_take]at h2
 rw[h.pk.len,h.pk2.len]
 omega
theorem LJ.app {W4 wr w2 w3:World} {S:Nat} {L:Int} {al:List Int} {i:Nat} {y v2 E2 hv v3:Value} {qs:List Pkv} {Ps:List Pa} {qs2:List Pkv} {Ps2:List Pa} {n:Nat} {e:Int} (h:LJ W4 wr w2 S L al i y v2 E2 hv qs Ps qs2 Ps2 n e) (hS:S < W4.heap.size) (hp:PkY w3 W4.heap.size v3 (qs++qs2) (Ps++Ps2)) (hg:w2.grownBy w3 y.ownBlock):LI W4 w3 S L al i v3 hv (qs++qs2) (Ps++Ps2) n e/\ErY w3 wr.heap.size E2 (if e=3 then 0 else e):=by
 refine⟨⟨h.run,h.ne,hp,h.str.grown hg (fun g hg'=>⟨?_,fun e1=>?_⟩),h.hvb,h.fb.trans (FB.of_grown hg) (fun g e1=>.inr (owns_lt h.pk.row g e1).1)⟩,h.er.grown hg h.yb⟩
 ·have:=(owns_lt h.pk.row g hg').1
  omega
 ·obtain⟨_,_,c1,f1,k1⟩:=owns_lt h.pk.row g hg'
  obtain⟨_,_,c2,f2,k2⟩:=owns_lt h.str.row g e1
  rw[k1]at k2
  cases k2
theorem feed_step {W4 wr:World} {S:Nat} {L:Int} {al:List Int} {k:Nat} {y hv:Value} {qs:List Pkv} {Ps:List Pa} {n:Nat} {e:Int} {vb:Value} {z:List Int} (h:LI W4 wr S L al k y hv qs Ps n e) (hS:S < W4.heap.size) (hg:Laid wr) (hM:Byt wr vb z) (hz:al.take k++z=al.take (k+1)) (hk:k < al.length) (hl2:2<=L) (hl6:L<=65536) (hr:Rng al) (hal:al.length<=1500) :
  Calls Tryz.prog 6 #[.pointer (some ⟨S,0,none⟩),vb] wr fun en w2=>∃ v2 E2 hv2 qs2 Ps2 n2 m2,en=.returned (.tuple #[v2,E2])/\Hid (LJ W4 wr w2 S L al (k+1) y v2 E2 hv2 qs Ps qs2 Ps2 n2 m2):=by
 have hrk:Rng (al.take k):=fun j=>by
  rw[List.getD_eq_getElem?_getD,List.getElem?_take]
  split
  ·rw[<- List.getD_eq_getElem?_getD];exact hr j
  ·exact⟨Int.le_refl _,by decide⟩
 have hnk:=h.run.le
 rw[List.length_take]at hnk
 have hyb:∀ g,y.ownBlock=some g->g < wr.heap.size:=fun g e1=>(owns_lt h.pk.row g e1).2.1
 by_cases he:e=3
 ·subst he
  have hst:=h.str
  rw[if_pos rfl,if_pos rfl]at hst
  have hzl:z.length<=1:=by
   have:=congrArg List.length hz
   rw[List.length_append,List.length_take,List.length_take]at this
   omega
  refine (sfeed_ok S L hv _ vb z wr hg hst hM hl2 (by rw[List.length_append,List.length_drop,List.length_take];omega)).mono ?_
  rintro en w2 ⟨v2,E2,qs2,Ps2,n2,m2,hv2,rfl,hn2,hrun2,hm2,hpk2,hres2,hhv2,hfb2⟩
  have hdr:((al.take k).drop n++z).drop n2=(al.take (k+1)).drop (n+n2):=by
   have e1:(al.take k++z).drop n=(al.take k).drop n++z:=List.drop_append_of_le_length (by rw[List.length_take];omega)
   rw[<- hz,<- List.drop_drop,e1]
  have hrt:∀ g,hv.ownBlock=some g->∃ cur fz,wr.heap[g]?=some (.cells cur 5 fz):=fun g e1=>(owns_lt hst.row g e1).2.2
  refine⟨v2,E2,hv2,qs2,Ps2,n+n2,m2,rfl,⟨?_,hm2,h.pk.fb hfb2 hS hrt,hyb,hpk2.y,?_,?_,h.fb.trans hfb2 (fun g e1=>.inr (h.hvb g e1)),?_⟩⟩
  ·rw[<- hz]
   exact h.run.app3 hl2 hl6 rfl hrk z Ps2 n2 m2 hM.range hrun2
  ·rcases hres2 with⟨rfl,_,h2⟩ | ⟨hm,_,_,h2⟩
   ·rw[if_pos rfl,if_pos rfl,<- hdr]
    exact h2
   ·rw[if_neg hm,if_neg hm]
    exact h2
  ·intro g e1
   rcases hhv2 with e2 | e2
   ·exact h.hvb g (e2 ▸ e1)
   ·exact Nat.le_trans h.fb.size (e2 g e1)
  ·rcases hres2 with⟨rfl,rfl,_⟩ | ⟨hm,_,h1,_⟩
   ·exact .inl ⟨rfl,rfl⟩
   ·rw[if_neg hm]
    exact .inr h1
 ·have hst:=h.str
  rw[if_neg he,if_neg he]at hst
  refine (sfeed_bad S L e hv [] vb z wr hst hM h.ne).mono ?_
  rintro en w2 ⟨x,rfl,hE,hb⟩
  refine⟨_,_,hv,[],[],n,e,rfl,⟨?_,h.ne,h.pk.below hb,hyb,PkY.nil _ _,?_,h.hvb,h.fb.trans (row':=none) (FB.of_below hb) (fun g e1=>by cases e1),?_⟩⟩
  ·rw[<- hz,List.append_nil]
   exact h.run.appE hl2 hl6 he hrk z hM.range
  ·rw[if_neg he,if_neg he]
   exact hst.below hb
  ·rw[if_neg he]
   exact .inr (uh hE)
end Go.Proofs.YtccnjdgaldbgnaaGreatDoor.K
