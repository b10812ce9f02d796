/- Proved here: helpers, one text behind the other. -/
import Derived.Test.YtpheelbbpiieiaaGreatDoorZC27
import Derived.Maps.AppendAt
import Derived.Test.YtpheelbbpiieiaaGreatDoorZC5
set_option maxHeartbeats 20000000
namespace Go.Proofs.YtpheelbbpiieiaaGreatDoor.K
open Go.RowKit
set_option maxRecDepth 100000
theorem owns_ty {w w':World} {B:Nat} {e t:TypeId} {s:Nat} {v:Value} {n:Nat} {xs:List Value} {row:Option Nat} (h:w.ownsRow B e s v n xs) (hg:w.grownBy w' row) (ht:∀ g,row=some g->∃ cur fz,w.heap[g]?=some (.cells cur t fz)) (hne:e≠t):w'.ownsRow B e s v n xs:=by
 refine⟨h.1,?_⟩
 rcases h.2 with h1 | ⟨g,cap,cur,hv,hB,hgg,rest⟩
 ·exact .inl h1
 ·refine .inr ⟨g,cap,cur,hv,hB,?_,rest⟩
  rw[hg.block g (Array.getElem?_eq_some_iff.1 hgg).1 (fun er=>by
   obtain⟨cur',fz,k⟩:=ht g er.symm
   rw[hgg]at k
   simp only[Option.some.injEq,Obj.cells.injEq]at k
   exact hne k.2.1)]
  exact hgg
theorem Mean.ty {w w':World} {B:Nat} {p:Pkv} {P:Pa} {row:Option Nat} (h:Mean w B p P) (hg:w.grownBy w' row) (ht:∀ g,row=some g->∃ cur fz,w.heap[g]?=some (.cells cur 29 fz)):Mean w' B p P :=
 ⟨h.sc,owns_ty h.props hg ht (by decide),by
  obtain⟨ws,h1,h2,h3⟩:=h.wills
  exact⟨ws,owns_ty h1 hg ht (by decide),h2,fun i a b ha hb=>by
   obtain⟨k1,k2,k3,k4,k5⟩:=h3 i a b ha hb
   exact⟨k1,k2,k3,k4,owns_ty k5 hg ht (by decide)⟩⟩,owns_ty h.user hg ht (by decide),owns_ty h.pass hg ht (by decide),owns_ty h.subs hg ht (by decide),owns_ty h.filters hg ht (by decide),owns_ty h.codes hg ht (by decide)⟩
theorem Mean.below {w w':World} {B:Nat} {p:Pkv} {P:Pa} (h:Mean w B p P) (hb:Below w.heap.size w w'):Mean w' B p P :=
 ⟨h.sc,owns_below h.props hb,by
  obtain⟨ws,h1,h2,h3⟩:=h.wills
  exact⟨ws,owns_below h1 hb,h2,fun i a b ha hb'=>by
   obtain⟨k1,k2,k3,k4,k5⟩:=h3 i a b ha hb'
   exact⟨k1,k2,k3,k4,owns_below k5 hb⟩⟩,owns_below h.user hb,owns_below h.pass hb,owns_below h.subs hb,owns_below h.filters hb,owns_below h.codes hb⟩
structure Pks (w:World) (B:Nat) (v:Value) (qs:List Pkv) (Ps:List Pa):Prop where
 row:w.ownsRow B 29 19 v qs.length (qs.flatMap Pkv.cells)
 len:qs.length=Ps.length
 mean:∀ (i:Nat) (q:Pkv) (P:Pa),qs[i]?=some q->Ps[i]?=some P->Mean w B q P
 dist:∀ (i j:Nat) (q q':Pkv) (g:Nat),i < j->qs[i]?=some q->qs[j]?=some q'->q.wills.val.ownBlock=some g->q'.wills.val.ownBlock≠some g
theorem Pks.nil (w:World) (B:Nat):Pks w B (.slice none 0 0) [] []:=⟨World.ownsRow_nil _ _ _ _,rfl,fun i q P h=>by simp at h,fun i j q q' g _ h=>by simp at h⟩
theorem Pks.below {w w':World} {B:Nat} {v:Value} {qs:List Pkv} {Ps:List Pa} (h:Pks w B v qs Ps) (hb:Below w.heap.size w w'):Pks w' B v qs Ps :=
 ⟨owns_below h.row hb,h.len,fun i q P h1 h2=>(h.mean i q P h1 h2).below hb,h.dist⟩
theorem Pks.blk {w:World} {B:Nat} {v:Value} {qs:List Pkv} {Ps:List Pa} (h:Pks w B v qs Ps):∀ g,v.ownBlock=some g->B<=g/\∃ cur fz,w.heap[g]?=some (.cells cur 29 fz):=by
 intro g hg
 rcases h.row.2 with⟨rfl,_⟩ | ⟨g',cap,cur,rfl,hB,hgg,_⟩
 ·cases hg
 ·cases hg
  exact⟨hB,cur,_,hgg⟩
theorem Mean.wblk {w:World} {B:Nat} {q:Pkv} {P:Pa} (h:Mean w B q P):∀ g,q.wills.val.ownBlock=some g->B<=g/\g < w.heap.size:=by
 intro g hg
 obtain⟨ws,h1,_⟩:=h.wills
 rcases h1.2 with⟨e,_⟩ | ⟨g',cap,cur,e,hB,hgg,_⟩
 ·rw[e]at hg;cases hg
 ·rw[e]at hg
  cases hg
  exact⟨hB,(Array.getElem?_eq_some_iff.1 hgg).1⟩
theorem Pks.fresh {w w2:World} {B:Nat} {v:Value} {qs:List Pkv} {Ps:List Pa} (h:Pks w B v qs Ps) (q:Pkv) (P:Pa) (hm:Mean w2 w.heap.size q P):∀ (i:Nat) (q':Pkv) (g:Nat),qs[i]?=some q'->q'.wills.val.ownBlock=some g->q.wills.val.ownBlock≠some g:=by
 intro i q' g hi hg hq
 obtain⟨P',hP'⟩:∃ P',Ps[i]?=some P':=⟨_,List.getElem?_eq_getElem (by rw[<- h.len];exact (List.getElem?_eq_some_iff.1 hi).1)⟩
 have k1:=(h.mean i q' P' hi hP').wblk g hg
 have k2:=hm.wblk g hq
 omega
theorem Pks.app {w w':World} {B:Nat} {v v':Value} {qs:List Pkv} {Ps:List Pa} {q:Pkv} {P:Pa} (h:Pks w B v qs Ps) (hm:Mean w B q P) (hf:∀ (i:Nat) (q':Pkv) (g:Nat),qs[i]?=some q'->q'.wills.val.ownBlock=some g->q.wills.val.ownBlock≠some g) (hg:w.grownBy w' v.ownBlock) (ho:w'.ownsRow B 29 19 v' (qs.length+1) (qs.flatMap Pkv.cells++q.cells)):Pks w' B v' (qs++[q]) (Ps++[P]):=by
 have ht:∀ g,v.ownBlock=some g->∃ cur fz,w.heap[g]?=some (.cells cur 29 fz):=fun g e=>(h.blk g e).2
 refine⟨?_,by simp[h.len],fun i x X h1 h2=>?_,fun i j x y g hij h1 h2 h3=>?_⟩
 ·rw[List.length_append,List.flatMap_append]
  simpa using ho
 ·by_cases hi:i < qs.length
  ·rw[List.getElem?_append_left hi]at h1
   rw[List.getElem?_append_left (by rw[<- h.len];exact hi)]at h2
   exact (h.mean i x X h1 h2).ty hg ht
  ·rw[List.getElem?_append_right (by omega)]at h1
   rw[List.getElem?_append_right (by rw[<- h.len];omega),<- h.len]at h2
   by_cases h0:i - qs.length=0
   ·rw[h0]at h1 h2
    simp at h1 h2
    subst h1 h2
    exact hm.ty hg ht
   ·rw[List.getElem?_eq_none (by simp;omega)]at h1
    cases h1
 ·have hj:j < qs.length+1:=by have:=(List.getElem?_eq_some_iff.1 h2).1;simpa using this
  rw[List.getElem?_append_left (by omega)]at h1
  by_cases hjl:j < qs.length
  ·rw[List.getElem?_append_left hjl]at h2
   exact h.dist i j x y g hij h1 h2 h3
  ·obtain rfl:j=qs.length:=by omega
   simp at h2
   subst h2
   exact hf i x g h1 h3
inductive SRun (lim:Int):List Int->List Pa->Nat->Int->Prop
 | stop (l:List Int):snum lim l≠0->SRun lim l [] 0 (snum lim l)
 | step (l:List Int) (P:Pa) (r:List Int) (Ps:List Pa) (n:Nat) (e:Int):snum lim l=0->dbody l=some (P,r)->SRun lim (l.drop (meas l).2.1) Ps n e->SRun lim l (P :: Ps) ((meas l).2.1+n) e
theorem snum_zero {lim:Int} {l:List Int} (h:snum lim l=0):dnum l=0:=by
 unfold snum at h
 split at h
 ·exact h
 ·split at h <;> omega
theorem snum_meas {lim:Int} {l:List Int} (h:snum lim l=0):1<=(meas l).2.1/\(meas l).2.1<=l.length:=by
 have k:=snum_zero h
 have h2:(meas l).2.2=0:=by
  unfold dnum at k
  split at k
  ·omega
  ·split at k
   ·omega
   ·split at k
    ·omega
    ·rename_i k2;simpa using k2
 unfold meas at h2 |-
 split
 ·rename_i k1;rw[if_pos k1]at h2;exact absurd h2 k1
 ·rename_i k1
  rw[if_neg k1]at h2
  split
  ·rename_i k2;rw[if_pos k2]at h2;simp at h2
  ·rename_i k2
   rw[if_neg k2]at h2
   split
   ·rename_i k3;rw[if_pos k3]at h2;simp at h2
   ·simp only;omega
theorem infoPk:(Tryz.prog.info? 29).map (fun i=>(i.zero,i.size,i.bytes))=some (some (.agg pkz.cells.toArray),19,288):=by kernel_rfl
theorem pk_slice (a:Act) (dst:Option Tmp) (x:Operand) (ty:TypeId) (pos:String) (after:Array Edge) (q:Pkv) (hx:a.eval x=q.val) (w:World) :
  (execOp a.eval ⟨dst,.buildSlice 52 1 #[(0,x)],ty,pos,after,none⟩).run Tryz.prog w=.ok (.value (.slice (some ⟨w.heap.size,0,none⟩) 1 1)) (w.alloc (.cells q.cells.toArray 29)):=by
 unfold execOp
 simp only[List.map_toArray,List.map_cons,List.map_nil,hx]
 kernel_rfl
theorem pk_cells {w:World} {A:Nat} {q:Pkv} (h:Pk w A q):∀ j u,q.cells[j]?=some u->w.cell? ((⟨A,0,none⟩:Addr).add j)=some u:=fun j u hu=>by
 have k:=h.range j u hu
 rw[Nat.zero_add]at k
 by_cases hj:j=0
 ·subst hj;simpa [Addr.add] using k
 ·simpa [Addr.add,hj] using k
def WholePost (lim:Int) (L:List Int) (w:World) (e:Ending) (w':World):Prop :=
 ∃ (v:Value) (n:Nat) (E:Value) (qs:List Pkv) (Ps:List Pa) (m:Int),e=.returned (.tuple #[v,.int .i64 n,E])/\n<=L.length/\Hid (SRun lim L Ps n m)/\m≠0/\Hid (Pks w' w.heap.size v qs Ps)/\Hid (∃ d,d<=3/\Er w' d E m)/\Below w.heap.size w w'
theorem swhole_own (S:Nat) (lim:Int) (b off cap:Nat) (L:List Int) (w:World) (h:Byt w (.slice (some ⟨b,off,none⟩) L.length cap) L) (hS:w.cell? ⟨S,0,none⟩=some (.int .i64 lim)) (hS1:w.cell? ⟨S,1,none⟩=some (.slice (some ⟨b,off,none⟩) L.length cap)) (hlim:2<=lim) (hLN:L.length<=1073741824) :
  Calls Tryz.prog 45 #[.pointer (some ⟨S,0,none⟩)] w (WholePost lim L w):=by
 have hSl:=cell_lt hS
 obtain⟨i0,hi,hz0,hz1,hz2⟩:=info_parts infoPk
 obtain⟨hcl,hcap⟩:L.length<=cap/\cap<=maxLen:=by
  obtain⟨ao',cap',e,k1,k2⟩:=h.form
  simp only[Value.slice.injEq]at e
  obtain⟨_,_,rfl⟩:=e
  exact⟨k1,k2⟩
 unfold maxLen at hcap
 have HH:=zh h
 have HS:=zh hS
 have HS1:=zh hS1
 generalize hN:L.length=N at hcl HH HS1 hLN
 have HN:=zh hN
 clear h hS hS1 hN
 go_enter Tryz.func45,Tryz.ntmps45
 go_wp2
 go_loopw [2,3] (fun l0 n0 wr=>∃ (lv:Value) (qs:List Pkv) (Ps:List Pa) (k n:Nat),l0=lv/\n0=.int .i64 n/\n<=N/\k<=n/\Hid (qs.length=k)/\Hid (Pks wr w.heap.size lv qs Ps)/\Hid (∀ Ps' n' e',SRun lim (L.drop n) Ps' n' e'->SRun lim L (Ps++Ps') (n+n') e')/\Hid (Below w.heap.size w wr)) (fun _ n0 _=>N - (intOf n0).toNat)
 case atStart =>
  refine⟨.slice none 0 0,[],[],0,0,rfl,rfl,Nat.zero_le _,Nat.le_refl _,rfl,Pks.nil _ _,fun Ps' n' e' h=>?_,Below.refl _ _⟩
  simpa using h
 case round =>
  obtain⟨_,qs,Ps,k,n,rfl,rfl,hn,hk,HQ,HP,HR,HB⟩:=hrel
  have c1:wr.cell? ⟨S,1,none⟩=some (.slice (some ⟨b,off,none⟩) N cap):=((uh HB).cell hSl).trans (uh HS1)
  have HY:=zh (((uh HH).below (uh HB)).drop' n hn)
  have HC0:Hid (wr.cell? ⟨S,0,none⟩=some (.int .i64 lim)):=((uh HB).cell hSl).trans (uh HS)
  have hsz:=(uh HB).size
  by_cases hcn:cap=n
  ·obtain rfl:N=n:=by omega
   subst hcn
   have HT:Hid (Byt wr (.slice (some ⟨b,off,none⟩) 0 0) (L.drop cap)):=by
    have k:=uh HY
    rw[if_pos rfl,Nat.sub_self]at k
    exact k
   clear HY
   go_wp2_with fail
   refine (snext_any S lim _ (L.drop cap) wr (uh HT) (uh HC0) hlim).mono ?_
   rintro e w2 ⟨q,z,E,rfl,hcase,hb2⟩
   have HC:=zh hcase
   have HB2:Hid (Below w.heap.size w w2):=(uh HB).trans (hb2.mono hsz)
   have HP2:=zh ((uh HP).below hb2)
   clear hb2 hcase HB HP c1 HT HC0
   dsimp only
   iterate 13 go_step
   refine Go.Proofs.YtpheelbbpiieiaaGreatDoor.wpList_value rfl (spk_alloc _ _ _ _ _ _) ?_
   simp only[Act.put,List.setIfInBounds_toArray,List.set_cons_zero,List.set_cons_succ]
   refine Go.Proofs.YtpheelbbpiieiaaGreatDoor.wpList_skip rfl (spk_store _ _ _ _ _ _ _ q w2 rfl rfl) ?_
   simp only[Act.put]
   have hal:Below w2.heap.size w2 (w2.alloc (.cells q.cells.toArray 29)):=bal _ _
   have HK3:=zh (pk_new w2 q)
   have HB3:Hid (Below w.heap.size w (w2.alloc (.cells q.cells.toArray 29))):=(uh HB2).trans (hal.mono (uh HB2).size)
   have HP3:=zh ((uh HP2).below hal)
   rcases uh HC with⟨hm,hE⟩ | ⟨hm,hz,rfl,P,r,hd,hM⟩
   ·obtain⟨d,hd,hE1⟩:=uh hE
    have HE3:Hid (∃ d,d<=3/\Er (w2.alloc (.cells q.cells.toArray 29)) d E (snum lim (L.drop cap))):=⟨d,hd,hE1.below hal⟩
    obtain⟨t,x,rfl⟩:=hE1.iface
    have HRR:Hid (SRun lim L Ps cap (snum lim (L.drop cap))):=by
     have k:=(uh HR) [] 0 _ (SRun.stop _ hm)
     show SRun _ _ _ _ _
     simpa using k
    have HMM:=zh hm
    have HNL:Hid (cap<=L.length):=by show _<=_;rw[uh HN];exact hn
    clear hE1 hE hal hd hm HC HP2 HB2 HK3 HR
    generalize w2.alloc (.cells q.cells.toArray 29)=w3 at HB3 HP3 HE3 |-
    go_wp2
    go_returns
    exact⟨_,cap,_,qs,Ps,_,rfl,uh HNL,HRR,uh HMM,HP3,HE3,uh HB3⟩
   ·have hzz:=snum_meas hm
    rw[List.length_drop,uh HN]at hzz
    omega
  ·have HT:Hid (Byt wr (.slice (some ⟨b,off+n,none⟩) (N - n) (cap - n)) (L.drop n)):=by
    have k:=uh HY
    rw[if_neg hcn]at k
    exact k
   clear HY
   go_wp2_with fail
   refine (snext_any S lim _ (L.drop n) wr (uh HT) (uh HC0) hlim).mono ?_
   rintro e w2 ⟨q,z,E,rfl,hcase,hb2⟩
   have HC:=zh hcase
   have HB2:Hid (Below w.heap.size w w2):=(uh HB).trans (hb2.mono hsz)
   have HP2:=zh ((uh HP).below hb2)
   have HF:=zh (fun P=>(uh HP).fresh (w2:=w2) q P)
   clear hb2 hcase HB HP c1 HT HC0
   dsimp only
   iterate 13 go_step
   refine Go.Proofs.YtpheelbbpiieiaaGreatDoor.wpList_value rfl (spk_alloc _ _ _ _ _ _) ?_
   simp only[Act.put,List.setIfInBounds_toArray,List.set_cons_zero,List.set_cons_succ]
   refine Go.Proofs.YtpheelbbpiieiaaGreatDoor.wpList_skip rfl (spk_store _ _ _ _ _ _ _ q w2 rfl rfl) ?_
   simp only[Act.put]
   have hal:Below w2.heap.size w2 (w2.alloc (.cells q.cells.toArray 29)):=bal _ _
   have HK3:=zh (pk_new w2 q)
   have HB3:Hid (Below w.heap.size w (w2.alloc (.cells q.cells.toArray 29))):=(uh HB2).trans (hal.mono (uh HB2).size)
   have HP3:=zh ((uh HP2).below hal)
   rcases uh HC with⟨hm,hE⟩ | ⟨hm,hz,rfl,P,r,hd,hM⟩
   ·obtain⟨d,hd,hE1⟩:=uh hE
    have HE3:Hid (∃ d,d<=3/\Er (w2.alloc (.cells q.cells.toArray 29)) d E (snum lim (L.drop n))):=⟨d,hd,hE1.below hal⟩
    obtain⟨t,x,rfl⟩:=hE1.iface
    have HRR:Hid (SRun lim L Ps n (snum lim (L.drop n))):=by
     have k:=(uh HR) [] 0 _ (SRun.stop _ hm)
     show SRun _ _ _ _ _
     simpa using k
    have HMM:=zh hm
    have HNL:Hid (n<=L.length):=by show _<=_;rw[uh HN];exact hn
    clear hE1 hE hal hd hm HC HP2 HB2 HK3 HR
    generalize w2.alloc (.cells q.cells.toArray 29)=w3 at HB3 HP3 HE3 |-
    go_wp2
    go_returns
    exact⟨_,n,_,qs,Ps,_,rfl,uh HNL,HRR,uh HMM,HP3,HE3,uh HB3⟩
   ·have hzz:=snum_meas hm
    rw[<- hz,List.length_drop,uh HN]at hzz
    have HR2:Hid (∀ Ps' n' e',SRun lim (L.drop (n+z)) Ps' n' e'->SRun lim L ((Ps++[P])++Ps') (n+z+n') e'):=fun Ps' n' e' h=>by
     have k:=(uh HR) (P :: Ps') (z+n') e' (by rw[hz];exact SRun.step _ P r Ps' n' e' hm hd (by rw[<- hz,List.drop_drop];exact h))
     rw[List.append_assoc,Nat.add_assoc]
     exact k
    have HM3:Hid (Mean (w2.alloc (.cells q.cells.toArray 29)) w.heap.size q P):=((uh hM).base hsz).below hal
    have HFR:=zh ((uh HF) P (uh hM))
    have hw2:=(uh HB2).size
    have hw3:w2.heap.size < (w2.alloc (.cells q.cells.toArray 29)).heap.size:=by simp
    clear hm hz hd hM hal HC HP2 HB2 HR HF
    generalize w2.alloc (.cells q.cells.toArray 29)=w3 at HB3 HP3 HM3 HK3 hw3 |-
    go_upto_region 4 with fail
    iterate 4 go_step
    refine wpList_load_mid rfl 29 _ rfl w2.heap.size 0 rfl q.cells _ (uh HK3).range Tryz.underlying29 rfl packet_size ?_
    simp only[Act.put,List.setIfInBounds_toArray,List.set_cons_zero,List.set_cons_succ]
    refine Go.Proofs.YtpheelbbpiieiaaGreatDoor.wpList_value rfl (pk_slice _ _ _ _ _ _ q rfl _) ?_
    simp only[Act.put,List.setIfInBounds_toArray,List.set_cons_zero,List.set_cons_succ]
    have hal:Below w3.heap.size w3 (w3.alloc (.cells q.cells.toArray 29)):=bal _ _
    have HK4:=zh (pk_new w3 q)
    have HB4:Hid (Below w.heap.size w (w3.alloc (.cells q.cells.toArray 29))):=(uh HB3).trans (hal.mono (uh HB3).size)
    have HP4:=zh ((uh HP3).below hal)
    have HM4:=zh ((uh HM3).below hal)
    have hw4:w3.heap.size < (w3.alloc (.cells q.cells.toArray 29)).heap.size:=by simp
    clear hal HK3 HB3 HP3 HM3
    generalize hG:w3.alloc (.cells q.cells.toArray 29)=w4 at HB4 HP4 HM4 HK4 hw4 |-
    clear hG
    refine wpList_append_own _ rfl _ _ 52 rfl w.heap.size 29 i0 _ 19 288 Tryz.underlying52 hi hz0 hz1 hz2 rfl (by decide) u2 qs.length _ rfl (uh HP4).row ⟨w3.heap.size,0,none⟩ 1 1 q.cells rfl rfl (pk_cells (uh HK4)) q.ones (by rw[uh HQ];unfold maxLen;omega) (by rw[uh HQ];omega) (by omega) ?_
    intro v5 w5 hown5 hgrow5 _
    have HP5:=zh ((uh HP4).app (uh HM4) (uh HFR) hgrow5 hown5)
    have HB5:Hid (Below w.heap.size w w5):=(uh HB4).grown hgrow5 (by omega) (fun g hg=>((uh HP4).blk g hg).1)
    have HQ5:Hid ((qs++[q]).length=k+1):=by show _=_;rw[List.length_append,uh HQ];rfl
    clear hown5 hgrow5 HB4 HP4 HM4 HK4 HQ
    simp only[Act.put,List.setIfInBounds_toArray,List.set_cons_zero,List.set_cons_succ]
    go_wp2
    go_roundw
    case rel=>exact⟨_,qs++[q],Ps++[P],k+1,n+z,rfl,by go_num,by omega,by omega,HQ5,HP5,HR2,HB5⟩
    case measure=>simp[intOf];omega
theorem snum_nil (lim:Int) (hlim:2<=lim):snum lim []=3:=by
 unfold snum
 rw[show smeas []=(0,0) from rfl,if_pos (by omega)]
 rfl
theorem swhole_nil (S:Nat) (lim:Int) (w:World) (hS:w.cell? ⟨S,0,none⟩=some (.int .i64 lim)) (hS1:w.cell? ⟨S,1,none⟩=some (.slice none 0 0)) (hlim:2<=lim) :
  Calls Tryz.prog 45 #[.pointer (some ⟨S,0,none⟩)] w (WholePost lim [] w):=by
 have HS:=zh hS
 have HY:Hid (Byt w (.slice none 0 0) []):=⟨none,0,rfl,by simp,fun j=>by simp,.inl rfl⟩
 obtain⟨L,hL⟩:∃ L:List Int,L=[]:=⟨_,rfl⟩
 rw[<- hL]at HY |-
 have HSN:Hid (snum lim L=3):=by rw[hL];exact snum_nil lim hlim
 clear hS hL
 go_enter Tryz.func45,Tryz.ntmps45
 go_wp2
 refine wp_loop_rounds 1 ?_
 rw[rounds_succ]
 go_wp2_with fail
 refine (snext_any S lim _ L w (uh HY) (uh HS) hlim).mono ?_
 rintro e w2 ⟨q,z,E,rfl,hcase,hb2⟩
 have HC:=zh hcase
 clear hcase
 dsimp only
 iterate 13 go_step
 refine Go.Proofs.YtpheelbbpiieiaaGreatDoor.wpList_value rfl (spk_alloc _ _ _ _ _ _) ?_
 simp only[Act.put,List.setIfInBounds_toArray,List.set_cons_zero,List.set_cons_succ]
 refine Go.Proofs.YtpheelbbpiieiaaGreatDoor.wpList_skip rfl (spk_store _ _ _ _ _ _ _ q w2 rfl rfl) ?_
 simp only[Act.put]
 have hal:Below w2.heap.size w2 (w2.alloc (.cells q.cells.toArray 29)):=bal _ _
 have HB3:Hid (Below w.heap.size w (w2.alloc (.cells q.cells.toArray 29))):=hb2.trans (hal.mono hb2.size)
 rcases uh HC with⟨hm,hE⟩ | ⟨hm,_⟩
 ·obtain⟨d,hd,hE1⟩:=uh hE
  have HE3:Hid (∃ d,d<=3/\Er (w2.alloc (.cells q.cells.toArray 29)) d E (snum lim L)):=⟨d,hd,hE1.below hal⟩
  obtain⟨t,x,rfl⟩:=hE1.iface
  have HRR:Hid (SRun lim L [] 0 (snum lim L)):=SRun.stop _ hm
  have HMM:=zh hm
  clear hE1 hE hal hd hm HC hb2
  generalize w2.alloc (.cells q.cells.toArray 29)=w3 at HB3 HE3 |-
  go_wp2
  go_returns
  exact⟨_,0,_,[],[],_,rfl,Nat.zero_le _,HRR,uh HMM,Pks.nil _ _,HE3,uh HB3⟩
 ·rw[uh HSN]at hm
  exact absurd hm (by decide)
structure GW extends World where
 N:Nat
instance :Coe GW World:=⟨GW.toWorld⟩
def RPc (w:World) (R:Nat) (ao:Option Addr) (n cap k:Nat) (bad:Bool):Prop :=
 w.cell? ⟨R,0,none⟩=some (.slice ao n cap)/\(w.cell? ⟨R,1,none⟩=some (.int .i64 k)/\w.frozen? ⟨R,1,none⟩=false)/\w.cell? ⟨R,2,none⟩=some (.bool bad)/\w.frozen? ⟨R,2,none⟩=false
def RP (w0:GW) (w:World) (R:Nat) (st:Option (List Int)):Prop :=
 ∃ ao n cap k bad L,RPc w R ao n cap k bad/\Byt w0 (.slice ao n cap) L/\k<=n/\(n<=140737488355328/\Hid (n=w0.N))/\Below w0.heap.size w0 w/\w0.heap.size<=R/\st=if bad then none else some (L.drop k)
theorem RPc.setBad {w:World} {R:Nat} {ao:Option Addr} {n cap k:Nat} {bad:Bool} (h:RPc w R ao n cap k bad) (b:Bool):RPc (w.setCell ⟨R,2,none⟩ (.bool b)) R ao n cap k b:=by
 obtain⟨h1,⟨h2,h3⟩,h4,h5⟩:=h
 exact⟨(World.cell?_setCell_other _ _ _ _ (by intro e;simp at e)).trans h1,⟨(World.cell?_setCell_other _ _ _ _ (by intro e;simp at e)).trans h2,by simpa using h3⟩,World.cell?_setCell_same _ _ _ h4,by simpa using h5⟩
theorem RPc.setAt {w:World} {R:Nat} {ao:Option Addr} {n cap k:Nat} {bad:Bool} (h:RPc w R ao n cap k bad) (j:Nat):RPc (w.setCell ⟨R,1,none⟩ (.int .i64 j)) R ao n cap j bad:=by
 obtain⟨h1,⟨h2,h3⟩,h4,h5⟩:=h
 exact⟨(World.cell?_setCell_other _ _ _ _ (by intro e;simp at e)).trans h1,⟨World.cell?_setCell_same _ _ _ h2,by simpa using h3⟩,(World.cell?_setCell_other _ _ _ _ (by intro e;simp at e)).trans h4,by simpa using h5⟩
theorem RPc.lt {w:World} {R:Nat} {ao:Option Addr} {n cap k:Nat} {bad:Bool} (h:RPc w R ao n cap k bad):R < w.heap.size:=cell_lt h.1
theorem RPc.far {w w':World} {R:Nat} {ao:Option Addr} {n cap k:Nat} {bad:Bool} (h:RPc w R ao n cap k bad) (hb:w'.heap[R]?=w.heap[R]?):RPc w' R ao n cap k bad:=by
 obtain⟨h1,⟨h2,h3⟩,h4,h5⟩:=h
 exact⟨(World.cell?_of_block (a:=⟨R,0,none⟩) hb).trans h1,⟨(World.cell?_of_block (a:=⟨R,1,none⟩) hb).trans h2,(World.frozen?_of_block (a:=⟨R,1,none⟩) hb).trans h3⟩,(World.cell?_of_block (a:=⟨R,2,none⟩) hb).trans h4,(World.frozen?_of_block (a:=⟨R,2,none⟩) hb).trans h5⟩
theorem RP.lt {w0:GW} {w:World} {R:Nat} {st:Option (List Int)} (h:RP w0 w R st):R < w.heap.size:=by
 obtain⟨_,_,_,_,_,_,h,_⟩:=h
 exact h.lt
theorem RP.below {w0:GW} {w w':World} {R:Nat} {st:Option (List Int)} (h:RP w0 w R st) (hb:Below w.heap.size w w'):RP w0 w' R st:=by
 obtain⟨ao,n,cap,k,bad,L,hc,hy,hk,hn,hw,hR,hst⟩:=h
 exact⟨ao,n,cap,k,bad,L,hc.far (hb.block R hc.lt),hy,hk,hn,hw.trans (hb.mono hw.size),hR,hst⟩
theorem byt_len {w:World} {ao:Option Addr} {n cap:Nat} {L:List Int} (h:Byt w (.slice ao n cap) L):L.length=n/\n<=cap/\cap<=maxLen:=by
 obtain⟨ao',cap',e,k1,k2⟩:=h.form
 simp only[Value.slice.injEq]at e
 obtain⟨_,rfl,rfl⟩:=e
 exact⟨rfl,k1,k2⟩
theorem byt_at {w:World} {ao:Option Addr} {n cap:Nat} {L:List Int} (h:Byt w (.slice ao n cap) L) (k:Nat) (hk:k < n):∃ b off,ao=some ⟨b,off,none⟩/\w.cell? ⟨b,off+k,none⟩=some (.int .u8 (L.getD k 0)):=by
 have hl:=(byt_len h).1
 obtain⟨ao',cap',e,_,_,hcase⟩:=h
 simp only[Value.slice.injEq]at e
 obtain⟨rfl,_,rfl⟩:=e
 rcases hcase with rfl | ⟨b,off,e2,hc⟩
 ·simp at hl;omega
 ·exact⟨b,off,e2,hc k (by omega)⟩
def PgI (w0:GW) (R hi:Nat) (f:List Int->Option (Int×List Int)) (st:Option (List Int)) (w:World) (e:Ending) (w':World):Prop :=
 ∃ x st',e=.returned (.int .i64 x)/\(0<=x/\x<=hi)/\Stp f st x st'/\RP w0 w' R st'/\BX R isAny w w'
theorem drop_cons (L:List Int) (k:Nat) (hk:k < L.length):L.drop k=L.getD k 0 :: L.drop (k+1):=by
 rw[List.drop_eq_getElem_cons hk,List.getD_eq_getElem?_getD,List.getElem?_eq_getElem hk]
 rfl
theorem byte_pg (R:Nat) (st:Option (List Int)) (w0:GW) (w:World) (h:RP w0 w R st):Calls Tryz.prog 62 #[.pointer (some ⟨R,0,none⟩)] w (PgI w0 R 255 one? st w):=by
 obtain⟨ao,n,cap,k,bad,L,hc,hy,hk,hn,hw,hR,hst⟩:=h
 obtain⟨hl,hc1,hc2⟩:=byt_len hy
 unfold maxLen at hc2
 have HC:=zh hc
 have HY:=zh hy
 have HW:=zh hw
 have HST:=zh hst
 have HD:=zh (bel_drew w)
 have hlt:=hc.lt
 obtain⟨h0,⟨h1,f1⟩,h2,f2⟩:=hc
 have hr:=hy.range
 have hat:=byt_at hy
 have HL:=zh hl
 clear hy hw hst hl
 cases bad
 ·by_cases hkn:k=n
  ·subst hkn
   clear hr hat
   have hkk:((k:Int) == (k:Int))=true:=by simp
   go_enter Tryz.func62,Tryz.ntmps62
   go_wp2_with fail
   refine wp_region_noPanic ?_
   refine wp_region_held_drew (S:=(fun w'=>w'.cell? ⟨R,0,none⟩=some (.slice ao k cap)/\w'.cell? ⟨R,1,none⟩=some (.int .i64 (k:Nat))/\w'.cell? ⟨R,2,none⟩=some (.bool false))) (by kernel_rfl) ⟨by simpa using h0,by simpa using h1,by simpa using h2⟩ (fun hHeld=>?_)
   refine rtk 0 (h:=?_)
   refine rtk 1 (h:=?_)
   refine rtk 2 (h:=?_)
   refine rtk 3 (h:=?_)
   refine rtk 4 (h:=?_)
   refine rtk 5 (h:=?_)
   refine rtk 6 (h:=?_)
   refine rtk 7 (h:=?_)
   refine rtk 8 (h:=?_)
   refine rtk 9 (h:=?_)
   refine rtk 10 (h:=?_)
   refine rtk 11 (h:=?_)
   refine rtk 12 (h:=?_)
   refine rtk 13 (h:=?_)
   refine rtk 14 (h:=?_)
   refine rtk 15 (h:=?_)
   refine wpAnyH_done (by kernel_rfl) ?_ _
   refine NoPanic.normal ?_
   go_wp2
   go_ret
   have hx:BX R isAny w (w.drew.setCell ⟨R,2,none⟩ (.bool true)):=(BX.of_below (uh HD) hlt).set 2 _ trivial
   refine⟨0,none,rfl,by omega,?_,⟨ao,k,cap,k,true,L,((uh HC).far rfl).setBad true,uh HY,Nat.le_refl _,hn,hx.keep (uh HW) hR,hR,rfl⟩,hx⟩
   have est:st=some (L.drop k):=uh HST
   rw[est]
   have e:L.drop k=[]:=List.drop_of_length_le (by rw[uh HL];exact Nat.le_refl _)
   rw[e]
   rfl
  ·have hkl:k < n:=by omega
   obtain⟨b,off,rfl,hcell⟩:=hat k hkl
   have hcw:w.cell? ⟨b,off+k,none⟩=some (.int .u8 (L.getD k 0)):=((uh HW).cell (p:=⟨b,off+k,none⟩) (cell_lt hcell)).trans hcell
   have hbR:b≠R:=fun e=>by have:=cell_lt hcell;simp only at this;omega
   have hv:=hr k
   have HDC:=zh (drop_cons L k (by rw[uh HL];exact hkl))
   have hkk:((k:Int) == (n:Int))=false:=by simp;omega
   have hwk:IntKind.i64.wrap (k:Int)=k:=by rw[IntKind.wrap_i64];omega
   clear hr hat hcell
   generalize L.getD k 0=v at hcw hv HDC
   have hwv:IntKind.i64.wrap v=v:=by rw[IntKind.wrap_i64];omega
   go_enter Tryz.func62,Tryz.ntmps62
   go_wp2_with fail
   refine wp_region_noPanic ?_
   refine wp_region_held_drew (S:=(fun w'=>w'.cell? ⟨R,0,none⟩=some (.slice (some ⟨b,off,none⟩) n cap)/\w'.cell? ⟨R,1,none⟩=some (.int .i64 (k:Nat))/\w'.cell? ⟨R,2,none⟩=some (.bool false))) (by kernel_rfl) ⟨by simpa using h0,by simpa using h1,by simpa using h2⟩ (fun hHeld=>?_)
   refine rtk 0 (h:=?_)
   refine rtk 1 (h:=?_)
   refine rtk 2 (h:=?_)
   refine rtk 3 (h:=?_)
   refine rtk 4 (h:=?_)
   refine rtk 5 (h:=?_)
   refine rtk 6 (h:=?_)
   refine rtk 7 (h:=?_)
   refine rtk 8 (h:=?_)
   refine rtk 9 (h:=?_)
   refine rtk 10 (h:=?_)
   refine rtk 11 (h:=?_)
   refine rtk 12 (h:=?_)
   refine rtk 13 (h:=?_)
   refine rtk 14 (h:=?_)
   refine rtk 15 (h:=?_)
   refine wpAnyH_done (by kernel_rfl) ?_ _
   refine NoPanic.normal ?_
   go_wp2_with fail
   refine wp_region_noPanic ?_
   refine wp_region_held_drew (S:=(fun w'=>w'.cell? ⟨R,0,none⟩=some (.slice (some ⟨b,off,none⟩) n cap)/\w'.cell? ⟨R,1,none⟩=some (.int .i64 (k+1:Nat))/\w'.cell? ⟨b,off+k,none⟩=some (.int .u8 v))) (by kernel_rfl) ⟨by simp (maxDischargeDepth:=12) [cell_set,h0],by simp (maxDischargeDepth:=12) [cell_set,h1],by simp (maxDischargeDepth:=12) [cell_set,hcw]⟩ (fun hHeld=>?_)
   refine rtk 0 (h:=?_)
   refine rtk 1 (h:=?_)
   refine rtk 2 (h:=?_)
   refine rtk 3 (h:=?_)
   refine rtk 4 (h:=?_)
   refine rtk 5 (h:=?_)
   refine rtk 6 (h:=?_)
   refine rtk 7 (h:=?_)
   refine rtk 8 (h:=?_)
   refine rtk 9 (h:=?_)
   refine rtk 10 (h:=?_)
   refine rtk 11 (h:=?_)
   refine rcl 12 (h:=fun K hK=>?_)
   go_simp
   refine hK.out _ _ ⟨by simp (maxDischargeDepth:=12) [cell_set,h0],by simp (maxDischargeDepth:=12) [cell_set,h1],by simp (maxDischargeDepth:=12) [cell_set,hcw]⟩ (fun hHeld=>?_)
   clear hK K
   refine wpAnyH_done (by kernel_rfl) ?_ _
   refine NoPanic.normal ?_
   go_wp2
   go_ret
   have hx:BX R isAny w ((w.drew.setCell ⟨R,1,none⟩ (.int .i64 (k+1:Nat))).drew):=((BX.of_below (uh HD) hlt).set 1 _ trivial).trans (BX.of_below (bel_drew _) (by simpa [World.setCell] using hlt))
   have HC2:=((((uh HC).far (w':=w.drew) rfl).setAt (k+1)).far (w':=(w.drew.setCell ⟨R,1,none⟩ (.int .i64 (k+1:Nat))).drew) rfl)
   refine⟨v,some (L.drop (k+1)),rfl,hv,?_,⟨_,n,cap,k+1,false,L,HC2,uh HY,by omega,hn,hx.keep (uh HW) hR,hR,rfl⟩,hx⟩
   have est:st=some (L.drop k):=uh HST
   rw[est,uh HDC]
   exact⟨rfl,rfl⟩
 ·go_enter Tryz.func62,Tryz.ntmps62
  go_wp2_with fail
  refine wp_region_noPanic ?_
  refine wp_region_held_drew (S:=(fun w'=>w'.cell? ⟨R,0,none⟩=some (.slice ao n cap)/\w'.cell? ⟨R,1,none⟩=some (.int .i64 (k:Nat))/\w'.cell? ⟨R,2,none⟩=some (.bool true))) (by kernel_rfl) ⟨by simpa using h0,by simpa using h1,by simpa using h2⟩ (fun hHeld=>?_)
  refine rtk 0 (h:=?_)
  refine rtk 1 (h:=?_)
  refine rtk 2 (h:=?_)
  refine rtk 3 (h:=?_)
  refine rtk 4 (h:=?_)
  refine rsk 5 (h:=?_)
  refine rsk 6 (h:=?_)
  refine rsk 7 (h:=?_)
  refine rsk 8 (h:=?_)
  refine rsk 9 (h:=?_)
  refine rsk 10 (h:=?_)
  refine rsk 11 (h:=?_)
  refine rsk 12 (h:=?_)
  refine rsk 13 (h:=?_)
  refine rsk 14 (h:=?_)
  refine rtk 15 (h:=?_)
  refine wpAnyH_done (by kernel_rfl) ?_ _
  refine NoPanic.normal ?_
  go_wp2
  go_ret
  have hx:BX R isAny w (w.drew.setCell ⟨R,2,none⟩ (.bool true)):=(BX.of_below (uh HD) hlt).set 2 _ trivial
  exact⟨0,none,rfl,by omega,(by have est:st=none:=uh HST;rw[est];rfl),⟨ao,n,cap,k,true,L,((uh HC).far rfl).setBad true,uh HY,hk,hn,hx.keep (uh HW) hR,hR,rfl⟩,hx⟩
theorem left_pg (R:Nat) (st:Option (List Int)) (w0:GW) (w:World) (h:RP w0 w R st):Calls Tryz.prog 66 #[.pointer (some ⟨R,0,none⟩)] w fun e w'=>∃ v l,e=.returned v/\Hid (Byt w0 v l)/\(∀ l',st=some l'->l'=l)/\(st=none->l=[])/\Below w.heap.size w w':=by
 obtain⟨ao,n,cap,k,bad,L,hc,hy,hk,hn,hw,hR,hst⟩:=h
 obtain⟨hl,hc1,hc2⟩:=byt_len hy
 unfold maxLen at hc2
 obtain⟨h0,⟨h1,f1⟩,h2,f2⟩:=hc
 have HST:=zh hst
 have HD0:=zh (bel_drew w)
 clear hw hst
 cases bad
 ·have est:Hid (st=some (L.drop k)):=uh HST
  by_cases hn0:n=0
  ·subst hn0
   obtain rfl:k=0:=by omega
   obtain rfl:L=[]:=List.length_eq_zero_iff.1 hl
   have HY:=zh hy
   clear hy hl HST
   go_enter Tryz.func66,Tryz.ntmps66
   go_wp2_with fail
   refine wp_region_noPanic ?_
   refine wp_region_held_drew (S:=(fun w'=>w'.cell? ⟨R,0,none⟩=some (.slice ao 0 cap)/\w'.cell? ⟨R,1,none⟩=some (.int .i64 (0:Nat)))) (by kernel_rfl) ⟨by simpa using h0,by simpa using h1⟩ (fun hHeld=>?_)
   refine rtk 0 (h:=?_)
   refine rtk 1 (h:=?_)
   refine rtk 2 (h:=?_)
   refine rtk 3 (h:=?_)
   refine rtk 4 (h:=?_)
   refine rtk 5 (h:=?_)
   refine rtk 6 (h:=?_)
   refine rtk 7 (h:=?_)
   refine rtk 8 (h:=?_)
   refine rcl 9 (h:=fun K hK=>?_)
   go_simp
   refine hK.out _ _ ⟨by simpa using h0,by simpa using h1⟩ (fun hHeld=>?_)
   clear hK K
   refine wpAnyH_done (by kernel_rfl) ?_ _
   refine NoPanic.normal ?_
   go_wp2
   go_ret
   exact⟨_,[],rfl,HY,(fun l' e=>(Option.some.inj ((uh est).symm.trans e)).symm),(fun e=>absurd ((uh est).symm.trans e) (by simp)),uh HD0⟩
  ·obtain⟨b,off,rfl,_⟩:=byt_at hy 0 (by omega)
   have HDR:=zh (hy.drop' k hk)
   clear hy hl HST
   by_cases hcap:cap=k
   ·have e1:k=cap:=hcap.symm
    clear hcap
    subst e1
    obtain rfl:n=k:=by omega
    have HD:Hid (Byt w0 (.slice (some ⟨b,off,none⟩) 0 0) (L.drop n)):=by
     show Byt _ _ _
     have q:=uh HDR
     rw[if_pos rfl,Nat.sub_self]at q
     exact q
    clear HDR
    go_enter Tryz.func66,Tryz.ntmps66
    go_wp2_with fail
    refine wp_region_noPanic ?_
    refine wp_region_held_drew (S:=(fun w'=>w'.cell? ⟨R,0,none⟩=some (.slice (some ⟨b,off,none⟩) n n)/\w'.cell? ⟨R,1,none⟩=some (.int .i64 (n:Nat)))) (by kernel_rfl) ⟨by simpa using h0,by simpa using h1⟩ (fun hHeld=>?_)
    refine rtk 0 (h:=?_)
    refine rtk 1 (h:=?_)
    refine rtk 2 (h:=?_)
    refine rtk 3 (h:=?_)
    refine rtk 4 (h:=?_)
    refine rtk 5 (h:=?_)
    refine rtk 6 (h:=?_)
    refine rtk 7 (h:=?_)
    refine rtk 8 (h:=?_)
    refine rcl 9 (h:=fun K hK=>?_)
    go_simp
    refine hK.out _ _ ⟨by simpa using h0,by simpa using h1⟩ (fun hHeld=>?_)
    clear hK K
    refine wpAnyH_done (by kernel_rfl) ?_ _
    refine NoPanic.normal ?_
    go_wp2
    go_ret
    exact⟨_,_,rfl,HD,(fun l' e=>(Option.some.inj ((uh est).symm.trans e)).symm),(fun e=>absurd ((uh est).symm.trans e) (by simp)),uh HD0⟩
   ·have HD:Hid (Byt w0 (.slice (some ⟨b,off+k,none⟩) (n - k) (cap - k)) (L.drop k)):=by
     show Byt _ _ _
     have q:=uh HDR
     rw[if_neg hcap]at q
     exact q
    clear HDR
    go_enter Tryz.func66,Tryz.ntmps66
    go_wp2_with fail
    refine wp_region_noPanic ?_
    refine wp_region_held_drew (S:=(fun w'=>w'.cell? ⟨R,0,none⟩=some (.slice (some ⟨b,off,none⟩) n cap)/\w'.cell? ⟨R,1,none⟩=some (.int .i64 (k:Nat)))) (by kernel_rfl) ⟨by simpa using h0,by simpa using h1⟩ (fun hHeld=>?_)
    refine rtk 0 (h:=?_)
    refine rtk 1 (h:=?_)
    refine rtk 2 (h:=?_)
    refine rtk 3 (h:=?_)
    refine rtk 4 (h:=?_)
    refine rtk 5 (h:=?_)
    refine rtk 6 (h:=?_)
    refine rtk 7 (h:=?_)
    refine rtk 8 (h:=?_)
    refine rcl 9 (h:=fun K hK=>?_)
    go_simp
    refine hK.out _ _ ⟨by simpa using h0,by simpa using h1⟩ (fun hHeld=>?_)
    clear hK K
    refine wpAnyH_done (by kernel_rfl) ?_ _
    refine NoPanic.normal ?_
    go_wp2
    go_ret
    exact⟨_,_,rfl,HD,(fun l' e=>(Option.some.inj ((uh est).symm.trans e)).symm),(fun e=>absurd ((uh est).symm.trans e) (by simp)),uh HD0⟩
 ·have est:Hid (st=none):=uh HST
  clear hy hl HST
  go_enter Tryz.func66,Tryz.ntmps66
  go_wp2
  go_ret
  exact⟨_,[],rfl,(⟨none,0,rfl,⟨by simp,by simp⟩,by intro j;simp,.inl rfl⟩:Byt w0 (.slice none 0 0) []),(fun l' e=>by rw[uh est]at e;cases e),(fun _=>rfl),Below.refl _ _⟩
theorem took_pg (R:Nat) (st:Option (List Int)) (n:Nat) (m:Int) (w0:GW) (w:World) (h:RP w0 w R st) (hn:∀ l,st=some l->n<=l.length):Calls Tryz.prog 92 #[.pointer (some ⟨R,0,none⟩),.int .i64 n,.int .i64 m] w fun e w'=>e=.returned (.tuple #[])/\RP w0 w' R (if m=0 then st.map (fun l=>l.drop n) else none)/\BX R isAny w w':=by
 obtain⟨ao,N,cap,k,bad,L,hc,hy,hk,hN,hw,hR,hst⟩:=h
 obtain⟨hl,hc1,hc2⟩:=byt_len hy
 have hlt:=hc.lt
 have HC:=zh hc
 have HY:=zh hy
 have HW:=zh hw
 obtain⟨h0,⟨h1,f1⟩,h2,f2⟩:=hc
 cases bad
 ·have est:st=some (L.drop k):=hst
  have hnk:k+n<=N:=by
   have:=hn _ est
   rw[List.length_drop,hl]at this
   omega
  subst est
  clear hn hy hw hst
  by_cases hm:m=0
  ·subst hm
   have HL:=zh hl
   clear hl
   go_enter Tryz.func92,Tryz.ntmps92
   go_wp2
   go_end0
   have hx:BX R isAny w (w.setCell ⟨R,1,none⟩ (.int .i64 ((k+n:Nat):Int))):=(BX.refl _ _ _).set 1 _ trivial
   refine⟨rfl,⟨ao,N,cap,k+n,false,L,(uh HC).setAt (k+n),uh HY,hnk,hN,hx.keep (uh HW) hR,hR,?_⟩,hx⟩
   simp
  ·have hm2:(m != 0)=true:=by simpa using hm
   go_enter Tryz.func92,Tryz.ntmps92
   go_wp2
   go_end0
   have hx:BX R isAny w (w.setCell ⟨R,2,none⟩ (.bool true)):=(BX.refl _ _ _).set 2 _ trivial
   refine⟨rfl,⟨ao,N,cap,k,true,L,(uh HC).setBad true,uh HY,hk,hN,hx.keep (uh HW) hR,hR,?_⟩,hx⟩
   rfl
 ·have est:st=none:=hst
  subst est
  clear hn hy hw hst
  by_cases hm:m=0
  ·subst hm
   go_enter Tryz.func92,Tryz.ntmps92
   go_wp2
   go_end0
   exact⟨rfl,⟨ao,N,cap,k,true,L,uh HC,uh HY,hk,hN,uh HW,hR,rfl⟩,BX.refl _ _ _⟩
  ·have hm2:(m != 0)=true:=by simpa using hm
   go_enter Tryz.func92,Tryz.ntmps92
   go_wp2
   go_end0
   have hx:BX R isAny w (w.setCell ⟨R,2,none⟩ (.bool true)):=(BX.refl _ _ _).set 2 _ trivial
   refine⟨rfl,⟨ao,N,cap,k,true,L,(uh HC).setBad true,uh HY,hk,hN,hx.keep (uh HW) hR,hR,?_⟩,hx⟩
   rfl
def PgS (w0:GW) (R:Nat) (f:List Int->Option (ByteArray×List Int)) (st:Option (List Int)) (w:World) (e:Ending) (w':World):Prop :=
 ∃ x st',e=.returned (.string x)/\Stp f st x st'/\RP w0 w' R st'/\BX R isAny w w'
theorem text_pg (R:Nat) (st:Option (List Int)) (w0:GW) (w:World) (h:RP w0 w R st):Calls Tryz.prog 64 #[.pointer (some ⟨R,0,none⟩)] w (PgS w0 R text? st w):=by
 have hlt:=h.lt
 have hR0:w0.heap.size<=R:=by obtain⟨_,_,_,_,_,_,_,_,_,_,_,h,_⟩:=h;exact h
 have hw0:Below w0.heap.size w0 w:=by obtain⟨_,_,_,_,_,_,_,_,_,_,h,_⟩:=h;exact h
 have HS:=zh h
 have HW0:=zh hw0
 clear h hw0
 go_enter Tryz.func64,Tryz.ntmps64
 go_wp2_with fail
 refine (left_pg R st w0 w (uh HS)).mono ?_
 rintro e w1 ⟨v,l,rfl,hv,he1,he2,hb1⟩
 have HW1:Hid (Below w0.heap.size w0 w1):=(uh HW0).trans (hb1.mono (uh HW0).size)
 obtain⟨n,hN,hn,_⟩:=gt_len l (uh hv).range
 have HG:=zh (rget_any v l w1 ((uh hv).below (uh HW1)))
 rw[hN]at HG
 have HS1:=zh ((uh HS).below hb1)
 have HB1:=zh hb1
 have HE1:=zh he1
 have HQ:Hid (text? l=if (gt l).2.2=0 then some ((gt l).1,l.drop n) else none):=by
  show text? l=_
  unfold text?
  rw[hN,Int.toNat_natCast]
 clear hb1 he1 he2 hN
 generalize (gt l).1=x at HG HQ
 generalize (gt l).2.2=m at HG HQ
 go_wp2_with fail
 refine (uh HG).mono ?_
 rintro e w2 ⟨rfl,hb2⟩
 have HS2:=zh ((uh HS1).below hb2)
 have HB2:Hid (Below w.heap.size w w2):=(uh HB1).trans (hb2.mono (uh HB1).size)
 clear hb2
 go_wp2_with fail
 refine (took_pg R st n m w0 w2 (uh HS2) (fun l' e=>by rw[(uh HE1) l' e];exact hn)).mono ?_
 rintro e w3 ⟨rfl,h3,hx3⟩
 have HS3:=zh h3
 have HX3:=zh hx3
 clear h3 hx3
 go_wp2
 go_ret
 refine⟨x,_,rfl,?_,uh HS3,(BX.of_below (uh HB2) hlt).trans (uh HX3)⟩
 cases st with
 | none =>
  show (if m=0 then _ else _)=none
  split <;> rfl
 | some l' =>
  have e:=(uh HE1) l' rfl
  subst e
  exact stp_get text? (some l') l' x n m (.inl rfl) (uh HQ)
theorem bin_pg (R:Nat) (st:Option (List Int)) (w0:GW) (w:World) (h:RP w0 w R st):Calls Tryz.prog 90 #[.pointer (some ⟨R,0,none⟩)] w (PgS w0 R bin? st w):=by
 have hlt:=h.lt
 have hR0:w0.heap.size<=R:=by obtain⟨_,_,_,_,_,_,_,_,_,_,_,h,_⟩:=h;exact h
 have hw0:Below w0.heap.size w0 w:=by obtain⟨_,_,_,_,_,_,_,_,_,_,h,_⟩:=h;exact h
 have HS:=zh h
 have HW0:=zh hw0
 clear h hw0
 go_enter Tryz.func90,Tryz.ntmps90
 go_wp2_with fail
 refine (left_pg R st w0 w (uh HS)).mono ?_
 rintro e w1 ⟨v,l,rfl,hv,he1,he2,hb1⟩
 have HW1:Hid (Below w0.heap.size w0 w1):=(uh HW0).trans (hb1.mono (uh HW0).size)
 obtain⟨n,hN,hn,_⟩:=gbn_len l (uh hv).range
 have HG:=zh (rgetBin_any v l w1 ((uh hv).below (uh HW1)))
 rw[hN]at HG
 have HS1:=zh ((uh HS).below hb1)
 have HB1:=zh hb1
 have HE1:=zh he1
 have HQ:Hid (bin? l=if (gbn l).2.2=0 then some ((gbn l).1,l.drop n) else none):=by
  show bin? l=_
  unfold bin?
  rw[hN,Int.toNat_natCast]
 clear hb1 he1 he2 hN
 generalize (gbn l).1=x at HG HQ
 generalize (gbn l).2.2=m at HG HQ
 go_wp2_with fail
 refine (uh HG).mono ?_
 rintro e w2 ⟨rfl,hb2⟩
 have HS2:=zh ((uh HS1).below hb2)
 have HB2:Hid (Below w.heap.size w w2):=(uh HB1).trans (hb2.mono (uh HB1).size)
 clear hb2
 go_wp2_with fail
 refine (took_pg R st n m w0 w2 (uh HS2) (fun l' e=>by rw[(uh HE1) l' e];exact hn)).mono ?_
 rintro e w3 ⟨rfl,h3,hx3⟩
 have HS3:=zh h3
 have HX3:=zh hx3
 clear h3 hx3
 go_wp2
 go_ret
 refine⟨x,_,rfl,?_,uh HS3,(BX.of_below (uh HB2) hlt).trans (uh HX3)⟩
 cases st with
 | none =>
  show (if m=0 then _ else _)=none
  split <;> rfl
 | some l' =>
  have e:=(uh HE1) l' rfl
  subst e
  exact stp_get bin? (some l') l' x n m (.inl rfl) (uh HQ)
theorem pair_pg (R:Nat) (st:Option (List Int)) (w0:GW) (w:World) (h:RP w0 w R st):Calls Tryz.prog 65 #[.pointer (some ⟨R,0,none⟩)] w (PgI w0 R 65535 two? st w):=by
 have HS:=zh h
 clear h
 go_enter Tryz.func65,Tryz.ntmps65
 go_wp2_with fail
 refine (byte_pg R st w0 w (uh HS)).mono ?_
 rintro e w1 ⟨x,st1,rfl,hx,hs1,h1,hx1⟩
 have HS1:=zh h1
 have HX1:=zh hx1
 have HST1:=zh hs1
 clear h1 hx1 hs1
 go_wp2_with fail
 refine (byte_pg R st1 w0 w1 (uh HS1)).mono ?_
 rintro e w2 ⟨y,st2,rfl,hy,hs2,h2,hx2⟩
 have HS2:=zh h2
 have HX2:=zh hx2
 have HST2:=zh hs2
 have e1:=K.or_256 x y hx.1 (by omega) hy.1 (by omega)
 clear h2 hx2 hs2
 go_wp2
 go_ret
 refine⟨x * 256+y,st2,rfl,by omega,?_,uh HS2,(uh HX1).trans (uh HX2)⟩
 have k:Stp (bindR one? fun x=>bindR one? fun y=>pureR (x * 256+y)) st (x * 256+y) st2:=(uh HST1).bind ((uh HST2).bind (Stp.pure _ _))
 refine Stp.congr (fun l=>?_) k
 match l with
 | []=>rfl
 | [_]=>rfl
 | _ :: _ :: _=>rfl
end Go.Proofs.YtpheelbbpiieiaaGreatDoor.K
