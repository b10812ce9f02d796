/- Proved here: helpers, one text behind the other. -/
import Derived.Test.YtpheelbbpiieiaaGreatDoorZC25
import Derived.Maps.AppendAt
import Derived.Test.YtpheelbbpiieiaaGreatDoorZC5
import Derived.Test.YtpheelbbpiieiaaGreatDoorZC23
import Derived.Test.YtpheelbbpiieiaaGreatDoorZC16
import Derived.Handy
import Derived.Test.YtpheelbbpiieiaaGreatDoorZC1
import Derived.Deep.RegionHeld3
import Derived.Test.YtpheelbbpiieiaaGreatDoorZC20
set_option maxHeartbeats 20000000
namespace Go.Proofs.YtpheelbbpiieiaaGreatDoor.K
open Go.RowKit
set_option maxRecDepth 100000
theorem owns_ty {w w':World} {B:Nat} {e t:TypeId} {s:Nat} {v:Value} {n:Nat} {xs:List Value} {row:Option Nat} (h:w.ownsRow B e s v n xs) (hg:w.grownBy w' row) (ht:∀ g,row=some g->∃ cur fz,w.heap[g]?=some (.cells cur t fz)) (hne:e≠t):w'.ownsRow B e s v n xs:=by
 refine⟨h.1,?_⟩
 rcases h.2 with h1 | ⟨g,cap,cur,hv,hB,hgg,rest⟩
 ·exact .inl h1
 ·refine .inr ⟨g,cap,cur,hv,hB,?_,rest⟩
  rw[hg.block g (Array.getElem?_eq_some_iff.1 hgg).1 (fun er=>by
   obtain⟨cur',fz,k⟩:=ht g er.symm
   rw[hgg]at k
   simp only[Option.some.injEq,Obj.cells.injEq]at k
   exact hne k.2.1)]
  exact hgg
theorem Mean.ty {w w':World} {B:Nat} {p:Pkv} {P:Pa} {row:Option Nat} (h:Mean w B p P) (hg:w.grownBy w' row) (ht:∀ g,row=some g->∃ cur fz,w.heap[g]?=some (.cells cur 29 fz)):Mean w' B p P :=
 ⟨h.sc,owns_ty h.props hg ht (by decide),by
  obtain⟨ws,h1,h2,h3⟩:=h.wills
  exact⟨ws,owns_ty h1 hg ht (by decide),h2,fun i a b ha hb=>by
   obtain⟨k1,k2,k3,k4,k5⟩:=h3 i a b ha hb
   exact⟨k1,k2,k3,k4,owns_ty k5 hg ht (by decide)⟩⟩,owns_ty h.user hg ht (by decide),owns_ty h.pass hg ht (by decide),owns_ty h.subs hg ht (by decide),owns_ty h.filters hg ht (by decide),owns_ty h.codes hg ht (by decide)⟩
theorem Mean.below {w w':World} {B:Nat} {p:Pkv} {P:Pa} (h:Mean w B p P) (hb:Below w.heap.size w w'):Mean w' B p P :=
 ⟨h.sc,owns_below h.props hb,by
  obtain⟨ws,h1,h2,h3⟩:=h.wills
  exact⟨ws,owns_below h1 hb,h2,fun i a b ha hb'=>by
   obtain⟨k1,k2,k3,k4,k5⟩:=h3 i a b ha hb'
   exact⟨k1,k2,k3,k4,owns_below k5 hb⟩⟩,owns_below h.user hb,owns_below h.pass hb,owns_below h.subs hb,owns_below h.filters hb,owns_below h.codes hb⟩
structure Pks (w:World) (B:Nat) (v:Value) (qs:List Pkv) (Ps:List Pa):Prop where
 row:w.ownsRow B 29 19 v qs.length (qs.flatMap Pkv.cells)
 len:qs.length=Ps.length
 mean:∀ (i:Nat) (q:Pkv) (P:Pa),qs[i]?=some q->Ps[i]?=some P->Mean w B q P
 dist:∀ (i j:Nat) (q q':Pkv) (g:Nat),i < j->qs[i]?=some q->qs[j]?=some q'->q.wills.val.ownBlock=some g->q'.wills.val.ownBlock≠some g
theorem Pks.nil (w:World) (B:Nat):Pks w B (.slice none 0 0) [] []:=⟨World.ownsRow_nil _ _ _ _,rfl,fun i q P h=>by simp at h,fun i j q q' g _ h=>by simp at h⟩
theorem Pks.below {w w':World} {B:Nat} {v:Value} {qs:List Pkv} {Ps:List Pa} (h:Pks w B v qs Ps) (hb:Below w.heap.size w w'):Pks w' B v qs Ps :=
 ⟨owns_below h.row hb,h.len,fun i q P h1 h2=>(h.mean i q P h1 h2).below hb,h.dist⟩
theorem Pks.blk {w:World} {B:Nat} {v:Value} {qs:List Pkv} {Ps:List Pa} (h:Pks w B v qs Ps):∀ g,v.ownBlock=some g->B<=g/\∃ cur fz,w.heap[g]?=some (.cells cur 29 fz):=by
 intro g hg
 rcases h.row.2 with⟨rfl,_⟩ | ⟨g',cap,cur,rfl,hB,hgg,_⟩
 ·cases hg
 ·cases hg
  exact⟨hB,cur,_,hgg⟩
theorem Mean.wblk {w:World} {B:Nat} {q:Pkv} {P:Pa} (h:Mean w B q P):∀ g,q.wills.val.ownBlock=some g->B<=g/\g < w.heap.size:=by
 intro g hg
 obtain⟨ws,h1,_⟩:=h.wills
 rcases h1.2 with⟨e,_⟩ | ⟨g',cap,cur,e,hB,hgg,_⟩
 ·rw[e]at hg;cases hg
 ·rw[e]at hg
  cases hg
  exact⟨hB,(Array.getElem?_eq_some_iff.1 hgg).1⟩
theorem Pks.fresh {w w2:World} {B:Nat} {v:Value} {qs:List Pkv} {Ps:List Pa} (h:Pks w B v qs Ps) (q:Pkv) (P:Pa) (hm:Mean w2 w.heap.size q P):∀ (i:Nat) (q':Pkv) (g:Nat),qs[i]?=some q'->q'.wills.val.ownBlock=some g->q.wills.val.ownBlock≠some g:=by
 intro i q' g hi hg hq
 obtain⟨P',hP'⟩:∃ P',Ps[i]?=some P':=⟨_,List.getElem?_eq_getElem (by rw[<- h.len];exact (List.getElem?_eq_some_iff.1 hi).1)⟩
 have k1:=(h.mean i q' P' hi hP').wblk g hg
 have k2:=hm.wblk g hq
 omega
theorem Pks.app {w w':World} {B:Nat} {v v':Value} {qs:List Pkv} {Ps:List Pa} {q:Pkv} {P:Pa} (h:Pks w B v qs Ps) (hm:Mean w B q P) (hf:∀ (i:Nat) (q':Pkv) (g:Nat),qs[i]?=some q'->q'.wills.val.ownBlock=some g->q.wills.val.ownBlock≠some g) (hg:w.grownBy w' v.ownBlock) (ho:w'.ownsRow B 29 19 v' (qs.length+1) (qs.flatMap Pkv.cells++q.cells)):Pks w' B v' (qs++[q]) (Ps++[P]):=by
 have ht:∀ g,v.ownBlock=some g->∃ cur fz,w.heap[g]?=some (.cells cur 29 fz):=fun g e=>(h.blk g e).2
 refine⟨?_,by simp[h.len],fun i x X h1 h2=>?_,fun i j x y g hij h1 h2 h3=>?_⟩
 ·rw[List.length_append,List.flatMap_append]
  simpa using ho
 ·by_cases hi:i < qs.length
  ·rw[List.getElem?_append_left hi]at h1
   rw[List.getElem?_append_left (by rw[<- h.len];exact hi)]at h2
   exact (h.mean i x X h1 h2).ty hg ht
  ·rw[List.getElem?_append_right (by omega)]at h1
   rw[List.getElem?_append_right (by rw[<- h.len];omega),<- h.len]at h2
   by_cases h0:i - qs.length=0
   ·rw[h0]at h1 h2
    simp at h1 h2
    subst h1 h2
    exact hm.ty hg ht
   ·rw[List.getElem?_eq_none (by simp;omega)]at h1
    cases h1
 ·have hj:j < qs.length+1:=by have:=(List.getElem?_eq_some_iff.1 h2).1;simpa using this
  rw[List.getElem?_append_left (by omega)]at h1
  by_cases hjl:j < qs.length
  ·rw[List.getElem?_append_left hjl]at h2
   exact h.dist i j x y g hij h1 h2 h3
  ·obtain rfl:j=qs.length:=by omega
   simp at h2
   subst h2
   exact hf i x g h1 h3
inductive SRun (lim:Int):List Int->List Pa->Nat->Int->Prop
 | stop (l:List Int):snum lim l≠0->SRun lim l [] 0 (snum lim l)
 | step (l:List Int) (P:Pa) (r:List Int) (Ps:List Pa) (n:Nat) (e:Int):snum lim l=0->dbody l=some (P,r)->SRun lim (l.drop (meas l).2.1) Ps n e->SRun lim l (P :: Ps) ((meas l).2.1+n) e
theorem snum_zero {lim:Int} {l:List Int} (h:snum lim l=0):dnum l=0:=by
 unfold snum at h
 split at h
 ·exact h
 ·split at h <;> omega
theorem snum_meas {lim:Int} {l:List Int} (h:snum lim l=0):1<=(meas l).2.1/\(meas l).2.1<=l.length:=by
 have k:=snum_zero h
 have h2:(meas l).2.2=0:=by
  unfold dnum at k
  split at k
  ·omega
  ·split at k
   ·omega
   ·split at k
    ·omega
    ·rename_i k2;simpa using k2
 unfold meas at h2 |-
 split
 ·rename_i k1;rw[if_pos k1]at h2;exact absurd h2 k1
 ·rename_i k1
  rw[if_neg k1]at h2
  split
  ·rename_i k2;rw[if_pos k2]at h2;simp at h2
  ·rename_i k2
   rw[if_neg k2]at h2
   split
   ·rename_i k3;rw[if_pos k3]at h2;simp at h2
   ·simp only;omega
theorem infoPk:(Tryz.prog.info? 29).map (fun i=>(i.zero,i.size,i.bytes))=some (some (.agg pkz.cells.toArray),19,288):=by kernel_rfl
theorem pk_slice (a:Act) (dst:Option Tmp) (x:Operand) (ty:TypeId) (pos:String) (after:Array Edge) (q:Pkv) (hx:a.eval x=q.val) (w:World) :
  (execOp a.eval ⟨dst,.buildSlice 52 1 #[(0,x)],ty,pos,after,none⟩).run Tryz.prog w=.ok (.value (.slice (some ⟨w.heap.size,0,none⟩) 1 1)) (w.alloc (.cells q.cells.toArray 29)):=by
 unfold execOp
 simp only[List.map_toArray,List.map_cons,List.map_nil,hx]
 kernel_rfl
theorem pk_cells {w:World} {A:Nat} {q:Pkv} (h:Pk w A q):∀ j u,q.cells[j]?=some u->w.cell? ((⟨A,0,none⟩:Addr).add j)=some u:=fun j u hu=>by
 have k:=h.range j u hu
 rw[Nat.zero_add]at k
 by_cases hj:j=0
 ·subst hj;simpa [Addr.add] using k
 ·simpa [Addr.add,hj] using k
def WholePost (lim:Int) (L:List Int) (w:World) (e:Ending) (w':World):Prop :=
 ∃ (v:Value) (n:Nat) (E:Value) (qs:List Pkv) (Ps:List Pa) (m:Int),e=.returned (.tuple #[v,.int .i64 n,E])/\n<=L.length/\Hid (SRun lim L Ps n m)/\m≠0/\Hid (Pks w' w.heap.size v qs Ps)/\Hid (∃ d,d<=3/\Er w' d E m)/\Below w.heap.size w w'
theorem swhole_own (S:Nat) (lim:Int) (b off cap:Nat) (L:List Int) (w:World) (h:Byt w (.slice (some ⟨b,off,none⟩) L.length cap) L) (hS:w.cell? ⟨S,0,none⟩=some (.int .i64 lim)) (hS1:w.cell? ⟨S,1,none⟩=some (.slice (some ⟨b,off,none⟩) L.length cap)) (hlim:2<=lim) (hLN:L.length<=1073741824) :
  Calls Tryz.prog 45 #[.pointer (some ⟨S,0,none⟩)] w (WholePost lim L w):=by
 have hSl:=cell_lt hS
 obtain⟨i0,hi,hz0,hz1,hz2⟩:=info_parts infoPk
 obtain⟨hcl,hcap⟩:L.length<=cap/\cap<=maxLen:=by
  obtain⟨ao',cap',e,k1,k2⟩:=h.form
  simp only[Value.slice.injEq]at e
  obtain⟨_,_,rfl⟩:=e
  exact⟨k1,k2⟩
 unfold maxLen at hcap
 have HH:=zh h
 have HS:=zh hS
 have HS1:=zh hS1
 generalize hN:L.length=N at hcl HH HS1 hLN
 have HN:=zh hN
 clear h hS hS1 hN
 go_enter Tryz.func45,Tryz.ntmps45
 go_wp2
 go_loopw [2,3] (fun l0 n0 wr=>∃ (lv:Value) (qs:List Pkv) (Ps:List Pa) (k n:Nat),l0=lv/\n0=.int .i64 n/\n<=N/\k<=n/\Hid (qs.length=k)/\Hid (Pks wr w.heap.size lv qs Ps)/\Hid (∀ Ps' n' e',SRun lim (L.drop n) Ps' n' e'->SRun lim L (Ps++Ps') (n+n') e')/\Hid (Below w.heap.size w wr)) (fun _ n0 _=>N - (intOf n0).toNat)
 case atStart =>
  refine⟨.slice none 0 0,[],[],0,0,rfl,rfl,Nat.zero_le _,Nat.le_refl _,rfl,Pks.nil _ _,fun Ps' n' e' h=>?_,Below.refl _ _⟩
  simpa using h
 case round =>
  obtain⟨_,qs,Ps,k,n,rfl,rfl,hn,hk,HQ,HP,HR,HB⟩:=hrel
  have c1:wr.cell? ⟨S,1,none⟩=some (.slice (some ⟨b,off,none⟩) N cap):=((uh HB).cell hSl).trans (uh HS1)
  have HY:=zh (((uh HH).below (uh HB)).drop' n hn)
  have HC0:Hid (wr.cell? ⟨S,0,none⟩=some (.int .i64 lim)):=((uh HB).cell hSl).trans (uh HS)
  have hsz:=(uh HB).size
  by_cases hcn:cap=n
  ·obtain rfl:N=n:=by omega
   subst hcn
   have HT:Hid (Byt wr (.slice (some ⟨b,off,none⟩) 0 0) (L.drop cap)):=by
    have k:=uh HY
    rw[if_pos rfl,Nat.sub_self]at k
    exact k
   clear HY
   go_wp2_with fail
   refine (snext_any S lim _ (L.drop cap) wr (uh HT) (uh HC0) hlim).mono ?_
   rintro e w2 ⟨q,z,E,rfl,hcase,hb2⟩
   have HC:=zh hcase
   have HB2:Hid (Below w.heap.size w w2):=(uh HB).trans (hb2.mono hsz)
   have HP2:=zh ((uh HP).below hb2)
   clear hb2 hcase HB HP c1 HT HC0
   dsimp only
   iterate 13 go_step
   refine Go.Proofs.YtpheelbbpiieiaaGreatDoor.wpList_value rfl (spk_alloc _ _ _ _ _ _) ?_
   simp only[Act.put,List.setIfInBounds_toArray,List.set_cons_zero,List.set_cons_succ]
   refine Go.Proofs.YtpheelbbpiieiaaGreatDoor.wpList_skip rfl (spk_store _ _ _ _ _ _ _ q w2 rfl rfl) ?_
   simp only[Act.put]
   have hal:Below w2.heap.size w2 (w2.alloc (.cells q.cells.toArray 29)):=bal _ _
   have HK3:=zh (pk_new w2 q)
   have HB3:Hid (Below w.heap.size w (w2.alloc (.cells q.cells.toArray 29))):=(uh HB2).trans (hal.mono (uh HB2).size)
   have HP3:=zh ((uh HP2).below hal)
   rcases uh HC with⟨hm,hE⟩ | ⟨hm,hz,rfl,P,r,hd,hM⟩
   ·obtain⟨d,hd,hE1⟩:=uh hE
    have HE3:Hid (∃ d,d<=3/\Er (w2.alloc (.cells q.cells.toArray 29)) d E (snum lim (L.drop cap))):=⟨d,hd,hE1.below hal⟩
    obtain⟨t,x,rfl⟩:=hE1.iface
    have HRR:Hid (SRun lim L Ps cap (snum lim (L.drop cap))):=by
     have k:=(uh HR) [] 0 _ (SRun.stop _ hm)
     show SRun _ _ _ _ _
     simpa using k
    have HMM:=zh hm
    have HNL:Hid (cap<=L.length):=by show _<=_;rw[uh HN];exact hn
    clear hE1 hE hal hd hm HC HP2 HB2 HK3 HR
    generalize w2.alloc (.cells q.cells.toArray 29)=w3 at HB3 HP3 HE3 |-
    go_wp2
    go_returns
    exact⟨_,cap,_,qs,Ps,_,rfl,uh HNL,HRR,uh HMM,HP3,HE3,uh HB3⟩
   ·have hzz:=snum_meas hm
    rw[List.length_drop,uh HN]at hzz
    omega
  ·have HT:Hid (Byt wr (.slice (some ⟨b,off+n,none⟩) (N - n) (cap - n)) (L.drop n)):=by
    have k:=uh HY
    rw[if_neg hcn]at k
    exact k
   clear HY
   go_wp2_with fail
   refine (snext_any S lim _ (L.drop n) wr (uh HT) (uh HC0) hlim).mono ?_
   rintro e w2 ⟨q,z,E,rfl,hcase,hb2⟩
   have HC:=zh hcase
   have HB2:Hid (Below w.heap.size w w2):=(uh HB).trans (hb2.mono hsz)
   have HP2:=zh ((uh HP).below hb2)
   have HF:=zh (fun P=>(uh HP).fresh (w2:=w2) q P)
   clear hb2 hcase HB HP c1 HT HC0
   dsimp only
   iterate 13 go_step
   refine Go.Proofs.YtpheelbbpiieiaaGreatDoor.wpList_value rfl (spk_alloc _ _ _ _ _ _) ?_
   simp only[Act.put,List.setIfInBounds_toArray,List.set_cons_zero,List.set_cons_succ]
   refine Go.Proofs.YtpheelbbpiieiaaGreatDoor.wpList_skip rfl (spk_store _ _ _ _ _ _ _ q w2 rfl rfl) ?_
   simp only[Act.put]
   have hal:Below w2.heap.size w2 (w2.alloc (.cells q.cells.toArray 29)):=bal _ _
   have HK3:=zh (pk_new w2 q)
   have HB3:Hid (Below w.heap.size w (w2.alloc (.cells q.cells.toArray 29))):=(uh HB2).trans (hal.mono (uh HB2).size)
   have HP3:=zh ((uh HP2).below hal)
   rcases uh HC with⟨hm,hE⟩ | ⟨hm,hz,rfl,P,r,hd,hM⟩
   ·obtain⟨d,hd,hE1⟩:=uh hE
    have HE3:Hid (∃ d,d<=3/\Er (w2.alloc (.cells q.cells.toArray 29)) d E (snum lim (L.drop n))):=⟨d,hd,hE1.below hal⟩
    obtain⟨t,x,rfl⟩:=hE1.iface
    have HRR:Hid (SRun lim L Ps n (snum lim (L.drop n))):=by
     have k:=(uh HR) [] 0 _ (SRun.stop _ hm)
     show SRun _ _ _ _ _
     simpa using k
    have HMM:=zh hm
    have HNL:Hid (n<=L.length):=by show _<=_;rw[uh HN];exact hn
    clear hE1 hE hal hd hm HC HP2 HB2 HK3 HR
    generalize w2.alloc (.cells q.cells.toArray 29)=w3 at HB3 HP3 HE3 |-
    go_wp2
    go_returns
    exact⟨_,n,_,qs,Ps,_,rfl,uh HNL,HRR,uh HMM,HP3,HE3,uh HB3⟩
   ·have hzz:=snum_meas hm
    rw[<- hz,List.length_drop,uh HN]at hzz
    have HR2:Hid (∀ Ps' n' e',SRun lim (L.drop (n+z)) Ps' n' e'->SRun lim L ((Ps++[P])++Ps') (n+z+n') e'):=fun Ps' n' e' h=>by
     have k:=(uh HR) (P :: Ps') (z+n') e' (by rw[hz];exact SRun.step _ P r Ps' n' e' hm hd (by rw[<- hz,List.drop_drop];exact h))
     rw[List.append_assoc,Nat.add_assoc]
     exact k
    have HM3:Hid (Mean (w2.alloc (.cells q.cells.toArray 29)) w.heap.size q P):=((uh hM).base hsz).below hal
    have HFR:=zh ((uh HF) P (uh hM))
    have hw2:=(uh HB2).size
    have hw3:w2.heap.size < (w2.alloc (.cells q.cells.toArray 29)).heap.size:=by simp
    clear hm hz hd hM hal HC HP2 HB2 HR HF
    generalize w2.alloc (.cells q.cells.toArray 29)=w3 at HB3 HP3 HM3 HK3 hw3 |-
    go_upto_region 4 with fail
    iterate 4 go_step
    refine wpList_load_mid rfl 29 _ rfl w2.heap.size 0 rfl q.cells _ (uh HK3).range Tryz.underlying29 rfl packet_size ?_
    simp only[Act.put,List.setIfInBounds_toArray,List.set_cons_zero,List.set_cons_succ]
    refine Go.Proofs.YtpheelbbpiieiaaGreatDoor.wpList_value rfl (pk_slice _ _ _ _ _ _ q rfl _) ?_
    simp only[Act.put,List.setIfInBounds_toArray,List.set_cons_zero,List.set_cons_succ]
    have hal:Below w3.heap.size w3 (w3.alloc (.cells q.cells.toArray 29)):=bal _ _
    have HK4:=zh (pk_new w3 q)
    have HB4:Hid (Below w.heap.size w (w3.alloc (.cells q.cells.toArray 29))):=(uh HB3).trans (hal.mono (uh HB3).size)
    have HP4:=zh ((uh HP3).below hal)
    have HM4:=zh ((uh HM3).below hal)
    have hw4:w3.heap.size < (w3.alloc (.cells q.cells.toArray 29)).heap.size:=by simp
    clear hal HK3 HB3 HP3 HM3
    generalize hG:w3.alloc (.cells q.cells.toArray 29)=w4 at HB4 HP4 HM4 HK4 hw4 |-
    clear hG
    refine wpList_append_own _ rfl _ _ 52 rfl w.heap.size 29 i0 _ 19 288 Tryz.underlying52 hi hz0 hz1 hz2 rfl (by decide) u2 qs.length _ rfl (uh HP4).row ⟨w3.heap.size,0,none⟩ 1 1 q.cells rfl rfl (pk_cells (uh HK4)) q.ones (by rw[uh HQ];unfold maxLen;omega) (by rw[uh HQ];omega) (by omega) ?_
    intro v5 w5 hown5 hgrow5 _
    have HP5:=zh ((uh HP4).app (uh HM4) (uh HFR) hgrow5 hown5)
    have HB5:Hid (Below w.heap.size w w5):=(uh HB4).grown hgrow5 (by omega) (fun g hg=>((uh HP4).blk g hg).1)
    have HQ5:Hid ((qs++[q]).length=k+1):=by show _=_;rw[List.length_append,uh HQ];rfl
    clear hown5 hgrow5 HB4 HP4 HM4 HK4 HQ
    simp only[Act.put,List.setIfInBounds_toArray,List.set_cons_zero,List.set_cons_succ]
    go_wp2
    go_roundw
    case rel=>exact⟨_,qs++[q],Ps++[P],k+1,n+z,rfl,by go_num,by omega,by omega,HQ5,HP5,HR2,HB5⟩
    case measure=>simp[intOf];omega
theorem snum_nil (lim:Int) (hlim:2<=lim):snum lim []=3:=by
 unfold snum
 rw[show smeas []=(0,0) from rfl,if_pos (by omega)]
 rfl
theorem swhole_nil (S:Nat) (lim:Int) (w:World) (hS:w.cell? ⟨S,0,none⟩=some (.int .i64 lim)) (hS1:w.cell? ⟨S,1,none⟩=some (.slice none 0 0)) (hlim:2<=lim) :
  Calls Tryz.prog 45 #[.pointer (some ⟨S,0,none⟩)] w (WholePost lim [] w):=by
 have HS:=zh hS
 have HY:Hid (Byt w (.slice none 0 0) []):=⟨none,0,rfl,by simp,fun j=>by simp,.inl rfl⟩
 obtain⟨L,hL⟩:∃ L:List Int,L=[]:=⟨_,rfl⟩
 rw[<- hL]at HY |-
 have HSN:Hid (snum lim L=3):=by rw[hL];exact snum_nil lim hlim
 clear hS hL
 go_enter Tryz.func45,Tryz.ntmps45
 go_wp2
 refine wp_loop_rounds 1 ?_
 rw[rounds_succ]
 go_wp2_with fail
 refine (snext_any S lim _ L w (uh HY) (uh HS) hlim).mono ?_
 rintro e w2 ⟨q,z,E,rfl,hcase,hb2⟩
 have HC:=zh hcase
 clear hcase
 dsimp only
 iterate 13 go_step
 refine Go.Proofs.YtpheelbbpiieiaaGreatDoor.wpList_value rfl (spk_alloc _ _ _ _ _ _) ?_
 simp only[Act.put,List.setIfInBounds_toArray,List.set_cons_zero,List.set_cons_succ]
 refine Go.Proofs.YtpheelbbpiieiaaGreatDoor.wpList_skip rfl (spk_store _ _ _ _ _ _ _ q w2 rfl rfl) ?_
 simp only[Act.put]
 have hal:Below w2.heap.size w2 (w2.alloc (.cells q.cells.toArray 29)):=bal _ _
 have HB3:Hid (Below w.heap.size w (w2.alloc (.cells q.cells.toArray 29))):=hb2.trans (hal.mono hb2.size)
 rcases uh HC with⟨hm,hE⟩ | ⟨hm,_⟩
 ·obtain⟨d,hd,hE1⟩:=uh hE
  have HE3:Hid (∃ d,d<=3/\Er (w2.alloc (.cells q.cells.toArray 29)) d E (snum lim L)):=⟨d,hd,hE1.below hal⟩
  obtain⟨t,x,rfl⟩:=hE1.iface
  have HRR:Hid (SRun lim L [] 0 (snum lim L)):=SRun.stop _ hm
  have HMM:=zh hm
  clear hE1 hE hal hd hm HC hb2
  generalize w2.alloc (.cells q.cells.toArray 29)=w3 at HB3 HE3 |-
  go_wp2
  go_returns
  exact⟨_,0,_,[],[],_,rfl,Nat.zero_le _,HRR,uh HMM,Pks.nil _ _,HE3,uh HB3⟩
 ·rw[uh HSN]at hm
  exact absurd hm (by decide)
theorem swhole_any (S:Nat) (lim:Int) (hv:Value) (L:List Int) (w:World) (B:Nat) (hr:w.ownsRow B 5 1 hv L.length (L.map (Value.int .u8))) (rng:∀ j,0<=L.getD j 0/\L.getD j 0<=255) (hS:w.cell? ⟨S,0,none⟩=some (.int .i64 lim)) (hS1:w.cell? ⟨S,1,none⟩=some hv) (hlim:2<=lim) (hLN:L.length<=1073741824) :
  Calls Tryz.prog 45 #[.pointer (some ⟨S,0,none⟩)] w (WholePost lim L w):=by
 have hy:=byt_of_owns hr rng
 rcases hr.2 with⟨rfl,h0⟩ | ⟨g,cap,cur,rfl,_⟩
 ·obtain rfl:L=[]:=List.length_eq_zero_iff.1 h0
  exact swhole_nil S lim w hS hS1 hlim
 ·exact swhole_own S lim g 0 cap L w hy hS hS1 hlim hLN
structure Str (w:World) (S:Nat) (lim f:Int) (hv:Value) (L:List Int):Prop where
 c0:w.cell? ⟨S,0,none⟩=some (.int .i64 lim)
 c1:w.cell? ⟨S,1,none⟩=some hv
 c2:w.cell? ⟨S,2,none⟩=some (.int .i64 f)
 f1:w.frozen? ⟨S,1,none⟩=false
 f2:w.frozen? ⟨S,2,none⟩=false
 row:w.ownsRow (S+1) 5 1 hv L.length (L.map (Value.int .u8))
 rng:∀ j,0<=L.getD j 0/\L.getD j 0<=255
theorem Str.below {w w':World} {S:Nat} {lim f:Int} {hv:Value} {L:List Int} (h:Str w S lim f hv L) (hb:Below w.heap.size w w'):Str w' S lim f hv L :=
 have hS:S < w.heap.size:=cell_lt h.c0
 ⟨(hb.cell hS).trans h.c0,(hb.cell hS).trans h.c1,(hb.cell hS).trans h.c2,(hb.frozen hS).trans h.f1,(hb.frozen hS).trans h.f2,owns_below h.row hb,h.rng⟩
theorem FB.laid {S:Nat} {row:Option Nat} {a b:World} (h:FB S row a b) (hg:Laid a) (hS:0≠S) (hr:∀ g,row=some g->S+1<=g):Laid b:=by
 have k:b.heap[0]?=a.heap[0]?:=h.block 0 hg.pos hS (fun e=>by have:=hr 0 e.symm;omega)
 unfold Laid at *
 exact (World.cell?_of_block (a:=⟨0,0,none⟩) k).trans hg
theorem Str.pos {w:World} {S:Nat} {lim f:Int} {hv:Value} {L:List Int} (h:Str w S lim f hv L) (hg:Laid w):0≠S:=by
 rintro rfl
 have k:=h.c0
 unfold Laid at hg
 rw[hg]at k
 cases k
theorem Str.put {w w1:World} {S:Nat} {lim f:Int} {hv v1:Value} {L M:List Int} {row:Option Nat} (h:Str w S lim f hv L) (hg:w.grownBy w1 row) (hr:∀ g,row=some g->S+1<=g) (ho:w1.ownsRow (S+1) 5 1 v1 M.length (M.map (Value.int .u8))) (rng:∀ j,0<=M.getD j 0/\M.getD j 0<=255):Str (w1.setCell ⟨S,1,none⟩ v1) S lim f v1 M:=by
 have hS:S < w.heap.size:=cell_lt h.c0
 have hb:w1.heap[S]?=w.heap[S]?:=hg.block S hS (fun e=>by have:=hr S e.symm;omega)
 have hc:∀ j,w1.cell? ⟨S,j,none⟩=w.cell? ⟨S,j,none⟩:=fun j=>World.cell?_of_block hb
 have hf:∀ j,w1.frozen? ⟨S,j,none⟩=w.frozen? ⟨S,j,none⟩:=fun j=>World.frozen?_of_block hb
 exact⟨(World.cell?_setCell_other _ _ _ _ (fun e=>by simp at e)).trans ((hc 0).trans h.c0),World.cell?_setCell_same _ _ _ ((hc 1).trans h.c1),(World.cell?_setCell_other _ _ _ _ (fun e=>by simp at e)).trans ((hc 2).trans h.c2),by rw[World.frozen?_setCell];exact (hf 1).trans h.f1,by rw[World.frozen?_setCell];exact (hf 2).trans h.f2,owns_out ho (Nat.lt_succ_self _),rng⟩
theorem FB.put {S:Nat} {row:Option Nat} {a b:World} (h:FB S row a b) (v:Value):FB S row a (b.setCell ⟨S,1,none⟩ v) :=
 h.trans (row':=none) (FB.of_bx ((BX.refl S isAny b).set 1 v trivial)) (fun g e=>by cases e)
theorem drop_rng {M:List Int} (h:∀ j,0<=M.getD j 0/\M.getD j 0<=255) (n:Nat):∀ j,0<=(M.drop n).getD j 0/\(M.drop n).getD j 0<=255:=fun j=>by
 have k:=h (n+j)
 rw[List.getD_eq_getElem?_getD,List.getElem?_drop,<- List.getD_eq_getElem?_getD]
 exact k
def FedTo (S:Nat) (lim:Int) (hv:Value) (M:List Int) (w:World) (e:Ending) (w':World):Prop :=
 ∃ (v E:Value) (qs:List Pkv) (Ps:List Pa) (n:Nat) (m:Int) (hv':Value),e=.returned (.tuple #[v,E])/\n<=M.length/\SRun lim M Ps n m/\m≠0/\Pks w' w.heap.size v qs Ps /\
  ((m=3/\E=.nilIface/\Str w' S lim 0 hv' (M.drop n))\/(m≠3/\(∃ x,E=.iface 118 x)/\ErB w' w.heap.size E m/\Str w' S lim m hv' [])) /\
  (hv'.ownBlock=hv.ownBlock\/∀ g,hv'.ownBlock=some g->w.heap.size<=g)/\FB S hv.ownBlock w w'
theorem sfeed_bad (S:Nat) (lim f:Int) (hv:Value) (L:List Int) (vb:Value) (ys:List Int) (w:World) (h:Str w S lim f hv L) (hy:Byt w vb ys) (hf:f≠0):Calls Tryz.prog 16 #[.pointer (some ⟨S,0,none⟩),vb] w fun e w'=>∃ x,e=.returned (.tuple #[.slice none 0 0,.iface 118 x])/\Hid (ErB w' w.heap.size (.iface 118 x) f)/\Below w.heap.size w w':=by
 have c2:=h.c2
 have hf1:(f == 0)=false:=beq_eq_false_iff_ne.2 hf
 obtain⟨ao,cap,rfl,_⟩:=hy.form
 clear h hy
 go_enter Tryz.func16,Tryz.ntmps16
 go_wp2_with fail
 refine (sfault_use f _).mono ?_
 rintro e w1 ⟨x,rfl,hE,hb⟩
 go_wp2
 go_returns
 exact⟨_,rfl,hE,hb⟩
theorem sfeed_ok (S:Nat) (lim:Int) (hv:Value) (L:List Int) (vb:Value) (ys:List Int) (w:World) (hg:Laid w) (h:Str w S lim 0 hv L) (hy:Byt w vb ys) (hlim:2<=lim) (hLN:(L++ys).length<=1073741824):Calls Tryz.prog 16 #[.pointer (some ⟨S,0,none⟩),vb] w (FedTo S lim hv (L++ys) w):=by
 have hS:S < w.heap.size:=cell_lt h.c0
 have hS0:=h.pos hg
 have hrow:=owns_blk h.row
 have c1:=h.c1
 have c2:=h.c2
 have hrng:∀ j,0<=(L++ys).getD j 0/\(L++ys).getD j 0<=255:=by
  intro j
  have k1:=h.rng j
  have k2:=hy.range (j - L.length)
  by_cases hj:j < L.length
  ·rw[List.getD_eq_getElem?_getD,List.getElem?_append_left hj,<- List.getD_eq_getElem?_getD];exact k1
  ·rw[List.getD_eq_getElem?_getD,List.getElem?_append_right (by omega),<- List.getD_eq_getElem?_getD];exact k2
 have HH:=zh h
 have HY:=zh hy
 have HG:=zh hg
 have HROW:=zh hrow
 have HRNG:=zh hrng
 have hlen:L.length+ys.length<=1073741824:=by rw[<- List.length_append];exact hLN
 obtain⟨ao,cap,rfl,_⟩:=hy.form
 clear h hy hg hrow hrng
 go_enter Tryz.func16,Tryz.ntmps16
 go_wp2_with (first
  | (at_builtin;refine wpList_append_byt_at _ rfl _ _ rfl (S+1) hv L.length L rfl (uh HH).row (.slice ao ys.length cap) ys rfl (uh HY) (by omega) (by omega) ?_)
  | go_in)
 intro v1 w1 hown1 hgrow1 hv1
 have k1:w1.cell? ⟨S,1,none⟩=some hv:=(World.cell?_of_block (hgrow1.block S hS (fun e=>by have:=(uh HROW) S e.symm;omega))).trans c1
 have fz1:w1.frozen? ⟨S,1,none⟩=false:=(World.frozen?_of_block (hgrow1.block S hS (fun e=>by have:=(uh HROW) S e.symm;omega))).trans (uh HH).f1
 have HST:Hid (Str (w1.setCell ⟨S,1,none⟩ v1) S lim 0 v1 (L++ys)):=(uh HH).put hgrow1 (uh HROW) (by rw[List.length_append,List.map_append];exact hown1) (uh HRNG)
 have HFB:Hid (FB S hv.ownBlock w (w1.setCell ⟨S,1,none⟩ v1)):=(FB.of_grown hgrow1).put v1
 have HV1:Hid (v1.ownBlock=hv.ownBlock\/∀ g,v1.ownBlock=some g->w.heap.size<=g):=by
  rcases hv1 with e | e
  ·exact .inl e
  ·exact .inr (fun g k=>by rw[e]at k;cases k;exact Nat.le_refl _)
 obtain⟨a1,n1,p1,rfl⟩:∃ a1 n1 p1,v1=.slice a1 n1 p1:=by
  rcases hown1.2 with⟨rfl,_⟩ | ⟨g,cap,cur,rfl,_⟩
  ·exact⟨_,_,_,rfl⟩
  ·exact⟨_,_,_,rfl⟩
 clear hown1 hgrow1 hv1
 generalize hM:L++ys=M at HST HRNG hLN |-
 have HMM:=zh hM
 clear hM hlen HH HY
 go_wp2_with fail
 have hS2:S < (w1.setCell ⟨S,1,none⟩ (.slice a1 n1 p1)).heap.size:=cell_lt (uh HST).c0
 generalize w1.setCell ⟨S,1,none⟩ (.slice a1 n1 p1)=w2 at HST HFB hS2 |-
 refine (swhole_any S lim _ M w2 (S+1) (uh HST).row (uh HRNG) (uh HST).c0 (uh HST).c1 hlim hLN).mono ?_
 rintro e w3 ⟨v,n,E,qs,Ps,m,rfl,hn,HSR,hm0,HP3,HE3,hb3⟩
 have HST3:Hid (Str w3 S lim 0 (.slice a1 n1 p1) M):=(uh HST).below hb3
 have HFB3:Hid (FB S hv.ownBlock w w3):=(uh HFB).trans (row':=none) (FB.of_below hb3) (fun g e=>by cases e)
 have HPK:Hid (Pks w3 w.heap.size v qs Ps):=⟨owns_mono (uh HP3).row (uh HFB).size,(uh HP3).len,fun i q P h1 h2=>((uh HP3).mean i q P h1 h2).base (uh HFB).size,(uh HP3).dist⟩
 clear hb3 HST HFB HP3 k1 c1 c2 fz1
 obtain⟨d,hd,hE⟩:=uh HE3
 obtain⟨t,x,rfl⟩:=hE.iface
 have HE:=zh hE
 clear hE HE3
 go_wp2_with fail
 refine (er_Is d hd _ m 3 w3 (uh HE)).mono ?_
 rintro e w4 ⟨rfl,hw4⟩
 obtain rfl:=hw4.symm
 clear hw4
 by_cases hm:m=3
 ·subst hm
  by_cases hn0:n=0
  ·subst hn0
   go_wp2
   go_returns
   show FedTo S lim hv (L++ys) w _ _
   rw[uh HMM]
   exact⟨_,_,qs,Ps,0,3,_,rfl,hn,uh HSR,hm0,uh HPK,.inl ⟨rfl,rfl,uh HST3⟩,uh HV1,uh HFB3⟩
  ·have hS3:S < w3.heap.size:=cell_lt (uh HST3).c0
   have hS3':S+1<=w3.heap.size:=hS3
   obtain⟨g,rfl,rfl⟩:∃ g,a1=some ⟨g,0,none⟩/\n1=M.length:=by
    rcases (uh HST3).row.2 with⟨e,h0⟩ | ⟨g,cap,cur,e,_⟩
    ·omega
    ·cases e
     exact⟨g,rfl,rfl⟩
   obtain⟨hp1,hp2⟩:M.length<=p1/\p1<=maxLen:=by
    obtain⟨_,_,e,k1,k2⟩:=(byt_of_owns (uh HST3).row (uh HRNG)).form
    cases e
    exact⟨k1,k2⟩
   unfold maxLen at hp2
   have HT0:=zh ((byt_of_owns (uh HST3).row (uh HRNG)).drop' n hn)
   have c1:=(uh HST3).c1
   generalize hN:M.length=N at *
   by_cases hpn:p1=n
   ·obtain rfl:N=p1:=by omega
    subst hpn
    have HT:Hid (Byt w3 (.slice (some ⟨g,0,none⟩) 0 0) (M.drop N)):=by
     have k:=uh HT0
     rw[if_pos rfl,Nat.sub_self]at k
     exact k
    clear HT0
    go_wp2_with (first
     | (at_builtin;refine wpList_append_byt_at _ rfl _ _ rfl (S+1) (.slice none 0 0) 0 [] rfl (World.ownsRow_nil _ _ _ _) (.slice (some ⟨g,0,none⟩) 0 0) (M.drop N) rfl (uh HT) (by rw[List.length_drop];omega) hS3' ?_)
     | go_in)
    intro v5 w5 hown5 hgrow5 hv5
    have HG5:=zh hgrow5
    have k1:w5.cell? ⟨S,1,none⟩=some (.slice (some ⟨g,0,none⟩) N N):=(World.cell?_of_block (hgrow5.block S hS3 (fun e=>by cases e))).trans (uh HST3).c1
    have fz1:w5.frozen? ⟨S,1,none⟩=false:=(World.frozen?_of_block (hgrow5.block S hS3 (fun e=>by cases e))).trans (uh HST3).f1
    have HST5:Hid (Str (w5.setCell ⟨S,1,none⟩ v5) S lim 0 v5 (M.drop N)):=(uh HST3).put hgrow5 (fun g e=>by cases e) (by first | (rw[List.length_drop,hN,List.map_drop];exact hown5) | simpa [List.map_drop,hN] using hown5) (drop_rng (uh HRNG) N)
    have HFB5:Hid (FB S hv.ownBlock w (w5.setCell ⟨S,1,none⟩ v5)):=((uh HFB3).trans (FB.of_grown hgrow5) (fun g e=>by cases e)).put v5
    have HV5:Hid (v5.ownBlock=hv.ownBlock\/∀ g,v5.ownBlock=some g->w.heap.size<=g):=by
     rcases hv5 with e | e
     ·exact .inr (fun g k=>by rw[e]at k;cases k)
     ·exact .inr (fun g k=>by rw[e]at k;cases k;exact (uh HFB3).size)
    have HPK5:Hid (Pks (w5.setCell ⟨S,1,none⟩ v5) w.heap.size v qs Ps):=by
     have hb:Below w3.heap.size w3 w5:=⟨hgrow5.os,hgrow5.tape,hgrow5.output,hgrow5.size,fun k hk=>hgrow5.block k hk (fun e=>by cases e)⟩
     have kp:=(uh HPK).below hb
     have hx:=(BX.refl S isAny w5).set 1 v5 trivial
     exact⟨owns_bx kp.row hx hS,kp.len,fun i q P h1 h2=>(kp.mean i q P h1 h2).bx hx hS,kp.dist⟩
    obtain⟨a5,n5,p5,rfl⟩:∃ a1 n1 p1,v5=.slice a1 n1 p1:=by
     rcases hown5.2 with⟨rfl,_⟩ | ⟨g,cap,cur,rfl,_⟩
     ·exact⟨_,_,_,rfl⟩
     ·exact⟨_,_,_,rfl⟩
    clear hown5 hgrow5 hv5 HG5 HFB3 HPK HE
    go_wp2
    go_returns
    show FedTo S lim hv (L++ys) w _ _
    rw[uh HMM]
    exact⟨_,_,qs,Ps,N,3,_,rfl,by rw[hN];exact hn,uh HSR,hm0,uh HPK5,.inl ⟨rfl,rfl,uh HST5⟩,uh HV5,uh HFB5⟩
   ·have HT:Hid (Byt w3 (.slice (some ⟨g,0+n,none⟩) (N - n) (p1 - n)) (M.drop n)):=by
     have k:=uh HT0
     rw[if_neg hpn]at k
     exact k
    rw[Nat.zero_add]at HT
    clear HT0
    go_wp2_with (first
     | (at_builtin;refine wpList_append_byt_at _ rfl _ _ rfl (S+1) (.slice none 0 0) 0 [] rfl (World.ownsRow_nil _ _ _ _) (.slice (some ⟨g,n,none⟩) (N - n) (p1 - n)) (M.drop n) rfl (uh HT) (by rw[List.length_drop];omega) hS3' ?_)
     | go_in)
    intro v5 w5 hown5 hgrow5 hv5
    have HG5:=zh hgrow5
    have k1:w5.cell? ⟨S,1,none⟩=some (.slice (some ⟨g,0,none⟩) N p1):=(World.cell?_of_block (hgrow5.block S hS3 (fun e=>by cases e))).trans (uh HST3).c1
    have fz1:w5.frozen? ⟨S,1,none⟩=false:=(World.frozen?_of_block (hgrow5.block S hS3 (fun e=>by cases e))).trans (uh HST3).f1
    have HST5:Hid (Str (w5.setCell ⟨S,1,none⟩ v5) S lim 0 v5 (M.drop n)):=(uh HST3).put hgrow5 (fun g e=>by cases e) (by first | (rw[List.length_drop,hN,List.map_drop];exact hown5) | simpa [List.map_drop,hN] using hown5) (drop_rng (uh HRNG) n)
    have HFB5:Hid (FB S hv.ownBlock w (w5.setCell ⟨S,1,none⟩ v5)):=((uh HFB3).trans (FB.of_grown hgrow5) (fun g e=>by cases e)).put v5
    have HV5:Hid (v5.ownBlock=hv.ownBlock\/∀ g,v5.ownBlock=some g->w.heap.size<=g):=by
     rcases hv5 with e | e
     ·exact .inr (fun g k=>by rw[e]at k;cases k)
     ·exact .inr (fun g k=>by rw[e]at k;cases k;exact (uh HFB3).size)
    have HPK5:Hid (Pks (w5.setCell ⟨S,1,none⟩ v5) w.heap.size v qs Ps):=by
     have hb:Below w3.heap.size w3 w5:=⟨hgrow5.os,hgrow5.tape,hgrow5.output,hgrow5.size,fun k hk=>hgrow5.block k hk (fun e=>by cases e)⟩
     have kp:=(uh HPK).below hb
     have hx:=(BX.refl S isAny w5).set 1 v5 trivial
     exact⟨owns_bx kp.row hx hS,kp.len,fun i q P h1 h2=>(kp.mean i q P h1 h2).bx hx hS,kp.dist⟩
    obtain⟨a5,n5,p5,rfl⟩:∃ a1 n1 p1,v5=.slice a1 n1 p1:=by
     rcases hown5.2 with⟨rfl,_⟩ | ⟨g,cap,cur,rfl,_⟩
     ·exact⟨_,_,_,rfl⟩
     ·exact⟨_,_,_,rfl⟩
    clear hown5 hgrow5 hv5 HG5 HFB3 HPK HE
    go_wp2
    go_returns
    show FedTo S lim hv (L++ys) w _ _
    rw[uh HMM]
    exact⟨_,_,qs,Ps,n,3,_,rfl,by rw[hN];exact hn,uh HSR,hm0,uh HPK5,.inl ⟨rfl,rfl,uh HST5⟩,uh HV5,uh HFB5⟩
 ·have hm1:(m == 3)=false:=beq_eq_false_iff_ne.2 hm
  have HG3:Hid (Laid w3):=(uh HFB3).laid (uh HG) hS0 (uh HROW)
  have HSF:=zh (sfail_any S d hd _ m 0 _ w3 (uh HG3) (uh HE) (uh HST3).c1 (uh HST3).c2 (uh HST3).f1 (uh HST3).f2)
  go_wp2_with fail
  refine (uh HSF).mono ?_
  rintro e w4 ⟨y,rfl,hE4,k1,k2,hx4⟩
  have hS3:S < w3.heap.size:=cell_lt (uh HST3).c0
  have HST4:Hid (Str w4 S lim m (.slice none 0 0) []):=⟨((uh hx4).cell 0 (by omega)).trans (uh HST3).c0,k1,k2,((uh hx4).frozen 1).trans (uh HST3).f1,((uh hx4).frozen 2).trans (uh HST3).f2,World.ownsRow_nil _ _ _ _,fun j=>by simp⟩
  have HFB4:Hid (FB S hv.ownBlock w w4):=(uh HFB3).trans (row':=none) (FB.of_bx (uh hx4)) (fun g e=>by cases e)
  have HPK4:Hid (Pks w4 w.heap.size v qs Ps):=⟨owns_bx (uh HPK).row (uh hx4) hS,(uh HPK).len,fun i q P h1 h2=>((uh HPK).mean i q P h1 h2).bx (uh hx4) hS,(uh HPK).dist⟩
  have HEB4:Hid (ErB w4 w.heap.size (.iface 118 y) m):=(uh hE4).mono (uh HFB3).size
  clear k1 k2 hx4 HSF
  go_wp2
  go_returns
  show FedTo S lim hv (L++ys) w _ _
  rw[uh HMM]
  exact⟨_,_,qs,Ps,n,m,_,rfl,hn,uh HSR,hm0,uh HPK4,.inr ⟨hm,⟨_,rfl⟩,uh HEB4,uh HST4⟩,.inr (fun g e=>by cases e),uh HFB4⟩
theorem eqp_any (va vb:Value) (l m:List Pr) (w:World) (ha:Prp w va l) (hb:Prp w vb m) (hmx:l.length<=1000000000) :
  Calls Tryz.prog 33 #[va,vb] w fun e w'=>(∃ b,e=.returned (.bool b)/\(b=true ↔ l=m))/\∃ k,w'=w.drewN k:=by
 obtain⟨ao,ca,rfl,ha⟩:=ha
 obtain⟨bo,cb,rfl,hb⟩:=hb
 by_cases hl:l.length=m.length
 ·rcases ha with rfl | ⟨ba,oa,rfl,hca⟩
  ·obtain rfl:m=[]:=List.length_eq_zero_iff.1 hl.symm
   refine (eqp_nil _ _ _ _ _).mono ?_
   rintro e w' ⟨rfl,rfl⟩
   exact⟨⟨true,rfl,by simp⟩,0,rfl⟩
  ·rcases hb with rfl | ⟨bb,ob,rfl,hcb⟩
   ·obtain rfl:l=[]:=List.length_eq_zero_iff.1 hl
    refine (eqp_nil _ _ _ _ _).mono ?_
    rintro e w' ⟨rfl,rfl⟩
    exact⟨⟨true,rfl,by simp⟩,0,rfl⟩
   ·rw[<- hl]
    refine (eqp_core ba oa bb ob ca cb l m l.length w rfl hl.symm hmx hca hcb).mono ?_
    rintro e w' ⟨⟨b,rfl,hbb⟩,k,rfl⟩
    exact⟨⟨b,rfl,hbb.trans ⟨fun h=>at0_ext hl h,fun h j _=>by rw[h]⟩⟩,k,rfl⟩
 ·refine (eqp_len ao bo l.length m.length ca cb w hl).mono ?_
  rintro e w' ⟨rfl,rfl⟩
  exact⟨⟨false,rfl,by constructor;(intro h;cases h);(intro h;exact absurd (by rw[h]) hl)⟩,0,rfl⟩
theorem eqw_any (t t' p p':ByteArray) (q q':Int) (r r':Bool) (ao ao':Option Addr) (n n' cap cap':Nat) (l l':List Pr) (w:World) (ha:Prp w (.slice ao n cap) l) (hb:Prp w (.slice ao' n' cap') l') (hmx:l.length<=1000000000) :
  Calls Tryz.prog 70 #[.agg #[.string t,.string p,.int .i64 q,.bool r,.slice ao n cap],.agg #[.string t',.string p',.int .i64 q',.bool r',.slice ao' n' cap']] w fun e w'=>(∃ b,e=.returned (.bool b)/\(b=true ↔ (t=t'/\p=p'/\q=q'/\r=r'/\l=l')))/\Below w.heap.size w w':=by
 have HA:=zh ha
 have HB:=zh hb
 clear ha hb
 by_cases h0:t=t'
 ·have k0:(t.toList == t'.toList)=true:=by rw[h0];exact beq_self_eq_true _
  have H0:=zh h0
  clear h0
  by_cases h1:p=p'
  ·have k1:(p.toList == p'.toList)=true:=by rw[h1];exact beq_self_eq_true _
   have H1:=zh h1
   clear h1
   by_cases h2:q=q'
   ·have k2:(q == q')=true:=by rw[h2];exact beq_self_eq_true _
    have H2:=zh h2
    clear h2
    by_cases h3:r=r'
    ·have k3:(r == r')=true:=by rw[h3];exact beq_self_eq_true _
     have H3:=zh h3
     clear h3
     go_enter Tryz.func70,Tryz.ntmps70
     go_wp2_with fail
     refine (eqp_any _ _ l l' _ ((uh HA).below (by go_grown)) ((uh HB).below (by go_grown)) hmx).mono ?_
     rintro e w1 ⟨⟨b,rfl,hbb⟩,k,rfl⟩
     have HBB:=zh hbb
     clear hbb
     cases b
     ·go_wp2
      go_ret
      exact⟨⟨false,rfl,by constructor;(intro h;cases h);(intro h;exact (uh HBB).2 h.2.2.2.2)⟩,below_drewN (by go_grown) k⟩
     ·go_wp2
      go_ret
      exact⟨⟨true,rfl,fun _=>⟨uh H0,uh H1,uh H2,uh H3,(uh HBB).1 trivial⟩,fun _=>rfl⟩,below_drewN (by go_grown) k⟩
    ·have k3:(r == r')=false:=beq_eq_false_iff_ne.2 (h3)
     have H3:=zh h3
     clear h3
     go_enter Tryz.func70,Tryz.ntmps70
     go_wp2
     go_ret
     exact⟨⟨false,rfl,by constructor;(intro h;cases h);(intro h;exact absurd h.2.2.2.1 (uh H3))⟩,by go_grown⟩
   ·have k2:(q == q')=false:=beq_eq_false_iff_ne.2 (h2)
    have H2:=zh h2
    clear h2
    go_enter Tryz.func70,Tryz.ntmps70
    go_wp2
    go_ret
    exact⟨⟨false,rfl,by constructor;(intro h;cases h);(intro h;exact absurd h.2.2.1 (uh H2))⟩,by go_grown⟩
  ·have k1:(p.toList == p'.toList)=false:=beq_eq_false_iff_ne.2 (fun e=>h1 (text_ext e))
   have H1:=zh h1
   clear h1
   go_enter Tryz.func70,Tryz.ntmps70
   go_wp2
   go_ret
   exact⟨⟨false,rfl,by constructor;(intro h;cases h);(intro h;exact absurd h.2.1 (uh H1))⟩,by go_grown⟩
 ·have k0:(t.toList == t'.toList)=false:=beq_eq_false_iff_ne.2 (fun e=>h0 (text_ext e))
  have H0:=zh h0
  clear h0
  go_enter Tryz.func70,Tryz.ntmps70
  go_wp2
  go_ret
  exact⟨⟨false,rfl,by constructor;(intro h;cases h);(intro h;exact absurd h.1 (uh H0))⟩,by go_grown⟩
abbrev wl0:Wl:=⟨⟨#[]⟩,⟨#[]⟩,0,false,[]⟩
def WlIs (w:World) (b off:Nat) (u:Wl):Prop:=∃ ao n cap,(w.cell? ⟨b,off,none⟩=some (.string u.topic)/\w.cell? ⟨b,off+1,none⟩=some (.string u.payload)/\w.cell? ⟨b,off+2,none⟩=some (.int .i64 u.qos)/\w.cell? ⟨b,off+3,none⟩=some (.bool u.retain)/\w.cell? ⟨b,off+4,none⟩=some (.slice ao n cap))/\Prp w (.slice ao n cap) u.props/\u.props.length<=1000000000
def WlAt (w:World) (b off:Nat) (us:List Wl):Prop:=∀ k,k < us.length->WlIs w b (off+k * 5) (us.getD k wl0)
theorem WlIs.below {w w':World} {b off:Nat} {u:Wl} (h:WlIs w b off u) (hb:Below w.heap.size w w'):WlIs w' b off u:=by
 obtain⟨ao,n,cap,⟨h0,h1,h2,h3,h4⟩,h5,h6⟩:=h
 have hl:b < w.heap.size:=cell_lt h0
 exact⟨ao,n,cap,⟨(hb.cell hl).trans h0,(hb.cell hl).trans h1,(hb.cell hl).trans h2,(hb.cell hl).trans h3,(hb.cell hl).trans h4⟩,h5.below hb,h6⟩
theorem wl_eq (u v:Wl):u=v ↔ (u.topic=v.topic/\u.payload=v.payload/\u.qos=v.qos/\u.retain=v.retain/\u.props=v.props):=by
 obtain⟨a,b,c,d,e⟩:=u
 obtain⟨a',b',c',d',e'⟩:=v
 simp
theorem eqws_core (ba oa bb ob ca cb:Nat) (l m:List Wl) (len:Nat) (w:World) (hl:l.length=len) (hm:m.length=len) (hmx:len<=1000000000) (ha:WlAt w ba oa l) (hb:WlAt w bb ob m) :
  Calls Tryz.prog 34 #[.slice (some ⟨ba,oa,none⟩) len ca,.slice (some ⟨bb,ob,none⟩) len cb] w fun e w'=>(∃ b,e=.returned (.bool b)/\(b=true ↔ ∀ j,j < len->l.getD j wl0=m.getD j wl0))/\Below w.heap.size w w':=by
 have HL:=zh hl
 have HM:=zh hm
 have HA:=zh ha
 have HB:=zh hb
 clear hl hm ha hb
 go_enter Tryz.func34,Tryz.ntmps34
 go_wp2
 go_loopw [5] (fun i wr=>∃ k:Nat,k<=len/\i=.int .i64 k/\Hid (∀ j,j < k->l.getD j wl0=m.getD j wl0)/\Hid (Below w.heap.size w wr)) (fun i _=>len - (intOf i).toNat)
 case atStart=>exact⟨0,Nat.zero_le _,rfl,fun j hj=>absurd hj (Nat.not_lt_zero j),Below.refl _ _⟩
 case round =>
  obtain⟨k,hk,rfl,HALL,HBEL⟩:=hrel
  by_cases hlt:k < len
  ·have hx:=((uh HA) k (by rw[uh HL];exact hlt)).below (uh HBEL)
   have hy:=((uh HB) k (by rw[uh HM];exact hlt)).below (uh HBEL)
   have hwl:=wl_eq (l.getD k wl0) (m.getD k wl0)
   generalize hu:l.getD k wl0=u at hx hwl
   generalize hv:m.getD k wl0=v at hy hwl
   have HU:=zh hu
   have HV:=zh hv
   have HWL:=zh hwl
   clear hu hv hwl
   obtain⟨ao,n,cap,hc,hp,hq⟩:=hx
   obtain⟨ao',n',cap',hc',hp',hq'⟩:=hy
   have HP:=zh hp
   have HP':=zh hp'
   have HC:=zh hc
   have HC':=zh hc'
   have hlb:ba < wr.heap.size:=cell_lt hc.1
   have hlb':bb < wr.heap.size:=cell_lt hc'.1
   obtain⟨x1,x2,x3,x4,x5⟩:=hc
   obtain⟨y1,y2,y3,y4,y5⟩:=hc'
   clear hp hp'
   have HK:Hid (∀ W:World,Below wr.heap.size wr W->(fun w'=>(w'.cell? ⟨ba,oa+k * 5,none⟩=some (.string u.topic)/\w'.cell? ⟨ba,oa+k * 5+1,none⟩=some (.string u.payload)/\w'.cell? ⟨ba,oa+k * 5+2,none⟩=some (.int .i64 u.qos)/\w'.cell? ⟨ba,oa+k * 5+3,none⟩=some (.bool u.retain)/\w'.cell? ⟨ba,oa+k * 5+4,none⟩=some (.slice ao n cap))/\(w'.cell? ⟨bb,ob+k * 5,none⟩=some (.string v.topic)/\w'.cell? ⟨bb,ob+k * 5+1,none⟩=some (.string v.payload)/\w'.cell? ⟨bb,ob+k * 5+2,none⟩=some (.int .i64 v.qos)/\w'.cell? ⟨bb,ob+k * 5+3,none⟩=some (.bool v.retain)/\w'.cell? ⟨bb,ob+k * 5+4,none⟩=some (.slice ao' n' cap'))) W):=by
    intro W hW
    obtain⟨x1,x2,x3,x4,x5⟩:=uh HC
    obtain⟨y1,y2,y3,y4,y5⟩:=uh HC'
    exact⟨⟨(hW.cell hlb).trans x1,(hW.cell hlb).trans x2,(hW.cell hlb).trans x3,(hW.cell hlb).trans x4,(hW.cell hlb).trans x5⟩,(hW.cell hlb').trans y1,(hW.cell hlb').trans y2,(hW.cell hlb').trans y3,(hW.cell hlb').trans y4,(hW.cell hlb').trans y5⟩
   go_wp2_with fail
   go_region_held3 (fun w'=>(w'.cell? ⟨ba,oa+k * 5,none⟩=some (.string u.topic)/\w'.cell? ⟨ba,oa+k * 5+1,none⟩=some (.string u.payload)/\w'.cell? ⟨ba,oa+k * 5+2,none⟩=some (.int .i64 u.qos)/\w'.cell? ⟨ba,oa+k * 5+3,none⟩=some (.bool u.retain)/\w'.cell? ⟨ba,oa+k * 5+4,none⟩=some (.slice ao n cap))/\(w'.cell? ⟨bb,ob+k * 5,none⟩=some (.string v.topic)/\w'.cell? ⟨bb,ob+k * 5+1,none⟩=some (.string v.payload)/\w'.cell? ⟨bb,ob+k * 5+2,none⟩=some (.int .i64 v.qos)/\w'.cell? ⟨bb,ob+k * 5+3,none⟩=some (.bool v.retain)/\w'.cell? ⟨bb,ob+k * 5+4,none⟩=some (.slice ao' n' cap')))
    (first | exact (uh HK) _ (below_drewN (Below.refl _ _) 1) | exact (uh HK) _ (uh HB2) | exact (uh HK) _ (Below.refl _ _))
    (first | (go_at_call 70;refine (eqw_any u.topic v.topic u.payload v.payload u.qos v.qos u.retain v.retain ao ao' n n' cap cap' u.props v.props _ ((uh HP).below (below_drewN (Below.refl _ _) 1)) ((uh HP').below (below_drewN (Below.refl _ _) 1)) hq).mono ?_;rintro e w2 ⟨⟨bo,rfl,hbo⟩,hb2⟩;have HBO:=zh hbo;have HB2:Hid (Below wr.heap.size wr w2):=(below_drewN (Below.refl _ _) 1).trans hb2;clear hbo hb2) | fail)
   have HB3:Hid (Below w.heap.size w w2):=(uh HBEL).trans ((uh HB2).mono (uh HBEL).size)
   clear HK HC HC' x1 x2 x3 x4 x5 y1 y2 y3 y4 y5 HB2
   have HUV:Hid ((bo=true) ↔ u=v):=(uh HBO).trans (uh HWL).symm
   clear HBO HWL
   cases bo
   ·have HNE:Hid (l.getD k wl0≠m.getD k wl0):=fun e=>by
     rw[uh HU,uh HV]at e
     have:=(uh HUV).2 e
     cases this
    go_wp2
    go_ret
    refine⟨⟨_,rfl,?_⟩,uh HB3⟩
    constructor
    ·intro h;cases h
    ·intro h;exact absurd (h k hlt) (uh HNE)
   ·have HE:Hid (l.getD k wl0=m.getD k wl0):=by
     show _=_
     rw[uh HU,uh HV]
     exact (uh HUV).1 rfl
    go_wp2
    go_roundw
    case rel=>exact⟨k+1,by omega,by go_num,fun j hj=>by
     rcases Nat.lt_succ_iff_lt_or_eq.1 hj with h | h
     ·exact (uh HALL) j h
     ·rw[h];exact uh HE,HB3⟩
    case measure=>simp[intOf];omega
  ·go_wp2
   go_ret
   exact⟨⟨_,rfl,fun _ j hj=>(uh HALL) j (by omega),fun _=>rfl⟩,uh HBEL⟩
theorem eqws_len (ao bo:Option Addr) (n m ca cb:Nat) (w:World) (h:n≠m) :
  Calls Tryz.prog 34 #[.slice ao n ca,.slice bo m cb] w fun e w'=>e=.returned (.bool false)/\w'=w:=by
 have h1:((n:Int) == (m:Int))=false:=beq_eq_false_iff_ne.2 (by omega)
 go_enter Tryz.func34,Tryz.ntmps34
 go_wp2
 go_ret
 exact⟨rfl,rfl⟩
theorem eqws_nil (ao bo:Option Addr) (ca cb:Nat) (w:World) :
  Calls Tryz.prog 34 #[.slice ao 0 ca,.slice bo 0 cb] w fun e w'=>e=.returned (.bool true)/\w'=w:=by
 go_enter Tryz.func34,Tryz.ntmps34
 go_wp2
 refine wp_loop_rounds 1 ?_
 rw[rounds_succ]
 go_wp2
 go_ret
 exact⟨rfl,rfl⟩
def Wls (w:World) (v:Value) (l:List Wl):Prop:=∃ ao cap,v=.slice ao l.length cap/\(l.length<=cap/\cap<=maxLen)/\(l=[]\/∃ b off,ao=some ⟨b,off,none⟩/\WlAt w b off l)
theorem wl_ext {l m:List Wl} (hl:l.length=m.length) (h:∀ j,j < l.length->l.getD j wl0=m.getD j wl0):l=m:=by
 apply List.ext_getElem hl
 intro i h1 h2
 have:=h i h1
 rw[List.getD_eq_getElem?_getD,List.getD_eq_getElem?_getD,List.getElem?_eq_getElem h1,List.getElem?_eq_getElem h2]at this
 exact this
theorem eqws_any (va vb:Value) (l m:List Wl) (w:World) (ha:Wls w va l) (hb:Wls w vb m) (hmx:l.length<=1000000000) :
  Calls Tryz.prog 34 #[va,vb] w fun e w'=>(∃ b,e=.returned (.bool b)/\(b=true ↔ l=m))/\Below w.heap.size w w':=by
 obtain⟨ao,ca,rfl,_,ha⟩:=ha
 obtain⟨bo,cb,rfl,_,hb⟩:=hb
 by_cases hl:l.length=m.length
 ·rcases ha with rfl | ⟨ba,oa,rfl,hca⟩
  ·obtain rfl:m=[]:=List.length_eq_zero_iff.1 hl.symm
   refine (eqws_nil _ _ _ _ _).mono ?_
   rintro e w' ⟨rfl,rfl⟩
   exact⟨⟨true,rfl,by simp⟩,Below.refl _ _⟩
  ·rcases hb with rfl | ⟨bb,ob,rfl,hcb⟩
   ·obtain rfl:l=[]:=List.length_eq_zero_iff.1 hl
    refine (eqws_nil _ _ _ _ _).mono ?_
    rintro e w' ⟨rfl,rfl⟩
    exact⟨⟨true,rfl,by simp⟩,Below.refl _ _⟩
   ·rw[<- hl]
    refine (eqws_core ba oa bb ob ca cb l m l.length w rfl hl.symm hmx hca hcb).mono ?_
    rintro e w' ⟨⟨b,rfl,hbb⟩,hbel⟩
    exact⟨⟨b,rfl,hbb.trans ⟨fun h=>wl_ext hl h,fun h j _=>by rw[h]⟩⟩,hbel⟩
 ·refine (eqws_len ao bo l.length m.length ca cb w hl).mono ?_
  rintro e w' ⟨rfl,rfl⟩
  exact⟨⟨false,rfl,by constructor;(intro h;cases h);(intro h;exact absurd (by rw[h]) hl)⟩,Below.refl _ _⟩
end Go.Proofs.YtpheelbbpiieiaaGreatDoor.K
