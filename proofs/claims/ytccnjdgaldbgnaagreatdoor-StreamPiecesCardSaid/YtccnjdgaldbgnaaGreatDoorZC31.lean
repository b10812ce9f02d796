/- Proved here: helpers, one text behind the other. -/
import Derived.Test.YtccnjdgaldbgnaaGreatDoorZC30
import Derived.Test.YtccnjdgaldbgnaaGreatDoorZC28
import Derived.Maps.AppendAt
set_option maxHeartbeats 20000000
namespace Go.Proofs.YtccnjdgaldbgnaaGreatDoor.K
open Go.RowKit
theorem decode_k (v:Value) (l:List Int) (w:World) (h:Byt w v l) (HP:bok (l.getD 0 0)=true->PkAt (l.getD 0 0)):Calls Tryz.prog 50 #[v] w (DecPost l w):=by
 by_cases hl:l=[]
 ·subst hl
  obtain⟨ao,cap,rfl,_⟩:=h.form
  exact dec_nil ao cap w
 ·obtain⟨b,off,cap,rfl,_⟩:=h.form1 (List.length_pos_iff.2 hl)
  cases hok:bok (l.getD 0 0)
  ·exact dec_flag b off cap l w h hl hok
  ·by_cases hm:(meas l).2.2=0
   ·exact dec_body b off cap l w h hl hok hm (HP hok)
   ·exact dec_meas b off cap l w h hl hok hm
theorem decode_any (v:Value) (l:List Int) (w:World) (h:Byt w v l):Calls Tryz.prog 50 #[v] w (DecPost l w) :=
 decode_k v l w h fun hok R st w0 w1 h1 h2 h3=>packet_all R _ (h.range 0).1 (h.range 0).2 hok st w0 w1 h1 h2 h3
set_option maxRecDepth 100000
theorem is_nil (m:Int) (w:World):Calls Tryz.prog 14 #[.nilIface,.iface 47 (.int .i64 m)] w fun e w'=>e=.returned (.bool false)/\w'=w:=by
 have e1:∀ W,(binOp .eql 31 .nilIface (.iface 47 (.int .i64 m))).run Tryz.prog W=.ok (.bool false) W:=fun W=>by kernel_rfl
 go_enter Tryz.func14,Tryz.ntmps14
 go_wp2
 first | go_ret | go_ret2
 exact⟨rfl,rfl⟩
theorem smeas_nat (l:List Int) (hr:∀ j,0<=l.getD j 0/\l.getD j 0<=255):∃ K N:Nat,smeas l=((K:Int),(N:Int))/\K<=l.length/\N<=1000000000/\(N≠0->2<=K/\K<=N):=by
 have h1:=hr 1
 have h2:=hr 2
 have h3:=hr 3
 have h4:=hr 4
 have key:∀ (p:Int×Int) ,0<=p.1->0<=p.2->p.1<=l.length->p.2<=1000000000->(p.2≠0->2<=p.1/\p.1<=p.2)->∃ K N:Nat,p=((K:Int),(N:Int))/\K<=l.length/\N<=1000000000/\(N≠0->2<=K/\K<=N):=by
  rintro⟨a,b⟩ k1 k2 k3 k4 k5
  simp only at k1 k2 k3 k4 k5
  obtain⟨K,rfl⟩:=Int.eq_ofNat_of_zero_le k1
  obtain⟨N,rfl⟩:=Int.eq_ofNat_of_zero_le k2
  exact⟨K,N,rfl,by omega,by omega,by omega⟩
 apply key <;> unfold smeas <;> (repeat' split) <;> simp only <;> omega
def snum (lim:Int) (l:List Int):Int :=
 if (smeas l).2<=lim then dnum l else if dnum (l.take (smeas l).1.toNat)=1 then 1 else 2
def NextPost (lim:Int) (l:List Int) (w:World) (e:Ending) (w':World):Prop :=
 ∃ (q:Pkv) (n:Nat) (E:Value),e=.returned (.tuple #[q.val,.int .i64 n,E]) /\
  ((snum lim l≠0/\Hid (∃ d,d<=3/\Er w' d E (snum lim l)))\/(snum lim l=0/\n=(meas l).2.1/\E=.nilIface/\∃ P r,dbody l=some (P,r)/\Hid (Mean w' w.heap.size q P)))/\Below w.heap.size w w'
theorem snext_in (S:Nat) (lim:Int) (v:Value) (l:List Int) (w:World) (h:Byt w v l) (hS:w.cell? ⟨S,0,none⟩=some (.int .i64 lim)) (hle:(smeas l).2<=lim):Calls Tryz.prog 23 #[.pointer (some ⟨S,0,none⟩),v] w (NextPost lim l w):=by
 have hsn:snum lim l=dnum l:=by unfold snum;rw[if_pos hle]
 have HPN:=zh (pk_new w pkz)
 have HBN:Hid (Below w.heap.size w (w.alloc (.cells pkz.cells.toArray 45))):=bal _ _
 have HH:=zh (h.below (uh HBN))
 obtain⟨K,N,hK,hK1,hK2,hK3⟩:=smeas_nat l h.range
 have HM:=zh (smeas_any v l (w.alloc (.cells pkz.cells.toArray 45)) (uh HH))
 rw[hK]at HM hle
 simp only at HM hle
 have hSl:=cell_lt hS
 obtain⟨ao,cap,rfl,hc1,hc2⟩:=h.form
 have HSN:=zh hsn
 clear h hK hsn hK3
 go_enter Tryz.func23,Tryz.ntmps23
 go_wp2_with fail
 refine (uh HM).mono ?_
 rintro e w1 ⟨rfl,hw1⟩
 have c0:w1.cell? ⟨S,0,none⟩=some (.int .i64 lim):=by rw[hw1];exact ((uh HBN).cell hSl).trans hS
 have HP1:Hid (Pk w1 w.heap.size pkz):=by rw[hw1];exact uh HPN
 have HB1:Hid (Below w.heap.size w w1):=by rw[hw1];exact uh HBN
 have HH1:Hid (Byt w1 (.slice ao l.length cap) l):=by rw[hw1];exact uh HH
 have hz1:w1.heap.size=w.heap.size+1:=by rw[hw1];simp
 clear HM hw1 HPN HBN HH hS
 go_wp2_with fail
 refine (decode_any _ l w1 (uh HH1)).mono ?_
 rintro e w2 ⟨q,n,E,rfl,hcase,hb2⟩
 have HP2:=zh ((uh HP1).below hb2)
 have HB2:Hid (Below w.heap.size w w2):=(uh HB1).trans (hb2.mono (uh HB1).size)
 have HC:=zh hcase
 clear hb2 HP1 HB1 HH1 hcase c0
 dsimp only
 iterate 10 go_step
 refine wpList_store_mid rfl 45 _ _ rfl w.heap.size 0 q.cells.toArray rfl rfl ((uh HP2).there _) packet_size (Pkv.ones' _) ?_
 simp only[Act.put]
 have HPS:=zh ((uh HP2).stored q)
 have HBS:Hid (Below w.heap.size w (w2.setCells w.heap.size 0 q.cells)):=setCells_below (uh HB2) (Nat.le_refl _)
 have HES:Hid (NextPost lim l w (.returned (.tuple #[q.val,.int .i64 n,E])) (w2.setCells w.heap.size 0 q.cells)):=by
  refine⟨q,n,E,rfl,?_,uh HBS⟩
  rw[uh HSN]
  rcases uh HC with⟨k1,k2,k3,k4⟩ | ⟨k1,k2,k3,P,r,k4,k5⟩
  ·obtain⟨x,d,_,hd,hE⟩:=erp_cells (vs:=q.cells) (uh k4) (uh HP2).dup
   exact .inl ⟨k1,d,hd,hE⟩
  ·exact .inr ⟨k1,k2,k3,P,r,k4,((uh k5).cells (by omega)).base (by omega)⟩
 generalize w2.setCells w.heap.size 0 q.cells=wS at HPS HBS HES |-
 go_wp2
 refine bodyPost_ret (res_pk3 (B:=w.heap.size) (q:=q) rfl rfl (uh HPS)) rfl ?_
 exact uh HES
theorem spk_alloc (ρ:Operand->Value) (dst:Option Tmp) (ty:TypeId) (pos:String) (after:Array Edge) (w:World) :
  (execOp ρ ⟨dst,.alloc 45,ty,pos,after,none⟩).run Tryz.prog w=.ok (.value (.pointer (some ⟨w.heap.size,0,none⟩))) (w.alloc (.cells pkz.cells.toArray 45)):=by
 kernel_rfl
theorem spk_store (a:Act) (dst:Option Tmp) (x y:Operand) (ty:TypeId) (pos:String) (after:Array Edge) (q:Pkv) (w:World) (hx:a.eval x=.pointer (some ⟨w.heap.size,0,none⟩)) (hy:a.eval y=q.val) :
  (execOp a.eval ⟨dst,.store 45 x y,ty,pos,after,none⟩).run Tryz.prog (w.alloc (.cells pkz.cells.toArray 45))=.ok .skip (w.alloc (.cells q.cells.toArray 45)):=by
 show Sem.run Tryz.prog (do Instr.storeAt 45 (a.eval x) (a.eval y);pure Next.skip) _=_
 rw[hx,hy]
 simp only[Sem.run_bind]
 rw[show q.val=.agg q.cells.toArray from rfl,run_storeAt_new w 45 pkz.cells.toArray q.cells.toArray (by rw[packet_size];rfl) rfl q.ones']
 rfl
theorem sis_use (m:Int) (E:Value) (w:World) (h:(m=0/\E=.nilIface)\/(m≠0/\∃ d,d<=3/\Er w d E m)):Calls Tryz.prog 14 #[E,.iface 47 (.int .i64 1)] w fun e w'=>e=.returned (.bool (m == 1))/\w'=w:=by
 rcases h with⟨rfl,rfl⟩ | ⟨_,d,hd,h⟩
 ·exact is_nil 1 w
 ·exact er_Is d hd E m 1 w h
theorem snext_out (S:Nat) (lim:Int) (v:Value) (l:List Int) (w:World) (h:Byt w v l) (hS:w.cell? ⟨S,0,none⟩=some (.int .i64 lim)) (hlim:2<=lim) (hle:¬ (smeas l).2<=lim):Calls Tryz.prog 23 #[.pointer (some ⟨S,0,none⟩),v] w (NextPost lim l w):=by
 have HPN:=zh (pk_new w pkz)
 have HBN:Hid (Below w.heap.size w (w.alloc (.cells pkz.cells.toArray 45))):=bal _ _
 have HH:=zh (h.below (uh HBN))
 obtain⟨K,N,hK,hK1,hK2,hK3⟩:=smeas_nat l h.range
 have hsn:snum lim l=if dnum (l.take K)=1 then 1 else 2:=by unfold snum;rw[if_neg hle,hK,Int.toNat_natCast]
 have HM:=zh (smeas_any v l (w.alloc (.cells pkz.cells.toArray 45)) (uh HH))
 rw[hK]at HM hle
 simp only at HM hle
 have hSl:=cell_lt hS
 have hK4:=(hK3 (by omega)).1
 obtain⟨b,off,cap,rfl,hc1,hc2⟩:=h.form1 (by omega)
 unfold maxLen at hc2
 have HSN:=zh hsn
 clear h hK hsn hK3
 go_enter Tryz.func23,Tryz.ntmps23
 go_wp2_with fail
 refine (uh HM).mono ?_
 rintro e w1 ⟨rfl,hw1⟩
 have c0:w1.cell? ⟨S,0,none⟩=some (.int .i64 lim):=by rw[hw1];exact ((uh HBN).cell hSl).trans hS
 have HP1:Hid (Pk w1 w.heap.size pkz):=by rw[hw1];exact uh HPN
 have HB1:Hid (Below w.heap.size w w1):=by rw[hw1];exact uh HBN
 have HH1:Hid (Byt w1 (.slice (some ⟨b,off,none⟩) K cap) (l.take K)):=by rw[hw1];exact (uh HH).take K hK1
 have hz1:w1.heap.size=w.heap.size+1:=by rw[hw1];simp
 clear HM hw1 HPN HBN HH hS
 generalize hn:l.length=n0 at hK1 hc1 |-
 clear hn
 go_wp2_with fail
 refine (decode_any _ (l.take K) w1 (uh HH1)).mono ?_
 rintro e w2 ⟨q,n,E,rfl,hcase,hb2⟩
 have HP2:=zh ((uh HP1).below hb2)
 have HB2:Hid (Below w.heap.size w w2):=(uh HB1).trans (hb2.mono (uh HB1).size)
 have HC:Hid ((dnum (l.take K)=0/\E=.nilIface)\/(dnum (l.take K)≠0/\∃ d,d<=3/\Er w2 d E (dnum (l.take K)))):=by
  rcases hcase with⟨k1,k2,k3,k4⟩ | ⟨k1,k2,k3,k4⟩
  ·obtain⟨x,d,_,hd,hE⟩:=uh k4
   exact .inr ⟨k1,d,hd,hE⟩
  ·exact .inl ⟨k1,k3⟩
 generalize dnum (l.take K)=m at HC HSN
 clear hb2 HP1 HB1 HH1 hcase c0
 dsimp only
 iterate 13 go_step
 refine Go.Proofs.YtccnjdgaldbgnaaGreatDoor.wpList_value rfl (spk_alloc _ _ _ _ _ _) ?_
 simp only[Act.put,List.setIfInBounds_toArray,List.set_cons_zero,List.set_cons_succ]
 refine Go.Proofs.YtccnjdgaldbgnaaGreatDoor.wpList_skip rfl (spk_store _ _ _ _ _ _ _ q w2 rfl rfl) ?_
 simp only[Act.put]
 have hal:Below w2.heap.size w2 (w2.alloc (.cells q.cells.toArray 45)):=bal _ _
 have HP3:Hid (Pk (w2.alloc (.cells q.cells.toArray 45)) w.heap.size pkz):=(uh HP2).below hal
 have HB3:Hid (Below w.heap.size w (w2.alloc (.cells q.cells.toArray 45))):=(uh HB2).trans (hal.mono (uh HB2).size)
 have HC3:Hid ((m=0/\E=.nilIface)\/(m≠0/\∃ d,d<=3/\Er (w2.alloc (.cells q.cells.toArray 45)) d E m)):=by
  rcases uh HC with k | ⟨k1,d,k2,k3⟩
  ·exact .inl k
  ·exact .inr ⟨k1,d,k2,k3.below hal⟩
 generalize w2.alloc (.cells q.cells.toArray 45)=w3 at HP3 HB3 HC3 |-
 clear hal HP2 HB2 HC
 go_wp2_with fail
 refine (sis_use m E w3 (uh HC3)).mono ?_
 rintro e w4 ⟨rfl,hw4⟩
 obtain rfl:=hw4.symm
 clear hw4
 have HBS:Hid (Below w.heap.size w (w3.setCells w.heap.size 0 pkz.cells)):=setCells_below (uh HB3) (Nat.le_refl _)
 have HPS:=zh ((uh HP3).stored pkz)
 by_cases hm:m=1
 ·subst hm
  have HES:Hid (NextPost lim l w (.returned (.tuple #[pkz.val,.int .i64 (0:Nat),E])) (w3.setCells w.heap.size 0 pkz.cells)):=by
   refine⟨pkz,0,E,rfl,?_,uh HBS⟩
   rw[uh HSN,if_pos rfl]
   rcases uh HC3 with⟨k1,_⟩ | ⟨k1,d,k2,k3⟩
   ·exact absurd k1 (by decide)
   ·exact .inl ⟨by decide,d,k2,er_cells (uh HP3).dup k3⟩
  go_upto_region 6 with fail
  iterate 7 go_step
  refine wpList_store_mid rfl 45 _ _ rfl w.heap.size 0 pkz.cells.toArray rfl rfl ((uh HP3).there _) packet_size (Pkv.ones' _) ?_
  simp only[Act.put]
  generalize w3.setCells w.heap.size 0 pkz.cells=wS at HPS HBS HES |-
  go_wp2
  refine bodyPost_ret (res_pk3 (B:=w.heap.size) (q:=pkz) rfl rfl (uh HPS)) rfl ?_
  exact uh HES
 ·have hm1:(m == 1)=false:=beq_eq_false_iff_ne.2 hm
  have HES:Hid (NextPost lim l w (.returned (.tuple #[pkz.val,.int .i64 (0:Nat),.iface 47 (.int .i64 2)])) (w3.setCells w.heap.size 0 pkz.cells)):=by
   refine⟨pkz,0,_,rfl,?_,uh HBS⟩
   rw[uh HSN,if_neg hm]
   exact .inl ⟨by decide,0,by omega,rfl⟩
  go_upto_region 7 with fail
  iterate 7 go_step
  refine wpList_store_mid rfl 45 _ _ rfl w.heap.size 0 pkz.cells.toArray rfl rfl ((uh HP3).there _) packet_size (Pkv.ones' _) ?_
  simp only[Act.put]
  generalize w3.setCells w.heap.size 0 pkz.cells=wS at HPS HBS HES |-
  go_wp2
  refine bodyPost_ret (res_pk3 (B:=w.heap.size) (q:=pkz) rfl rfl (uh HPS)) rfl ?_
  exact uh HES
theorem snext_any (S:Nat) (lim:Int) (v:Value) (l:List Int) (w:World) (h:Byt w v l) (hS:w.cell? ⟨S,0,none⟩=some (.int .i64 lim)) (hlim:2<=lim):Calls Tryz.prog 23 #[.pointer (some ⟨S,0,none⟩),v] w (NextPost lim l w):=by
 by_cases hle:(smeas l).2<=lim
 ·exact snext_in S lim v l w h hS hle
 ·exact snext_out S lim v l w h hS hlim hle
theorem owns_ty {w w':World} {B:Nat} {e t:TypeId} {s:Nat} {v:Value} {n:Nat} {xs:List Value} {row:Option Nat} (h:w.ownsRow B e s v n xs) (hg:w.grownBy w' row) (ht:∀ g,row=some g->∃ cur fz,w.heap[g]?=some (.cells cur t fz)) (hne:e≠t):w'.ownsRow B e s v n xs:=by
 refine⟨h.1,?_⟩
 rcases h.2 with h1 | ⟨g,cap,cur,hv,hB,hgg,rest⟩
 ·exact .inl h1
 ·refine .inr ⟨g,cap,cur,hv,hB,?_,rest⟩
  rw[hg.block g (Array.getElem?_eq_some_iff.1 hgg).1 (fun er=>by
   obtain⟨cur',fz,k⟩:=ht g er.symm
   rw[hgg]at k
   simp only[Option.some.injEq,Obj.cells.injEq]at k
   exact hne k.2.1)]
  exact hgg
theorem Mean.ty {w w':World} {B:Nat} {p:Pkv} {P:Pa} {row:Option Nat} (h:Mean w B p P) (hg:w.grownBy w' row) (ht:∀ g,row=some g->∃ cur fz,w.heap[g]?=some (.cells cur 45 fz)):Mean w' B p P :=
 ⟨h.sc,owns_ty h.props hg ht (by decide),by
  obtain⟨ws,h1,h2,h3⟩:=h.wills
  exact⟨ws,owns_ty h1 hg ht (by decide),h2,fun i a b ha hb=>by
   obtain⟨k1,k2,k3,k4,k5⟩:=h3 i a b ha hb
   exact⟨k1,k2,k3,k4,owns_ty k5 hg ht (by decide)⟩⟩,owns_ty h.user hg ht (by decide),owns_ty h.pass hg ht (by decide),owns_ty h.subs hg ht (by decide),owns_ty h.filters hg ht (by decide),owns_ty h.codes hg ht (by decide)⟩
theorem Mean.below {w w':World} {B:Nat} {p:Pkv} {P:Pa} (h:Mean w B p P) (hb:Below w.heap.size w w'):Mean w' B p P :=
 ⟨h.sc,owns_below h.props hb,by
  obtain⟨ws,h1,h2,h3⟩:=h.wills
  exact⟨ws,owns_below h1 hb,h2,fun i a b ha hb'=>by
   obtain⟨k1,k2,k3,k4,k5⟩:=h3 i a b ha hb'
   exact⟨k1,k2,k3,k4,owns_below k5 hb⟩⟩,owns_below h.user hb,owns_below h.pass hb,owns_below h.subs hb,owns_below h.filters hb,owns_below h.codes hb⟩
structure Pks (w:World) (B:Nat) (v:Value) (qs:List Pkv) (Ps:List Pa):Prop where
 row:w.ownsRow B 45 19 v qs.length (qs.flatMap Pkv.cells)
 len:qs.length=Ps.length
 mean:∀ (i:Nat) (q:Pkv) (P:Pa),qs[i]?=some q->Ps[i]?=some P->Mean w B q P
 dist:∀ (i j:Nat) (q q':Pkv) (g:Nat),i < j->qs[i]?=some q->qs[j]?=some q'->q.wills.val.ownBlock=some g->q'.wills.val.ownBlock≠some g
theorem Pks.nil (w:World) (B:Nat):Pks w B (.slice none 0 0) [] []:=⟨World.ownsRow_nil _ _ _ _,rfl,fun i q P h=>by simp at h,fun i j q q' g _ h=>by simp at h⟩
theorem Pks.below {w w':World} {B:Nat} {v:Value} {qs:List Pkv} {Ps:List Pa} (h:Pks w B v qs Ps) (hb:Below w.heap.size w w'):Pks w' B v qs Ps :=
 ⟨owns_below h.row hb,h.len,fun i q P h1 h2=>(h.mean i q P h1 h2).below hb,h.dist⟩
theorem Pks.blk {w:World} {B:Nat} {v:Value} {qs:List Pkv} {Ps:List Pa} (h:Pks w B v qs Ps):∀ g,v.ownBlock=some g->B<=g/\∃ cur fz,w.heap[g]?=some (.cells cur 45 fz):=by
 intro g hg
 rcases h.row.2 with⟨rfl,_⟩ | ⟨g',cap,cur,rfl,hB,hgg,_⟩
 ·cases hg
 ·cases hg
  exact⟨hB,cur,_,hgg⟩
theorem Mean.wblk {w:World} {B:Nat} {q:Pkv} {P:Pa} (h:Mean w B q P):∀ g,q.wills.val.ownBlock=some g->B<=g/\g < w.heap.size:=by
 intro g hg
 obtain⟨ws,h1,_⟩:=h.wills
 rcases h1.2 with⟨e,_⟩ | ⟨g',cap,cur,e,hB,hgg,_⟩
 ·rw[e]at hg;cases hg
 ·rw[e]at hg
  cases hg
  exact⟨hB,(Array.getElem?_eq_some_iff.1 hgg).1⟩
theorem Pks.fresh {w w2:World} {B:Nat} {v:Value} {qs:List Pkv} {Ps:List Pa} (h:Pks w B v qs Ps) (q:Pkv) (P:Pa) (hm:Mean w2 w.heap.size q P):∀ (i:Nat) (q':Pkv) (g:Nat),qs[i]?=some q'->q'.wills.val.ownBlock=some g->q.wills.val.ownBlock≠some g:=by
 intro i q' g hi hg hq
 obtain⟨P',hP'⟩:∃ P',Ps[i]?=some P':=⟨_,List.getElem?_eq_getElem (by rw[<- h.len];exact (List.getElem?_eq_some_iff.1 hi).1)⟩
 have k1:=(h.mean i q' P' hi hP').wblk g hg
 have k2:=hm.wblk g hq
 omega
theorem Pks.app {w w':World} {B:Nat} {v v':Value} {qs:List Pkv} {Ps:List Pa} {q:Pkv} {P:Pa} (h:Pks w B v qs Ps) (hm:Mean w B q P) (hf:∀ (i:Nat) (q':Pkv) (g:Nat),qs[i]?=some q'->q'.wills.val.ownBlock=some g->q.wills.val.ownBlock≠some g) (hg:w.grownBy w' v.ownBlock) (ho:w'.ownsRow B 45 19 v' (qs.length+1) (qs.flatMap Pkv.cells++q.cells)):Pks w' B v' (qs++[q]) (Ps++[P]):=by
 have ht:∀ g,v.ownBlock=some g->∃ cur fz,w.heap[g]?=some (.cells cur 45 fz):=fun g e=>(h.blk g e).2
 refine⟨?_,by simp[h.len],fun i x X h1 h2=>?_,fun i j x y g hij h1 h2 h3=>?_⟩
 ·rw[List.length_append,List.flatMap_append]
  simpa using ho
 ·by_cases hi:i < qs.length
  ·rw[List.getElem?_append_left hi]at h1
   rw[List.getElem?_append_left (by rw[<- h.len];exact hi)]at h2
   exact (h.mean i x X h1 h2).ty hg ht
  ·rw[List.getElem?_append_right (by omega)]at h1
   rw[List.getElem?_append_right (by rw[<- h.len];omega),<- h.len]at h2
   by_cases h0:i - qs.length=0
   ·rw[h0]at h1 h2
    simp at h1 h2
    subst h1 h2
    exact hm.ty hg ht
   ·rw[List.getElem?_eq_none (by simp;omega)]at h1
    cases h1
 ·have hj:j < qs.length+1:=by have:=(List.getElem?_eq_some_iff.1 h2).1;simpa using this
  rw[List.getElem?_append_left (by omega)]at h1
  by_cases hjl:j < qs.length
  ·rw[List.getElem?_append_left hjl]at h2
   exact h.dist i j x y g hij h1 h2 h3
  ·obtain rfl:j=qs.length:=by omega
   simp at h2
   subst h2
   exact hf i x g h1 h3
inductive SRun (lim:Int):List Int->List Pa->Nat->Int->Prop
 | stop (l:List Int):snum lim l≠0->SRun lim l [] 0 (snum lim l)
 | step (l:List Int) (P:Pa) (r:List Int) (Ps:List Pa) (n:Nat) (e:Int):snum lim l=0->dbody l=some (P,r)->SRun lim (l.drop (meas l).2.1) Ps n e->SRun lim l (P :: Ps) ((meas l).2.1+n) e
theorem snum_zero {lim:Int} {l:List Int} (h:snum lim l=0):dnum l=0:=by
 unfold snum at h
 split at h
 ·exact h
 ·split at h <;> omega
theorem snum_meas {lim:Int} {l:List Int} (h:snum lim l=0):1<=(meas l).2.1/\(meas l).2.1<=l.length:=by
 have k:=snum_zero h
 have h2:(meas l).2.2=0:=by
  unfold dnum at k
  split at k
  ·omega
  ·split at k
   ·omega
   ·split at k
    ·omega
    ·rename_i k2;simpa using k2
 unfold meas at h2 |-
 split
 ·rename_i k1;rw[if_pos k1]at h2;exact absurd h2 k1
 ·rename_i k1
  rw[if_neg k1]at h2
  split
  ·rename_i k2;rw[if_pos k2]at h2;simp at h2
  ·rename_i k2
   rw[if_neg k2]at h2
   split
   ·rename_i k3;rw[if_pos k3]at h2;simp at h2
   ·simp only;omega
theorem infoPk:(Tryz.prog.info? 45).map (fun i=>(i.zero,i.size,i.bytes))=some (some (.agg pkz.cells.toArray),19,288):=by kernel_rfl
theorem pk_slice (a:Act) (dst:Option Tmp) (x:Operand) (ty:TypeId) (pos:String) (after:Array Edge) (q:Pkv) (hx:a.eval x=q.val) (w:World) :
  (execOp a.eval ⟨dst,.buildSlice 29 1 #[(0,x)],ty,pos,after,none⟩).run Tryz.prog w=.ok (.value (.slice (some ⟨w.heap.size,0,none⟩) 1 1)) (w.alloc (.cells q.cells.toArray 45)):=by
 unfold execOp
 simp only[List.map_toArray,List.map_cons,List.map_nil,hx]
 kernel_rfl
theorem pk_cells {w:World} {A:Nat} {q:Pkv} (h:Pk w A q):∀ j u,q.cells[j]?=some u->w.cell? ((⟨A,0,none⟩:Addr).add j)=some u:=fun j u hu=>by
 have k:=h.range j u hu
 rw[Nat.zero_add]at k
 by_cases hj:j=0
 ·subst hj;simpa [Addr.add] using k
 ·simpa [Addr.add,hj] using k
def WholePost (lim:Int) (L:List Int) (w:World) (e:Ending) (w':World):Prop :=
 ∃ (v:Value) (n:Nat) (E:Value) (qs:List Pkv) (Ps:List Pa) (m:Int),e=.returned (.tuple #[v,.int .i64 n,E])/\n<=L.length/\Hid (SRun lim L Ps n m)/\m≠0/\Hid (Pks w' w.heap.size v qs Ps)/\Hid (∃ d,d<=3/\Er w' d E m)/\Below w.heap.size w w'
theorem swhole_own (S:Nat) (lim:Int) (b off cap:Nat) (L:List Int) (w:World) (h:Byt w (.slice (some ⟨b,off,none⟩) L.length cap) L) (hS:w.cell? ⟨S,0,none⟩=some (.int .i64 lim)) (hS1:w.cell? ⟨S,1,none⟩=some (.slice (some ⟨b,off,none⟩) L.length cap)) (hlim:2<=lim) (hLN:L.length<=1073741824) :
  Calls Tryz.prog 13 #[.pointer (some ⟨S,0,none⟩)] w (WholePost lim L w):=by
 have hSl:=cell_lt hS
 obtain⟨i0,hi,hz0,hz1,hz2⟩:=info_parts infoPk
 obtain⟨hcl,hcap⟩:L.length<=cap/\cap<=maxLen:=by
  obtain⟨ao',cap',e,k1,k2⟩:=h.form
  simp only[Value.slice.injEq]at e
  obtain⟨_,_,rfl⟩:=e
  exact⟨k1,k2⟩
 unfold maxLen at hcap
 have HH:=zh h
 have HS:=zh hS
 have HS1:=zh hS1
 generalize hN:L.length=N at hcl HH HS1 hLN
 have HN:=zh hN
 clear h hS hS1 hN
 go_enter Tryz.func13,Tryz.ntmps13
 go_wp2
 go_loopw [2,3] (fun l0 n0 wr=>∃ (lv:Value) (qs:List Pkv) (Ps:List Pa) (k n:Nat),l0=lv/\n0=.int .i64 n/\n<=N/\k<=n/\Hid (qs.length=k)/\Hid (Pks wr w.heap.size lv qs Ps)/\Hid (∀ Ps' n' e',SRun lim (L.drop n) Ps' n' e'->SRun lim L (Ps++Ps') (n+n') e')/\Hid (Below w.heap.size w wr)) (fun _ n0 _=>N - (intOf n0).toNat)
 case atStart =>
  refine⟨.slice none 0 0,[],[],0,0,rfl,rfl,Nat.zero_le _,Nat.le_refl _,rfl,Pks.nil _ _,fun Ps' n' e' h=>?_,Below.refl _ _⟩
  simpa using h
 case round =>
  obtain⟨_,qs,Ps,k,n,rfl,rfl,hn,hk,HQ,HP,HR,HB⟩:=hrel
  have c1:wr.cell? ⟨S,1,none⟩=some (.slice (some ⟨b,off,none⟩) N cap):=((uh HB).cell hSl).trans (uh HS1)
  have HY:=zh (((uh HH).below (uh HB)).drop' n hn)
  have HC0:Hid (wr.cell? ⟨S,0,none⟩=some (.int .i64 lim)):=((uh HB).cell hSl).trans (uh HS)
  have hsz:=(uh HB).size
  by_cases hcn:cap=n
  ·obtain rfl:N=n:=by omega
   subst hcn
   have HT:Hid (Byt wr (.slice (some ⟨b,off,none⟩) 0 0) (L.drop cap)):=by
    have k:=uh HY
    rw[if_pos rfl,Nat.sub_self]at k
    exact k
   clear HY
   go_wp2_with fail
   refine (snext_any S lim _ (L.drop cap) wr (uh HT) (uh HC0) hlim).mono ?_
   rintro e w2 ⟨q,z,E,rfl,hcase,hb2⟩
   have HC:=zh hcase
   have HB2:Hid (Below w.heap.size w w2):=(uh HB).trans (hb2.mono hsz)
   have HP2:=zh ((uh HP).below hb2)
   clear hb2 hcase HB HP c1 HT HC0
   dsimp only
   iterate 13 go_step
   refine Go.Proofs.YtccnjdgaldbgnaaGreatDoor.wpList_value rfl (spk_alloc _ _ _ _ _ _) ?_
   simp only[Act.put,List.setIfInBounds_toArray,List.set_cons_zero,List.set_cons_succ]
   refine Go.Proofs.YtccnjdgaldbgnaaGreatDoor.wpList_skip rfl (spk_store _ _ _ _ _ _ _ q w2 rfl rfl) ?_
   simp only[Act.put]
   have hal:Below w2.heap.size w2 (w2.alloc (.cells q.cells.toArray 45)):=bal _ _
   have HK3:=zh (pk_new w2 q)
   have HB3:Hid (Below w.heap.size w (w2.alloc (.cells q.cells.toArray 45))):=(uh HB2).trans (hal.mono (uh HB2).size)
   have HP3:=zh ((uh HP2).below hal)
   rcases uh HC with⟨hm,hE⟩ | ⟨hm,hz,rfl,P,r,hd,hM⟩
   ·obtain⟨d,hd,hE1⟩:=uh hE
    have HE3:Hid (∃ d,d<=3/\Er (w2.alloc (.cells q.cells.toArray 45)) d E (snum lim (L.drop cap))):=⟨d,hd,hE1.below hal⟩
    obtain⟨t,x,rfl⟩:=hE1.iface
    have HRR:Hid (SRun lim L Ps cap (snum lim (L.drop cap))):=by
     have k:=(uh HR) [] 0 _ (SRun.stop _ hm)
     show SRun _ _ _ _ _
     simpa using k
    have HMM:=zh hm
    have HNL:Hid (cap<=L.length):=by show _<=_;rw[uh HN];exact hn
    clear hE1 hE hal hd hm HC HP2 HB2 HK3 HR
    generalize w2.alloc (.cells q.cells.toArray 45)=w3 at HB3 HP3 HE3 |-
    go_wp2
    go_returns
    exact⟨_,cap,_,qs,Ps,_,rfl,uh HNL,HRR,uh HMM,HP3,HE3,uh HB3⟩
   ·have hzz:=snum_meas hm
    rw[List.length_drop,uh HN]at hzz
    omega
  ·have HT:Hid (Byt wr (.slice (some ⟨b,off+n,none⟩) (N - n) (cap - n)) (L.drop n)):=by
    have k:=uh HY
    rw[if_neg hcn]at k
    exact k
   clear HY
   go_wp2_with fail
   refine (snext_any S lim _ (L.drop n) wr (uh HT) (uh HC0) hlim).mono ?_
   rintro e w2 ⟨q,z,E,rfl,hcase,hb2⟩
   have HC:=zh hcase
   have HB2:Hid (Below w.heap.size w w2):=(uh HB).trans (hb2.mono hsz)
   have HP2:=zh ((uh HP).below hb2)
   have HF:=zh (fun P=>(uh HP).fresh (w2:=w2) q P)
   clear hb2 hcase HB HP c1 HT HC0
   dsimp only
   iterate 13 go_step
   refine Go.Proofs.YtccnjdgaldbgnaaGreatDoor.wpList_value rfl (spk_alloc _ _ _ _ _ _) ?_
   simp only[Act.put,List.setIfInBounds_toArray,List.set_cons_zero,List.set_cons_succ]
   refine Go.Proofs.YtccnjdgaldbgnaaGreatDoor.wpList_skip rfl (spk_store _ _ _ _ _ _ _ q w2 rfl rfl) ?_
   simp only[Act.put]
   have hal:Below w2.heap.size w2 (w2.alloc (.cells q.cells.toArray 45)):=bal _ _
   have HK3:=zh (pk_new w2 q)
   have HB3:Hid (Below w.heap.size w (w2.alloc (.cells q.cells.toArray 45))):=(uh HB2).trans (hal.mono (uh HB2).size)
   have HP3:=zh ((uh HP2).below hal)
   rcases uh HC with⟨hm,hE⟩ | ⟨hm,hz,rfl,P,r,hd,hM⟩
   ·obtain⟨d,hd,hE1⟩:=uh hE
    have HE3:Hid (∃ d,d<=3/\Er (w2.alloc (.cells q.cells.toArray 45)) d E (snum lim (L.drop n))):=⟨d,hd,hE1.below hal⟩
    obtain⟨t,x,rfl⟩:=hE1.iface
    have HRR:Hid (SRun lim L Ps n (snum lim (L.drop n))):=by
     have k:=(uh HR) [] 0 _ (SRun.stop _ hm)
     show SRun _ _ _ _ _
     simpa using k
    have HMM:=zh hm
    have HNL:Hid (n<=L.length):=by show _<=_;rw[uh HN];exact hn
    clear hE1 hE hal hd hm HC HP2 HB2 HK3 HR
    generalize w2.alloc (.cells q.cells.toArray 45)=w3 at HB3 HP3 HE3 |-
    go_wp2
    go_returns
    exact⟨_,n,_,qs,Ps,_,rfl,uh HNL,HRR,uh HMM,HP3,HE3,uh HB3⟩
   ·have hzz:=snum_meas hm
    rw[<- hz,List.length_drop,uh HN]at hzz
    have HR2:Hid (∀ Ps' n' e',SRun lim (L.drop (n+z)) Ps' n' e'->SRun lim L ((Ps++[P])++Ps') (n+z+n') e'):=fun Ps' n' e' h=>by
     have k:=(uh HR) (P :: Ps') (z+n') e' (by rw[hz];exact SRun.step _ P r Ps' n' e' hm hd (by rw[<- hz,List.drop_drop];exact h))
     rw[List.append_assoc,Nat.add_assoc]
     exact k
    have HM3:Hid (Mean (w2.alloc (.cells q.cells.toArray 45)) w.heap.size q P):=((uh hM).base hsz).below hal
    have HFR:=zh ((uh HF) P (uh hM))
    have hw2:=(uh HB2).size
    have hw3:w2.heap.size < (w2.alloc (.cells q.cells.toArray 45)).heap.size:=by simp
    clear hm hz hd hM hal HC HP2 HB2 HR HF
    generalize w2.alloc (.cells q.cells.toArray 45)=w3 at HB3 HP3 HM3 HK3 hw3 |-
    go_upto_region 4 with fail
    iterate 4 go_step
    refine wpList_load_mid rfl 45 _ rfl w2.heap.size 0 rfl q.cells _ (uh HK3).range Tryz.underlying45 rfl packet_size ?_
    simp only[Act.put,List.setIfInBounds_toArray,List.set_cons_zero,List.set_cons_succ]
    refine Go.Proofs.YtccnjdgaldbgnaaGreatDoor.wpList_value rfl (pk_slice _ _ _ _ _ _ q rfl _) ?_
    simp only[Act.put,List.setIfInBounds_toArray,List.set_cons_zero,List.set_cons_succ]
    have hal:Below w3.heap.size w3 (w3.alloc (.cells q.cells.toArray 45)):=bal _ _
    have HK4:=zh (pk_new w3 q)
    have HB4:Hid (Below w.heap.size w (w3.alloc (.cells q.cells.toArray 45))):=(uh HB3).trans (hal.mono (uh HB3).size)
    have HP4:=zh ((uh HP3).below hal)
    have HM4:=zh ((uh HM3).below hal)
    have hw4:w3.heap.size < (w3.alloc (.cells q.cells.toArray 45)).heap.size:=by simp
    clear hal HK3 HB3 HP3 HM3
    generalize hG:w3.alloc (.cells q.cells.toArray 45)=w4 at HB4 HP4 HM4 HK4 hw4 |-
    clear hG
    refine wpList_append_own _ rfl _ _ 29 rfl w.heap.size 45 i0 _ 19 288 Tryz.underlying29 hi hz0 hz1 hz2 rfl (by decide) u2 qs.length _ rfl (uh HP4).row ⟨w3.heap.size,0,none⟩ 1 1 q.cells rfl rfl (pk_cells (uh HK4)) q.ones (by rw[uh HQ];unfold maxLen;omega) (by rw[uh HQ];omega) (by omega) ?_
    intro v5 w5 hown5 hgrow5 _
    have HP5:=zh ((uh HP4).app (uh HM4) (uh HFR) hgrow5 hown5)
    have HB5:Hid (Below w.heap.size w w5):=(uh HB4).grown hgrow5 (by omega) (fun g hg=>((uh HP4).blk g hg).1)
    have HQ5:Hid ((qs++[q]).length=k+1):=by show _=_;rw[List.length_append,uh HQ];rfl
    clear hown5 hgrow5 HB4 HP4 HM4 HK4 HQ
    simp only[Act.put,List.setIfInBounds_toArray,List.set_cons_zero,List.set_cons_succ]
    go_wp2
    go_roundw
    case rel=>exact⟨_,qs++[q],Ps++[P],k+1,n+z,rfl,by go_num,by omega,by omega,HQ5,HP5,HR2,HB5⟩
    case measure=>simp[intOf];omega
theorem snum_nil (lim:Int) (hlim:2<=lim):snum lim []=3:=by
 unfold snum
 rw[show smeas []=(0,0) from rfl,if_pos (by omega)]
 rfl
theorem swhole_nil (S:Nat) (lim:Int) (w:World) (hS:w.cell? ⟨S,0,none⟩=some (.int .i64 lim)) (hS1:w.cell? ⟨S,1,none⟩=some (.slice none 0 0)) (hlim:2<=lim) :
  Calls Tryz.prog 13 #[.pointer (some ⟨S,0,none⟩)] w (WholePost lim [] w):=by
 have HS:=zh hS
 have HY:Hid (Byt w (.slice none 0 0) []):=⟨none,0,rfl,by simp,fun j=>by simp,.inl rfl⟩
 obtain⟨L,hL⟩:∃ L:List Int,L=[]:=⟨_,rfl⟩
 rw[<- hL]at HY |-
 have HSN:Hid (snum lim L=3):=by rw[hL];exact snum_nil lim hlim
 clear hS hL
 go_enter Tryz.func13,Tryz.ntmps13
 go_wp2
 refine wp_loop_rounds 1 ?_
 rw[rounds_succ]
 go_wp2_with fail
 refine (snext_any S lim _ L w (uh HY) (uh HS) hlim).mono ?_
 rintro e w2 ⟨q,z,E,rfl,hcase,hb2⟩
 have HC:=zh hcase
 clear hcase
 dsimp only
 iterate 13 go_step
 refine Go.Proofs.YtccnjdgaldbgnaaGreatDoor.wpList_value rfl (spk_alloc _ _ _ _ _ _) ?_
 simp only[Act.put,List.setIfInBounds_toArray,List.set_cons_zero,List.set_cons_succ]
 refine Go.Proofs.YtccnjdgaldbgnaaGreatDoor.wpList_skip rfl (spk_store _ _ _ _ _ _ _ q w2 rfl rfl) ?_
 simp only[Act.put]
 have hal:Below w2.heap.size w2 (w2.alloc (.cells q.cells.toArray 45)):=bal _ _
 have HB3:Hid (Below w.heap.size w (w2.alloc (.cells q.cells.toArray 45))):=hb2.trans (hal.mono hb2.size)
 rcases uh HC with⟨hm,hE⟩ | ⟨hm,_⟩
 ·obtain⟨d,hd,hE1⟩:=uh hE
  have HE3:Hid (∃ d,d<=3/\Er (w2.alloc (.cells q.cells.toArray 45)) d E (snum lim L)):=⟨d,hd,hE1.below hal⟩
  obtain⟨t,x,rfl⟩:=hE1.iface
  have HRR:Hid (SRun lim L [] 0 (snum lim L)):=SRun.stop _ hm
  have HMM:=zh hm
  clear hE1 hE hal hd hm HC hb2
  generalize w2.alloc (.cells q.cells.toArray 45)=w3 at HB3 HE3 |-
  go_wp2
  go_returns
  exact⟨_,0,_,[],[],_,rfl,Nat.zero_le _,HRR,uh HMM,Pks.nil _ _,HE3,uh HB3⟩
 ·rw[uh HSN]at hm
  exact absurd hm (by decide)
theorem vs_eq (a:Int) (t:List Int) (hr:∀ j,0<=t.getD j 0/\t.getD j 0<=255) :
  ((V.vget t).2.2=0->smeas (a :: t)=(1+(V.vget t).2.1,1+(V.vget t).2.1+(V.vget t).1)/\1<=(V.vget t).2.1/\0<=(V.vget t).1/\(V.vget t).2.1<=t.length/\((V.vget t).1=0->(V.vget t).2.1=1)/\V.vget (t.take (V.vget t).2.1.toNat)=V.vget t) /\
  ((V.vget t).2.2≠0->smeas (a :: t)=(0,0)\/((V.vget t).2.2=1/\2<=(smeas (a :: t)).1/\(smeas (a :: t)).1<=1+t.length/\(V.vget (t.take ((smeas (a :: t)).1.toNat - 1))).2.2=1)):=by
 rcases t with _ | ⟨x0,_ | ⟨x1,_ | ⟨x2,_ | ⟨x3,r⟩⟩⟩⟩
 ·simp[V.vget,V.vgetf,smeas]
 ·have h0:=hr 0
  simp at h0
  by_cases k0:x0 < 128 <;> simp[V.vget,V.vgetf,smeas,k0] <;> omega
 ·have h0:=hr 0
  have h1:=hr 1
  simp at h0 h1
  by_cases k0:x0 < 128 <;> by_cases k1:x1=0 <;> by_cases k2:x1 < 128 <;> simp[V.vget,V.vgetf,smeas,k0,k1,k2] <;> omega
 ·have h0:=hr 0
  have h1:=hr 1
  have h2:=hr 2
  simp at h0 h1 h2
  by_cases k0:x0 < 128 <;> by_cases k1:x1=0 <;> by_cases k2:x1 < 128 <;> by_cases k3:x2=0 <;> by_cases k4:x2 < 128 <;> simp[V.vget,V.vgetf,smeas,k0,k1,k2,k3,k4] <;> omega
 ·have h0:=hr 0
  have h1:=hr 1
  have h2:=hr 2
  have h3:=hr 3
  simp at h0 h1 h2 h3
  by_cases k0:x0 < 128 <;> by_cases k1:x1=0 <;> by_cases k2:x1 < 128 <;> by_cases k3:x2=0 <;> by_cases k4:x2 < 128 <;> by_cases k5:x3=0 <;> by_cases k6:x3 < 128 <;> simp[V.vget,V.vgetf,smeas,k0,k1,k2,k3,k4,k5,k6] <;> omega
theorem dnum_def (l:List Int) (h:l≠[]):dnum l=if bok (l.getD 0 0)=false then 1 else if (meas l).2.2≠0 then (meas l).2.2 else if (dbody l).isSome then 0 else 1:=by
 unfold dnum
 rw[if_neg h]
theorem meas_cons (a:Int) (t:List Int):meas (a :: t)=if (V.vget t).2.2≠0 then (0,0,(V.vget t).2.2) else if 65536 < 1+ghd t+(gid t).toNat then (0,0,2) else if (a :: t).length < 1+ghd t+(gid t).toNat then (0,0,3) else (1+ghd t,1+ghd t+(gid t).toNat,0):=rfl
def pq (lim:Int):List Int->Int
 | []=>3
 | a :: t=>if bok a=false then 1 else if (V.vget t).2.2≠0 then (V.vget t).2.2 else if lim < ((1+ghd t+(gid t).toNat:Nat):Int) then 2 else if (a :: t).length < 1+ghd t+(gid t).toNat then 3 else if (dbody (a :: t)).isSome then 0 else 1
theorem pq_snum (lim:Int) (l:List Int) (hr:∀ j,0<=l.getD j 0/\l.getD j 0<=255) (h2:2<=lim) (hL:lim<=65536):pq lim l=snum lim l:=by
 rcases l with _ | ⟨a,t⟩
 ·rw[snum_nil lim h2]
  rfl
 ·obtain⟨ha,hb⟩:=vs_eq a t (fun j=>by simpa using hr (j+1))
  have hp:pq lim (a :: t)=if bok a=false then 1 else if (V.vget t).2.2≠0 then (V.vget t).2.2 else if lim < ((1+ghd t+(gid t).toNat:Nat):Int) then 2 else if (a :: t).length < 1+ghd t+(gid t).toNat then 3 else if (dbody (a :: t)).isSome then 0 else 1:=rfl
  have hd:dnum (a :: t)=if bok a=false then 1 else if (meas (a :: t)).2.2≠0 then (meas (a :: t)).2.2 else if (dbody (a :: t)).isSome then 0 else 1:=dnum_def _ (by simp)
  have hm:=meas_cons a t
  rw[hp]
  unfold snum
  -- the bytes up to the body
  have htk:∀ K:Int,2<=K->(a :: t).take K.toNat=a :: t.take (K.toNat - 1):=fun K hK=>by
   obtain⟨m,hm⟩:∃ m,K.toNat=m+1:=⟨K.toNat - 1,by omega⟩
   rw[hm]
   rfl
  have hdt:∀ n:Nat,dnum (a :: t.take n)=if bok a=false then 1 else if (meas (a :: t.take n)).2.2≠0 then (meas (a :: t.take n)).2.2 else if (dbody (a :: t.take n)).isSome then 0 else 1:=fun n=>dnum_def _ (by simp)
  by_cases k1:bok a=false
  ·rw[if_pos k1]
   by_cases k:(smeas (a :: t)).2<=lim
   ·rw[if_pos k,hd,if_pos k1]
   ·rw[if_neg k]
    have hK:2<=(smeas (a :: t)).1:=by
     obtain⟨K,N,e,_,_,h3⟩:=smeas_nat (a :: t) hr
     rw[e]at k |-
     simp only at k |-
     have:=(h3 (by omega)).1
     omega
    rw[htk _ hK,hdt,if_pos k1,if_pos rfl]
  ·rw[if_neg k1]
   by_cases k2:(V.vget t).2.2≠0
   ·rw[if_pos k2]
    rw[if_pos k2]at hm
    have hd2:dnum (a :: t)=(V.vget t).2.2:=by rw[hd,if_neg k1,hm,if_pos k2]
    rcases hb k2 with e | ⟨e1,e2,e3,e4⟩
    ·rw[e,if_pos (by show (0:Int)<=lim;omega),hd2]
    ·by_cases k:(smeas (a :: t)).2<=lim
     ·rw[if_pos k,hd2]
     ·have h1:(meas (a :: t.take ((smeas (a :: t)).1.toNat - 1))).2.2=1:=by rw[meas_cons,if_pos (by rw[e4];decide)];exact e4
      rw[if_neg k,htk _ e2,hdt,if_neg k1,h1,if_pos (show (1:Int)≠0 by decide),if_pos rfl,e1]
   ·rw[if_neg k2]
    obtain⟨e1,e2,e3,e4,e5,e6⟩:=ha (Classical.not_not.1 k2)
    have hgh:((ghd t:Nat):Int)=(V.vget t).2.1:=by unfold ghd;omega
    have hgi:(((gid t).toNat:Nat):Int)=(V.vget t).1:=by unfold gid;omega
    have hs2:(smeas (a :: t)).2=((1+ghd t+(gid t).toNat:Nat):Int):=by rw[e1];show 1+(V.vget t).2.1+(V.vget t).1=_;omega
    have hs1:(smeas (a :: t)).1=((1+ghd t:Nat):Int):=by rw[e1];show 1+(V.vget t).2.1=_;omega
    rw[hs2]
    by_cases k3:lim < ((1+ghd t+(gid t).toNat:Nat):Int)
    ·rw[if_pos k3,if_neg (by omega),hs1,htk _ (by omega),hdt,if_neg k1]
     have hn:((1+ghd t:Nat):Int).toNat - 1=(V.vget t).2.1.toNat:=by omega
     have hgt:ghd (t.take (V.vget t).2.1.toNat)=ghd t:=by unfold ghd;rw[e6]
     have hit:gid (t.take (V.vget t).2.1.toNat)=gid t:=by unfold gid;rw[e6]
     have hne:(meas (a :: t.take (((1+ghd t:Nat):Int).toNat - 1))).2.2=2\/(meas (a :: t.take (((1+ghd t:Nat):Int).toNat - 1))).2.2=3:=by
      rw[hn,meas_cons,e6,if_neg k2,hgt,hit]
      by_cases k4:65536 < 1+ghd t+(gid t).toNat
      ·rw[if_pos k4];exact .inl rfl
      ·rw[if_neg k4,if_pos (by
        rw[List.length_cons,List.length_take]
        have h5:(V.vget t).1≠0:=fun h0=>by have:=e5 h0;omega
        omega)]
       exact .inr rfl
     rcases hne with h | h <;> rw[h] <;> simp
    ·rw[if_neg k3,if_pos (show ((1+ghd t+(gid t).toNat:Nat):Int)<=lim by omega),hd,if_neg k1,hm,if_neg k2,if_neg (show ¬ 65536 < 1+ghd t+(gid t).toNat by omega)]
     by_cases k4:(a :: t).length < 1+ghd t+(gid t).toNat
     ·rw[if_pos k4,if_pos k4,if_pos (show (3:Int)≠0 by decide)]
     ·rw[if_neg k4,if_neg k4]
      simp
theorem SRun.det {lim:Int} {l:List Int} {Ps:List Pa} {n:Nat} {e:Int} (h:SRun lim l Ps n e):∀ {Qs:List Pa} {m:Nat} {f:Int},SRun lim l Qs m f->Ps=Qs/\n=m/\e=f:=by
 induction h with
 | stop l h0 =>
  intro Qs m f k
  cases k with
  | stop _ _=>exact⟨rfl,rfl,rfl⟩
  | step _ P r Ps' n' e' h1 _ _=>exact absurd h1 h0
 | step l P r Ps n e h0 hd hs ih =>
  intro Qs m f k
  cases k with
  | stop _ h1=>exact absurd h0 h1
  | step _ P' r' Ps' n' e' h1 hd' hs' =>
   rw[hd]at hd'
   cases hd'
   obtain⟨rfl,rfl,rfl⟩:=ih hs'
   exact⟨rfl,rfl,rfl⟩
end Go.Proofs.YtccnjdgaldbgnaaGreatDoor.K
