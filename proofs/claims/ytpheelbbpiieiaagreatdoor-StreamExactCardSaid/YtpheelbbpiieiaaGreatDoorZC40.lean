/- Proved here: helpers, one text behind the other. -/
import Derived.Test.YtpheelbbpiieiaaGreatDoorZC36
import Derived.Test.YtpheelbbpiieiaaGreatDoorZC37
import Derived.Test.YtpheelbbpiieiaaGreatDoorZC38
import Derived.Test.YtpheelbbpiieiaaGreatDoorZC39
set_option maxHeartbeats 20000000
namespace Go.Proofs.YtpheelbbpiieiaaGreatDoor.K
open Go.RowKit
set_option maxRecDepth 100000
theorem grown_trans {a b c:World} {row:Option Nat} (h:a.grownBy b row) (k:b.grownBy c row):a.grownBy c row :=
 ⟨k.os.trans h.os,k.tape.trans h.tape,k.output.trans h.output,Nat.le_trans h.size k.size,fun i hi hr=>(k.block i (Nat.lt_of_lt_of_le hi h.size) hr).trans (h.block i hi hr)⟩
theorem grown_refl (a:World) (row:Option Nat):a.grownBy a row:=⟨rfl,rfl,rfl,Nat.le_refl _,fun _ _ _=>rfl⟩
theorem grown_set {a b:World} {g:Nat} (h:a.grownBy b (some g)) (j:Nat) (u:Value):a.grownBy (b.setCell ⟨g,j,none⟩ u) (some g) :=
 grown_trans h ⟨rfl,rfl,rfl,by simp[World.setCell],fun k _ hk=>Below.heap_setCell _ _ _ _ (fun e=>hk (by rw[e]))⟩
theorem set_map5 (zs:List Int) (k:Nat) (z:Int):(zs.map (Value.int .u8)).set k (Value.int .u8 z)=(zs.set k z).map (Value.int .u8):=by
 rw[List.map_set]
theorem bytes_gr (B g n cap:Nat) (zs:List Int) (w:World) (hB:B<=w.heap.size) (hn:n+1<=140737488355328)
  (hown:w.ownsRow B 5 1 (.slice (some ⟨g,0,none⟩) n cap) n (zs.map (Value.int .u8))) :
  Calls Tryz.prog 17 #[.slice (some ⟨g,0,none⟩) n cap] w fun e w'=>e=.returned (.tuple #[])/\w.grownBy w' (some g):=by
 obtain⟨i0,hi,hz0,hz1,hz2⟩:=info_parts Tryz.infoU8
 have HO:=zh hown
 clear hown
 go_enter Tryz.func17,Tryz.ntmps17
 go_wp2
 go_loopw [2] (fun i wr=>∃ (k:Nat) (ys:List Int),k<=n/\i=.int .i64 k/\Hid (wr.ownsRow B 5 1 (.slice (some ⟨g,0,none⟩) n cap) n (ys.map (Value.int .u8)))/\Hid (w.grownBy wr (some g))) (fun i _=>n - (intOf i).toNat)
 case atStart=>exact⟨0,zs,Nat.zero_le _,rfl,HO,grown_refl _ _⟩
 case round =>
  obtain⟨k,ys,hk,rfl,hown,hgr⟩:=hrel
  by_cases hlt:k < n
  ·have hl:ys.length=n:=by have:=(uh hown).1;simpa using this
   have hc:wr.cell? ⟨g,k,none⟩=some (.int .u8 (ys.getD k 0)):=by
    rw[(uh hown).cellAt k (by omega),List.getElem?_map,List.getElem?_eq_getElem (by omega),List.getD_eq_getElem?_getD,List.getElem?_eq_getElem (by omega)]
    rfl
   have hf:wr.frozen? ⟨g,k,none⟩=false:=(uh hown).frozenAt k
   generalize ys.getD k 0=y at hc
   clear hl
   go_wp2
   go_roundw
   case rel =>
    have hs:=(uh hown).stored k (.int .u8 (bits .xor .u8 y 85))
    rw[set_map5]at hs
    exact⟨k+1,_,by omega,by go_num,hs.1,grown_set (uh hgr) _ _⟩
   case measure=>simp[intOf];omega
  ·have hown1:=uh hown
   have hsz:=(uh hgr).size
   clear hown HO
   go_wp2_with (first
    | (at_builtin;refine wpList_append_own _ rfl _ _ 30 rfl B 5 i0 (.int .u8 0) 1 1 Tryz.underlying30 hi hz0 hz1 hz2 rfl (by decide) _ _ _ rfl (hown1.alloc _) ⟨wr.heap.size,0,none⟩ 1 1 [.int .u8 5] rfl rfl (one_cell _ _ _) (one_one _ _) (by unfold maxLen;omega) (by omega) (by simp;omega) ?_)
    | go_in)
   intro v' w1 hown' hgrow _
   have HG1:Hid (w.grownBy w1 (some g)):=grown_trans (grown_trans (uh hgr) (World.grownBy_alloc _ _ _)) hgrow
   clear hgrow hown1 hgr hown'
   go_wp2
   go_end0
   exact⟨rfl,uh HG1⟩
theorem bytes_nil (w:World):Calls Tryz.prog 17 #[.slice none 0 0] w fun e w'=>e=.returned (.tuple #[])/\w.grownBy w' none:=by
 obtain⟨i0,hi,hz0,hz1,hz2⟩:=info_parts Tryz.infoU8
 go_enter Tryz.func17,Tryz.ntmps17
 go_wp2
 refine wp_loop_rounds 1 ?_
 rw[rounds_succ]
 go_wp2_with (first
  | (at_builtin;refine wpList_append_own _ rfl _ _ 30 rfl 0 5 i0 (.int .u8 0) 1 1 Tryz.underlying30 hi hz0 hz1 hz2 rfl (by decide) (.slice none 0 0) 0 [] rfl (World.ownsRow_nil _ _ _ _) ⟨w.heap.size,0,none⟩ 1 1 [.int .u8 5] rfl rfl (one_cell _ _ _) (one_one _ _) (by unfold maxLen;omega) (by omega) (by simp) ?_)
  | go_in)
 intro v' w1 hown' hgrow _
 have HG1:Hid (w.grownBy w1 none):=grown_trans (World.grownBy_alloc _ _ _) hgrow
 clear hgrow hown'
 go_wp2
 go_end0
 exact⟨rfl,uh HG1⟩
theorem bytes5 (B n:Nat) (v:Value) (zs:List Int) (w:World) (hB:B<=w.heap.size) (hn:n+1<=140737488355328) (hown:w.ownsRow B 5 1 v n (zs.map (Value.int .u8))) :
  Calls Tryz.prog 17 #[v] w fun e w'=>e=.returned (.tuple #[])/\w.grownBy w' v.ownBlock:=by
 rcases hown.2 with⟨rfl,_⟩ | ⟨g,cap,cur,rfl,_⟩
 ·exact bytes_nil w
 ·exact bytes_gr B g n cap zs w hB hn hown
theorem plimit_any (n:Int) (w:World):Calls Tryz.prog 19 #[.int .i64 n] w fun e w'=>e=.returned (.int .i64 (slim n))/\w'=w:=by
 by_cases h1:n < 2
 ·have hs:slim n=2:=by unfold slim;rw[if_pos h1]
  rw[hs]
  go_enter Tryz.func19,Tryz.ntmps19
  go_wp2
  go_ret
  exact⟨by go_num,rfl⟩
 ·by_cases h2:65536 < n
  ·have hs:slim n=65536:=by unfold slim;rw[if_neg h1,if_pos h2]
   rw[hs]
   go_enter Tryz.func19,Tryz.ntmps19
   go_wp2
   go_ret
   exact⟨by go_num,rfl⟩
  ·have hs:slim n=n:=by unfold slim;rw[if_neg h1,if_neg h2]
   rw[hs]
   go_enter Tryz.func19,Tryz.ntmps19
   go_wp2
   go_ret
   exact⟨by go_num,rfl⟩
def PieceB (W:World) (b off k:Nat) (vb:Value) (bs:List Int):Prop:=W.cell? ⟨b,off+k,none⟩=some vb/\Byt W vb bs/\bs.length<=140737488351232
theorem heavy_any (lim:Int) (b off len cap:Nat) (vb:Nat->Value) (bs:Nat->List Int) (w:World) (_hlen:len<=maxLen) (hc:∀ k,k < len->PieceB w b off k (vb k) (bs k)) :
  Calls Tryz.prog 14 #[.agg #[.int .i64 lim,.slice (some ⟨b,off,none⟩) len cap]] w fun e w'=>∃ c,e=.returned (.bool c)/\Hid (c=false->∀ k,k < len->k < 20->(bs k).length<=10000)/\Below w.heap.size w w':=by
 unfold maxLen at _hlen
 have HC:=zh hc
 clear hc
 go_enter Tryz.func14,Tryz.ntmps14
 go_wp2
 have HW0:Hid (Below w.heap.size w (w.alloc (.cells #[.int .i64 lim,.slice (some ⟨b,off,none⟩) len cap] 48))):=bal _ _
 have hcL:(w.alloc (.cells #[.int .i64 lim,.slice (some ⟨b,off,none⟩) len cap] 48)).cell? ⟨w.heap.size,1,none⟩=some (.slice (some ⟨b,off,none⟩) len cap):=by simp
 generalize w.alloc (.cells #[.int .i64 lim,.slice (some ⟨b,off,none⟩) len cap] 48)=W0 at HW0 hcL |-
 go_loopw [3,4] (fun s i wr=>∃ k n:Nat,k<=len/\k<=20/\s=.int .i64 n/\i=.int .i64 k/\n<=k * 140737488355328/\Hid (∀ j,j < k->(bs j).length<=n)/\wr=W0) (fun _ i _=>20 - (intOf i).toNat)
 case atStart=>exact⟨0,0,Nat.zero_le _,by omega,rfl,rfl,by omega,fun _ h=>by omega,rfl⟩
 case round =>
  obtain⟨k,n,hk,hk20,rfl,rfl,hn,HJ,hwr⟩:=hrel
  subst hwr
  by_cases hlt:k < len/\k < 20
  ·obtain⟨hlt,hlt20⟩:=hlt
   obtain⟨hc0,hby,h2⟩:=(uh HC) k hlt
   have c0:=((uh HW0).cell (p:=⟨b,off+k,none⟩) (cell_lt hc0)).trans hc0
   obtain⟨ao,vc,hv,h1,-⟩:=hby.form
   rw[hv]at c0
   have HJ2:Hid (∀ j,j < k+1->(bs j).length<=n+(bs k).length):=fun j hj=>by
    by_cases hjk:j=k
    ·subst hjk;omega
    ·have:=(uh HJ) j (by omega);omega
   generalize (bs k).length=m at c0 h1 h2 HJ2
   clear hc0 hby hv HJ
   go_wp2
   go_roundw
   case rel=>exact⟨k+1,n+m,by omega,by omega,by go_num,by go_num,by omega,HJ2,by first | rfl | trivial⟩
   case measure=>simp[intOf];omega
  ·have HR:Hid (decide ((10000:Int) < n)=false->∀ k,k < len->k < 20->(bs k).length<=10000):=fun h j h1 h2=>by
    have h3:=of_decide_eq_false h
    have:=(uh HJ) j (by omega)
    omega
   have HB:=HW0
   clear HC HJ HW0
   go_wp2
   all_goals (
    go_ret
    exact⟨_,rfl,HR,uh HB⟩)
theorem Str.grown {w w':World} {S:Nat} {lim f:Int} {hv:Value} {L:List Int} {row:Option Nat} (h:Str w S lim f hv L) (hg:w.grownBy w' row) (hr:∀ g,row=some g->S≠g/\hv.ownBlock≠some g):Str w' S lim f hv L:=by
 have hS:S < w.heap.size:=cell_lt h.c0
 have hb:w'.heap[S]?=w.heap[S]?:=hg.block S hS (fun e=>(hr S e.symm).1 rfl)
 refine⟨(World.cell?_of_block hb).trans h.c0,(World.cell?_of_block hb).trans h.c1,(World.cell?_of_block hb).trans h.c2,(World.frozen?_of_block hb).trans h.f1,(World.frozen?_of_block hb).trans h.f2,h.row.kept hg ?_,h.rng⟩
 cases e:hv.ownBlock with
 | none=>exact .inl rfl
 | some g=>exact .inr (fun k=>(hr g k.symm).2 e)
theorem owns_sf5 {w w':World} {B B':Nat} {e:TypeId} {s:Nat} {v:Value} {n:Nat} {xs:List Value} {T:Nat->TypeId->Prop} (h:w.ownsRow B e s v n xs) (k:SF B' T w w') (ht:∀ g,¬ T g e):w'.ownsRow B e s v n xs:=by
 refine⟨h.1,?_⟩
 rcases h.2 with h2 | ⟨g,cap,cur,rfl,hB,hg,rest⟩
 ·exact .inl h2
 ·exact .inr ⟨g,cap,cur,rfl,hB,k.same g cur e hg (ht g),rest⟩
theorem Str.sf {w w':World} {S B:Nat} {lim f:Int} {hv:Value} {L:List Int} {T:Nat->TypeId->Prop} (h:Str w S lim f hv L) (k:SF B T w w') (hS:S < B) (ht:∀ g,¬ T g 5):Str w' S lim f hv L:=by
 have hb:w'.heap[S]?=w.heap[S]?:=k.low S hS
 exact⟨(World.cell?_of_block hb).trans h.c0,(World.cell?_of_block hb).trans h.c1,(World.cell?_of_block hb).trans h.c2,(World.frozen?_of_block hb).trans h.f1,(World.frozen?_of_block hb).trans h.f2,owns_sf5 h.row k ht,h.rng⟩
theorem spA_u8 (g:Nat):¬ spA g 5:=by
 rintro (h | h | h | h | h | h) <;> exact absurd h (by decide)
theorem owns_fb {w w':World} {S B:Nat} {row:Option Nat} {e:TypeId} {s:Nat} {v:Value} {n:Nat} {xs:List Value} (h:w.ownsRow B e s v n xs) (hf:FB S row w w') (hr:∀ g,v.ownBlock=some g->g≠S/\row≠some g):w'.ownsRow B e s v n xs:=by
 refine⟨h.1,?_⟩
 rcases h.2 with h2 | ⟨g,cap,cur,rfl,hB,hg,rest⟩
 ·exact .inl h2
 ·exact .inr ⟨g,cap,cur,rfl,hB,(hf.block g (Array.getElem?_eq_some_iff.1 hg).1 (hr g rfl).1 (fun e=>(hr g rfl).2 e.symm)).trans hg,rest⟩
theorem owns_lt {w:World} {B:Nat} {e:TypeId} {s:Nat} {v:Value} {n:Nat} {xs:List Value} (h:w.ownsRow B e s v n xs):∀ g,v.ownBlock=some g->B<=g/\g < w.heap.size/\∃ cur fz,w.heap[g]?=some (.cells cur e fz):=by
 intro g hg
 rcases h.2 with⟨rfl,_⟩ | ⟨g',cap,cur,rfl,hB,hgg,_⟩
 ·cases hg
 ·cases hg
  exact⟨hB,(Array.getElem?_eq_some_iff.1 hgg).1,cur,_,hgg⟩
theorem Pks.u8 {w w':World} {B:Nat} {v:Value} {qs:List Pkv} {Ps:List Pa} {row:Option Nat} (h:Pks w B v qs Ps) (hg:w.grownBy w' row) (ht:∀ g,row=some g->∃ cur fz,w.heap[g]?=some (.cells cur 5 fz)):Pks w' B v qs Ps :=
 ⟨owns_ty h.row hg ht (by decide),h.len,fun i q P h1 h2=>by
  have k:=h.mean i q P h1 h2
  exact⟨k.sc,owns_ty k.props hg ht (by decide),by
   obtain⟨ws,k1,k2,k3⟩:=k.wills
   exact⟨ws,owns_ty k1 hg ht (by decide),k2,fun i a b ha hb=>by
    obtain⟨j1,j2,j3,j4,j5⟩:=k3 i a b ha hb
    exact⟨j1,j2,j3,j4,owns_ty j5 hg ht (by decide)⟩⟩,owns_ty k.user hg ht (by decide),owns_ty k.pass hg ht (by decide),owns_ty k.subs hg ht (by decide),owns_ty k.filters hg ht (by decide),owns_ty k.codes hg ht (by decide)⟩,h.dist⟩
theorem SRun.lts {lim:Int} {l:List Int} {Ps:List Pa} {n:Nat} {e:Int} (h:SRun lim l Ps n e):(∀ P ∈ Ps,Lts P)/\Ps.length<=n:=by
 induction h with
 | stop l h0=>exact⟨fun P h=>(List.not_mem_nil h).elim,by simp⟩
 | step l P r Ps n e h0 hd hs ih =>
  refine⟨fun Q hQ=>?_,?_⟩
  ·rcases List.mem_cons.1 hQ with rfl | hQ
   ·exact dbody_lts hd
   ·exact ih.1 Q hQ
  ·have:=(snum_meas h0).1
   have:=ih.2
   simp only[List.length_cons]
   omega
theorem eqpks_nil (ao bo:Option Addr) (ca cb:Nat) (w:World):Calls Tryz.prog 21 #[.slice ao 0 ca,.slice bo 0 cb] w fun e w'=>e=.returned (.bool true)/\Below w.heap.size w w':=by
 go_enter Tryz.func21,Tryz.ntmps21
 go_wp2
 refine wp_loop_rounds 1 ?_
 rw[rounds_succ]
 go_wp2
 go_ret
 exact⟨rfl,Below.refl _ _⟩
theorem Pks.range {w:World} {B g n cap:Nat} {qs:List Pkv} {Ps:List Pa} (h:Pks w B (.slice (some ⟨g,0,none⟩) n cap) qs Ps) (hl:∀ P ∈ Ps,Lts P):∀ k,k < qs.length->w.rangeAt g (0+k * 19) (qs.getD k pkz).cells/\RPk w (qs.getD k pkz) (Ps.getD k paz):=by
 intro k hk
 have hq:qs[k]?=some (qs.getD k pkz):=by rw[List.getD_eq_getElem?_getD,List.getElem?_eq_getElem hk];rfl
 have hk2:k < Ps.length:=by rw[<- h.len];exact hk
 have hP:Ps[k]?=some (Ps.getD k paz):=by rw[List.getD_eq_getElem?_getD,List.getElem?_eq_getElem hk2];rfl
 have hv:n=qs.length:=by
  rcases h.row.2 with⟨e,_⟩ | ⟨g',cap',cur,e,_⟩
  ·cases e
  ·cases e;rfl
 subst hv
 refine⟨fun j u hu=>?_,(h.mean k _ _ hq hP).rpk (hl _ (List.mem_of_getElem? hP))⟩
 have hj:j < 19:=(List.getElem?_eq_some_iff.1 hu).1
 rw[Nat.zero_add,h.row.cellAt (k * 19+j) (by omega),pcs_get qs k _ hq j hj]
 exact hu
theorem eqpks_pks (B B':Nat) (v v':Value) (qs qs':List Pkv) (Ps:List Pa) (w:World) (h:Pks w B v qs Ps) (h':Pks w B' v' qs' Ps) (hl:∀ P ∈ Ps,Lts P) (hn:Ps.length<=1000000000) :
  Calls Tryz.prog 21 #[v,v'] w fun e w'=>e=.returned (.bool true)/\Below w.heap.size w w':=by
 by_cases h0:Ps.length=0
 ·obtain⟨ao,ca,rfl,-⟩:=own0 (by have k:=h.row;rw[List.length_eq_zero_iff.1 (h.len.trans h0)]at k;exact k)
  obtain⟨bo,cb,rfl,-⟩:=own0 (by have k:=h'.row;rw[List.length_eq_zero_iff.1 (h'.len.trans h0)]at k;exact k)
  exact eqpks_nil ao bo ca cb w
 ·have e1:=h.len
  have e2:=h'.len
  obtain⟨g,cap,rfl⟩:∃ g cap,v=.slice (some ⟨g,0,none⟩) qs.length cap:=by
   rcases h.row.2 with⟨_,e⟩ | ⟨g,cap,cur,e,_⟩
   ·omega
   ·exact⟨g,cap,e⟩
  obtain⟨g',cap',rfl⟩:∃ g cap,v'=.slice (some ⟨g,0,none⟩) qs'.length cap:=by
   rcases h'.row.2 with⟨_,e⟩ | ⟨g,cap,cur,e,_⟩
   ·omega
   ·exact⟨g,cap,e⟩
  have r1:=h.range hl
  have r2:=h'.range hl
  rw[show qs'.length=qs.length by omega]at r2 |-
  refine eqpks_same g 0 g' 0 qs.length cap cap' (fun k=>qs.getD k pkz) (fun k=>qs'.getD k pkz) (fun k=>Ps.getD k paz) w (by omega) r1 r2 (fun k hk=>?_)
  exact (hl _ (by rw[List.getD_eq_getElem?_getD,List.getElem?_eq_getElem (by omega)];exact List.getElem_mem _)).small
def ErY (w:World) (B:Nat) (v:Value) (n:Int):Prop:=(n=0/\v=.nilIface)\/ErB w B v n
theorem ErY.below {w w':World} {B:Nat} {v:Value} {n:Int} (h:ErY w B v n) (hb:Below w.heap.size w w'):ErY w' B v n:=h.imp id (fun h=>h.below hb)
theorem ErY.grown {w w':World} {B:Nat} {v:Value} {n:Int} {row:Option Nat} (h:ErY w B v n) (hg:w.grownBy w' row) (hr:∀ g,row=some g->g < B):ErY w' B v n:=h.imp id (fun h=>h.grown hg hr)
theorem ErY.errx {w:World} {B:Nat} {v:Value} {n:Int} (h:ErY w B v n):ErrX w v n:=h.imp id (fun h=>⟨1,by omega,h.er⟩)
structure XI (W2 wr:World) (S:Nat) (L f:Int) (bv hv:Value) (bl:List Int) (k:Nat):Prop where
 str:Str wr S L f hv bl
 row:wr.ownsRow (S+1) 5 1 bv bl.length (bl.map (Value.int .u8))
 ne:∀ g,bv.ownBlock=some g->hv.ownBlock≠some g
 len:bl.length<=k * 10000
 bel:Below S W2 wr
theorem owns_form {w:World} {B:Nat} {e:TypeId} {s:Nat} {v:Value} {n:Nat} {xs:List Value} (h:w.ownsRow B e s v n xs):∃ a c,v=.slice a n c:=by
 rcases h.2 with⟨rfl,rfl⟩ | ⟨g,cap,cur,rfl,_⟩
 ·exact⟨_,_,rfl⟩
 ·exact⟨_,_,rfl⟩
theorem exact_walk (lim:Int) (b off len cap:Nat) (vb:Nat->Value) (bs:Nat->List Int) (w:World) (_hlen:len<=maxLen) (hg:Laid w) (hc:∀ k,k < len->PieceB w b off k (vb k) (bs k)) :
  Calls Tryz.prog 4 #[.agg #[.int .i64 lim,.slice (some ⟨b,off,none⟩) len cap]] w fun e w'=>e=.returned (.bool true)/\Below w.heap.size w w':=by
 have HC:=zh hc
 have HG:=zh hg
 clear hc hg
 unfold maxLen at _hlen
 go_enter Tryz.func4,Tryz.ntmps4
 go_upto_region 1 with fail
 have HW0:Hid (Below w.heap.size w (w.alloc (.cells #[.int .i64 lim,.slice (some ⟨b,off,none⟩) len cap] 48))):=bal _ _
 have c0:(w.alloc (.cells #[.int .i64 lim,.slice (some ⟨b,off,none⟩) len cap] 48)).cell? ⟨w.heap.size,0,none⟩=some (.int .i64 lim):=by simp
 have c1:(w.alloc (.cells #[.int .i64 lim,.slice (some ⟨b,off,none⟩) len cap] 48)).cell? ⟨w.heap.size,1,none⟩=some (.slice (some ⟨b,off,none⟩) len cap):=by simp
 have hsz0:w.heap.size < (w.alloc (.cells #[.int .i64 lim,.slice (some ⟨b,off,none⟩) len cap] 48)).heap.size:=by simp
 generalize w.alloc (.cells #[.int .i64 lim,.slice (some ⟨b,off,none⟩) len cap] 48)=W0 at HW0 c0 c1 hsz0 |-
 have HC0:Hid (∀ k,k < len->PieceB W0 b off k (vb k) (bs k)):=fun k hk=>by
  obtain⟨h1,h2,h3⟩:=(uh HC) k hk
  exact⟨((uh HW0).cell (p:=⟨b,off+k,none⟩) (cell_lt h1)).trans h1,h2.below (uh HW0),h3⟩
 go_wp2_with fail
 refine (heavy_any lim b off len cap vb bs W0 (by unfold maxLen;omega) (uh HC0)).mono ?_
 rintro e W1 ⟨c,rfl,hbl,hb1⟩
 have HB1:Hid (Below w.heap.size w W1):=(uh HW0).trans (hb1.mono (Nat.le_of_lt hsz0))
 have d0:=(hb1.cell (p:=⟨w.heap.size,0,none⟩) (cell_lt c0)).trans c0
 have d1:=(hb1.cell (p:=⟨w.heap.size,1,none⟩) (cell_lt c1)).trans c1
 have hsz1:w.heap.size < W1.heap.size:=cell_lt d0
 clear c0 c1 hb1 HC0 HW0 hsz0
 cases c
 ·have HBL:Hid (∀ k,k < len->k < 20->(bs k).length<=10000):=(uh hbl) rfl
  clear hbl
  go_wp2_with fail
  refine (snew_any lim W1).mono ?_
  rintro e W2 ⟨rfl,hw2⟩
  have HS2:Hid (Str W2 W1.heap.size (slim lim) 0 (.slice none 0 0) []):=by rw[hw2];exact str_new _ _
  have HB12:Hid (Below W1.heap.size W1 W2):=by rw[hw2];exact bal _ _
  have hs2:W2.heap.size=W1.heap.size+1:=by rw[hw2];simp
  clear hw2
  have HB2:Hid (Below w.heap.size w W2):=(uh HB1).trans ((uh HB12).mono (Nat.le_of_lt hsz1))
  have HD0:Hid (W2.cell? ⟨w.heap.size,0,none⟩=some (.int .i64 lim)):=((uh HB12).cell (p:=⟨w.heap.size,0,none⟩) hsz1).trans d0
  have HD1:Hid (W2.cell? ⟨w.heap.size,1,none⟩=some (.slice (some ⟨b,off,none⟩) len cap)):=((uh HB12).cell (p:=⟨w.heap.size,1,none⟩) hsz1).trans d1
  obtain⟨S,hS⟩:∃ S,S=W1.heap.size:=⟨_,rfl⟩
  rw[<- hS]at HS2 hs2 hsz1 |-
  obtain⟨hl2,hl6⟩:=slim_ok lim
  generalize hsl:slim lim=L at HS2 hl2 hl6
  have HSL:=zh hsl
  clear d0 d1 HB12 HB1 hS hsl
  go_wp2_with fail
  go_loopw [4,5,6] (fun b0 f0 i wr=>∃ (k:Nat) (f:Int) (hv:Value) (bl:List Int),k<=len/\k<=20/\i=.int .i64 k/\f0=.int .i64 f/\Hid (XI W2 wr S L f b0 hv bl k)) (fun _ _ i _=>20 - (intOf i).toNat)
  case atStart=>exact⟨0,0,.slice none 0 0,[],Nat.zero_le _,by omega,rfl,rfl,⟨uh HS2,World.ownsRow_nil _ _ _ _,(fun g h=>by cases h),by simp,Below.refl _ _⟩⟩
  case round =>
   obtain⟨k,f,hv,bl,hk,hk20,rfl,rfl,HX⟩:=hrel
   have hwS:S < wr.heap.size:=cell_lt (uh HX).str.c0
   by_cases hlt:k < len/\k < 20
   ·obtain⟨hlt,hlt20⟩:=hlt
    have HD:Hid (∀ W,Below S W2 W->W.cell? ⟨w.heap.size,0,none⟩=some (.int .i64 lim)/\W.cell? ⟨w.heap.size,1,none⟩=some (.slice (some ⟨b,off,none⟩) len cap)/\W.cell? ⟨b,off+k,none⟩=some (vb k)/\Byt W (vb k) (bs k)/\Laid W/\Below w.heap.size w W):=fun W hW=>by
     obtain⟨h1,h2,h3⟩:=(uh HC) k hlt
     have hb:Below w.heap.size w W:=(uh HB2).trans (hW.mono (Nat.le_of_lt hsz1))
     exact⟨(hW.cell (p:=⟨w.heap.size,0,none⟩) hsz1).trans (uh HD0),(hW.cell (p:=⟨w.heap.size,1,none⟩) hsz1).trans (uh HD1),(hb.cell (p:=⟨b,off+k,none⟩) (cell_lt h1)).trans h1,h2.below hb,(uh HG).below hb (uh HG).pos,hb⟩
    have hz:=(uh HBL) k hlt hlt20
    generalize vb k=u at HD
    generalize bs k=z at HD hz
    obtain⟨c0,c1,c2,hyr,-,-⟩:=(uh HD) wr (uh HX).bel
    obtain⟨ao,vc,hu,-,-⟩:=hyr.form
    have HY:=zh hyr
    clear hyr
    subst hu
    have hblen:=(uh HX).len
    go_wp2_with fail
    refine (copyb_any _ z _ (uh HY) (by omega)).mono ?_
    rintro e w1 ⟨v1,rfl,hro1,hy1,hb1⟩
    have HST1:=zh ((uh HX).str.below hb1)
    have HR1:=zh (owns_below (uh HX).row hb1)
    have HBS1:Hid (Below S W2 w1):=(uh HX).bel.trans (hb1.mono (Nat.le_of_lt hwS))
    have HG1:=zh ((uh HD) w1 (uh HBS1)).2.2.2.2.1
    have hw1:=hb1.size
    have HNE:=zh (uh HX).ne
    have HHV:Hid (∀ g,hv.ownBlock=some g->S+1<=g/\g < wr.heap.size):=fun g hg=>by
     obtain⟨k1,k2,_⟩:=owns_lt (uh HX).str.row g hg
     exact⟨k1,k2⟩
    have HBV:Hid (∀ g,u4.ownBlock=some g->S+1<=g/\g < wr.heap.size):=fun g hg=>by
     obtain⟨k1,k2,_⟩:=owns_lt (uh HX).row g hg
     exact⟨k1,k2⟩
    have HRNG:=zh (uh HX).str.rng
    clear hb1 HX HY c0 c1 c2
    by_cases hf:f=0
    ·subst hf
     have HFD:=zh (sfeed_ok S L hv bl v1 z w1 (uh HG1) (uh HST1) (uh hy1) hl2 (by rw[List.length_append];omega))
     have HRM:Hid (∀ j,0<=(bl++z).getD j 0/\(bl++z).getD j 0<=255):=fun j=>by
      have k1:=(uh HRNG) j
      have k2:=(uh hy1).range (j - bl.length)
      by_cases hj:j < bl.length
      ·rw[List.getD_eq_getElem?_getD,List.getElem?_append_left hj,<- List.getD_eq_getElem?_getD];exact k1
      ·rw[List.getD_eq_getElem?_getD,List.getElem?_append_right (by omega),<- List.getD_eq_getElem?_getD];exact k2
     have hMl:(bl++z).length=bl.length+z.length:=List.length_append
     go_wp2_with fail
     refine (uh HFD).mono ?_
     rintro e w2 ⟨v2,E,qs,Ps,n2,m,hv2,rfl,hn2,hrun,hm0,hpk,hres,hhv,hfb⟩
     obtain⟨f2,bl2,hf2,hbl3,hst2,her2⟩:∃ f2 bl2,f2=(if m=3 then 0 else m)/\bl2=(if m=3 then (bl++z).drop n2 else [])/\Str w2 S L f2 hv2 bl2/\ErY w2 w1.heap.size E f2:=by
      rcases hres with⟨rfl,rfl,h⟩ | ⟨hm,_,h1,h2⟩
      ·exact⟨_,_,rfl,rfl,h,.inl ⟨rfl,rfl⟩⟩
      ·exact⟨_,_,rfl,rfl,by rw[if_neg hm,if_neg hm];exact h2,.inr (by rw[if_neg hm];exact h1)⟩
     have HROW2:=zh (owns_fb (uh hro1) hfb (fun g hg=>by
      obtain⟨k1,k2,_⟩:=owns_lt (uh hro1) g hg
      exact⟨by omega,fun e=>by have:=((uh HHV) g e).2;omega⟩))
     have HR2:=zh (owns_fb (uh HR1) hfb (fun g hg=>by
      have:=((uh HBV) g hg).1
      exact⟨by omega,(uh HNE) g hg⟩))
     have HBS2:Hid (Below S W2 w2):=hfb.bel (uh HBS1) (by omega) (Nat.le_refl _) (fun g e=>by have:=((uh HHV) g e).1;omega)
     have HST2:=zh hst2
     have HPK2:=zh hpk
     have HER2:=zh her2
     have hw2:=hfb.size
     have HPC:Hid (∀ g,v1.ownBlock=some g->wr.heap.size<=g/\g < w1.heap.size):=fun g hg=>by
      obtain⟨k1,k2,_⟩:=owns_lt (uh hro1) g hg
      exact⟨k1,k2⟩
     have HH2:Hid (∀ g,hv2.ownBlock=some g->(hv.ownBlock=some g)\/(w1.heap.size<=g/\g < w2.heap.size)):=fun g hg=>by
      rcases hhv with e | e
      ·exact .inl (e.symm.trans hg)
      ·exact .inr ⟨e g hg,(owns_lt hst2.row g hg).2.1⟩
     have HRUN:=zh hrun
     have HLT:Hid (∀ P ∈ Ps,Lts P):=hrun.lts.1
     have hPl:Ps.length<=n2:=hrun.lts.2
     have HF2:=zh hf2
     have HBL3:=zh hbl3
     clear hst2 hpk her2 hfb hhv hres hrun hf2 hbl3 hro1 hy1 HST1 HR1 HBS1 HG1 HFD HRNG
     have HBY:=zh (bytes5 wr.heap.size z.length v1 z w2 (by omega) (by omega) (uh HROW2))
     go_wp2_with fail
     refine (uh HBY).mono ?_
     rintro e w3 ⟨rfl,hg3⟩
     have HST3:=zh ((uh HST2).grown hg3 (fun g hg=>⟨by have:=((uh HPC) g hg).1;omega,fun e=>by
      have k1:=(uh HPC) g hg
      rcases (uh HH2) g e with k2 | k2
      ·have:=((uh HHV) g k2).2;omega
      ·omega⟩))
     have HR3:=zh ((uh HR2).kept hg3 (by
      cases e:u4.ownBlock with
      | none=>exact .inl rfl
      | some g=>exact .inr (fun k=>by have:=((uh HBV) g e).2;have:=((uh HPC) g k.symm).1;omega)))
     have HPK3:=zh ((uh HPK2).u8 hg3 (fun g hg=>(owns_lt (uh HROW2) g hg).2.2))
     have HER3:=zh ((uh HER2).grown hg3 (fun g hg=>((uh HPC) g hg).2))
     have HBS3:Hid (Below S W2 w3):=(uh HBS2).grown hg3 (by omega) (fun g hg=>by have:=((uh HPC) g hg).1;omega)
     have hw3:=hg3.size
     obtain⟨c0,c1,c2,hy3,-,-⟩:=(uh HD) w3 (uh HBS3)
     have HY3:=zh hy3
     clear hy3 hg3 HST2 HR2 HPK2 HER2 HBS2 HROW2 HBY HPC
     go_wp2_with (first
      | (at_builtin;refine wpList_append_byt_at _ rfl _ _ rfl (S+1) u4 bl.length bl rfl (uh HR3) (.slice ao z.length vc) z rfl (uh HY3) (by omega) (by omega) ?_)
      | go_in)
     intro v4 w4 hown4 hg4 hv4
     have HST4:=zh ((uh HST3).grown hg4 (fun g hg=>⟨by have:=((uh HBV) g hg).1;omega,fun e=>by
      rcases (uh HH2) g e with k2 | k2
      ·exact (uh HNE) g hg k2
      ·have:=((uh HBV) g hg).2;omega⟩))
     have HPK4:=zh ((uh HPK3).u8 hg4 (fun g hg=>(owns_lt (uh HR3) g hg).2.2))
     have HER4:=zh ((uh HER3).grown hg4 (fun g hg=>by have:=((uh HBV) g hg).2;omega))
     have HBS4:Hid (Below S W2 w4):=(uh HBS3).grown hg4 (by omega) (fun g hg=>by have:=((uh HBV) g hg).1;omega)
     have hw4:=hg4.size
     have HOW4:Hid (w4.ownsRow (S+1) 5 1 v4 (bl++z).length ((bl++z).map (Value.int .u8))):=by
      show w4.ownsRow _ _ _ _ _ _
      rw[hMl,List.map_append]
      exact hown4
     obtain⟨c0,-,-,-,-,-⟩:=(uh HD) w4 (uh HBS4)
     clear hown4 hg4 hv4 HST3 HPK3 HER3 HBS3 HR3 HY3 c1 c2
     generalize hM:bl++z=M at *
     clear hM
     have hMl2:M.length<=(k+1) * 10000:=by omega
     have hMl3:M.length<=1073741824:=by omega
     clear hMl
     go_wp2_with fail
     refine (plimit_any lim w4).mono ?_
     rintro e w5 ⟨rfl,hw5⟩
     obtain rfl:=hw5.symm
     clear hw5
     rw[uh HSL]
     have HAL:=zh (pall_any L v4 M w4 (S+1) (uh HOW4) (uh HRM) hl2 hl6 (by omega))
     go_wp2_with fail
     refine (uh HAL).mono ?_
     rintro e w5 ⟨v5,n5,qs5,Ps5,m5,rfl,-,hrun5,-,hpk5,hb5⟩
     obtain⟨e1,e2,e3⟩:=(uh HRUN).det (uh hrun5)
     subst e1 e2 e3
     have HST5:=zh ((uh HST4).below hb5)
     have HPK5:=zh ((uh HPK4).below hb5)
     have HER5:=zh ((uh HER4).below hb5)
     have HBS5:Hid (Below S W2 w5):=(uh HBS4).trans (hb5.mono (by omega))
     have hw5:=hb5.size
     have HOW5:=zh (owns_below (uh HOW4) hb5)
     clear hb5 hrun5 HST4 HPK4 HER4 HBS4 HOW4 HAL HRUN c0
     have hcaseB:∃ vs,Hid (Byt w5 vs (M.drop n2))/\((v4=.slice none 0 0/\n2=0/\vs=.slice none 0 0)\/(∃ g4 cap4,v4=.slice (some ⟨g4,0,none⟩) n2 n2/\n2=M.length/\cap4=n2/\cap4<=9223372036854775807/\vs=.slice (some ⟨g4,0,none⟩) 0 0)\/(∃ g4 cap4,v4=.slice (some ⟨g4,0,none⟩) M.length cap4/\M.length<=cap4/\cap4<=9223372036854775807/\cap4≠n2/\vs=.slice (some ⟨g4,n2,none⟩) (M.length - n2) (cap4 - n2))):=by
      have hy5:=byt_of_owns (uh HOW5) (uh HRM)
      rcases (uh HOW5).2 with⟨e,h0⟩ | ⟨g,cap,cur,e,-,-,k1,k2,-⟩
      ·obtain rfl:n2=0:=by omega
       subst e
       exact⟨_,hy5,.inl ⟨rfl,rfl,rfl⟩⟩
      ·subst e
       have k:=hy5.drop' n2 hn2
       by_cases hc:cap=n2
       ·obtain rfl:cap=M.length:=by omega
        rw[if_pos hc,<- hc,Nat.sub_self]at k
        exact⟨_,by rw[<- hc];exact k,.inr (.inl ⟨g,M.length,by rw[<- hc],hc.symm,hc,k2,rfl⟩)⟩
       ·rw[if_neg hc,Nat.zero_add]at k
        exact⟨_,k,.inr (.inr ⟨g,cap,rfl,k1,k2,hc,rfl⟩)⟩
     clear HOW5
     obtain⟨vs,HT,hvs⟩:=hcaseB
     have HCP:=zh (copyb_any vs (M.drop n2) w5 (uh HT) (by rw[List.length_drop];omega))
     have HDL:Hid ((M.drop n2).length<=M.length):=by
      show _<=_
      rw[List.length_drop]
      omega
     generalize hD2:M.drop n2=D2 at HCP HBL3 HDL HT
     clear hD2
     rcases hvs with⟨rfl,rfl,rfl⟩ | ⟨g4,cap4,rfl,hc0,hc1,hc2,rfl⟩ | ⟨g4,cap4,rfl,hc1,hc2,hc3,rfl⟩
     all_goals (
      go_wp2_with fail
      refine (uh HCP).mono ?_
      rintro e w6 ⟨v6,rfl,hro6,-,hb6⟩
      have HST6:=zh ((uh HST5).below hb6)
      have HPX6:=zh ((uh HPK5).below hb6)
      have HPW6:=zh ((uh hpk5).below hb6)
      have HER6:Hid (ErrX w6 E f2):=((uh HER5).below hb6).errx
      have HBS6:Hid (Below S W2 w6):=(uh HBS5).trans (hb6.mono (by omega))
      have hw6:=hb6.size
      have hw16:w1.heap.size<=w6.heap.size:=by omega
      obtain⟨ah,ch,hvh⟩:=owns_form (uh HST5).row
      clear hb6 HST5 HPK5 HER5 HBS5 HCP HT hpk5
      by_cases hm3:m=3
      ·obtain rfl:f2=0:=by rw[uh HF2,if_pos hm3]
       obtain rfl:bl2=D2:=by rw[uh HBL3,if_pos hm3]
       have hbl2:bl2.length<=(k+1) * 10000:=Nat.le_trans (uh HDL) hMl2
       obtain⟨a6,c6,hv6⟩:=owns_form (uh hro6)
       have HRB6:Hid (w6.ownsRow (S+1) 5 1 v6 bl2.length (bl2.map (Value.int .u8))):=owns_mono (uh hro6) (by omega)
       have HNE6:Hid (∀ g,v6.ownBlock=some g->hv2.ownBlock≠some g):=fun g hg e=>by
        have k1:=(owns_lt (uh hro6) g hg).1
        rcases (uh HH2) g e with k2 | k2
        ·have:=((uh HHV) g k2).2;omega
        ·omega
       subst hv6
       subst hvh
       clear hro6 HF2 HBL3 HH2
       subst hm3
       have HEQ:Hid (∀ w7,Below w6.heap.size w6 w7->Calls Tryz.prog 21 #[v2,v5] w7 fun e w'=>e=.returned (.bool true)/\Below w7.heap.size w7 w'):=fun w7 h=>eqpks_pks w1.heap.size w4.heap.size v2 v5 qs qs5 Ps w7 ((uh HPX6).below h) ((uh HPW6).below h) (uh HLT) (by first | omega | simp)
       have HSP:Hid (∀ w8,Below w6.heap.size w6 w8->Calls Tryz.prog 23 #[v2] w8 fun e w'=>e=.returned (.tuple #[])/\SF w1.heap.size spA w8 w'):=fun w8 h=>pkts_sp w1.heap.size v2 qs w8 (Nat.le_trans hw16 h.size) (by first | (rw[(uh HPX6).len];omega) | simp) ((uh HPX6).below h).row (fun i q hq=>by
        obtain⟨P,hP⟩:∃ P,(Ps)[i]?=some P:=⟨_,List.getElem?_eq_getElem (by rw[<- (uh HPX6).len];exact (List.getElem?_eq_some_iff.1 hq).1)⟩
        exact (((uh HPX6).below h).mean i q P hq hP).spok ((uh HLT) P (List.mem_of_getElem? hP))) (uh HPX6).dist
       have HG6:=zh ((uh HD) w6 (uh HBS6)).2.2.2.2.1
       have hff:(0 != 0)=false:=by simp
       have hnn:(((bl2.length:Nat):Int) != ((bl2.length:Nat):Int))=false:=by simp
       go_wp2_with fail
       refine (num5 E 0 w6 (uh HG6) (uh HER6)).mono ?_
       rintro e w7 ⟨rfl,hb7⟩
       have HB7:=zh hb7
       clear hb7
       go_wp2_with fail
       refine ((uh HEQ) w7 (uh HB7)).mono ?_
       rintro e w8 ⟨rfl,hb8⟩
       have HB8:Hid (Below w6.heap.size w6 w8):=(uh HB7).trans (hb8.mono (uh HB7).size)
       have HST8:=zh ((uh HST6).below (uh HB8))
       clear hb8 HB7 HEQ HG6
       go_wp2_with fail
       refine (sheld_any S _ _ _ w8 (uh HST8).c1).mono ?_
       rintro e w9 ⟨rfl,hw9⟩
       obtain rfl:=hw9.symm
       clear hw9
       go_wp2_with fail
       refine ((uh HSP) w8 (uh HB8)).mono ?_
       rintro e wa ⟨rfl,hsf⟩
       have HXa:Hid (XI W2 wa S L 0 _ _ bl2 (k+1)):=⟨(uh HST8).sf hsf (by omega) spA_u8,owns_sf5 (owns_below (uh HRB6) (uh HB8)) hsf spA_u8,uh HNE6,hbl2,(uh HBS6).trans (((uh HB8).mono (by omega)).trans (hsf.below.mono (by omega)))⟩
       clear hsf HST8 HB8 HST6 HRB6 HPX6 HPW6 HER6 HBS6 HNE6 HLT HSP
       go_wp2
       go_roundw
       case rel=>exact⟨k+1,0,_,bl2,by omega,by omega,by go_num,rfl,HXa⟩
       case measure=>simp[intOf];omega
      ·have e2:f2=m:=by rw[uh HF2,if_neg hm3]
       have e3:bl2=[]:=by rw[uh HBL3,if_neg hm3]
       rw[e2,e3]at HST6
       rw[e2]at HER6
       rw[e3]at hvh
       have hvh0:hv2=.slice ah 0 ch:=hvh
       have hbl2:([]:List Int).length<=(k+1) * 10000:=by simp
       have HRB6:Hid (w6.ownsRow (S+1) 5 1 (.slice none 0 0) ([]:List Int).length (([]:List Int).map (Value.int .u8))):=World.ownsRow_nil _ _ _ _
       have HNE6:Hid (∀ g,(Value.slice none 0 0).ownBlock=some g->hv2.ownBlock≠some g):=fun g hg=>by cases hg
       have hm4:(m != 3)=true:=by simp[hm3]
       subst hvh0
       clear hro6 HF2 HBL3 HH2 hvh e2 e3
       go_upto_region 23 with fail
       have HEQ:Hid (∀ w7,Below w6.heap.size w6 w7->Calls Tryz.prog 21 #[v2,v5] w7 fun e w'=>e=.returned (.bool true)/\Below w7.heap.size w7 w'):=fun w7 h=>eqpks_pks w1.heap.size w4.heap.size v2 v5 qs qs5 Ps w7 ((uh HPX6).below h) ((uh HPW6).below h) (uh HLT) (by first | omega | simp)
       have HSP:Hid (∀ w8,Below w6.heap.size w6 w8->Calls Tryz.prog 23 #[v2] w8 fun e w'=>e=.returned (.tuple #[])/\SF w1.heap.size spA w8 w'):=fun w8 h=>pkts_sp w1.heap.size v2 qs w8 (Nat.le_trans hw16 h.size) (by first | (rw[(uh HPX6).len];omega) | simp) ((uh HPX6).below h).row (fun i q hq=>by
        obtain⟨P,hP⟩:∃ P,(Ps)[i]?=some P:=⟨_,List.getElem?_eq_getElem (by rw[<- (uh HPX6).len];exact (List.getElem?_eq_some_iff.1 hq).1)⟩
        exact (((uh HPX6).below h).mean i q P hq hP).spok ((uh HLT) P (List.mem_of_getElem? hP))) (uh HPX6).dist
       have HG6:=zh ((uh HD) w6 (uh HBS6)).2.2.2.2.1
       have hff:(m != m)=false:=by simp
       have hnn:(((0:Nat):Int) != ((0:Nat):Int))=false:=by simp
       go_wp2_with fail
       refine (num5 E m w6 (uh HG6) (uh HER6)).mono ?_
       rintro e w7 ⟨rfl,hb7⟩
       have HB7:=zh hb7
       clear hb7
       go_wp2_with fail
       refine ((uh HEQ) w7 (uh HB7)).mono ?_
       rintro e w8 ⟨rfl,hb8⟩
       have HB8:Hid (Below w6.heap.size w6 w8):=(uh HB7).trans (hb8.mono (uh HB7).size)
       have HST8:=zh ((uh HST6).below (uh HB8))
       clear hb8 HB7 HEQ HG6
       go_wp2_with fail
       refine (sheld_any S _ _ _ w8 (uh HST8).c1).mono ?_
       rintro e w9 ⟨rfl,hw9⟩
       obtain rfl:=hw9.symm
       clear hw9
       go_wp2_with fail
       refine ((uh HSP) w8 (uh HB8)).mono ?_
       rintro e wa ⟨rfl,hsf⟩
       have HXa:Hid (XI W2 wa S L m _ _ [] (k+1)):=⟨(uh HST8).sf hsf (by omega) spA_u8,owns_sf5 (owns_below (uh HRB6) (uh HB8)) hsf spA_u8,uh HNE6,hbl2,(uh HBS6).trans (((uh HB8).mono (by omega)).trans (hsf.below.mono (by omega)))⟩
       clear hsf HST8 HB8 HST6 HRB6 HPX6 HPW6 HER6 HBS6 HNE6 HLT HSP
       go_wp2
       go_roundw
       case rel=>exact⟨k+1,m,_,[],by omega,by omega,by go_num,rfl,HXa⟩
       case measure=>simp[intOf];omega)
    ·have hf1:(f == 0)=false:=by simp[hf]
     have HFD:=zh (sfeed_bad S L f hv bl v1 z w1 (uh HST1) (uh hy1) hf)
     go_wp2_with fail
     refine (uh HFD).mono ?_
     rintro e w2 ⟨x,rfl,her2,hb2⟩
     have HST2:=zh ((uh HST1).below hb2)
     have HROW2:=zh (owns_below (uh hro1) hb2)
     have HR2:=zh (owns_below (uh HR1) hb2)
     have HBS2:Hid (Below S W2 w2):=(uh HBS1).trans (hb2.mono (by omega))
     have hw2:=hb2.size
     have HPC:Hid (∀ g,v1.ownBlock=some g->wr.heap.size<=g/\g < w1.heap.size):=fun g hg=>by
      obtain⟨k1,k2,_⟩:=owns_lt (uh hro1) g hg
      exact⟨k1,k2⟩
     have HER2:=zh (uh her2)
     clear hb2 her2 hro1 hy1 HST1 HR1 HBS1 HG1 HFD HRNG
     have HBY:=zh (bytes5 wr.heap.size z.length v1 z w2 (by omega) (by omega) (uh HROW2))
     go_wp2_with fail
     refine (uh HBY).mono ?_
     rintro e w6 ⟨rfl,hg3⟩
     have HST6:=zh ((uh HST2).grown hg3 (fun g hg=>⟨by have:=((uh HPC) g hg).1;omega,fun e=>by
      have k1:=(uh HPC) g hg
      have:=((uh HHV) g e).2
      omega⟩))
     have HRB6:=zh ((uh HR2).kept hg3 (by
      cases e:u4.ownBlock with
      | none=>exact .inl rfl
      | some g=>exact .inr (fun k=>by have:=((uh HBV) g e).2;have:=((uh HPC) g k.symm).1;omega)))
     have HER6:Hid (ErrX w6 (.iface 118 x) f):=(ErY.grown (.inr (uh HER2)) hg3 (fun g hg=>((uh HPC) g hg).2)).errx
     have HBS6:Hid (Below S W2 w6):=(uh HBS2).grown hg3 (by omega) (fun g hg=>by have:=((uh HPC) g hg).1;omega)
     have hw6:=hg3.size
     have hw16:w1.heap.size<=w6.heap.size:=by omega
     have HPX6:Hid (Pks w6 w1.heap.size (.slice none 0 0) [] []):=Pks.nil _ _
     have HPW6:Hid (Pks w6 w1.heap.size (.slice none 0 0) [] []):=Pks.nil _ _
     have HLT:Hid (∀ P ∈ ([]:List Pa),Lts P):=fun P h=>(List.not_mem_nil h).elim
     have hbl2:bl.length<=(k+1) * 10000:=by omega
     have HNE6:=HNE
     obtain⟨ah,ch,hvh⟩:=owns_form (uh HST6).row
     obtain⟨a4,c4,hu4⟩:=owns_form (uh HRB6)
     subst hvh
     subst hu4
     clear hg3 HST2 HR2 HER2 HBS2 HROW2 HBY HPC HNE HHV HBV
     have HEQ:Hid (∀ w7,Below w6.heap.size w6 w7->Calls Tryz.prog 21 #[(.slice none 0 0),(.slice none 0 0)] w7 fun e w'=>e=.returned (.bool true)/\Below w7.heap.size w7 w'):=fun w7 h=>eqpks_pks w1.heap.size w1.heap.size (.slice none 0 0) (.slice none 0 0) [] [] ([]:List Pa) w7 ((uh HPX6).below h) ((uh HPW6).below h) (uh HLT) (by first | omega | simp)
     have HSP:Hid (∀ w8,Below w6.heap.size w6 w8->Calls Tryz.prog 23 #[(.slice none 0 0)] w8 fun e w'=>e=.returned (.tuple #[])/\SF w1.heap.size spA w8 w'):=fun w8 h=>pkts_sp w1.heap.size (.slice none 0 0) [] w8 (Nat.le_trans hw16 h.size) (by first | (rw[(uh HPX6).len];omega) | simp) ((uh HPX6).below h).row (fun i q hq=>by
      obtain⟨P,hP⟩:∃ P,(([]:List Pa))[i]?=some P:=⟨_,List.getElem?_eq_getElem (by rw[<- (uh HPX6).len];exact (List.getElem?_eq_some_iff.1 hq).1)⟩
      exact (((uh HPX6).below h).mean i q P hq hP).spok ((uh HLT) P (List.mem_of_getElem? hP))) (uh HPX6).dist
     have HG6:=zh ((uh HD) w6 (uh HBS6)).2.2.2.2.1
     have hff:(f != f)=false:=by simp
     have hnn:(((bl.length:Nat):Int) != ((bl.length:Nat):Int))=false:=by simp
     go_wp2_with fail
     refine (num5 (.iface 118 x) f w6 (uh HG6) (uh HER6)).mono ?_
     rintro e w7 ⟨rfl,hb7⟩
     have HB7:=zh hb7
     clear hb7
     go_wp2_with fail
     refine ((uh HEQ) w7 (uh HB7)).mono ?_
     rintro e w8 ⟨rfl,hb8⟩
     have HB8:Hid (Below w6.heap.size w6 w8):=(uh HB7).trans (hb8.mono (uh HB7).size)
     have HST8:=zh ((uh HST6).below (uh HB8))
     clear hb8 HB7 HEQ HG6
     go_wp2_with fail
     refine (sheld_any S _ _ _ w8 (uh HST8).c1).mono ?_
     rintro e w9 ⟨rfl,hw9⟩
     obtain rfl:=hw9.symm
     clear hw9
     go_wp2_with fail
     refine ((uh HSP) w8 (uh HB8)).mono ?_
     rintro e wa ⟨rfl,hsf⟩
     have HXa:Hid (XI W2 wa S L f _ _ bl (k+1)):=⟨(uh HST8).sf hsf (by omega) spA_u8,owns_sf5 (owns_below (uh HRB6) (uh HB8)) hsf spA_u8,uh HNE6,hbl2,(uh HBS6).trans (((uh HB8).mono (by omega)).trans (hsf.below.mono (by omega)))⟩
     clear hsf HST8 HB8 HST6 HRB6 HPX6 HPW6 HER6 HBS6 HNE6 HLT HSP
     go_wp2
     go_roundw
     case rel=>exact⟨k+1,f,_,bl,by omega,by omega,by go_num,rfl,HXa⟩
     case measure=>simp[intOf];omega
   ·have hbw:Below w.heap.size w wr:=(uh HB2).trans ((uh HX).bel.mono (Nat.le_of_lt hsz1))
    have HGr:=zh ((uh HG).below hbw (uh HG).pos)
    have c1:=((uh HX).bel.cell (p:=⟨w.heap.size,1,none⟩) hsz1).trans (uh HD1)
    have HBW:=zh hbw
    clear hbw
    go_wp2_with (go_at_call 24;refine (wakes5 _ (uh HGr)).mono ?_;rintro e w' ⟨rfl,hb'⟩)
    all_goals (
     go_ret
     exact⟨rfl,(uh HBW).trans (hb'.mono (uh HBW).size)⟩)
 ·go_wp2
  go_ret
  exact⟨rfl,uh HB1⟩
theorem heavy0 (lim:Int) (ao:Option Addr) (cap:Nat) (w:World):Calls Tryz.prog 14 #[.agg #[.int .i64 lim,.slice ao 0 cap]] w fun e w'=>e=.returned (.bool false)/\Below w.heap.size w w':=by
 go_enter Tryz.func14,Tryz.ntmps14
 go_wp2
 refine wp_loop_rounds 1 ?_
 rw[rounds_succ]
 have HW0:Hid (Below w.heap.size w (w.alloc (.cells #[.int .i64 lim,.slice ao 0 cap] 48))):=bal _ _
 have c1:(w.alloc (.cells #[.int .i64 lim,.slice ao 0 cap] 48)).cell? ⟨w.heap.size,1,none⟩=some (.slice ao 0 cap):=by simp
 generalize w.alloc (.cells #[.int .i64 lim,.slice ao 0 cap] 48)=W0 at HW0 c1 |-
 go_wp2
 go_ret
 exact⟨rfl,uh HW0⟩
theorem exact_walk0 (lim:Int) (ao:Option Addr) (cap:Nat) (w:World) (hg:Laid w):Calls Tryz.prog 4 #[.agg #[.int .i64 lim,.slice ao 0 cap]] w fun e w'=>e=.returned (.bool true)/\Below w.heap.size w w':=by
 go_enter Tryz.func4,Tryz.ntmps4
 go_upto_region 1 with fail
 have HW0:Hid (Below w.heap.size w (w.alloc (.cells #[.int .i64 lim,.slice ao 0 cap] 48))):=bal _ _
 have c0:(w.alloc (.cells #[.int .i64 lim,.slice ao 0 cap] 48)).cell? ⟨w.heap.size,0,none⟩=some (.int .i64 lim):=by simp
 have c1:(w.alloc (.cells #[.int .i64 lim,.slice ao 0 cap] 48)).cell? ⟨w.heap.size,1,none⟩=some (.slice ao 0 cap):=by simp
 have hsz0:w.heap.size < (w.alloc (.cells #[.int .i64 lim,.slice ao 0 cap] 48)).heap.size:=by simp
 generalize w.alloc (.cells #[.int .i64 lim,.slice ao 0 cap] 48)=W0 at HW0 c0 c1 hsz0 |-
 go_wp2_with fail
 refine (heavy0 lim ao cap W0).mono ?_
 rintro e W1 ⟨rfl,hb1⟩
 have HB1:Hid (Below w.heap.size w W1):=(uh HW0).trans (hb1.mono (Nat.le_of_lt hsz0))
 have d0:=(hb1.cell (p:=⟨w.heap.size,0,none⟩) (cell_lt c0)).trans c0
 have d1:=(hb1.cell (p:=⟨w.heap.size,1,none⟩) (cell_lt c1)).trans c1
 have hsz1:w.heap.size < W1.heap.size:=cell_lt d0
 clear c0 c1 hb1 HW0 hsz0
 go_wp2_with fail
 refine (snew_any lim W1).mono ?_
 rintro e W2 ⟨rfl,hw2⟩
 have HB12:Hid (Below W1.heap.size W1 W2):=by rw[hw2];exact bal _ _
 clear hw2
 have HB2:Hid (Below w.heap.size w W2):=(uh HB1).trans ((uh HB12).mono (Nat.le_of_lt hsz1))
 have e1:W2.cell? ⟨w.heap.size,1,none⟩=some (.slice ao 0 cap):=((uh HB12).cell (p:=⟨w.heap.size,1,none⟩) hsz1).trans d1
 have HG2:=zh (hg.below (uh HB2) hg.pos)
 clear d0 d1 HB1 HB12
 go_wp2_with fail
 refine wp_loop_rounds 1 ?_
 rw[rounds_succ]
 go_wp2_with (go_at_call 24;refine (wakes5 _ (uh HG2)).mono ?_;rintro e w' ⟨rfl,hb'⟩)
 go_ret
 exact⟨rfl,(uh HB2).trans (hb'.mono (uh HB2).size)⟩
end Go.Proofs.YtpheelbbpiieiaaGreatDoor.K
