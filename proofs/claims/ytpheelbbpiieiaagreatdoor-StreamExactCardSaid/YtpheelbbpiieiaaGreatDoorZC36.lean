/- Proved here: helpers, one text behind the other. -/
import Derived.Test.YtpheelbbpiieiaaGreatDoorZC28
import Derived.Test.YtpheelbbpiieiaaGreatDoorZC35
import Derived.Test.YtpheelbbpiieiaaGreatDoorZC9
import Derived.Test.YtpheelbbpiieiaaGreatDoorZC25
import Derived.Test.YtpheelbbpiieiaaGreatDoorZC19
import Derived.Laws.AppendOwn
set_option maxHeartbeats 20000000
namespace Go.Proofs.YtpheelbbpiieiaaGreatDoor.K
open Go.RowKit
theorem vs_eq (a:Int) (t:List Int) (hr:∀ j,0<=t.getD j 0/\t.getD j 0<=255) :
  ((V.vget t).2.2=0->smeas (a :: t)=(1+(V.vget t).2.1,1+(V.vget t).2.1+(V.vget t).1)/\1<=(V.vget t).2.1/\0<=(V.vget t).1/\(V.vget t).2.1<=t.length/\((V.vget t).1=0->(V.vget t).2.1=1)/\V.vget (t.take (V.vget t).2.1.toNat)=V.vget t) /\
  ((V.vget t).2.2≠0->smeas (a :: t)=(0,0)\/((V.vget t).2.2=1/\2<=(smeas (a :: t)).1/\(smeas (a :: t)).1<=1+t.length/\(V.vget (t.take ((smeas (a :: t)).1.toNat - 1))).2.2=1)):=by
 rcases t with _ | ⟨x0,_ | ⟨x1,_ | ⟨x2,_ | ⟨x3,r⟩⟩⟩⟩
 ·simp[V.vget,V.vgetf,smeas]
 ·have h0:=hr 0
  simp at h0
  by_cases k0:x0 < 128 <;> simp[V.vget,V.vgetf,smeas,k0] <;> omega
 ·have h0:=hr 0
  have h1:=hr 1
  simp at h0 h1
  by_cases k0:x0 < 128 <;> by_cases k1:x1=0 <;> by_cases k2:x1 < 128 <;> simp[V.vget,V.vgetf,smeas,k0,k1,k2] <;> omega
 ·have h0:=hr 0
  have h1:=hr 1
  have h2:=hr 2
  simp at h0 h1 h2
  by_cases k0:x0 < 128 <;> by_cases k1:x1=0 <;> by_cases k2:x1 < 128 <;> by_cases k3:x2=0 <;> by_cases k4:x2 < 128 <;> simp[V.vget,V.vgetf,smeas,k0,k1,k2,k3,k4] <;> omega
 ·have h0:=hr 0
  have h1:=hr 1
  have h2:=hr 2
  have h3:=hr 3
  simp at h0 h1 h2 h3
  by_cases k0:x0 < 128 <;> by_cases k1:x1=0 <;> by_cases k2:x1 < 128 <;> by_cases k3:x2=0 <;> by_cases k4:x2 < 128 <;> by_cases k5:x3=0 <;> by_cases k6:x3 < 128 <;> simp[V.vget,V.vgetf,smeas,k0,k1,k2,k3,k4,k5,k6] <;> omega
theorem dnum_def (l:List Int) (h:l≠[]):dnum l=if bok (l.getD 0 0)=false then 1 else if (meas l).2.2≠0 then (meas l).2.2 else if (dbody l).isSome then 0 else 1:=by
 unfold dnum
 rw[if_neg h]
theorem meas_cons (a:Int) (t:List Int):meas (a :: t)=if (V.vget t).2.2≠0 then (0,0,(V.vget t).2.2) else if 65536 < 1+ghd t+(gid t).toNat then (0,0,2) else if (a :: t).length < 1+ghd t+(gid t).toNat then (0,0,3) else (1+ghd t,1+ghd t+(gid t).toNat,0):=rfl
theorem pnum_snum (lim:Int) (l:List Int) (hr:∀ j,0<=l.getD j 0/\l.getD j 0<=255) (h2:2<=lim) (hL:lim<=65536):pnum lim l=snum lim l:=by
 rcases l with _ | ⟨a,t⟩
 ·have h1:pnum lim []=3:=by unfold pnum hnum;simp
  rw[h1,snum_nil lim h2]
 ·obtain⟨ha,hb⟩:=vs_eq a t (fun j=>by simpa using hr (j+1))
  have hp:pnum lim (a :: t)=if bok a=false then 1 else if (V.vget t).2.2≠0 then (V.vget t).2.2 else if lim < ((1+ghd t+(gid t).toNat:Nat):Int) then 2 else if (a :: t).length < 1+ghd t+(gid t).toNat then 3 else if (dbody (a :: t)).isSome then 0 else 1:=by
   have hh:hnum lim (a :: t)=if bok a=false then 1 else if (V.vget t).2.2≠0 then (V.vget t).2.2 else if lim < ((1+ghd t+(gid t).toNat:Nat):Int) then 2 else 0:=by unfold hnum;simp
   unfold pnum
   rw[hh]
   simp only[List.drop_one,List.tail_cons]
   by_cases k1:bok a=false
   ·rw[if_pos k1,if_pos k1,if_pos (by decide)]
   ·rw[if_neg k1,if_neg k1]
    by_cases k2:(V.vget t).2.2≠0
    ·rw[if_pos k2,if_pos k2,if_pos k2]
    ·rw[if_neg k2,if_neg k2]
     by_cases k3:lim < ((1+ghd t+(gid t).toNat:Nat):Int)
     ·rw[if_pos k3,if_pos k3,if_pos (by decide)]
     ·rw[if_neg k3,if_neg k3,if_neg (by decide)]
  have hd:dnum (a :: t)=if bok a=false then 1 else if (meas (a :: t)).2.2≠0 then (meas (a :: t)).2.2 else if (dbody (a :: t)).isSome then 0 else 1:=dnum_def _ (by simp)
  have hm:=meas_cons a t
  rw[hp]
  unfold snum
  -- the bytes up to the body
  have htk:∀ K:Int,2<=K->(a :: t).take K.toNat=a :: t.take (K.toNat - 1):=fun K hK=>by
   obtain⟨m,hm⟩:∃ m,K.toNat=m+1:=⟨K.toNat - 1,by omega⟩
   rw[hm]
   rfl
  have hdt:∀ n:Nat,dnum (a :: t.take n)=if bok a=false then 1 else if (meas (a :: t.take n)).2.2≠0 then (meas (a :: t.take n)).2.2 else if (dbody (a :: t.take n)).isSome then 0 else 1:=fun n=>dnum_def _ (by simp)
  by_cases k1:bok a=false
  ·rw[if_pos k1]
   by_cases k:(smeas (a :: t)).2<=lim
   ·rw[if_pos k,hd,if_pos k1]
   ·rw[if_neg k]
    have hK:2<=(smeas (a :: t)).1:=by
     obtain⟨K,N,e,_,_,h3⟩:=smeas_nat (a :: t) hr
     rw[e]at k |-
     simp only at k |-
     have:=(h3 (by omega)).1
     omega
    rw[htk _ hK,hdt,if_pos k1,if_pos rfl]
  ·rw[if_neg k1]
   by_cases k2:(V.vget t).2.2≠0
   ·rw[if_pos k2]
    rw[if_pos k2]at hm
    have hd2:dnum (a :: t)=(V.vget t).2.2:=by rw[hd,if_neg k1,hm,if_pos k2]
    rcases hb k2 with e | ⟨e1,e2,e3,e4⟩
    ·rw[e,if_pos (by show (0:Int)<=lim;omega),hd2]
    ·by_cases k:(smeas (a :: t)).2<=lim
     ·rw[if_pos k,hd2]
     ·have h1:(meas (a :: t.take ((smeas (a :: t)).1.toNat - 1))).2.2=1:=by rw[meas_cons,if_pos (by rw[e4];decide)];exact e4
      rw[if_neg k,htk _ e2,hdt,if_neg k1,h1,if_pos (show (1:Int)≠0 by decide),if_pos rfl,e1]
   ·rw[if_neg k2]
    obtain⟨e1,e2,e3,e4,e5,e6⟩:=ha (Classical.not_not.1 k2)
    have hgh:((ghd t:Nat):Int)=(V.vget t).2.1:=by unfold ghd;omega
    have hgi:(((gid t).toNat:Nat):Int)=(V.vget t).1:=by unfold gid;omega
    have hs2:(smeas (a :: t)).2=((1+ghd t+(gid t).toNat:Nat):Int):=by rw[e1];show 1+(V.vget t).2.1+(V.vget t).1=_;omega
    have hs1:(smeas (a :: t)).1=((1+ghd t:Nat):Int):=by rw[e1];show 1+(V.vget t).2.1=_;omega
    rw[hs2]
    by_cases k3:lim < ((1+ghd t+(gid t).toNat:Nat):Int)
    ·rw[if_pos k3,if_neg (by omega),hs1,htk _ (by omega),hdt,if_neg k1]
     have hn:((1+ghd t:Nat):Int).toNat - 1=(V.vget t).2.1.toNat:=by omega
     have hgt:ghd (t.take (V.vget t).2.1.toNat)=ghd t:=by unfold ghd;rw[e6]
     have hit:gid (t.take (V.vget t).2.1.toNat)=gid t:=by unfold gid;rw[e6]
     have hne:(meas (a :: t.take (((1+ghd t:Nat):Int).toNat - 1))).2.2=2\/(meas (a :: t.take (((1+ghd t:Nat):Int).toNat - 1))).2.2=3:=by
      rw[hn,meas_cons,e6,if_neg k2,hgt,hit]
      by_cases k4:65536 < 1+ghd t+(gid t).toNat
      ·rw[if_pos k4];exact .inl rfl
      ·rw[if_neg k4,if_pos (by
        rw[List.length_cons,List.length_take]
        have h5:(V.vget t).1≠0:=fun h0=>by have:=e5 h0;omega
        omega)]
       exact .inr rfl
     rcases hne with h | h <;> rw[h] <;> simp
    ·rw[if_neg k3,if_pos (show ((1+ghd t+(gid t).toNat:Nat):Int)<=lim by omega),hd,if_neg k1,hm,if_neg k2,if_neg (show ¬ 65536 < 1+ghd t+(gid t).toNat by omega)]
     by_cases k4:(a :: t).length < 1+ghd t+(gid t).toNat
     ·rw[if_pos k4,if_pos k4,if_pos (show (3:Int)≠0 by decide)]
     ·rw[if_neg k4,if_neg k4]
      simp
theorem SRun.det {lim:Int} {l:List Int} {Ps:List Pa} {n:Nat} {e:Int} (h:SRun lim l Ps n e):∀ {Qs:List Pa} {m:Nat} {f:Int},SRun lim l Qs m f->Ps=Qs/\n=m/\e=f:=by
 induction h with
 | stop l h0 =>
  intro Qs m f k
  cases k with
  | stop _ _=>exact⟨rfl,rfl,rfl⟩
  | step _ P r Ps' n' e' h1 _ _=>exact absurd h1 h0
 | step l P r Ps n e h0 hd hs ih =>
  intro Qs m f k
  cases k with
  | stop _ h1=>exact absurd h0 h1
  | step _ P' r' Ps' n' e' h1 hd' hs' =>
   rw[hd]at hd'
   cases hd'
   obtain⟨rfl,rfl,rfl⟩:=ih hs'
   exact⟨rfl,rfl,rfl⟩
set_option maxRecDepth 100000
theorem swhole_any (S:Nat) (lim:Int) (hv:Value) (L:List Int) (w:World) (B:Nat) (hr:w.ownsRow B 5 1 hv L.length (L.map (Value.int .u8))) (rng:∀ j,0<=L.getD j 0/\L.getD j 0<=255) (hS:w.cell? ⟨S,0,none⟩=some (.int .i64 lim)) (hS1:w.cell? ⟨S,1,none⟩=some hv) (hlim:2<=lim) (hLN:L.length<=1073741824) :
  Calls Tryz.prog 45 #[.pointer (some ⟨S,0,none⟩)] w (WholePost lim L w):=by
 have hy:=byt_of_owns hr rng
 rcases hr.2 with⟨rfl,h0⟩ | ⟨g,cap,cur,rfl,_⟩
 ·obtain rfl:L=[]:=List.length_eq_zero_iff.1 h0
  exact swhole_nil S lim w hS hS1 hlim
 ·exact swhole_own S lim g 0 cap L w hy hS hS1 hlim hLN
structure Str (w:World) (S:Nat) (lim f:Int) (hv:Value) (L:List Int):Prop where
 c0:w.cell? ⟨S,0,none⟩=some (.int .i64 lim)
 c1:w.cell? ⟨S,1,none⟩=some hv
 c2:w.cell? ⟨S,2,none⟩=some (.int .i64 f)
 f1:w.frozen? ⟨S,1,none⟩=false
 f2:w.frozen? ⟨S,2,none⟩=false
 row:w.ownsRow (S+1) 5 1 hv L.length (L.map (Value.int .u8))
 rng:∀ j,0<=L.getD j 0/\L.getD j 0<=255
theorem Str.below {w w':World} {S:Nat} {lim f:Int} {hv:Value} {L:List Int} (h:Str w S lim f hv L) (hb:Below w.heap.size w w'):Str w' S lim f hv L :=
 have hS:S < w.heap.size:=cell_lt h.c0
 ⟨(hb.cell hS).trans h.c0,(hb.cell hS).trans h.c1,(hb.cell hS).trans h.c2,(hb.frozen hS).trans h.f1,(hb.frozen hS).trans h.f2,owns_below h.row hb,h.rng⟩
theorem FB.laid {S:Nat} {row:Option Nat} {a b:World} (h:FB S row a b) (hg:Laid a) (hS:0≠S) (hr:∀ g,row=some g->S+1<=g):Laid b:=by
 have k:b.heap[0]?=a.heap[0]?:=h.block 0 hg.pos hS (fun e=>by have:=hr 0 e.symm;omega)
 unfold Laid at *
 exact (World.cell?_of_block (a:=⟨0,0,none⟩) k).trans hg
theorem Str.pos {w:World} {S:Nat} {lim f:Int} {hv:Value} {L:List Int} (h:Str w S lim f hv L) (hg:Laid w):0≠S:=by
 rintro rfl
 have k:=h.c0
 unfold Laid at hg
 rw[hg]at k
 cases k
theorem Str.put {w w1:World} {S:Nat} {lim f:Int} {hv v1:Value} {L M:List Int} {row:Option Nat} (h:Str w S lim f hv L) (hg:w.grownBy w1 row) (hr:∀ g,row=some g->S+1<=g) (ho:w1.ownsRow (S+1) 5 1 v1 M.length (M.map (Value.int .u8))) (rng:∀ j,0<=M.getD j 0/\M.getD j 0<=255):Str (w1.setCell ⟨S,1,none⟩ v1) S lim f v1 M:=by
 have hS:S < w.heap.size:=cell_lt h.c0
 have hb:w1.heap[S]?=w.heap[S]?:=hg.block S hS (fun e=>by have:=hr S e.symm;omega)
 have hc:∀ j,w1.cell? ⟨S,j,none⟩=w.cell? ⟨S,j,none⟩:=fun j=>World.cell?_of_block hb
 have hf:∀ j,w1.frozen? ⟨S,j,none⟩=w.frozen? ⟨S,j,none⟩:=fun j=>World.frozen?_of_block hb
 exact⟨(World.cell?_setCell_other _ _ _ _ (fun e=>by simp at e)).trans ((hc 0).trans h.c0),World.cell?_setCell_same _ _ _ ((hc 1).trans h.c1),(World.cell?_setCell_other _ _ _ _ (fun e=>by simp at e)).trans ((hc 2).trans h.c2),by rw[World.frozen?_setCell];exact (hf 1).trans h.f1,by rw[World.frozen?_setCell];exact (hf 2).trans h.f2,owns_out ho (Nat.lt_succ_self _),rng⟩
theorem FB.put {S:Nat} {row:Option Nat} {a b:World} (h:FB S row a b) (v:Value):FB S row a (b.setCell ⟨S,1,none⟩ v) :=
 h.trans (row':=none) (FB.of_bx ((BX.refl S isAny b).set 1 v trivial)) (fun g e=>by cases e)
theorem drop_rng {M:List Int} (h:∀ j,0<=M.getD j 0/\M.getD j 0<=255) (n:Nat):∀ j,0<=(M.drop n).getD j 0/\(M.drop n).getD j 0<=255:=fun j=>by
 have k:=h (n+j)
 rw[List.getD_eq_getElem?_getD,List.getElem?_drop,<- List.getD_eq_getElem?_getD]
 exact k
def FedTo (S:Nat) (lim:Int) (hv:Value) (M:List Int) (w:World) (e:Ending) (w':World):Prop :=
 ∃ (v E:Value) (qs:List Pkv) (Ps:List Pa) (n:Nat) (m:Int) (hv':Value),e=.returned (.tuple #[v,E])/\n<=M.length/\SRun lim M Ps n m/\m≠0/\Pks w' w.heap.size v qs Ps /\
  ((m=3/\E=.nilIface/\Str w' S lim 0 hv' (M.drop n))\/(m≠3/\(∃ x,E=.iface 118 x)/\ErB w' w.heap.size E m/\Str w' S lim m hv' [])) /\
  (hv'.ownBlock=hv.ownBlock\/∀ g,hv'.ownBlock=some g->w.heap.size<=g)/\FB S hv.ownBlock w w'
theorem sfeed_bad (S:Nat) (lim f:Int) (hv:Value) (L:List Int) (vb:Value) (ys:List Int) (w:World) (h:Str w S lim f hv L) (hy:Byt w vb ys) (hf:f≠0):Calls Tryz.prog 16 #[.pointer (some ⟨S,0,none⟩),vb] w fun e w'=>∃ x,e=.returned (.tuple #[.slice none 0 0,.iface 118 x])/\Hid (ErB w' w.heap.size (.iface 118 x) f)/\Below w.heap.size w w':=by
 have c2:=h.c2
 have hf1:(f == 0)=false:=beq_eq_false_iff_ne.2 hf
 obtain⟨ao,cap,rfl,_⟩:=hy.form
 clear h hy
 go_enter Tryz.func16,Tryz.ntmps16
 go_wp2_with fail
 refine (sfault_use f _).mono ?_
 rintro e w1 ⟨x,rfl,hE,hb⟩
 go_wp2
 go_returns
 exact⟨_,rfl,hE,hb⟩
theorem sfeed_ok (S:Nat) (lim:Int) (hv:Value) (L:List Int) (vb:Value) (ys:List Int) (w:World) (hg:Laid w) (h:Str w S lim 0 hv L) (hy:Byt w vb ys) (hlim:2<=lim) (hLN:(L++ys).length<=1073741824):Calls Tryz.prog 16 #[.pointer (some ⟨S,0,none⟩),vb] w (FedTo S lim hv (L++ys) w):=by
 have hS:S < w.heap.size:=cell_lt h.c0
 have hS0:=h.pos hg
 have hrow:=owns_blk h.row
 have c1:=h.c1
 have c2:=h.c2
 have hrng:∀ j,0<=(L++ys).getD j 0/\(L++ys).getD j 0<=255:=by
  intro j
  have k1:=h.rng j
  have k2:=hy.range (j - L.length)
  by_cases hj:j < L.length
  ·rw[List.getD_eq_getElem?_getD,List.getElem?_append_left hj,<- List.getD_eq_getElem?_getD];exact k1
  ·rw[List.getD_eq_getElem?_getD,List.getElem?_append_right (by omega),<- List.getD_eq_getElem?_getD];exact k2
 have HH:=zh h
 have HY:=zh hy
 have HG:=zh hg
 have HROW:=zh hrow
 have HRNG:=zh hrng
 have hlen:L.length+ys.length<=1073741824:=by rw[<- List.length_append];exact hLN
 obtain⟨ao,cap,rfl,_⟩:=hy.form
 clear h hy hg hrow hrng
 go_enter Tryz.func16,Tryz.ntmps16
 go_wp2_with (first
  | (at_builtin;refine wpList_append_byt_at _ rfl _ _ rfl (S+1) hv L.length L rfl (uh HH).row (.slice ao ys.length cap) ys rfl (uh HY) (by omega) (by omega) ?_)
  | go_in)
 intro v1 w1 hown1 hgrow1 hv1
 have k1:w1.cell? ⟨S,1,none⟩=some hv:=(World.cell?_of_block (hgrow1.block S hS (fun e=>by have:=(uh HROW) S e.symm;omega))).trans c1
 have fz1:w1.frozen? ⟨S,1,none⟩=false:=(World.frozen?_of_block (hgrow1.block S hS (fun e=>by have:=(uh HROW) S e.symm;omega))).trans (uh HH).f1
 have HST:Hid (Str (w1.setCell ⟨S,1,none⟩ v1) S lim 0 v1 (L++ys)):=(uh HH).put hgrow1 (uh HROW) (by rw[List.length_append,List.map_append];exact hown1) (uh HRNG)
 have HFB:Hid (FB S hv.ownBlock w (w1.setCell ⟨S,1,none⟩ v1)):=(FB.of_grown hgrow1).put v1
 have HV1:Hid (v1.ownBlock=hv.ownBlock\/∀ g,v1.ownBlock=some g->w.heap.size<=g):=by
  rcases hv1 with e | e
  ·exact .inl e
  ·exact .inr (fun g k=>by rw[e]at k;cases k;exact Nat.le_refl _)
 obtain⟨a1,n1,p1,rfl⟩:∃ a1 n1 p1,v1=.slice a1 n1 p1:=by
  rcases hown1.2 with⟨rfl,_⟩ | ⟨g,cap,cur,rfl,_⟩
  ·exact⟨_,_,_,rfl⟩
  ·exact⟨_,_,_,rfl⟩
 clear hown1 hgrow1 hv1
 generalize hM:L++ys=M at HST HRNG hLN |-
 have HMM:=zh hM
 clear hM hlen HH HY
 go_wp2_with fail
 have hS2:S < (w1.setCell ⟨S,1,none⟩ (.slice a1 n1 p1)).heap.size:=cell_lt (uh HST).c0
 generalize w1.setCell ⟨S,1,none⟩ (.slice a1 n1 p1)=w2 at HST HFB hS2 |-
 refine (swhole_any S lim _ M w2 (S+1) (uh HST).row (uh HRNG) (uh HST).c0 (uh HST).c1 hlim hLN).mono ?_
 rintro e w3 ⟨v,n,E,qs,Ps,m,rfl,hn,HSR,hm0,HP3,HE3,hb3⟩
 have HST3:Hid (Str w3 S lim 0 (.slice a1 n1 p1) M):=(uh HST).below hb3
 have HFB3:Hid (FB S hv.ownBlock w w3):=(uh HFB).trans (row':=none) (FB.of_below hb3) (fun g e=>by cases e)
 have HPK:Hid (Pks w3 w.heap.size v qs Ps):=⟨owns_mono (uh HP3).row (uh HFB).size,(uh HP3).len,fun i q P h1 h2=>((uh HP3).mean i q P h1 h2).base (uh HFB).size,(uh HP3).dist⟩
 clear hb3 HST HFB HP3 k1 c1 c2 fz1
 obtain⟨d,hd,hE⟩:=uh HE3
 obtain⟨t,x,rfl⟩:=hE.iface
 have HE:=zh hE
 clear hE HE3
 go_wp2_with fail
 refine (er_Is d hd _ m 3 w3 (uh HE)).mono ?_
 rintro e w4 ⟨rfl,hw4⟩
 obtain rfl:=hw4.symm
 clear hw4
 by_cases hm:m=3
 ·subst hm
  by_cases hn0:n=0
  ·subst hn0
   go_wp2
   go_returns
   show FedTo S lim hv (L++ys) w _ _
   rw[uh HMM]
   exact⟨_,_,qs,Ps,0,3,_,rfl,hn,uh HSR,hm0,uh HPK,.inl ⟨rfl,rfl,uh HST3⟩,uh HV1,uh HFB3⟩
  ·have hS3:S < w3.heap.size:=cell_lt (uh HST3).c0
   have hS3':S+1<=w3.heap.size:=hS3
   obtain⟨g,rfl,rfl⟩:∃ g,a1=some ⟨g,0,none⟩/\n1=M.length:=by
    rcases (uh HST3).row.2 with⟨e,h0⟩ | ⟨g,cap,cur,e,_⟩
    ·omega
    ·cases e
     exact⟨g,rfl,rfl⟩
   obtain⟨hp1,hp2⟩:M.length<=p1/\p1<=maxLen:=by
    obtain⟨_,_,e,k1,k2⟩:=(byt_of_owns (uh HST3).row (uh HRNG)).form
    cases e
    exact⟨k1,k2⟩
   unfold maxLen at hp2
   have HT0:=zh ((byt_of_owns (uh HST3).row (uh HRNG)).drop' n hn)
   have c1:=(uh HST3).c1
   generalize hN:M.length=N at *
   by_cases hpn:p1=n
   ·obtain rfl:N=p1:=by omega
    subst hpn
    have HT:Hid (Byt w3 (.slice (some ⟨g,0,none⟩) 0 0) (M.drop N)):=by
     have k:=uh HT0
     rw[if_pos rfl,Nat.sub_self]at k
     exact k
    clear HT0
    go_wp2_with (first
     | (at_builtin;refine wpList_append_byt_at _ rfl _ _ rfl (S+1) (.slice none 0 0) 0 [] rfl (World.ownsRow_nil _ _ _ _) (.slice (some ⟨g,0,none⟩) 0 0) (M.drop N) rfl (uh HT) (by rw[List.length_drop];omega) hS3' ?_)
     | go_in)
    intro v5 w5 hown5 hgrow5 hv5
    have HG5:=zh hgrow5
    have k1:w5.cell? ⟨S,1,none⟩=some (.slice (some ⟨g,0,none⟩) N N):=(World.cell?_of_block (hgrow5.block S hS3 (fun e=>by cases e))).trans (uh HST3).c1
    have fz1:w5.frozen? ⟨S,1,none⟩=false:=(World.frozen?_of_block (hgrow5.block S hS3 (fun e=>by cases e))).trans (uh HST3).f1
    have HST5:Hid (Str (w5.setCell ⟨S,1,none⟩ v5) S lim 0 v5 (M.drop N)):=(uh HST3).put hgrow5 (fun g e=>by cases e) (by first | (rw[List.length_drop,hN,List.map_drop];exact hown5) | simpa [List.map_drop,hN] using hown5) (drop_rng (uh HRNG) N)
    have HFB5:Hid (FB S hv.ownBlock w (w5.setCell ⟨S,1,none⟩ v5)):=((uh HFB3).trans (FB.of_grown hgrow5) (fun g e=>by cases e)).put v5
    have HV5:Hid (v5.ownBlock=hv.ownBlock\/∀ g,v5.ownBlock=some g->w.heap.size<=g):=by
     rcases hv5 with e | e
     ·exact .inr (fun g k=>by rw[e]at k;cases k)
     ·exact .inr (fun g k=>by rw[e]at k;cases k;exact (uh HFB3).size)
    have HPK5:Hid (Pks (w5.setCell ⟨S,1,none⟩ v5) w.heap.size v qs Ps):=by
     have hb:Below w3.heap.size w3 w5:=⟨hgrow5.os,hgrow5.tape,hgrow5.output,hgrow5.size,fun k hk=>hgrow5.block k hk (fun e=>by cases e)⟩
     have kp:=(uh HPK).below hb
     have hx:=(BX.refl S isAny w5).set 1 v5 trivial
     exact⟨owns_bx kp.row hx hS,kp.len,fun i q P h1 h2=>(kp.mean i q P h1 h2).bx hx hS,kp.dist⟩
    obtain⟨a5,n5,p5,rfl⟩:∃ a1 n1 p1,v5=.slice a1 n1 p1:=by
     rcases hown5.2 with⟨rfl,_⟩ | ⟨g,cap,cur,rfl,_⟩
     ·exact⟨_,_,_,rfl⟩
     ·exact⟨_,_,_,rfl⟩
    clear hown5 hgrow5 hv5 HG5 HFB3 HPK HE
    go_wp2
    go_returns
    show FedTo S lim hv (L++ys) w _ _
    rw[uh HMM]
    exact⟨_,_,qs,Ps,N,3,_,rfl,by rw[hN];exact hn,uh HSR,hm0,uh HPK5,.inl ⟨rfl,rfl,uh HST5⟩,uh HV5,uh HFB5⟩
   ·have HT:Hid (Byt w3 (.slice (some ⟨g,0+n,none⟩) (N - n) (p1 - n)) (M.drop n)):=by
     have k:=uh HT0
     rw[if_neg hpn]at k
     exact k
    rw[Nat.zero_add]at HT
    clear HT0
    go_wp2_with (first
     | (at_builtin;refine wpList_append_byt_at _ rfl _ _ rfl (S+1) (.slice none 0 0) 0 [] rfl (World.ownsRow_nil _ _ _ _) (.slice (some ⟨g,n,none⟩) (N - n) (p1 - n)) (M.drop n) rfl (uh HT) (by rw[List.length_drop];omega) hS3' ?_)
     | go_in)
    intro v5 w5 hown5 hgrow5 hv5
    have HG5:=zh hgrow5
    have k1:w5.cell? ⟨S,1,none⟩=some (.slice (some ⟨g,0,none⟩) N p1):=(World.cell?_of_block (hgrow5.block S hS3 (fun e=>by cases e))).trans (uh HST3).c1
    have fz1:w5.frozen? ⟨S,1,none⟩=false:=(World.frozen?_of_block (hgrow5.block S hS3 (fun e=>by cases e))).trans (uh HST3).f1
    have HST5:Hid (Str (w5.setCell ⟨S,1,none⟩ v5) S lim 0 v5 (M.drop n)):=(uh HST3).put hgrow5 (fun g e=>by cases e) (by first | (rw[List.length_drop,hN,List.map_drop];exact hown5) | simpa [List.map_drop,hN] using hown5) (drop_rng (uh HRNG) n)
    have HFB5:Hid (FB S hv.ownBlock w (w5.setCell ⟨S,1,none⟩ v5)):=((uh HFB3).trans (FB.of_grown hgrow5) (fun g e=>by cases e)).put v5
    have HV5:Hid (v5.ownBlock=hv.ownBlock\/∀ g,v5.ownBlock=some g->w.heap.size<=g):=by
     rcases hv5 with e | e
     ·exact .inr (fun g k=>by rw[e]at k;cases k)
     ·exact .inr (fun g k=>by rw[e]at k;cases k;exact (uh HFB3).size)
    have HPK5:Hid (Pks (w5.setCell ⟨S,1,none⟩ v5) w.heap.size v qs Ps):=by
     have hb:Below w3.heap.size w3 w5:=⟨hgrow5.os,hgrow5.tape,hgrow5.output,hgrow5.size,fun k hk=>hgrow5.block k hk (fun e=>by cases e)⟩
     have kp:=(uh HPK).below hb
     have hx:=(BX.refl S isAny w5).set 1 v5 trivial
     exact⟨owns_bx kp.row hx hS,kp.len,fun i q P h1 h2=>(kp.mean i q P h1 h2).bx hx hS,kp.dist⟩
    obtain⟨a5,n5,p5,rfl⟩:∃ a1 n1 p1,v5=.slice a1 n1 p1:=by
     rcases hown5.2 with⟨rfl,_⟩ | ⟨g,cap,cur,rfl,_⟩
     ·exact⟨_,_,_,rfl⟩
     ·exact⟨_,_,_,rfl⟩
    clear hown5 hgrow5 hv5 HG5 HFB3 HPK HE
    go_wp2
    go_returns
    show FedTo S lim hv (L++ys) w _ _
    rw[uh HMM]
    exact⟨_,_,qs,Ps,n,3,_,rfl,by rw[hN];exact hn,uh HSR,hm0,uh HPK5,.inl ⟨rfl,rfl,uh HST5⟩,uh HV5,uh HFB5⟩
 ·have hm1:(m == 3)=false:=beq_eq_false_iff_ne.2 hm
  have HG3:Hid (Laid w3):=(uh HFB3).laid (uh HG) hS0 (uh HROW)
  have HSF:=zh (sfail_any S d hd _ m 0 _ w3 (uh HG3) (uh HE) (uh HST3).c1 (uh HST3).c2 (uh HST3).f1 (uh HST3).f2)
  go_wp2_with fail
  refine (uh HSF).mono ?_
  rintro e w4 ⟨y,rfl,hE4,k1,k2,hx4⟩
  have hS3:S < w3.heap.size:=cell_lt (uh HST3).c0
  have HST4:Hid (Str w4 S lim m (.slice none 0 0) []):=⟨((uh hx4).cell 0 (by omega)).trans (uh HST3).c0,k1,k2,((uh hx4).frozen 1).trans (uh HST3).f1,((uh hx4).frozen 2).trans (uh HST3).f2,World.ownsRow_nil _ _ _ _,fun j=>by simp⟩
  have HFB4:Hid (FB S hv.ownBlock w w4):=(uh HFB3).trans (row':=none) (FB.of_bx (uh hx4)) (fun g e=>by cases e)
  have HPK4:Hid (Pks w4 w.heap.size v qs Ps):=⟨owns_bx (uh HPK).row (uh hx4) hS,(uh HPK).len,fun i q P h1 h2=>((uh HPK).mean i q P h1 h2).bx (uh hx4) hS,(uh HPK).dist⟩
  have HEB4:Hid (ErB w4 w.heap.size (.iface 118 y) m):=(uh hE4).mono (uh HFB3).size
  clear k1 k2 hx4 HSF
  go_wp2
  go_returns
  show FedTo S lim hv (L++ys) w _ _
  rw[uh HMM]
  exact⟨_,_,qs,Ps,n,m,_,rfl,hn,uh HSR,hm0,uh HPK4,.inr ⟨hm,⟨_,rfl⟩,uh HEB4,uh HST4⟩,.inr (fun g e=>by cases e),uh HFB4⟩
def PNextPost (lim:Int) (l:List Int) (w:World) (e:Ending) (w':World):Prop :=
 ∃ (q:Pkv) (n:Nat),e=.returned (.tuple #[q.val,.int .i64 n,.int .i64 (snum lim l)]) /\
  (snum lim l≠0\/(snum lim l=0/\n=(meas l).2.1/\∃ P r,dbody l=some (P,r)/\Hid (Mean w' w.heap.size q P)))/\Below w.heap.size w w'
theorem pnext_any (lim:Int) (v:Value) (l:List Int) (w:World) (h:Byt w v l) (hlim:2<=lim) (hlim2:lim<=65536):Calls Tryz.prog 8 #[v,.int .i64 lim] w (PNextPost lim l w):=by
 refine (pdec_pg v l lim w h hlim2).mono ?_
 rintro e w' ⟨q,n,rfl,h1,hb⟩
 rw[pnum_snum lim l h.range hlim hlim2]at h1 |-
 rcases h1 with⟨h0,rfl,rfl⟩ | ⟨h0,rfl,P,r,hd,hm⟩
 ·exact⟨_,_,rfl,.inl h0,hb⟩
 ·exact⟨_,_,rfl,.inr ⟨h0,rfl,P,r,hd,hm⟩,hb⟩
def AllPost (lim:Int) (L:List Int) (w:World) (e:Ending) (w':World):Prop :=
 ∃ (v:Value) (n:Nat) (qs:List Pkv) (Ps:List Pa) (m:Int),e=.returned (.tuple #[v,.int .i64 n,.int .i64 m])/\n<=L.length/\Hid (SRun lim L Ps n m)/\m≠0/\Hid (Pks w' w.heap.size v qs Ps)/\Below w.heap.size w w'
theorem all_own (lim:Int) (b off cap:Nat) (L:List Int) (w:World) (h:Byt w (.slice (some ⟨b,off,none⟩) L.length cap) L) (hlim:2<=lim) (hlim2:lim<=65536) (hLN:L.length<=1073741824) :
  Calls Tryz.prog 18 #[.slice (some ⟨b,off,none⟩) L.length cap,.int .i64 lim] w (AllPost lim L w):=by
 obtain⟨i0,hi,hz0,hz1,hz2⟩:=info_parts infoPk
 obtain⟨hcl,hcap⟩:L.length<=cap/\cap<=maxLen:=by
  obtain⟨ao',cap',e,k1,k2⟩:=h.form
  simp only[Value.slice.injEq]at e
  obtain⟨_,_,rfl⟩:=e
  exact⟨k1,k2⟩
 unfold maxLen at hcap
 have HH:=zh h
 generalize hN:L.length=N at hcl HH hLN |-
 have HN:=zh hN
 clear h hN
 go_enter Tryz.func18,Tryz.ntmps18
 go_wp2
 go_loopw [7,8] (fun l0 n0 wr=>∃ (lv:Value) (qs:List Pkv) (Ps:List Pa) (k n:Nat),l0=lv/\n0=.int .i64 n/\n<=N/\k<=n/\Hid (qs.length=k)/\Hid (Pks wr w.heap.size lv qs Ps)/\Hid (∀ Ps' n' e',SRun lim (L.drop n) Ps' n' e'->SRun lim L (Ps++Ps') (n+n') e')/\Hid (Below w.heap.size w wr)) (fun _ n0 _=>N - (intOf n0).toNat)
 case atStart =>
  refine⟨.slice none 0 0,[],[],0,0,rfl,rfl,Nat.zero_le _,Nat.le_refl _,rfl,Pks.nil _ _,fun Ps' n' e' h=>?_,Below.refl _ _⟩
  simpa using h
 case round =>
  obtain⟨_,qs,Ps,k,n,rfl,rfl,hn,hk,HQ,HP,HR,HB⟩:=hrel
  have HY:=zh (((uh HH).below (uh HB)).drop' n hn)
  have hsz:=(uh HB).size
  by_cases hcn:cap=n
  ·obtain rfl:N=n:=by omega
   subst hcn
   have HT:Hid (Byt wr (.slice (some ⟨b,off,none⟩) 0 0) (L.drop cap)):=by
    have k:=uh HY
    rw[if_pos rfl,Nat.sub_self]at k
    exact k
   clear HY
   go_wp2_with fail
   refine (pnext_any lim _ (L.drop cap) wr (uh HT) hlim hlim2).mono ?_
   rintro e w2 ⟨q,z,rfl,hcase,hb2⟩
   have HC:=zh hcase
   have HB2:Hid (Below w.heap.size w w2):=(uh HB).trans (hb2.mono hsz)
   have HP2:=zh ((uh HP).below hb2)
   clear hb2 hcase HB HP HT
   dsimp only
   iterate 13 go_step
   refine Go.Proofs.YtpheelbbpiieiaaGreatDoor.wpList_value rfl (spk_alloc _ _ _ _ _ _) ?_
   simp only[Act.put,List.setIfInBounds_toArray,List.set_cons_zero,List.set_cons_succ]
   refine Go.Proofs.YtpheelbbpiieiaaGreatDoor.wpList_skip rfl (spk_store _ _ _ _ _ _ _ q w2 rfl rfl) ?_
   simp only[Act.put]
   have hal:Below w2.heap.size w2 (w2.alloc (.cells q.cells.toArray 29)):=bal _ _
   have HK3:=zh (pk_new w2 q)
   have HB3:Hid (Below w.heap.size w (w2.alloc (.cells q.cells.toArray 29))):=(uh HB2).trans (hal.mono (uh HB2).size)
   have HP3:=zh ((uh HP2).below hal)
   rcases uh HC with hm | ⟨hm,hz,P,r,hd,hM⟩
   ·have HRR:Hid (SRun lim L Ps cap (snum lim (L.drop cap))):=by
     have k:=(uh HR) [] 0 _ (SRun.stop _ hm)
     show SRun _ _ _ _ _
     simpa using k
    have HMM:=zh hm
    have HNL:Hid (cap<=L.length):=by show _<=_;rw[uh HN];exact hn
    have hne:(snum lim (L.drop cap) != 0)=true:=by simp[hm]
    clear hal hm HC HP2 HB2 HK3 HR
    generalize w2.alloc (.cells q.cells.toArray 29)=w3 at HB3 HP3 |-
    go_wp2
    go_returns
    exact⟨_,cap,qs,Ps,_,rfl,uh HNL,HRR,uh HMM,HP3,uh HB3⟩
   ·have hzz:=snum_meas hm
    rw[List.length_drop,uh HN]at hzz
    omega
  ·have HT:Hid (Byt wr (.slice (some ⟨b,off+n,none⟩) (N - n) (cap - n)) (L.drop n)):=by
    have k:=uh HY
    rw[if_neg hcn]at k
    exact k
   clear HY
   go_wp2_with fail
   refine (pnext_any lim _ (L.drop n) wr (uh HT) hlim hlim2).mono ?_
   rintro e w2 ⟨q,z,rfl,hcase,hb2⟩
   have HC:=zh hcase
   have HB2:Hid (Below w.heap.size w w2):=(uh HB).trans (hb2.mono hsz)
   have HP2:=zh ((uh HP).below hb2)
   have HF:=zh (fun P=>(uh HP).fresh (w2:=w2) q P)
   clear hb2 hcase HB HP HT
   dsimp only
   iterate 13 go_step
   refine Go.Proofs.YtpheelbbpiieiaaGreatDoor.wpList_value rfl (spk_alloc _ _ _ _ _ _) ?_
   simp only[Act.put,List.setIfInBounds_toArray,List.set_cons_zero,List.set_cons_succ]
   refine Go.Proofs.YtpheelbbpiieiaaGreatDoor.wpList_skip rfl (spk_store _ _ _ _ _ _ _ q w2 rfl rfl) ?_
   simp only[Act.put]
   have hal:Below w2.heap.size w2 (w2.alloc (.cells q.cells.toArray 29)):=bal _ _
   have HK3:=zh (pk_new w2 q)
   have HB3:Hid (Below w.heap.size w (w2.alloc (.cells q.cells.toArray 29))):=(uh HB2).trans (hal.mono (uh HB2).size)
   have HP3:=zh ((uh HP2).below hal)
   rcases uh HC with hm | ⟨hm,hz,P,r,hd,hM⟩
   ·have HRR:Hid (SRun lim L Ps n (snum lim (L.drop n))):=by
     have k:=(uh HR) [] 0 _ (SRun.stop _ hm)
     show SRun _ _ _ _ _
     simpa using k
    have HMM:=zh hm
    have HNL:Hid (n<=L.length):=by show _<=_;rw[uh HN];exact hn
    have hne:(snum lim (L.drop n) != 0)=true:=by simp[hm]
    clear hal hm HC HP2 HB2 HK3 HR
    generalize w2.alloc (.cells q.cells.toArray 29)=w3 at HB3 HP3 |-
    go_wp2
    go_returns
    exact⟨_,n,qs,Ps,_,rfl,uh HNL,HRR,uh HMM,HP3,uh HB3⟩
   ·have hzz:=snum_meas hm
    rw[<- hz,List.length_drop,uh HN]at hzz
    have HR2:Hid (∀ Ps' n' e',SRun lim (L.drop (n+z)) Ps' n' e'->SRun lim L ((Ps++[P])++Ps') (n+z+n') e'):=fun Ps' n' e' h=>by
     have k:=(uh HR) (P :: Ps') (z+n') e' (by rw[hz];exact SRun.step _ P r Ps' n' e' hm hd (by rw[<- hz,List.drop_drop];exact h))
     rw[List.append_assoc,Nat.add_assoc]
     exact k
    have HM3:Hid (Mean (w2.alloc (.cells q.cells.toArray 29)) w.heap.size q P):=((uh hM).base hsz).below hal
    have HFR:=zh ((uh HF) P (uh hM))
    have hw2:=(uh HB2).size
    have hw3:w2.heap.size < (w2.alloc (.cells q.cells.toArray 29)).heap.size:=by simp
    have hne:(snum lim (L.drop n) != 0)=false:=by simp[hm]
    clear hm hz hd hM hal HC HP2 HB2 HR HF
    generalize w2.alloc (.cells q.cells.toArray 29)=w3 at HB3 HP3 HM3 HK3 hw3 |-
    go_upto_region 6 with fail
    iterate 4 go_step
    refine wpList_load_mid rfl 29 _ rfl w2.heap.size 0 rfl q.cells _ (uh HK3).range Tryz.underlying29 rfl packet_size ?_
    simp only[Act.put,List.setIfInBounds_toArray,List.set_cons_zero,List.set_cons_succ]
    refine Go.Proofs.YtpheelbbpiieiaaGreatDoor.wpList_value rfl (pk_slice _ _ _ _ _ _ q rfl _) ?_
    simp only[Act.put,List.setIfInBounds_toArray,List.set_cons_zero,List.set_cons_succ]
    have hal:Below w3.heap.size w3 (w3.alloc (.cells q.cells.toArray 29)):=bal _ _
    have HK4:=zh (pk_new w3 q)
    have HB4:Hid (Below w.heap.size w (w3.alloc (.cells q.cells.toArray 29))):=(uh HB3).trans (hal.mono (uh HB3).size)
    have HP4:=zh ((uh HP3).below hal)
    have HM4:=zh ((uh HM3).below hal)
    have hw4:w3.heap.size < (w3.alloc (.cells q.cells.toArray 29)).heap.size:=by simp
    clear hal HK3 HB3 HP3 HM3
    generalize hG:w3.alloc (.cells q.cells.toArray 29)=w4 at HB4 HP4 HM4 HK4 hw4 |-
    clear hG
    refine wpList_append_own _ rfl _ _ 52 rfl w.heap.size 29 i0 _ 19 288 Tryz.underlying52 hi hz0 hz1 hz2 rfl (by decide) u7 qs.length _ rfl (uh HP4).row ⟨w3.heap.size,0,none⟩ 1 1 q.cells rfl rfl (pk_cells (uh HK4)) q.ones (by rw[uh HQ];unfold maxLen;omega) (by rw[uh HQ];omega) (by omega) ?_
    intro v5 w5 hown5 hgrow5 _
    have HP5:=zh ((uh HP4).app (uh HM4) (uh HFR) hgrow5 hown5)
    have HB5:Hid (Below w.heap.size w w5):=(uh HB4).grown hgrow5 (by omega) (fun g hg=>((uh HP4).blk g hg).1)
    have HQ5:Hid ((qs++[q]).length=k+1):=by show _=_;rw[List.length_append,uh HQ];rfl
    clear hown5 hgrow5 HB4 HP4 HM4 HK4 HQ
    simp only[Act.put,List.setIfInBounds_toArray,List.set_cons_zero,List.set_cons_succ]
    go_wp2
    go_roundw
    case rel=>exact⟨_,qs++[q],Ps++[P],k+1,n+z,rfl,by go_num,by omega,by omega,HQ5,HP5,HR2,HB5⟩
    case measure=>simp[intOf];omega
theorem all_nil (lim:Int) (w:World) (hlim:2<=lim) (hlim2:lim<=65536) :
  Calls Tryz.prog 18 #[.slice none 0 0,.int .i64 lim] w (AllPost lim [] w):=by
 have HY:Hid (Byt w (.slice none 0 0) []):=⟨none,0,rfl,by simp,fun j=>by simp,.inl rfl⟩
 obtain⟨L,hL⟩:∃ L:List Int,L=[]:=⟨_,rfl⟩
 rw[<- hL]at HY |-
 have HSN:Hid (snum lim L=3):=by rw[hL];exact snum_nil lim hlim
 clear hL
 go_enter Tryz.func18,Tryz.ntmps18
 go_wp2
 refine wp_loop_rounds 1 ?_
 rw[rounds_succ]
 go_wp2_with fail
 refine (pnext_any lim _ L w (uh HY) hlim hlim2).mono ?_
 rintro e w2 ⟨q,z,rfl,hcase,hb2⟩
 have HC:=zh hcase
 clear hcase
 dsimp only
 iterate 13 go_step
 refine Go.Proofs.YtpheelbbpiieiaaGreatDoor.wpList_value rfl (spk_alloc _ _ _ _ _ _) ?_
 simp only[Act.put,List.setIfInBounds_toArray,List.set_cons_zero,List.set_cons_succ]
 refine Go.Proofs.YtpheelbbpiieiaaGreatDoor.wpList_skip rfl (spk_store _ _ _ _ _ _ _ q w2 rfl rfl) ?_
 simp only[Act.put]
 have hal:Below w2.heap.size w2 (w2.alloc (.cells q.cells.toArray 29)):=bal _ _
 have HB3:Hid (Below w.heap.size w (w2.alloc (.cells q.cells.toArray 29))):=hb2.trans (hal.mono hb2.size)
 rcases uh HC with hm | ⟨hm,_⟩
 ·have HRR:Hid (SRun lim L [] 0 (snum lim L)):=SRun.stop _ hm
  have HMM:=zh hm
  have hne:(snum lim L != 0)=true:=by simp[hm]
  clear hal hm HC hb2
  generalize w2.alloc (.cells q.cells.toArray 29)=w3 at HB3 |-
  go_wp2
  go_returns
  exact⟨_,0,[],[],_,rfl,Nat.zero_le _,HRR,uh HMM,Pks.nil _ _,uh HB3⟩
 ·rw[uh HSN]at hm
  exact absurd hm (by decide)
theorem pall_any (lim:Int) (hv:Value) (L:List Int) (w:World) (B:Nat) (hr:w.ownsRow B 5 1 hv L.length (L.map (Value.int .u8))) (rng:∀ j,0<=L.getD j 0/\L.getD j 0<=255) (hlim:2<=lim) (hlim2:lim<=65536) (hLN:L.length<=1073741824) :
  Calls Tryz.prog 18 #[hv,.int .i64 lim] w (AllPost lim L w):=by
 have hy:=byt_of_owns hr rng
 rcases hr.2 with⟨rfl,h0⟩ | ⟨g,cap,cur,rfl,_⟩
 ·obtain rfl:L=[]:=List.length_eq_zero_iff.1 h0
  exact all_nil lim w hlim hlim2
 ·exact all_own lim g 0 cap L w hy hlim hlim2 hLN
theorem wpList_append_run (w:World) {ops:Array Oper} {rest:List Oper} {o:Oper} {a:Act} {Q:Exit->Act->World->Prop} {Z:Value->World->Prop} (hgd:o.guard=none) (s x:Operand) (t u:TypeId)
  (ho:o.op=.call { callee:=.builtin .append,args:=#[s,x],argTypes:=#[t,u] }) (v vx:Value) (hs:a.eval s=v) (hx:a.eval x=vx)
  (hr:∃ v' w',(Builtin.append_ #[t,u] o.type #[v,vx]).run Tryz.prog w=.ok v' w'/\Z v' w')
  (h:∀ v' w',Z v' w'->wpList Tryz.prog ops Q rest (a.put o.dst v') w'):wpList Tryz.prog ops Q (o :: rest) a w:=by
 refine wpList_plain hgd fun K hK=>?_
 obtain⟨v',w',hr,h2⟩:=hr
 unfold Oper.wp execOp
 simp only[ho,resolve,invoke,builtin,Sem.run_bind,Sem.run_pure,Result.andThen_ok,List.map_toArray,List.map_cons,List.map_nil,hs,hx,hr]
 exact hK _ _ (h v' w' h2)
structure SF (B:Nat) (T:Nat->TypeId->Prop) (w w':World):Prop where
 os:w'.os=w.os
 tape:w'.tape=w.tape
 output:w'.output=w.output
 size:w.heap.size<=w'.heap.size
 low:∀ k:Nat,k < B->w'.heap[k]?=w.heap[k]?
 same:∀ (k:Nat) (cur:Array Value) (e:TypeId),w.heap[k]?=some (Obj.cells cur e (0,0))->¬ T k e->w'.heap[k]?=some (Obj.cells cur e (0,0))
 shp:∀ (k:Nat) (cur:Array Value) (e:TypeId),w.heap[k]?=some (Obj.cells cur e (0,0))->∃ cur',w'.heap[k]?=some (Obj.cells cur' e (0,0))/\cur'.size=cur.size
theorem SF.refl (B:Nat) (T:Nat->TypeId->Prop) (w:World):SF B T w w:=⟨rfl,rfl,rfl,Nat.le_refl _,fun _ _=>rfl,fun _ _ _ h _=>h,fun _ cur _ h=>⟨cur,h,rfl⟩⟩
theorem SF.trans {B:Nat} {T:Nat->TypeId->Prop} {a b c:World} (h:SF B T a b) (k:SF B T b c):SF B T a c :=
 ⟨k.os.trans h.os,k.tape.trans h.tape,k.output.trans h.output,Nat.le_trans h.size k.size,fun i hi=>(k.low i hi).trans (h.low i hi),fun i cur e h1 h2=>k.same i cur e (h.same i cur e h1 h2) h2,fun i cur e h1=>by
  obtain⟨cur1,h2,h3⟩:=h.shp i cur e h1
  obtain⟨cur2,h4,h5⟩:=k.shp i cur1 e h2
  exact⟨cur2,h4,h5.trans h3⟩⟩
theorem SF.weak {B:Nat} {T T':Nat->TypeId->Prop} {a b:World} (h:SF B T a b) (ht:∀ k e,T k e->T' k e):SF B T' a b:=⟨h.os,h.tape,h.output,h.size,h.low,fun k cur e h1 h2=>h.same k cur e h1 (fun x=>h2 (ht k e x)),h.shp⟩
theorem SF.below {B:Nat} {T:Nat->TypeId->Prop} {a b:World} (h:SF B T a b):Below B a b:=⟨h.os,h.tape,h.output,h.size,h.low⟩
theorem SF.grow {B:Nat} {T:Nat->TypeId->Prop} {a b:World} (hs:b.heap.size ≥ a.heap.size) (h1:b.os=a.os) (h2:b.tape=a.tape) (h3:b.output=a.output) (hB:B<=a.heap.size) (h:∀ k,k < a.heap.size->b.heap[k]?=a.heap[k]?):SF B T a b :=
 ⟨h1,h2,h3,hs,fun k hk=>h k (by omega),fun k cur e hk _=>(h k (Array.getElem?_eq_some_iff.1 hk).1).trans hk,fun k cur e hk=>⟨cur,(h k (Array.getElem?_eq_some_iff.1 hk).1).trans hk,rfl⟩⟩
theorem SF.bel {B:Nat} {T:Nat->TypeId->Prop} {a b:World} (h:Below a.heap.size a b) (hB:B<=a.heap.size):SF B T a b:=SF.grow h.size h.os h.tape h.output hB h.block
theorem SF.set {B:Nat} {T:Nat->TypeId->Prop} {a b:World} (h:SF B T a b) (g j:Nat) (u:Value) (hg:B<=g) (cur:Array Value) (e:TypeId) (hb:b.heap[g]?=some (Obj.cells cur e (0,0))) (ht:T g e):SF B T a (b.setCell ⟨g,j,none⟩ u) :=
 h.trans ⟨rfl,rfl,rfl,by simp[World.setCell],fun k hk=>Below.heap_setCell _ _ _ _ (by show k≠g;omega),fun k cur' e' h1 h2=>by
  by_cases hk:k=g
  ·subst hk
   rw[hb]at h1
   cases h1
   exact absurd ht h2
  ·exact (Below.heap_setCell _ _ _ _ hk).trans h1,fun k cur' e' h1=>by
  by_cases hk:k=g
  ·subst hk
   refine⟨cur'.setIfInBounds j u,?_,by simp⟩
   unfold World.setCell
   simp[Array.getElem?_modify,h1]
  ·exact⟨cur',(Below.heap_setCell _ _ _ _ hk).trans h1,rfl⟩⟩
def OwnE (w:World) (B:Nat) (e:TypeId) (s:Nat) (v:Value) (n:Nat):Prop:=∃ xs,w.ownsRow B e s v n xs
theorem OwnE.sf {w w':World} {B:Nat} {e:TypeId} {s:Nat} {v:Value} {n:Nat} {T:Nat->TypeId->Prop} (h:OwnE w B e s v n) (k:SF B T w w'):OwnE w' B e s v n:=by
 obtain⟨xs,h1,h2⟩:=h
 rcases h2 with h2 | ⟨g,cap,cur,rfl,hB,hg,h3,h4,h5,h6⟩
 ·exact⟨xs,h1,.inl h2⟩
 ·obtain⟨cur',k1,k2⟩:=k.shp g cur e hg
  refine⟨cur'.toList.take (n * s),?_,.inr ⟨g,cap,cur',rfl,hB,k1,h3,h4,k2.trans h5,rfl⟩⟩
  rw[List.length_take,Array.length_toList,k2,h5]
  exact Nat.min_eq_left (Nat.mul_le_mul_right _ h3)
theorem owns_sf {w w':World} {B:Nat} {e:TypeId} {s:Nat} {v:Value} {n:Nat} {xs:List Value} {T:Nat->TypeId->Prop} (h:w.ownsRow B e s v n xs) (k:SF B T w w') (ht:∀ g,v.ownBlock=some g->¬ T g e):w'.ownsRow B e s v n xs:=by
 refine⟨h.1,?_⟩
 rcases h.2 with h2 | ⟨g,cap,cur,rfl,hB,hg,rest⟩
 ·exact .inl h2
 ·exact .inr ⟨g,cap,cur,rfl,hB,k.same g cur e hg (ht g rfl),rest⟩
theorem OwnE.cell {w:World} {B:Nat} {e:TypeId} {s g n cap:Nat} (h:OwnE w B e s (.slice (some ⟨g,0,none⟩) n cap) n) (i:Nat) (hi:i < n * s):(∃ v,w.cell? ⟨g,i,none⟩=some v)/\w.frozen? ⟨g,i,none⟩=false:=by
 obtain⟨xs,h⟩:=h
 have hl:xs.length=n * s:=h.1
 exact⟨⟨_,by rw[h.cellAt i (by omega),List.getElem?_eq_getElem (by omega)]⟩,h.frozenAt i⟩
theorem OwnE.blk {w:World} {B:Nat} {e:TypeId} {s g n cap:Nat} (h:OwnE w B e s (.slice (some ⟨g,0,none⟩) n cap) n):B<=g/\∃ cur,w.heap[g]?=some (Obj.cells cur e (0,0)):=by
 obtain⟨xs,h1,h2⟩:=h
 rcases h2 with⟨h2,_⟩ | ⟨g',cap',cur,e',hB,hg,_⟩
 ·cases h2
 ·cases e'
  exact⟨hB,cur,hg⟩
theorem app_sf {B:Nat} {T:Nat->TypeId->Prop} (w:World) (t ty e:TypeId) (i:TypeInfo) (z:Value) (size bytes:Nat) (ht:Tryz.prog.underlying t=some (.slice e)) (hi:Tryz.prog.info? e=some i) (hz:i.zero=some z) (hsize:i.size=size) (hby:i.bytes=bytes) (hzs:z.cells.size=size) (hsz:0 < size)
  (v:Value) (n:Nat) (hown:OwnE w B e size v n) (a:Addr) (c:Nat) (news:List Value) (hl:news.length=1 * size) (hnews:∀ j u,news[j]?=some u->w.cell? (a.add j)=some u) (h1:∀ u ∈ news,u.oneCell'=true) (hn:n<=1000000) (hb:bytes<=1000) (hB:B<=w.heap.size) (hT:∀ g,v.ownBlock=some g->T g e) :
  ∃ v' w',(Builtin.append_ #[t,t] ty #[v,.slice (some a) 1 c]).run Tryz.prog w=.ok v' w'/\SF B T w w':=by
 subst hsize
 subst hby
 have hbytes:(n+1) * i.bytes<=140737488355328:=Nat.le_trans (Nat.mul_le_mul (show n+1<=1000001 by omega) hb) (by decide)
 obtain⟨xs,hown⟩:=hown
 rcases hown.2 with⟨rfl,rfl⟩ | ⟨g,cap,cur,rfl,hbg,hg,hnc,hcm,hcs,htake⟩
 ·obtain⟨v',w',k1,k2,k3,_⟩:=run_append_own (P:=Tryz.prog) (w:=w) B t ty e i z i.size i.bytes ht hi hz rfl rfl hzs hsz _ 0 xs hown a 1 c news hl hnews h1 (by unfold maxLen;omega) hbytes hB
  exact⟨v',w',k1,SF.grow k3.size k3.os k3.tape k3.output hB (fun k hk=>k3.block k hk (by simp[Value.ownBlock]))⟩
 ·by_cases hroom:n+1<=cap
  ·have hfit:n * i.size+news.length<=cur.size:=by rw[hl,hcs,<- Nat.add_mul];exact Nat.mul_le_mul_right _ hroom
   have hr:=run_append_room (P:=Tryz.prog) w t ty e i ht hi g n cap cur hg a 1 c news hl hnews h1 hroom hfit
   refine⟨_,_,hr,⟨rfl,rfl,rfl,by simp,fun k hk=>setRow_other w g k _ (by omega),fun k cur' e' h3 h4=>?_,fun k cur' e' h3=>?_⟩⟩
   ·by_cases hk:k=g
    ·subst hk
     rw[hg]at h3
     cases h3
     exact absurd (hT _ rfl) h4
    ·exact (setRow_other w g k _ hk).trans h3
   ·by_cases hk:k=g
    ·subst hk
     rw[hg]at h3
     cases h3
     refine⟨_,setRow_heap w k cur _ e _ hg,?_⟩
     simp only[List.size_toArray,List.length_append,List.length_take,List.length_drop,Array.length_toList]
     omega
    ·exact⟨cur',(setRow_other w g k _ hk).trans h3,rfl⟩
  ·have holds:∀ j u,xs[j]?=some u->w.cell? ((⟨g,0,none⟩:Addr).add j)=some u:=hown.cells (g:=g) rfl
   have hr:=run_append_grow (P:=Tryz.prog) w t ty e i z ht hi hz ⟨g,0,none⟩ n cap xs hown.1 holds a 1 c news hl hnews (by omega) (by omega) (growslice_fits (by omega) hbytes)
   exact⟨_,_,hr,SF.grow (by simp) rfl rfl rfl hB (fun k hk=>heap_alloc_old w.drew _ hk)⟩
end Go.Proofs.YtpheelbbpiieiaaGreatDoor.K
