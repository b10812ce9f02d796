/- Proved here: helpers, one text behind the other. -/
import Derived.Test.YtpheelbbpiieiaaGreatDoorZC30
import Derived.Test.YtpheelbbpiieiaaGreatDoorZC6
set_option maxHeartbeats 20000000
namespace Go.Proofs.YtpheelbbpiieiaaGreatDoor.K
open Go.RowKit
theorem bind_inv {α β:Type} {f:List Int->Option (α×List Int)} {g:α->List Int->Option (β×List Int)} {l l':List Int} {y:β} (h:bindR f g l=some (y,l')):∃ x l1,f l=some (x,l1)/\g x l1=some (y,l'):=by
 unfold bindR at h
 cases hf:f l with
 | none=>rw[hf]at h;cases h
 | some r=>rw[hf]at h;exact⟨r.1,r.2,rfl,h⟩
theorem pure_inv {α:Type} {x y:α} {l l':List Int} (h:pureR x l=some (y,l')):y=x:=by
 unfold pureR at h
 cases h
 rfl
theorem must_inv {b:Bool} {l l':List Int} {u:Unit} (h:mustR b l=some (u,l')):b=true:=by
 unfold mustR at h
 cases b
 ·cases h
 ·rfl
theorem props_len {k:Int} {l l':List Int} {x:List Pr} (h:props? k l=some (x,l')):x.length<=32:=by
 unfold props? at h
 split at h
 next h0 =>
  simp only[Option.some.injEq,Prod.mk.injEq]at h
  obtain⟨rfl,_⟩:=h
  unfold plist
  rw[if_pos h0]
  cases hp:parse (pbd l) with
  | none=>simp
  | some q =>
   show q.length<=32
   unfold pgt at h0
   split at h0
   ·contradiction
   ·split at h0
    ·cases h0
    ·rw[rdn_some k _ q hp]at h0
     unfold chkP at h0
     split at h0
     ·split at h0
      ·assumption
      ·cases h0
     ·cases h0
 next=>cases h
theorem reason_len {k:Int} {l l':List Int} {r:Int×List Pr} (h:reason? k l=some (r,l')):r.2.length<=32:=by
 unfold reason? at h
 cases l with
 | nil=>cases h;simp
 | cons c t =>
  simp only at h
  split at h
  ·cases h;simp
  ·cases hp:props? k t with
   | none=>rw[hp]at h;cases h
   | some q =>
    rw[hp]at h
    simp only[Option.map_some,Option.some.injEq,Prod.mk.injEq]at h
    obtain⟨rfl,_⟩:=h
    obtain⟨q1,q2⟩:=q
    exact props_len hp
theorem list_len {α:Type} {f:List Int->Option (α×List Int)} {l l':List Int} {d:List α} (h:list? f l=some (d,l')):d.length<=16:=by
 unfold list? at h
 obtain⟨x,l1,_,h⟩:=bind_inv h
 obtain⟨_,l2,h1,h⟩:=bind_inv h
 have e:=must_inv h1
 obtain rfl:=pure_inv h
 unfold mc at e
 simp only[Bool.and_eq_true,decide_eq_true_eq]at e
 omega
theorem opt_len {α:Type} (o:Option α):o.toList.length<=1:=by cases o <;> simp
theorem body_lts {k:Int} {d:Bool} {q:Int} {r:Bool} {l l':List Int} {P:Pa} (h:body? (pa0 k d q r) l=some (P,l')):Lts P:=by
 unfold body? at h
 by_cases h20:(pa0 k d q r).kind=1
 ·rw[if_pos h20]at h
  obtain⟨n,l1,h1,h⟩:=bind_inv h
  obtain rfl:=pure_inv h
  unfold connect? at h1
  obtain⟨_,_,_,h1⟩:=bind_inv h1
  obtain⟨_,_,_,h1⟩:=bind_inv h1
  obtain⟨_,_,_,h1⟩:=bind_inv h1
  obtain⟨_,_,_,h1⟩:=bind_inv h1
  obtain⟨x,_,_,h1⟩:=bind_inv h1
  obtain⟨kk,_,_,h1⟩:=bind_inv h1
  obtain⟨pr,_,hpr,h1⟩:=bind_inv h1
  obtain⟨c,_,_,h1⟩:=bind_inv h1
  obtain⟨wl,_,hwl,h1⟩:=bind_inv h1
  obtain⟨us,_,_,h1⟩:=bind_inv h1
  obtain⟨pa,_,_,h1⟩:=bind_inv h1
  obtain rfl:=pure_inv h1
  refine⟨props_len hpr,?_,?_,opt_len _,opt_len _,by simp[ofCn,pa0],by simp[ofCn,pa0],by simp[ofCn,pa0]⟩
  ·show (wlOf x wl).length<=1
   unfold wlOf
   split <;> simp
  ·intro u hu
   replace hu:u ∈ wlOf x wl:=hu
   unfold will? at hwl
   by_cases h4:btest x 4=true
   ·rw[if_pos h4]at hwl
    obtain⟨q2,_,hq,hwl⟩:=bind_inv hwl
    obtain⟨t,_,_,hwl⟩:=bind_inv hwl
    obtain⟨y,_,_,hwl⟩:=bind_inv hwl
    obtain rfl:=pure_inv hwl
    simp[wlOf]at hu
    subst hu
    exact props_len hq
   ·rw[if_neg h4]at hwl
    obtain rfl:=pure_inv hwl
    simp[wlOf]at hu
 ·rw[if_neg h20]at h
  by_cases h21:(pa0 k d q r).kind=2
  ·rw[if_pos h21]at h
   obtain⟨f,_,_,h⟩:=bind_inv h
   obtain⟨_,_,_,h⟩:=bind_inv h
   obtain⟨c,_,_,h⟩:=bind_inv h
   obtain⟨x,_,hx,h⟩:=bind_inv h
   obtain rfl:=pure_inv h
   exact⟨props_len hx,by simp[pa0],by simp[pa0],by simp[pa0],by simp[pa0],by simp[pa0],by simp[pa0],by simp[pa0]⟩
  ·rw[if_neg h21]at h
   by_cases h22:(pa0 k d q r).kind=3
   ·rw[if_pos h22]at h
    obtain⟨r',_,h1,h⟩:=bind_inv h
    obtain rfl:=pure_inv h
    unfold publish? at h1
    obtain⟨t,_,_,h1⟩:=bind_inv h1
    obtain⟨i,_,_,h1⟩:=bind_inv h1
    obtain⟨x,_,hx,h1⟩:=bind_inv h1
    obtain⟨y,_,_,h1⟩:=bind_inv h1
    obtain rfl:=pure_inv h1
    exact⟨props_len hx,by simp[pa0],by simp[pa0],by simp[pa0],by simp[pa0],by simp[pa0],by simp[pa0],by simp[pa0]⟩
   ·rw[if_neg h22]at h
    by_cases h23:(pa0 k d q r).kind=8
    ·rw[if_pos h23]at h
     obtain⟨i,_,_,h⟩:=bind_inv h
     obtain⟨x,_,hx,h⟩:=bind_inv h
     obtain⟨dd,_,hd,h⟩:=bind_inv h
     obtain rfl:=pure_inv h
     exact⟨props_len hx,by simp[pa0],by simp[pa0],by simp[pa0],by simp[pa0],list_len hd,by simp[pa0],by simp[pa0]⟩
    ·rw[if_neg h23]at h
     by_cases h24:(pa0 k d q r).kind=10
     ·rw[if_pos h24]at h
      obtain⟨i,_,_,h⟩:=bind_inv h
      obtain⟨x,_,hx,h⟩:=bind_inv h
      obtain⟨dd,_,hd,h⟩:=bind_inv h
      obtain rfl:=pure_inv h
      exact⟨props_len hx,by simp[pa0],by simp[pa0],by simp[pa0],by simp[pa0],by simp[pa0],list_len hd,by simp[pa0]⟩
     ·rw[if_neg h24]at h
      by_cases h25:(pa0 k d q r).kind=9\/(pa0 k d q r).kind=11
      ·rw[if_pos h25]at h
       obtain⟨i,_,_,h⟩:=bind_inv h
       obtain⟨x,_,hx,h⟩:=bind_inv h
       obtain⟨dd,_,hd,h⟩:=bind_inv h
       obtain rfl:=pure_inv h
       exact⟨props_len hx,by simp[pa0],by simp[pa0],by simp[pa0],by simp[pa0],by simp[pa0],by simp[pa0],list_len hd⟩
      ·rw[if_neg h25]at h
       by_cases h26:(pa0 k d q r).kind=4\/(pa0 k d q r).kind=5\/(pa0 k d q r).kind=6\/(pa0 k d q r).kind=7
       ·rw[if_pos h26]at h
        obtain⟨i,_,_,h⟩:=bind_inv h
        obtain⟨r',_,hr,h⟩:=bind_inv h
        obtain rfl:=pure_inv h
        exact⟨reason_len hr,by simp[pa0],by simp[pa0],by simp[pa0],by simp[pa0],by simp[pa0],by simp[pa0],by simp[pa0]⟩
       ·rw[if_neg h26]at h
        by_cases h27:(pa0 k d q r).kind=14\/(pa0 k d q r).kind=15
        ·rw[if_pos h27]at h
         obtain⟨r',_,hr,h⟩:=bind_inv h
         obtain rfl:=pure_inv h
         exact⟨reason_len hr,by simp[pa0],by simp[pa0],by simp[pa0],by simp[pa0],by simp[pa0],by simp[pa0],by simp[pa0]⟩
        ·rw[if_neg h27]at h
         obtain rfl:=pure_inv h
         exact⟨by simp[pa0],by simp[pa0],by simp[pa0],by simp[pa0],by simp[pa0],by simp[pa0],by simp[pa0],by simp[pa0]⟩
theorem dbody_lts {l l':List Int} {P:Pa} (h:dbody l=some (P,l')):Lts P:=by
 unfold dbody packet? at h
 obtain⟨P',_,h1,h⟩:=bind_inv h
 obtain⟨_,_,_,h⟩:=bind_inv h
 obtain rfl:=pure_inv h
 unfold bpa at h1
 split at h1
 ·exact body_lts h1
 ·exact body_lts h1
set_option maxRecDepth 100000
structure GW extends World where
 N:Nat
instance :Coe GW World:=⟨GW.toWorld⟩
def RPc (w:World) (R:Nat) (ao:Option Addr) (n cap k:Nat) (bad:Bool):Prop :=
 w.cell? ⟨R,0,none⟩=some (.slice ao n cap)/\(w.cell? ⟨R,1,none⟩=some (.int .i64 k)/\w.frozen? ⟨R,1,none⟩=false)/\w.cell? ⟨R,2,none⟩=some (.bool bad)/\w.frozen? ⟨R,2,none⟩=false
def RP (w0:GW) (w:World) (R:Nat) (st:Option (List Int)):Prop :=
 ∃ ao n cap k bad L,RPc w R ao n cap k bad/\Byt w0 (.slice ao n cap) L/\k<=n/\(n<=140737488355328/\Hid (n=w0.N))/\Below w0.heap.size w0 w/\w0.heap.size<=R/\st=if bad then none else some (L.drop k)
theorem RPc.setBad {w:World} {R:Nat} {ao:Option Addr} {n cap k:Nat} {bad:Bool} (h:RPc w R ao n cap k bad) (b:Bool):RPc (w.setCell ⟨R,2,none⟩ (.bool b)) R ao n cap k b:=by
 obtain⟨h1,⟨h2,h3⟩,h4,h5⟩:=h
 exact⟨(World.cell?_setCell_other _ _ _ _ (by intro e;simp at e)).trans h1,⟨(World.cell?_setCell_other _ _ _ _ (by intro e;simp at e)).trans h2,by simpa using h3⟩,World.cell?_setCell_same _ _ _ h4,by simpa using h5⟩
theorem RPc.setAt {w:World} {R:Nat} {ao:Option Addr} {n cap k:Nat} {bad:Bool} (h:RPc w R ao n cap k bad) (j:Nat):RPc (w.setCell ⟨R,1,none⟩ (.int .i64 j)) R ao n cap j bad:=by
 obtain⟨h1,⟨h2,h3⟩,h4,h5⟩:=h
 exact⟨(World.cell?_setCell_other _ _ _ _ (by intro e;simp at e)).trans h1,⟨World.cell?_setCell_same _ _ _ h2,by simpa using h3⟩,(World.cell?_setCell_other _ _ _ _ (by intro e;simp at e)).trans h4,by simpa using h5⟩
theorem RPc.lt {w:World} {R:Nat} {ao:Option Addr} {n cap k:Nat} {bad:Bool} (h:RPc w R ao n cap k bad):R < w.heap.size:=cell_lt h.1
theorem RPc.far {w w':World} {R:Nat} {ao:Option Addr} {n cap k:Nat} {bad:Bool} (h:RPc w R ao n cap k bad) (hb:w'.heap[R]?=w.heap[R]?):RPc w' R ao n cap k bad:=by
 obtain⟨h1,⟨h2,h3⟩,h4,h5⟩:=h
 exact⟨(World.cell?_of_block (a:=⟨R,0,none⟩) hb).trans h1,⟨(World.cell?_of_block (a:=⟨R,1,none⟩) hb).trans h2,(World.frozen?_of_block (a:=⟨R,1,none⟩) hb).trans h3⟩,(World.cell?_of_block (a:=⟨R,2,none⟩) hb).trans h4,(World.frozen?_of_block (a:=⟨R,2,none⟩) hb).trans h5⟩
theorem RP.lt {w0:GW} {w:World} {R:Nat} {st:Option (List Int)} (h:RP w0 w R st):R < w.heap.size:=by
 obtain⟨_,_,_,_,_,_,h,_⟩:=h
 exact h.lt
theorem RP.below {w0:GW} {w w':World} {R:Nat} {st:Option (List Int)} (h:RP w0 w R st) (hb:Below w.heap.size w w'):RP w0 w' R st:=by
 obtain⟨ao,n,cap,k,bad,L,hc,hy,hk,hn,hw,hR,hst⟩:=h
 exact⟨ao,n,cap,k,bad,L,hc.far (hb.block R hc.lt),hy,hk,hn,hw.trans (hb.mono hw.size),hR,hst⟩
theorem byt_len {w:World} {ao:Option Addr} {n cap:Nat} {L:List Int} (h:Byt w (.slice ao n cap) L):L.length=n/\n<=cap/\cap<=maxLen:=by
 obtain⟨ao',cap',e,k1,k2⟩:=h.form
 simp only[Value.slice.injEq]at e
 obtain⟨_,rfl,rfl⟩:=e
 exact⟨rfl,k1,k2⟩
theorem byt_at {w:World} {ao:Option Addr} {n cap:Nat} {L:List Int} (h:Byt w (.slice ao n cap) L) (k:Nat) (hk:k < n):∃ b off,ao=some ⟨b,off,none⟩/\w.cell? ⟨b,off+k,none⟩=some (.int .u8 (L.getD k 0)):=by
 have hl:=(byt_len h).1
 obtain⟨ao',cap',e,_,_,hcase⟩:=h
 simp only[Value.slice.injEq]at e
 obtain⟨rfl,_,rfl⟩:=e
 rcases hcase with rfl | ⟨b,off,e2,hc⟩
 ·simp at hl;omega
 ·exact⟨b,off,e2,hc k (by omega)⟩
def PgI (w0:GW) (R hi:Nat) (f:List Int->Option (Int×List Int)) (st:Option (List Int)) (w:World) (e:Ending) (w':World):Prop :=
 ∃ x st',e=.returned (.int .i64 x)/\(0<=x/\x<=hi)/\Stp f st x st'/\RP w0 w' R st'/\BX R isAny w w'
theorem drop_cons (L:List Int) (k:Nat) (hk:k < L.length):L.drop k=L.getD k 0 :: L.drop (k+1):=by
 rw[List.drop_eq_getElem_cons hk,List.getD_eq_getElem?_getD,List.getElem?_eq_getElem hk]
 rfl
theorem byte_pg (R:Nat) (st:Option (List Int)) (w0:GW) (w:World) (h:RP w0 w R st):Calls Tryz.prog 62 #[.pointer (some ⟨R,0,none⟩)] w (PgI w0 R 255 one? st w):=by
 obtain⟨ao,n,cap,k,bad,L,hc,hy,hk,hn,hw,hR,hst⟩:=h
 obtain⟨hl,hc1,hc2⟩:=byt_len hy
 unfold maxLen at hc2
 have HC:=zh hc
 have HY:=zh hy
 have HW:=zh hw
 have HST:=zh hst
 have HD:=zh (bel_drew w)
 have hlt:=hc.lt
 obtain⟨h0,⟨h1,f1⟩,h2,f2⟩:=hc
 have hr:=hy.range
 have hat:=byt_at hy
 have HL:=zh hl
 clear hy hw hst hl
 cases bad
 ·by_cases hkn:k=n
  ·subst hkn
   clear hr hat
   have hkk:((k:Int) == (k:Int))=true:=by simp
   go_enter Tryz.func62,Tryz.ntmps62
   go_wp2_with fail
   refine wp_region_noPanic ?_
   refine wp_region_held_drew (S:=(fun w'=>w'.cell? ⟨R,0,none⟩=some (.slice ao k cap)/\w'.cell? ⟨R,1,none⟩=some (.int .i64 (k:Nat))/\w'.cell? ⟨R,2,none⟩=some (.bool false))) (by kernel_rfl) ⟨by simpa using h0,by simpa using h1,by simpa using h2⟩ (fun hHeld=>?_)
   refine rtk 0 (h:=?_)
   refine rtk 1 (h:=?_)
   refine rtk 2 (h:=?_)
   refine rtk 3 (h:=?_)
   refine rtk 4 (h:=?_)
   refine rtk 5 (h:=?_)
   refine rtk 6 (h:=?_)
   refine rtk 7 (h:=?_)
   refine rtk 8 (h:=?_)
   refine rtk 9 (h:=?_)
   refine rtk 10 (h:=?_)
   refine rtk 11 (h:=?_)
   refine rtk 12 (h:=?_)
   refine rtk 13 (h:=?_)
   refine rtk 14 (h:=?_)
   refine rtk 15 (h:=?_)
   refine wpAnyH_done (by kernel_rfl) ?_ _
   refine NoPanic.normal ?_
   go_wp2
   go_ret
   have hx:BX R isAny w (w.drew.setCell ⟨R,2,none⟩ (.bool true)):=(BX.of_below (uh HD) hlt).set 2 _ trivial
   refine⟨0,none,rfl,by omega,?_,⟨ao,k,cap,k,true,L,((uh HC).far rfl).setBad true,uh HY,Nat.le_refl _,hn,hx.keep (uh HW) hR,hR,rfl⟩,hx⟩
   have est:st=some (L.drop k):=uh HST
   rw[est]
   have e:L.drop k=[]:=List.drop_of_length_le (by rw[uh HL];exact Nat.le_refl _)
   rw[e]
   rfl
  ·have hkl:k < n:=by omega
   obtain⟨b,off,rfl,hcell⟩:=hat k hkl
   have hcw:w.cell? ⟨b,off+k,none⟩=some (.int .u8 (L.getD k 0)):=((uh HW).cell (p:=⟨b,off+k,none⟩) (cell_lt hcell)).trans hcell
   have hbR:b≠R:=fun e=>by have:=cell_lt hcell;simp only at this;omega
   have hv:=hr k
   have HDC:=zh (drop_cons L k (by rw[uh HL];exact hkl))
   have hkk:((k:Int) == (n:Int))=false:=by simp;omega
   have hwk:IntKind.i64.wrap (k:Int)=k:=by rw[IntKind.wrap_i64];omega
   clear hr hat hcell
   generalize L.getD k 0=v at hcw hv HDC
   have hwv:IntKind.i64.wrap v=v:=by rw[IntKind.wrap_i64];omega
   go_enter Tryz.func62,Tryz.ntmps62
   go_wp2_with fail
   refine wp_region_noPanic ?_
   refine wp_region_held_drew (S:=(fun w'=>w'.cell? ⟨R,0,none⟩=some (.slice (some ⟨b,off,none⟩) n cap)/\w'.cell? ⟨R,1,none⟩=some (.int .i64 (k:Nat))/\w'.cell? ⟨R,2,none⟩=some (.bool false))) (by kernel_rfl) ⟨by simpa using h0,by simpa using h1,by simpa using h2⟩ (fun hHeld=>?_)
   refine rtk 0 (h:=?_)
   refine rtk 1 (h:=?_)
   refine rtk 2 (h:=?_)
   refine rtk 3 (h:=?_)
   refine rtk 4 (h:=?_)
   refine rtk 5 (h:=?_)
   refine rtk 6 (h:=?_)
   refine rtk 7 (h:=?_)
   refine rtk 8 (h:=?_)
   refine rtk 9 (h:=?_)
   refine rtk 10 (h:=?_)
   refine rtk 11 (h:=?_)
   refine rtk 12 (h:=?_)
   refine rtk 13 (h:=?_)
   refine rtk 14 (h:=?_)
   refine rtk 15 (h:=?_)
   refine wpAnyH_done (by kernel_rfl) ?_ _
   refine NoPanic.normal ?_
   go_wp2_with fail
   refine wp_region_noPanic ?_
   refine wp_region_held_drew (S:=(fun w'=>w'.cell? ⟨R,0,none⟩=some (.slice (some ⟨b,off,none⟩) n cap)/\w'.cell? ⟨R,1,none⟩=some (.int .i64 (k+1:Nat))/\w'.cell? ⟨b,off+k,none⟩=some (.int .u8 v))) (by kernel_rfl) ⟨by simp (maxDischargeDepth:=12) [cell_set,h0],by simp (maxDischargeDepth:=12) [cell_set,h1],by simp (maxDischargeDepth:=12) [cell_set,hcw]⟩ (fun hHeld=>?_)
   refine rtk 0 (h:=?_)
   refine rtk 1 (h:=?_)
   refine rtk 2 (h:=?_)
   refine rtk 3 (h:=?_)
   refine rtk 4 (h:=?_)
   refine rtk 5 (h:=?_)
   refine rtk 6 (h:=?_)
   refine rtk 7 (h:=?_)
   refine rtk 8 (h:=?_)
   refine rtk 9 (h:=?_)
   refine rtk 10 (h:=?_)
   refine rtk 11 (h:=?_)
   refine rcl 12 (h:=fun K hK=>?_)
   go_simp
   refine hK.out _ _ ⟨by simp (maxDischargeDepth:=12) [cell_set,h0],by simp (maxDischargeDepth:=12) [cell_set,h1],by simp (maxDischargeDepth:=12) [cell_set,hcw]⟩ (fun hHeld=>?_)
   clear hK K
   refine wpAnyH_done (by kernel_rfl) ?_ _
   refine NoPanic.normal ?_
   go_wp2
   go_ret
   have hx:BX R isAny w ((w.drew.setCell ⟨R,1,none⟩ (.int .i64 (k+1:Nat))).drew):=((BX.of_below (uh HD) hlt).set 1 _ trivial).trans (BX.of_below (bel_drew _) (by simpa [World.setCell] using hlt))
   have HC2:=((((uh HC).far (w':=w.drew) rfl).setAt (k+1)).far (w':=(w.drew.setCell ⟨R,1,none⟩ (.int .i64 (k+1:Nat))).drew) rfl)
   refine⟨v,some (L.drop (k+1)),rfl,hv,?_,⟨_,n,cap,k+1,false,L,HC2,uh HY,by omega,hn,hx.keep (uh HW) hR,hR,rfl⟩,hx⟩
   have est:st=some (L.drop k):=uh HST
   rw[est,uh HDC]
   exact⟨rfl,rfl⟩
 ·go_enter Tryz.func62,Tryz.ntmps62
  go_wp2_with fail
  refine wp_region_noPanic ?_
  refine wp_region_held_drew (S:=(fun w'=>w'.cell? ⟨R,0,none⟩=some (.slice ao n cap)/\w'.cell? ⟨R,1,none⟩=some (.int .i64 (k:Nat))/\w'.cell? ⟨R,2,none⟩=some (.bool true))) (by kernel_rfl) ⟨by simpa using h0,by simpa using h1,by simpa using h2⟩ (fun hHeld=>?_)
  refine rtk 0 (h:=?_)
  refine rtk 1 (h:=?_)
  refine rtk 2 (h:=?_)
  refine rtk 3 (h:=?_)
  refine rtk 4 (h:=?_)
  refine rsk 5 (h:=?_)
  refine rsk 6 (h:=?_)
  refine rsk 7 (h:=?_)
  refine rsk 8 (h:=?_)
  refine rsk 9 (h:=?_)
  refine rsk 10 (h:=?_)
  refine rsk 11 (h:=?_)
  refine rsk 12 (h:=?_)
  refine rsk 13 (h:=?_)
  refine rsk 14 (h:=?_)
  refine rtk 15 (h:=?_)
  refine wpAnyH_done (by kernel_rfl) ?_ _
  refine NoPanic.normal ?_
  go_wp2
  go_ret
  have hx:BX R isAny w (w.drew.setCell ⟨R,2,none⟩ (.bool true)):=(BX.of_below (uh HD) hlt).set 2 _ trivial
  exact⟨0,none,rfl,by omega,(by have est:st=none:=uh HST;rw[est];rfl),⟨ao,n,cap,k,true,L,((uh HC).far rfl).setBad true,uh HY,hk,hn,hx.keep (uh HW) hR,hR,rfl⟩,hx⟩
theorem left_pg (R:Nat) (st:Option (List Int)) (w0:GW) (w:World) (h:RP w0 w R st):Calls Tryz.prog 66 #[.pointer (some ⟨R,0,none⟩)] w fun e w'=>∃ v l,e=.returned v/\Hid (Byt w0 v l)/\(∀ l',st=some l'->l'=l)/\(st=none->l=[])/\Below w.heap.size w w':=by
 obtain⟨ao,n,cap,k,bad,L,hc,hy,hk,hn,hw,hR,hst⟩:=h
 obtain⟨hl,hc1,hc2⟩:=byt_len hy
 unfold maxLen at hc2
 obtain⟨h0,⟨h1,f1⟩,h2,f2⟩:=hc
 have HST:=zh hst
 have HD0:=zh (bel_drew w)
 clear hw hst
 cases bad
 ·have est:Hid (st=some (L.drop k)):=uh HST
  by_cases hn0:n=0
  ·subst hn0
   obtain rfl:k=0:=by omega
   obtain rfl:L=[]:=List.length_eq_zero_iff.1 hl
   have HY:=zh hy
   clear hy hl HST
   go_enter Tryz.func66,Tryz.ntmps66
   go_wp2_with fail
   refine wp_region_noPanic ?_
   refine wp_region_held_drew (S:=(fun w'=>w'.cell? ⟨R,0,none⟩=some (.slice ao 0 cap)/\w'.cell? ⟨R,1,none⟩=some (.int .i64 (0:Nat)))) (by kernel_rfl) ⟨by simpa using h0,by simpa using h1⟩ (fun hHeld=>?_)
   refine rtk 0 (h:=?_)
   refine rtk 1 (h:=?_)
   refine rtk 2 (h:=?_)
   refine rtk 3 (h:=?_)
   refine rtk 4 (h:=?_)
   refine rtk 5 (h:=?_)
   refine rtk 6 (h:=?_)
   refine rtk 7 (h:=?_)
   refine rtk 8 (h:=?_)
   refine rcl 9 (h:=fun K hK=>?_)
   go_simp
   refine hK.out _ _ ⟨by simpa using h0,by simpa using h1⟩ (fun hHeld=>?_)
   clear hK K
   refine wpAnyH_done (by kernel_rfl) ?_ _
   refine NoPanic.normal ?_
   go_wp2
   go_ret
   exact⟨_,[],rfl,HY,(fun l' e=>(Option.some.inj ((uh est).symm.trans e)).symm),(fun e=>absurd ((uh est).symm.trans e) (by simp)),uh HD0⟩
  ·obtain⟨b,off,rfl,_⟩:=byt_at hy 0 (by omega)
   have HDR:=zh (hy.drop' k hk)
   clear hy hl HST
   by_cases hcap:cap=k
   ·have e1:k=cap:=hcap.symm
    clear hcap
    subst e1
    obtain rfl:n=k:=by omega
    have HD:Hid (Byt w0 (.slice (some ⟨b,off,none⟩) 0 0) (L.drop n)):=by
     show Byt _ _ _
     have q:=uh HDR
     rw[if_pos rfl,Nat.sub_self]at q
     exact q
    clear HDR
    go_enter Tryz.func66,Tryz.ntmps66
    go_wp2_with fail
    refine wp_region_noPanic ?_
    refine wp_region_held_drew (S:=(fun w'=>w'.cell? ⟨R,0,none⟩=some (.slice (some ⟨b,off,none⟩) n n)/\w'.cell? ⟨R,1,none⟩=some (.int .i64 (n:Nat)))) (by kernel_rfl) ⟨by simpa using h0,by simpa using h1⟩ (fun hHeld=>?_)
    refine rtk 0 (h:=?_)
    refine rtk 1 (h:=?_)
    refine rtk 2 (h:=?_)
    refine rtk 3 (h:=?_)
    refine rtk 4 (h:=?_)
    refine rtk 5 (h:=?_)
    refine rtk 6 (h:=?_)
    refine rtk 7 (h:=?_)
    refine rtk 8 (h:=?_)
    refine rcl 9 (h:=fun K hK=>?_)
    go_simp
    refine hK.out _ _ ⟨by simpa using h0,by simpa using h1⟩ (fun hHeld=>?_)
    clear hK K
    refine wpAnyH_done (by kernel_rfl) ?_ _
    refine NoPanic.normal ?_
    go_wp2
    go_ret
    exact⟨_,_,rfl,HD,(fun l' e=>(Option.some.inj ((uh est).symm.trans e)).symm),(fun e=>absurd ((uh est).symm.trans e) (by simp)),uh HD0⟩
   ·have HD:Hid (Byt w0 (.slice (some ⟨b,off+k,none⟩) (n - k) (cap - k)) (L.drop k)):=by
     show Byt _ _ _
     have q:=uh HDR
     rw[if_neg hcap]at q
     exact q
    clear HDR
    go_enter Tryz.func66,Tryz.ntmps66
    go_wp2_with fail
    refine wp_region_noPanic ?_
    refine wp_region_held_drew (S:=(fun w'=>w'.cell? ⟨R,0,none⟩=some (.slice (some ⟨b,off,none⟩) n cap)/\w'.cell? ⟨R,1,none⟩=some (.int .i64 (k:Nat)))) (by kernel_rfl) ⟨by simpa using h0,by simpa using h1⟩ (fun hHeld=>?_)
    refine rtk 0 (h:=?_)
    refine rtk 1 (h:=?_)
    refine rtk 2 (h:=?_)
    refine rtk 3 (h:=?_)
    refine rtk 4 (h:=?_)
    refine rtk 5 (h:=?_)
    refine rtk 6 (h:=?_)
    refine rtk 7 (h:=?_)
    refine rtk 8 (h:=?_)
    refine rcl 9 (h:=fun K hK=>?_)
    go_simp
    refine hK.out _ _ ⟨by simpa using h0,by simpa using h1⟩ (fun hHeld=>?_)
    clear hK K
    refine wpAnyH_done (by kernel_rfl) ?_ _
    refine NoPanic.normal ?_
    go_wp2
    go_ret
    exact⟨_,_,rfl,HD,(fun l' e=>(Option.some.inj ((uh est).symm.trans e)).symm),(fun e=>absurd ((uh est).symm.trans e) (by simp)),uh HD0⟩
 ·have est:Hid (st=none):=uh HST
  clear hy hl HST
  go_enter Tryz.func66,Tryz.ntmps66
  go_wp2
  go_ret
  exact⟨_,[],rfl,(⟨none,0,rfl,⟨by simp,by simp⟩,by intro j;simp,.inl rfl⟩:Byt w0 (.slice none 0 0) []),(fun l' e=>by rw[uh est]at e;cases e),(fun _=>rfl),Below.refl _ _⟩
theorem took_pg (R:Nat) (st:Option (List Int)) (n:Nat) (m:Int) (w0:GW) (w:World) (h:RP w0 w R st) (hn:∀ l,st=some l->n<=l.length):Calls Tryz.prog 92 #[.pointer (some ⟨R,0,none⟩),.int .i64 n,.int .i64 m] w fun e w'=>e=.returned (.tuple #[])/\RP w0 w' R (if m=0 then st.map (fun l=>l.drop n) else none)/\BX R isAny w w':=by
 obtain⟨ao,N,cap,k,bad,L,hc,hy,hk,hN,hw,hR,hst⟩:=h
 obtain⟨hl,hc1,hc2⟩:=byt_len hy
 have hlt:=hc.lt
 have HC:=zh hc
 have HY:=zh hy
 have HW:=zh hw
 obtain⟨h0,⟨h1,f1⟩,h2,f2⟩:=hc
 cases bad
 ·have est:st=some (L.drop k):=hst
  have hnk:k+n<=N:=by
   have:=hn _ est
   rw[List.length_drop,hl]at this
   omega
  subst est
  clear hn hy hw hst
  by_cases hm:m=0
  ·subst hm
   have HL:=zh hl
   clear hl
   go_enter Tryz.func92,Tryz.ntmps92
   go_wp2
   go_end0
   have hx:BX R isAny w (w.setCell ⟨R,1,none⟩ (.int .i64 ((k+n:Nat):Int))):=(BX.refl _ _ _).set 1 _ trivial
   refine⟨rfl,⟨ao,N,cap,k+n,false,L,(uh HC).setAt (k+n),uh HY,hnk,hN,hx.keep (uh HW) hR,hR,?_⟩,hx⟩
   simp
  ·have hm2:(m != 0)=true:=by simpa using hm
   go_enter Tryz.func92,Tryz.ntmps92
   go_wp2
   go_end0
   have hx:BX R isAny w (w.setCell ⟨R,2,none⟩ (.bool true)):=(BX.refl _ _ _).set 2 _ trivial
   refine⟨rfl,⟨ao,N,cap,k,true,L,(uh HC).setBad true,uh HY,hk,hN,hx.keep (uh HW) hR,hR,?_⟩,hx⟩
   rfl
 ·have est:st=none:=hst
  subst est
  clear hn hy hw hst
  by_cases hm:m=0
  ·subst hm
   go_enter Tryz.func92,Tryz.ntmps92
   go_wp2
   go_end0
   exact⟨rfl,⟨ao,N,cap,k,true,L,uh HC,uh HY,hk,hN,uh HW,hR,rfl⟩,BX.refl _ _ _⟩
  ·have hm2:(m != 0)=true:=by simpa using hm
   go_enter Tryz.func92,Tryz.ntmps92
   go_wp2
   go_end0
   have hx:BX R isAny w (w.setCell ⟨R,2,none⟩ (.bool true)):=(BX.refl _ _ _).set 2 _ trivial
   refine⟨rfl,⟨ao,N,cap,k,true,L,(uh HC).setBad true,uh HY,hk,hN,hx.keep (uh HW) hR,hR,?_⟩,hx⟩
   rfl
def PgS (w0:GW) (R:Nat) (f:List Int->Option (ByteArray×List Int)) (st:Option (List Int)) (w:World) (e:Ending) (w':World):Prop :=
 ∃ x st',e=.returned (.string x)/\Stp f st x st'/\RP w0 w' R st'/\BX R isAny w w'
theorem text_pg (R:Nat) (st:Option (List Int)) (w0:GW) (w:World) (h:RP w0 w R st):Calls Tryz.prog 64 #[.pointer (some ⟨R,0,none⟩)] w (PgS w0 R text? st w):=by
 have hlt:=h.lt
 have hR0:w0.heap.size<=R:=by obtain⟨_,_,_,_,_,_,_,_,_,_,_,h,_⟩:=h;exact h
 have hw0:Below w0.heap.size w0 w:=by obtain⟨_,_,_,_,_,_,_,_,_,_,h,_⟩:=h;exact h
 have HS:=zh h
 have HW0:=zh hw0
 clear h hw0
 go_enter Tryz.func64,Tryz.ntmps64
 go_wp2_with fail
 refine (left_pg R st w0 w (uh HS)).mono ?_
 rintro e w1 ⟨v,l,rfl,hv,he1,he2,hb1⟩
 have HW1:Hid (Below w0.heap.size w0 w1):=(uh HW0).trans (hb1.mono (uh HW0).size)
 obtain⟨n,hN,hn,_⟩:=gt_len l (uh hv).range
 have HG:=zh (rget_any v l w1 ((uh hv).below (uh HW1)))
 rw[hN]at HG
 have HS1:=zh ((uh HS).below hb1)
 have HB1:=zh hb1
 have HE1:=zh he1
 have HQ:Hid (text? l=if (gt l).2.2=0 then some ((gt l).1,l.drop n) else none):=by
  show text? l=_
  unfold text?
  rw[hN,Int.toNat_natCast]
 clear hb1 he1 he2 hN
 generalize (gt l).1=x at HG HQ
 generalize (gt l).2.2=m at HG HQ
 go_wp2_with fail
 refine (uh HG).mono ?_
 rintro e w2 ⟨rfl,hb2⟩
 have HS2:=zh ((uh HS1).below hb2)
 have HB2:Hid (Below w.heap.size w w2):=(uh HB1).trans (hb2.mono (uh HB1).size)
 clear hb2
 go_wp2_with fail
 refine (took_pg R st n m w0 w2 (uh HS2) (fun l' e=>by rw[(uh HE1) l' e];exact hn)).mono ?_
 rintro e w3 ⟨rfl,h3,hx3⟩
 have HS3:=zh h3
 have HX3:=zh hx3
 clear h3 hx3
 go_wp2
 go_ret
 refine⟨x,_,rfl,?_,uh HS3,(BX.of_below (uh HB2) hlt).trans (uh HX3)⟩
 cases st with
 | none =>
  show (if m=0 then _ else _)=none
  split <;> rfl
 | some l' =>
  have e:=(uh HE1) l' rfl
  subst e
  exact stp_get text? (some l') l' x n m (.inl rfl) (uh HQ)
theorem bin_pg (R:Nat) (st:Option (List Int)) (w0:GW) (w:World) (h:RP w0 w R st):Calls Tryz.prog 90 #[.pointer (some ⟨R,0,none⟩)] w (PgS w0 R bin? st w):=by
 have hlt:=h.lt
 have hR0:w0.heap.size<=R:=by obtain⟨_,_,_,_,_,_,_,_,_,_,_,h,_⟩:=h;exact h
 have hw0:Below w0.heap.size w0 w:=by obtain⟨_,_,_,_,_,_,_,_,_,_,h,_⟩:=h;exact h
 have HS:=zh h
 have HW0:=zh hw0
 clear h hw0
 go_enter Tryz.func90,Tryz.ntmps90
 go_wp2_with fail
 refine (left_pg R st w0 w (uh HS)).mono ?_
 rintro e w1 ⟨v,l,rfl,hv,he1,he2,hb1⟩
 have HW1:Hid (Below w0.heap.size w0 w1):=(uh HW0).trans (hb1.mono (uh HW0).size)
 obtain⟨n,hN,hn,_⟩:=gbn_len l (uh hv).range
 have HG:=zh (rgetBin_any v l w1 ((uh hv).below (uh HW1)))
 rw[hN]at HG
 have HS1:=zh ((uh HS).below hb1)
 have HB1:=zh hb1
 have HE1:=zh he1
 have HQ:Hid (bin? l=if (gbn l).2.2=0 then some ((gbn l).1,l.drop n) else none):=by
  show bin? l=_
  unfold bin?
  rw[hN,Int.toNat_natCast]
 clear hb1 he1 he2 hN
 generalize (gbn l).1=x at HG HQ
 generalize (gbn l).2.2=m at HG HQ
 go_wp2_with fail
 refine (uh HG).mono ?_
 rintro e w2 ⟨rfl,hb2⟩
 have HS2:=zh ((uh HS1).below hb2)
 have HB2:Hid (Below w.heap.size w w2):=(uh HB1).trans (hb2.mono (uh HB1).size)
 clear hb2
 go_wp2_with fail
 refine (took_pg R st n m w0 w2 (uh HS2) (fun l' e=>by rw[(uh HE1) l' e];exact hn)).mono ?_
 rintro e w3 ⟨rfl,h3,hx3⟩
 have HS3:=zh h3
 have HX3:=zh hx3
 clear h3 hx3
 go_wp2
 go_ret
 refine⟨x,_,rfl,?_,uh HS3,(BX.of_below (uh HB2) hlt).trans (uh HX3)⟩
 cases st with
 | none =>
  show (if m=0 then _ else _)=none
  split <;> rfl
 | some l' =>
  have e:=(uh HE1) l' rfl
  subst e
  exact stp_get bin? (some l') l' x n m (.inl rfl) (uh HQ)
theorem pair_pg (R:Nat) (st:Option (List Int)) (w0:GW) (w:World) (h:RP w0 w R st):Calls Tryz.prog 65 #[.pointer (some ⟨R,0,none⟩)] w (PgI w0 R 65535 two? st w):=by
 have HS:=zh h
 clear h
 go_enter Tryz.func65,Tryz.ntmps65
 go_wp2_with fail
 refine (byte_pg R st w0 w (uh HS)).mono ?_
 rintro e w1 ⟨x,st1,rfl,hx,hs1,h1,hx1⟩
 have HS1:=zh h1
 have HX1:=zh hx1
 have HST1:=zh hs1
 clear h1 hx1 hs1
 go_wp2_with fail
 refine (byte_pg R st1 w0 w1 (uh HS1)).mono ?_
 rintro e w2 ⟨y,st2,rfl,hy,hs2,h2,hx2⟩
 have HS2:=zh h2
 have HX2:=zh hx2
 have HST2:=zh hs2
 have e1:=K.or_256 x y hx.1 (by omega) hy.1 (by omega)
 clear h2 hx2 hs2
 go_wp2
 go_ret
 refine⟨x * 256+y,st2,rfl,by omega,?_,uh HS2,(uh HX1).trans (uh HX2)⟩
 have k:Stp (bindR one? fun x=>bindR one? fun y=>pureR (x * 256+y)) st (x * 256+y) st2:=(uh HST1).bind ((uh HST2).bind (Stp.pure _ _))
 refine Stp.congr (fun l=>?_) k
 match l with
 | []=>rfl
 | [_]=>rfl
 | _ :: _ :: _=>rfl
end Go.Proofs.YtpheelbbpiieiaaGreatDoor.K
