/- Proved here: helpers, one text behind the other. -/
import Derived.Test.YtpheelbbpiieiaaGreatDoorZC33
import Derived.Test.YtpheelbbpiieiaaGreatDoorZC9
import Derived.Test.YtpheelbbpiieiaaGreatDoorZC13
import Derived.Test.YtpheelbbpiieiaaGreatDoorZC32
import Derived.Test.YtpheelbbpiieiaaGreatDoorZC31
import Derived.Test.YtpheelbbpiieiaaGreatDoorZC6
set_option maxHeartbeats 20000000
namespace Go.Proofs.YtpheelbbpiieiaaGreatDoor
open Go.RowKit
set_option maxRecDepth 100000
theorem may_use (id n:Int) (s t:ByteArray) (b:Bool) (h:may (id,n,s,t)=b) (w:World) (hs:s.size<=4611686018427387904) (ht:t.size<=4611686018427387904):Calls Tryz.prog 148 #[.agg #[.int .i64 id,.int .i64 n,.string s,.string t]] w fun e w'=>e=.returned (.bool b)/\Below w.heap.size w w':=by
 subst h
 exact may_any id n s t w hs ht
theorem in_use (vx:Value) (xs:List Int) (v:Int) (b:Bool) (hb:decide (v ∈ xs)=b) (w:World) (h:Ints w vx xs) :
  Calls Tryz.prog 149 #[vx,.int .i64 v] w fun e w'=>(∃ r:Int,e=.returned (.int .i64 r)/\(decide (r < 0))=(!b))/\w'=w:=by
 subst hb
 exact in_any vx xs v w h
theorem seen_iff (l:List Pr) (k:Nat) (hk:k<=l.length) (id:Int):seen l k id=false ↔ ∀ j,j < k->(at0 l j).1≠id:=by
 unfold seen at0
 rw[List.any_eq_false]
 constructor
 ·intro h j hj
  have hm:l.getD j p0 ∈ l.take k:=by
   rw[List.mem_take_iff_getElem]
   exact⟨j,by omega,by rw[List.getD_eq_getElem?_getD,List.getElem?_eq_getElem (by omega)];rfl⟩
  simpa using h _ hm
 ·intro h x hx
  rw[List.mem_take_iff_getElem]at hx
  obtain⟨j,hj,rfl⟩:=hx
  have:=h j (by omega)
  rw[List.getD_eq_getElem?_getD,List.getElem?_eq_getElem (by omega)]at this
  simpa using this
theorem rchk_core (b off cap:Nat) (l:List Pr) (len:Nat) (place:Int) (w:World) (hlen:l.length=len) (hmx:len<=1000000000) (hsm:Small l) (hl:PrAt w b off l) :
  Calls Tryz.prog 124 #[.slice (some ⟨b,off,none⟩) len cap,.int .i64 place] w fun e w'=>e=.returned (.int .i64 (chkP place l))/\Below w.heap.size w w':=by
 have HL:=zh hl
 have HLEN:=zh hlen
 have HSM:=zh hsm
 clear hl hlen hsm
 go_enter Tryz.func124,Tryz.ntmps124
 go_wp2
 go_loopw [5] (fun i wr=>∃ k:Nat,k<=len/\i=.int .i64 k/\Hid (okTo place l k)/\Below w.heap.size w wr) (fun i _=>len - (intOf i).toNat)
 case atStart=>exact⟨0,Nat.zero_le _,rfl,okTo_zero _ _,Below.refl _ _⟩
 case round =>
  obtain⟨k,hk,rfl,HOT,hbel⟩:=hrel
  have hsz:=hbel.size
  by_cases hlt:k < len
  ·have HPA:=zh ((uh HL).below hbel)
   obtain⟨h0,h1,h2,h3⟩:=(uh HPA) k (by rw[uh HLEN];exact hlt)
   have hsm:=(uh HSM) k (by rw[uh HLEN];exact hlt)
   have HLTk:Hid (k < l.length):=by show _ < _;rw[uh HLEN];exact hlt
   have HKO:Hid (okAt place l k=(mst (at0 l k).1 place && may (at0 l k) && (rep (at0 l k).1 place || !(seen l k (at0 l k).1)))):=rfl
   have HSI:=zh (seen_iff l k (Nat.le_of_lt (uh HLTk)) (at0 l k).1)
   obtain⟨id,n,s,t,hp⟩:∃ id n s t,at0 l k=(id,n,s,t):=⟨_,_,_,_,rfl⟩
   rw[hp]at h0 h1 h2 h3 hsm HKO HSI
   simp only at h0 h1 h2 h3 hsm
   have HBEL:=zh hbel
   have HSMK:=zh hsm
   clear hp hbel hsm
   have hbl:=cell_lt h0
   cases hmay:may (id,n,s,t)
   ·have HC:Hid (chkP place l=1):=chkP_bad place l k (uh HLTk) ((uh HKO).trans (by rw[hmay,Bool.and_false,Bool.false_and]))
    have HM:=zh hmay
    clear hmay HKO
    go_wp2_with fail
    refine (may_use id n s t false (uh HM) _ (uh HSMK).1 (uh HSMK).2).mono ?_
    rintro e w2 ⟨rfl,hb2⟩
    go_wp2
    go_ret
    exact⟨ret_int (uh HC).symm,(uh HBEL).trans (hb2.mono hsz)⟩
   ·have HM:=zh hmay
    cases hmst:mst id place
    ·have HC:Hid (chkP place l=1):=chkP_bad place l k (uh HLTk) ((uh HKO).trans (by rw[hmst];rfl))
     have HMS:Hid (decide (place ∈ plc id)=false):=hmst
     clear hmay HKO hmst
     go_wp2_with fail
     refine (may_use id n s t true (uh HM) _ (uh HSMK).1 (uh HSMK).2).mono ?_
     rintro e w2 ⟨rfl,hb2⟩
     have g0:w2.cell? ⟨b,off+k * 4,none⟩=some (.int .i64 id):=(hb2.cell (p:=⟨b,off+k * 4,none⟩) hbl).trans h0
     have HB2:Hid (Below w.heap.size w w2):=(uh HBEL).trans (hb2.mono hsz)
     clear hb2
     go_wp2_with fail
     refine (places_any id _).mono ?_
     rintro e w3 ⟨v3,rfl,hi3,hb3⟩
     have HB3:Hid (Below w.heap.size w w3):=(uh HB2).trans (hb3.mono (uh HB2).size)
     clear hb3
     go_wp2_with fail
     refine (in_use v3 (plc id) place false (uh HMS) _ (uh hi3)).mono ?_
     rintro e w4 ⟨⟨r,rfl,hr⟩,hw⟩
     obtain rfl:=hw.symm
     clear hw
     have hr':r < 0:=by simpa using hr
     clear hr
     go_wp2
     go_ret
     exact⟨ret_int (uh HC).symm,uh HB3⟩
    ·have HMS:Hid (decide (place ∈ plc id)=true):=hmst
     have HRS:Hid (okAt place l k=(rep id place || !(seen l k id))):=(uh HKO).trans (by rw[hmst,hmay];rfl)
     clear hmay HKO hmst
     go_wp2_with fail
     refine (may_use id n s t true (uh HM) _ (uh HSMK).1 (uh HSMK).2).mono ?_
     rintro e w2 ⟨rfl,hb2⟩
     have g0:w2.cell? ⟨b,off+k * 4,none⟩=some (.int .i64 id):=(hb2.cell (p:=⟨b,off+k * 4,none⟩) hbl).trans h0
     have HB2:Hid (Below w.heap.size w w2):=(uh HBEL).trans (hb2.mono hsz)
     clear hb2
     go_wp2_with fail
     refine (places_any id _).mono ?_
     rintro e w3 ⟨v3,rfl,hi3,hb3⟩
     have HB3:Hid (Below w.heap.size w w3):=(uh HB2).trans (hb3.mono (uh HB2).size)
     clear hb3
     go_wp2_with fail
     refine (in_use v3 (plc id) place true (uh HMS) _ (uh hi3)).mono ?_
     rintro e w4 ⟨⟨r,rfl,hr⟩,hw⟩
     obtain rfl:=hw.symm
     clear hw hi3
     have hr':¬ r < 0:=by simpa using hr
     clear hr
     have HPA3:Hid (PrAt w3 b off l):=(uh HL).below (uh HB3)
     have g3:w3.cell? ⟨b,off+k * 4,none⟩=some (.int .i64 id):=((uh HB3).cell (p:=⟨b,off+k * 4,none⟩) (by have:=cell_lt ((uh HL) k (uh HLTk)).1;exact this)).trans (((uh HBEL).cell (p:=⟨b,off+k * 4,none⟩) (by have:=cell_lt ((uh HL) k (uh HLTk)).1;exact this)).symm.trans h0)
     clear g0 HB2 HBEL h0 h1 h2 h3 HPA HM HMS HSMK hbl
     have hrep:rep id place=(decide (id=38) || (decide (id=11) && decide (place=3))):=rfl
     have HREP:=zh hrep
     clear hrep hsz
     by_cases e38:id=38
     ·have HOK:Hid (okAt place l k=true):=by show okAt place l k=true;rw[uh HRS,uh HREP,e38];rfl
      subst e38
      go_wp2
      go_roundw
      case rel=>exact⟨k+1,by omega,by go_num,okTo_succ (uh HOT) (uh HOK),uh HB3⟩
      case measure=>simp[intOf];omega
     have b38:(id == 38)=false:=beq_eq_false_iff_ne.2 e38
     by_cases e11:id=11
     ·by_cases e3:place=3
      ·have HOK:Hid (okAt place l k=true):=by show okAt place l k=true;rw[uh HRS,uh HREP,e11,e3];rfl
       subst e11
       subst e3
       clear e38 b38
       go_wp2
       go_roundw
       case rel=>exact⟨k+1,by omega,by go_num,okTo_succ (uh HOT) (uh HOK),uh HB3⟩
       case measure=>simp[intOf];omega
      ·have HRF:Hid (rep id place=false):=by show rep id place=false;rw[uh HREP];simp[e38,e3]
       have b3:(place == 3)=false:=beq_eq_false_iff_ne.2 e3
       have b11:(id == 11)=true:=beq_iff_eq.2 e11
       clear e38 e3 e11
       go_wp2
       go_loopw [6] (fun j wr=>∃ m q:Nat,m<=k/\j=.int .i64 m/\wr=w3.drewN q/\Hid (∀ i,i < m->(at0 l i).1≠id)) (fun j _=>k - (intOf j).toNat)
       case atStart=>exact⟨0,0,Nat.zero_le _,rfl,rfl,fun i hi=>absurd hi (Nat.not_lt_zero i)⟩
       case round =>
        obtain⟨m,q,hm,rfl,rfl,HNE⟩:=hrel
        by_cases hmk:m < k
        ·have hcm:=((uh HPA3) m (Nat.lt_trans hmk (uh HLTk))).1
         generalize hx:(at0 l m).1=x at hcm
         have HX:=zh hx
         clear hx
         by_cases hxy:x=id
         ·have hbq:(x == id)=true:=beq_iff_eq.2 hxy
          have HC:Hid (chkP place l=1):=chkP_bad place l k (uh HLTk) (by
           rw[uh HRS,uh HRF,Bool.false_or,Bool.not_eq_false']
           cases hs:seen l k id
           ·exact absurd ((uh HX).trans hxy) (((uh HSI).1 hs) m hmk)
           ·rfl)
          clear hxy
          go_wp2
          go_quiet (fail)
          go_wp2
          go_ret
          exact⟨ret_int (uh HC).symm,below_drewN (below_drewN (uh HB3) _) _⟩
         ·have hbq:(x == id)=false:=beq_eq_false_iff_ne.2 hxy
          have HXY:=zh hxy
          clear hxy
          go_wp2
          go_quiet (fail)
          go_wp2
          go_roundw
          case rel=>exact⟨m+1,_,by omega,by go_num,rfl,fun i hi=>by
           rcases Nat.lt_succ_iff_lt_or_eq.1 hi with h | h
           ·exact (uh HNE) i h
           ·rw[h,uh HX];exact uh HXY⟩
          case measure=>simp[intOf];omega
        ·obtain rfl:m=k:=by omega
         have HOK:Hid (okAt place l m=true):=by
          show okAt place l m=true
          rw[uh HRS,uh HRF,(uh HSI).2 (uh HNE)];rfl
         go_wp2
         go_roundw
         case rel=>exact⟨m+1,by omega,by go_num,okTo_succ (uh HOT) (uh HOK),below_drewN (uh HB3) _⟩
         case measure=>simp[intOf];omega
     ·have HRF:Hid (rep id place=false):=by show rep id place=false;rw[uh HREP];simp[e38,e11]
      have b11:(id == 11)=false:=beq_eq_false_iff_ne.2 e11
      clear e38 e11
      go_wp2
      go_loopw [6] (fun j wr=>∃ m q:Nat,m<=k/\j=.int .i64 m/\wr=w3.drewN q/\Hid (∀ i,i < m->(at0 l i).1≠id)) (fun j _=>k - (intOf j).toNat)
      case atStart=>exact⟨0,0,Nat.zero_le _,rfl,rfl,fun i hi=>absurd hi (Nat.not_lt_zero i)⟩
      case round =>
       obtain⟨m,q,hm,rfl,rfl,HNE⟩:=hrel
       by_cases hmk:m < k
       ·have hcm:=((uh HPA3) m (Nat.lt_trans hmk (uh HLTk))).1
        generalize hx:(at0 l m).1=x at hcm
        have HX:=zh hx
        clear hx
        by_cases hxy:x=id
        ·have hbq:(x == id)=true:=beq_iff_eq.2 hxy
         have HC:Hid (chkP place l=1):=chkP_bad place l k (uh HLTk) (by
          rw[uh HRS,uh HRF,Bool.false_or,Bool.not_eq_false']
          cases hs:seen l k id
          ·exact absurd ((uh HX).trans hxy) (((uh HSI).1 hs) m hmk)
          ·rfl)
         clear hxy
         go_wp2
         go_quiet (fail)
         go_wp2
         go_ret
         exact⟨ret_int (uh HC).symm,below_drewN (below_drewN (uh HB3) _) _⟩
        ·have hbq:(x == id)=false:=beq_eq_false_iff_ne.2 hxy
         have HXY:=zh hxy
         clear hxy
         go_wp2
         go_quiet (fail)
         go_wp2
         go_roundw
         case rel=>exact⟨m+1,_,by omega,by go_num,rfl,fun i hi=>by
          rcases Nat.lt_succ_iff_lt_or_eq.1 hi with h | h
          ·exact (uh HNE) i h
          ·rw[h,uh HX];exact uh HXY⟩
         case measure=>simp[intOf];omega
       ·obtain rfl:m=k:=by omega
        have HOK:Hid (okAt place l m=true):=by
         show okAt place l m=true
         rw[uh HRS,uh HRF,(uh HSI).2 (uh HNE)];rfl
        go_wp2
        go_roundw
        case rel=>exact⟨m+1,by omega,by go_num,okTo_succ (uh HOT) (uh HOK),below_drewN (uh HB3) _⟩
        case measure=>simp[intOf];omega
  ·obtain rfl:k=len:=by omega
   have HOT':Hid (okTo place l l.length):=by show okTo _ _ _;rw[uh HLEN];exact uh HOT
   rcases Nat.lt_or_ge 32 k with h32 | h32
   ·have HC:Hid (chkP place l=2):=chkP_lim place l (uh HOT') (by rw[uh HLEN];exact h32)
    go_wp2
    go_ret
    exact⟨ret_int (uh HC).symm,hbel⟩
   ·have HC:Hid (chkP place l=0):=chkP_ok place l (uh HOT') (by rw[uh HLEN];exact h32)
    go_wp2
    go_ret
    exact⟨ret_int (uh HC).symm,hbel⟩
theorem rg_good (v:Value) (l:List Int) (w:World) (h:Byt w v l) (hg:gok l=true):Calls Tryz.prog 123 #[v] w (RgOk (gpr l) (gsz l) w):=by
 have hr:=h.range
 unfold gok at hg
 rw[Bool.and_eq_true,decide_eq_true_eq]at hg
 obtain⟨hv,a,b,c,d,e⟩:=vget_is l hr hg.1
 have h4:=ghd_le l b e
 have hg2:=hg.2
 have hl:=gval_le _ _ (Rng.drop hr (ghd l)) hg2
 have hr':=Rng.drop hr (ghd l)
 unfold gpr gsz grs
 unfold grs at hg2
 obtain⟨k,hk⟩:∃ k,kd (gid l)=k:=⟨_,rfl⟩
 rw[hk]at hg2 hl |-
 unfold gval at hg2 hl |-
 rw[List.length_drop]at hl
 by_cases k1:k=1\/k=2\/k=4
 ·rw[if_pos k1]at hg2 hl |-
  simp only[decide_eq_true_eq]at hg2 hl |-
  rcases k1 with rfl | rfl | rfl
  ·exact rg_num1 v l w h _ _ hv ⟨a,b⟩ h4 hk (by omega)
  ·exact rg_num2 v l w h _ _ hv ⟨a,b⟩ h4 hk (by omega)
  ·exact rg_num4 v l w h _ _ hv ⟨a,b⟩ h4 hk (by omega)
 rw[if_neg k1]at hg2 hl |-
 by_cases k5:k=5
 ·subst k5
  rw[if_pos rfl]at hg2 hl |-
  simp only[decide_eq_true_eq]at hg2 hl |-
  obtain⟨hv',x1,x2,_⟩:=vget_is _ hr' hg2
  exact rg_var v l w h _ _ hv ⟨a,b⟩ h4 hk _ _ hv' x1 (by unfold ghd at *;omega)
 rw[if_neg k5]at hg2 hl |-
 by_cases k6:k=6
 ·subst k6
  rw[if_pos rfl]at hg2 hl |-
  simp only[decide_eq_true_eq]at hg2 hl |-
  obtain⟨x0,x1,x2,_⟩:=gt_is _ hg2
  exact rg_text v l w h _ _ hv ⟨a,b⟩ h4 hk _ _ x0 (by omega) (by omega)
 rw[if_neg k6]at hg2 hl |-
 by_cases k7:k=7
 ·subst k7
  rw[if_pos rfl]at hg2 hl |-
  simp only[decide_eq_true_eq]at hg2 hl |-
  obtain⟨x0,x1,x2,_⟩:=gbn_is _ hg2
  exact rg_bin v l w h _ _ hv ⟨a,b⟩ h4 hk _ _ x0 (by omega) (by omega)
 rw[if_neg k7]at hg2 hl |-
 by_cases k8:k=8
 ·subst k8
  rw[if_pos rfl]at hg2 hl |-
  simp only[Bool.and_eq_true,decide_eq_true_eq]at hg2 hl |-
  obtain⟨x0,x1,x2,_⟩:=gt_is _ hg2.1
  obtain⟨y0,y1,y2,_⟩:=gt_is _ hg2.2
  exact rg_pair v l w h _ _ hv ⟨a,b⟩ h4 hk _ _ x0 x1 (by omega) _ _ y0 y1 (by omega)
 rw[if_neg k8]at hg2
 simp at hg2
theorem rg_fail (v:Value) (l:List Int) (w:World) (h:Byt w v l) (hg:gok l=false):Calls Tryz.prog 123 #[v] w (RgBad w):=by
 have hr:=h.range
 by_cases hv0:(V.vget l).2.2=0
 ·obtain⟨hv,a,b,c,d,e⟩:=vget_is l hr hv0
  have h4:=ghd_le l b e
  have hg2:(grs l).1=false:=by
   unfold gok at hg
   rw[hv0]at hg
   simpa using hg
  unfold grs at hg2
  obtain⟨k,hk⟩:∃ k,kd (gid l)=k:=⟨_,rfl⟩
  have hkc:=kd_cases (gid l)
  rw[hk]at hg2 hkc
  unfold gval at hg2
  by_cases k1:k=1\/k=2\/k=4
  ·rw[if_pos k1]at hg2
   simp only[decide_eq_false_iff_not,List.length_drop]at hg2
   rcases k1 with rfl | rfl | rfl
   ·exact rg_num1_bad v l w h _ _ hv ⟨a,b⟩ h4 hk (by omega)
   ·exact rg_num2_bad v l w h _ _ hv ⟨a,b⟩ h4 hk (by omega)
   ·exact rg_num4_bad v l w h _ _ hv ⟨a,b⟩ h4 hk (by omega)
  rw[if_neg k1]at hg2
  by_cases k5:k=5
  ·subst k5
   rw[if_pos rfl]at hg2
   simp only[decide_eq_false_iff_not]at hg2
   exact rg_var_bad v l w h _ _ hv ⟨a,b⟩ h4 hk _ rfl hg2
  rw[if_neg k5]at hg2
  by_cases k6:k=6
  ·subst k6
   rw[if_pos rfl]at hg2
   simp only[decide_eq_false_iff_not]at hg2
   exact rg_text_bad v l w h _ _ hv ⟨a,b⟩ h4 hk _ rfl hg2
  rw[if_neg k6]at hg2
  by_cases k7:k=7
  ·subst k7
   rw[if_pos rfl]at hg2
   simp only[decide_eq_false_iff_not]at hg2
   exact rg_bin_bad v l w h _ _ hv ⟨a,b⟩ h4 hk _ rfl hg2
  rw[if_neg k7]at hg2
  by_cases k8:k=8
  ·subst k8
   rw[if_pos rfl]at hg2
   by_cases h1:(gt (l.drop (ghd l))).2.2=0
   ·obtain⟨e1,e2,e3,_⟩:=gt_is _ h1
    rw[List.length_drop]at e3
    have h2:¬ (gt ((l.drop (ghd l)).drop (gt (l.drop (ghd l))).2.1.toNat)).2.2=0:=by
     rw[h1]at hg2
     simpa using hg2
    exact rg_pair_bad2 v l w h _ _ hv ⟨a,b⟩ h4 hk _ _ e1 e2 (by omega) _ rfl h2
   ·exact rg_pair_bad1 v l w h _ _ hv ⟨a,b⟩ h4 hk _ rfl h1
  exact rg_none v l w h _ _ hv ⟨a,b⟩ h4 (by omega)
 ·exact rg_id_bad v l w h _ rfl hv0
def RGetPost2 (place:Int) (l:List Int) (w:World) (e:Ending) (w':World):Prop :=
 ∃ v,e=.returned (.tuple #[v,.int .i64 (psz place l),.int .i64 (pgt place l)])/\Hid (w'.ownsRow w.heap.size 109 4 v (plist place l).length (pcs (plist place l)))/\Below w.heap.size w w'
theorem rget_post_bad (place:Int) (l:List Int) (w w':World) (n:Int) (hp:pgt place l=n) (hn:n≠0) (hb:Below w.heap.size w w'):RGetPost2 place l w (.returned (.tuple #[.slice none 0 0,.int .i64 0,.int .i64 n])) w':=by
 refine⟨.slice none 0 0,?_,?_,hb⟩
 ·unfold psz
  rw[if_neg (by rw[hp];exact hn),hp]
 ·show World.ownsRow _ _ _ _ _ _ _
  unfold plist
  rw[if_neg (by rw[hp];exact hn)]
  exact World.ownsRow_nil _ _ _ _
theorem rGet_bad1 (v:Value) (l:List Int) (place:Int) (w:World) (h:Byt w v l) (hv:(V.vget l).2.2≠0):Calls Tryz.prog 91 #[v,.int .i64 place] w (RGetPost2 place l w):=by
 have hp:pgt place l=(V.vget l).2.2:=by unfold pgt;rw[if_pos hv]
 obtain⟨ao,cap,rfl,hc1,hc2⟩:=h.form
 have HV:=zh h
 have HP:=zh hp
 clear h hp
 generalize hm:(V.vget l).2.2=m at hv HP
 generalize hn:l.length=n at hc1 HV
 have HM:=zh hm
 clear hn hm
 go_enter Tryz.func91,Tryz.ntmps91
 go_wp2_with fail
 refine (rvget_fail _ l _ (uh HV) m (uh HM)).mono ?_
 rintro e w1 ⟨a,b,rfl,hb1⟩
 go_wp2
 go_returns
 exact rget_post_bad place l w _ m (uh HP) hv hb1
theorem rGet_short (v:Value) (l:List Int) (place:Int) (w:World) (h:Byt w v l) (hv:(V.vget l).2.2=0) (hs:l.length < ghd l+(gid l).toNat):Calls Tryz.prog 91 #[v,.int .i64 place] w (RGetPost2 place l w):=by
 have hp:pgt place l=3:=by unfold pgt;rw[if_neg (by rw[hv];decide),if_pos hs]
 obtain⟨hv',h1,h2,h3,h4,h5⟩:=vget_is l h.range hv
 have hQ4:=ghd_le l h2 h5
 clear h5
 obtain⟨ao,cap,rfl,hc1,hc2⟩:=h.form
 unfold maxLen at hc2
 have HV:=zh h
 have HP:=zh hp
 clear h hp hv
 obtain⟨N,hN⟩:∃ N:Nat,gid l=N:=⟨(gid l).toNat,by omega⟩
 rw[hN,Int.toNat_natCast]at hs
 rw[hN]at hv' h3 h4
 generalize ghd l=Q at hQ4 hv' h1 h2 hs
 have Hv:=zh hv'
 generalize hn:l.length=n at hc1 HV h2 hs
 clear hn hv' hN
 go_enter Tryz.func91,Tryz.ntmps91
 go_wp2_with fail
 refine (rvget_good _ l _ (uh HV) N Q (uh Hv)).mono ?_
 rintro e w1 ⟨rfl,hb1⟩
 have HB1:=zh hb1
 clear hb1
 go_wp2
 go_returns
 exact rget_post_bad place l w _ 3 (uh HP) (by decide) (uh HB1)
theorem rchk_use (v:Value) (l:List Pr) (place:Int) (w:World) (h:Prp w v l) (hmx:l.length<=1000000000) (hsm:Small l):Calls Tryz.prog 124 #[v,.int .i64 place] w fun e w'=>e=.returned (.int .i64 (chkP place l))/\Below w.heap.size w w':=by
 obtain⟨ao,cap,rfl,hc⟩:=h
 rcases hc with rfl | ⟨b,off,rfl,hc⟩
 ·have HC:Hid (chkP place []=0):=chkP_ok place [] (fun i hi=>absurd hi (Nat.not_lt_zero i)) (by simp)
  go_enter Tryz.func124,Tryz.ntmps124
  go_wp2
  refine wp_loop_rounds 1 ?_
  rw[rounds_succ]
  go_wp2
  go_ret
  exact⟨ret_int (uh HC).symm,Below.refl _ _⟩
 ·exact rchk_core b off cap l _ place w rfl hmx hsm hc
theorem small_snoc (d:List Pr) (p:Pr) (h:Small d) (h1:p.2.2.1.size<=65535) (h2:p.2.2.2.size<=65535):Small (d++[p]):=fun k hk=>by
 rw[List.length_append,List.length_singleton]at hk
 rcases Nat.lt_or_ge k d.length with a | a
 ·rw[at0_app d [p] k a];exact h k a
 ·obtain rfl:k=d.length:=by omega
  rw[at0_mid];omega
theorem drop_take_drop (l:List Int) (q m a:Nat):(l.drop (q+a)).take (m - a)=((l.drop q).take m).drop a:=by
 rw[List.drop_take,List.drop_drop]
theorem rGet_read (v:Value) (l:List Int) (place:Int) (w:World) (h:Byt w v l) (hv:(V.vget l).2.2=0) (hs:ghd l+(gid l).toNat<=l.length):Calls Tryz.prog 91 #[v,.int .i64 place] w (RGetPost2 place l w):=by
 obtain⟨i0,hi,hz0,hz1,hz2⟩:=info_parts Tryz.infoProp
 have hp:pgt place l=rdn place (pbd l):=by unfold pgt;rw[if_neg (by rw[hv];decide),if_neg (by omega)]
 have hsz:∀ q,parse (pbd l)=some q->pgt place l=0->plist place l=q/\psz place l=((ghd l+(gid l).toNat:Nat):Int):=fun q hq h0=>by
  unfold plist psz
  rw[if_pos h0,if_pos h0,hq]
  exact⟨rfl,by omega⟩
 obtain⟨hv',h1,h2,h3,h4,h5⟩:=vget_is l h.range hv
 have hQ4:=ghd_le l h2 h5
 clear h5
 obtain⟨b,off,cap,rfl,hc1,hc2⟩:=h.form1 (by omega)
 unfold maxLen at hc2
 have HV:=zh h
 have HP:=zh hp
 have HSZ:=zh hsz
 clear h hv hp hsz
 have hpb:pbd l=(l.drop (ghd l)).take (gid l).toNat:=rfl
 obtain⟨N,hN⟩:∃ N:Nat,gid l=N:=⟨(gid l).toNat,by omega⟩
 rw[hN,Int.toNat_natCast]at hs HSZ hpb
 rw[hN]at hv' h3 h4
 generalize ghd l=Q at hQ4 hv' h1 h2 hs HSZ hpb
 generalize pbd l=L at HP HSZ hpb
 have Hv:=zh hv'
 have hLl:L.length=N:=by rw[hpb,List.length_take,List.length_drop];omega
 generalize hn:l.length=n at hc1 HV h2 hs
 have HPB:=zh hpb
 have HLL:=zh hLl
 clear hn hv' hN hpb hLl
 go_enter Tryz.func91,Tryz.ntmps91
 go_wp2_with fail
 refine (rvget_good _ l _ (uh HV) N Q (uh Hv)).mono ?_
 rintro e w1 ⟨rfl,hb1⟩
 have HB1:=zh hb1
 clear hb1
 go_wp2_with fail
 go_loopw [10,11] (fun l0 a0 wr=>∃ (lv:Value) (d:List Pr) (k A:Nat),l0=lv/\a0=.int .i64 (Q+A:Nat)/\A<=N/\k<=A/\Hid (d.length=k)/\Hid (parse L=(parse (L.drop A)).map (d++·))/\Hid (Small d)/\Hid (wr.ownsRow w.heap.size 109 4 lv k (pcs d))/\Below w.heap.size w wr) (fun _ a0 _=>Q+N - (intOf a0).toNat)
 case atStart =>
  refine⟨_,[],0,0,rfl,rfl,Nat.zero_le _,Nat.le_refl _,rfl,?_,fun k hk=>absurd hk (Nat.not_lt_zero k),World.ownsRow_nil _ _ _ _,uh HB1⟩
  show parse L=_
  rw[List.drop_zero]
  cases parse L <;> simp
 case round =>
  obtain⟨_,d,k,A,rfl,rfl,hAN,hkA,HD,HPA,HSM,HOWN,hbel⟩:=hrel
  have hsz:=hbel.size
  by_cases hlt:A < N
  ·have HY:Hid (Byt wr (.slice (some ⟨b,off+(Q+A),none⟩) (Q+N - (Q+A)) (cap - (Q+A))) (L.drop A)):=by
    show Byt _ _ _
    have:=((uh HV).below hbel).mid (Q+A) (N - A) (by omega)
    rw[if_neg (by omega),drop_take_drop,<- uh HPB]at this
    rw[show Q+N - (Q+A)=N - A from by omega]
    exact this
   have HLA:Hid ((L.drop A).length=N - A):=by show _=_;rw[List.length_drop,uh HLL]
   have HNE:Hid (L.drop A≠[]):=by
    intro e
    have:=uh HLA
    rw[e]at this
    simp at this
    omega
   have HBEL:=zh hbel
   clear hbel
   cases hgk:gok (L.drop A)
   ·have HC:Hid (pgt place l=1):=(uh HP).trans (rdn_none place L (by rw[uh HPA,parse_no _ (uh HNE) hgk];rfl))
    have HGK:=zh hgk
    clear hgk
    go_wp2_with fail
    refine (rg_fail _ _ _ (uh HY) (uh HGK)).mono ?_
    rintro e w2 ⟨i2,n2,s2,t2,rfl,hb2⟩
    go_wp2
    go_returns
    exact rget_post_bad place l w _ 1 (uh HC) (by decide) (((uh HBEL).trans (hb2.mono hsz)).alloc (by have:=hb2.size;omega) _)
   ·have hr:=(uh HY).range
    obtain⟨hg1,hg2,-,-⟩:=gok_le (L.drop A) hr hgk
    rw[uh HLA]at hg2
    have HTX:=zh (gpr_txo (L.drop A) hr hgk)
    have HPY:=zh (parse_yes (L.drop A) (uh HNE) hr hgk)
    have HG1:=zh (rg_good _ (L.drop A) _ (uh HY) hgk)
    clear hr hgk
    generalize hz:gsz (L.drop A)=z at hg1 hg2 HPY HG1
    clear hz
    obtain⟨id,M,s,t,hp⟩:∃ id M s t,gpr (L.drop A)=(id,M,s,t):=⟨_,_,_,_,rfl⟩
    rw[hp]at HTX HPY HG1
    clear hp
    have HP2:Hid (parse L=(parse (L.drop (A+z))).map ((d++[(id,M,s,t)])++·)):=by
     show _=_
     rw[uh HPA,uh HPY,Option.map_map,List.drop_drop]
     congr 1
     funext x
     simp
    clear HPY HPA
    go_wp2_with fail
    refine (uh HG1).mono ?_
    rintro e w2 ⟨rfl,hb2⟩
    have HB2:Hid (Below w.heap.size w w2):=(uh HBEL).trans (hb2.mono hsz)
    have hs2:=(uh HB2).size
    have HOWN2:Hid (w2.ownsRow w.heap.size 109 4 u10 k (pcs d)):=owns_below (uh HOWN) hb2
    have HSM2:Hid (Small (d++[(id,M,s,t)])):=small_snoc d _ (uh HSM) (uh HTX).2.1 (uh HTX).2.2
    have HLEN2:Hid ((d++[(id,M,s,t)]).length=k+1):=by show _=_;rw[List.length_append,uh HD];rfl
    clear hb2 HOWN HBEL HG1 HTX HSM
    have HSIZE:Hid ((w2.alloc (.cells #[.int .i64 id,.int .i64 M,.string s,.string t] 109)).heap.size=w2.heap.size+1):=by show _=_;simp
    have HFC:=zh (four_cell (w2.alloc (.cells #[.int .i64 id,.int .i64 M,.string s,.string t] 109)) (.int .i64 id) (.int .i64 M) (.string s) (.string t) 109)
    rw[uh HSIZE]at HFC
    go_wp2_with (first
     | (at_builtin;refine wpList_append_own _ rfl _ _ 23 rfl w.heap.size 109 i0 _ 4 48 Tryz.underlying23 hi hz0 hz1 hz2 rfl (by decide) _ _ _ rfl (((uh HOWN2).alloc _).alloc _) ⟨w2.heap.size+1,0,none⟩ 1 1 [.int .i64 id,.int .i64 M,.string s,.string t] rfl rfl (uh HFC) (four_one _ _ _ _) (by unfold maxLen;omega) (by omega) (by simp;omega) ?_)
     | go_in)
    intro v4 w4 hown4 hgrow4 _
    have HB4:Hid (Below w.heap.size w w4):=(((uh HB2).alloc hs2 _).alloc (by simp;omega) _).grown hgrow4 (by simp;omega) (fun g hg=>by have:=((uh HOWN2).lt g hg).1;omega)
    have HOWN4:Hid (w4.ownsRow w.heap.size 109 4 v4 (k+1) (pcs (d++[(id,M,s,t)]))):=by
     show World.ownsRow _ _ _ _ _ _ _
     rw[pcs_app]
     exact hown4
    clear hown4 hgrow4 HOWN2 HFC HSIZE HB2
    go_wp2
    go_roundw
    case rel=>exact⟨_,_,k+1,A+z,rfl,by go_num,by omega,by omega,HLEN2,HP2,HSM2,HOWN4,uh HB4⟩
    case measure=>simp[intOf];omega
  ·obtain rfl:A=N:=by omega
   have HPS:Hid (parse L=some d):=by
    have:=uh HPA
    rw[List.drop_of_length_le (by rw[uh HLL];exact Nat.le_refl _),parse_nil]at this
    show parse L=some d
    simpa using this
   have HPR:Hid (Prp wr u10 d):=prp_of_owns (by rw[uh HD];exact uh HOWN)
   have HRD:Hid (pgt place l=chkP place d):=(uh HP).trans (rdn_some place L d (uh HPS))
   have HBEL:=zh hbel
   have HCK:=zh (rchk_use u10 d place wr (uh HPR) (by rw[uh HD];omega) (uh HSM))
   clear hbel HPA
   by_cases hc0:chkP place d=0
   ·have HLS:=zh ((uh HSZ) d (uh HPS) ((uh HRD).trans hc0))
    have HC:Hid (pgt place l=0):=(uh HRD).trans hc0
    rw[hc0]at HCK
    clear hc0 HRD
    go_wp2_with fail
    refine (uh HCK).mono ?_
    rintro e w2 ⟨rfl,hb2⟩
    have HB2:Hid (Below w.heap.size w w2):=(uh HBEL).trans (hb2.mono hsz)
    have HOW2:Hid (w2.ownsRow w.heap.size 109 4 u10 k (pcs d)):=owns_below (uh HOWN) hb2
    clear HOWN
    clear hb2
    go_wp2
    go_returns
    refine⟨_,by rw[(uh HLS).2,uh HC];exact (by go_num),?_,uh HB2⟩
    show World.ownsRow _ _ _ _ _ _ _
    rw[(uh HLS).1,uh HD]
    exact uh HOW2
   ·generalize hm:chkP place d=m at HCK hc0 HRD
    clear hm HOWN
    go_wp2_with fail
    refine (uh HCK).mono ?_
    rintro e w2 ⟨rfl,hb2⟩
    go_wp2
    go_returns
    exact rget_post_bad place l w _ m (uh HRD) hc0 ((uh HBEL).trans (hb2.mono hsz))
theorem rGet_own (v:Value) (l:List Int) (place:Int) (w:World) (h:Byt w v l):Calls Tryz.prog 91 #[v,.int .i64 place] w (RGetPost2 place l w):=by
 by_cases hv:(V.vget l).2.2=0
 ·rcases Nat.lt_or_ge l.length (ghd l+(gid l).toNat)with hs | hs
  ·exact rGet_short v l place w h hv hs
  ·exact rGet_read v l place w h hv hs
 ·exact rGet_bad1 v l place w h hv
end Go.Proofs.YtpheelbbpiieiaaGreatDoor
namespace Go.Proofs.YtpheelbbpiieiaaGreatDoor.K
open Go.RowKit
set_option maxRecDepth 100000
structure B2 (R A:Nat) (w w':World):Prop where
 os:w'.os=w.os
 tape:w'.tape=w.tape
 output:w'.output=w.output
 size:w.heap.size<=w'.heap.size
 block:∀ k,k < w.heap.size->k≠R->k≠A->w'.heap[k]?=w.heap[k]?
theorem B2.refl (R A:Nat) (w:World):B2 R A w w:=⟨rfl,rfl,rfl,Nat.le_refl _,fun _ _ _ _=>rfl⟩
theorem B2.trans {R A:Nat} {a b c:World} (h:B2 R A a b) (k:B2 R A b c):B2 R A a c :=
 ⟨k.os.trans h.os,k.tape.trans h.tape,k.output.trans h.output,Nat.le_trans h.size k.size,fun i hi h1 h2=>(k.block i (Nat.lt_of_lt_of_le hi h.size) h1 h2).trans (h.block i hi h1 h2)⟩
theorem B2.bx {R A:Nat} {may:Nat->Prop} {a b:World} (h:BX R may a b):B2 R A a b:=⟨h.os,h.tape,h.output,h.size,fun k hk h1 _=>h.block k hk h1⟩
theorem B2.bel {R A:Nat} {a b:World} (h:Below a.heap.size a b):B2 R A a b:=⟨h.os,h.tape,h.output,h.size,fun k hk _ _=>h.block k hk⟩
theorem B2.set {R A:Nat} {a b:World} (h:B2 R A a b) (j:Nat) (u:Value):B2 R A a (b.setCell ⟨A,j,none⟩ u) :=
 h.trans ⟨rfl,rfl,rfl,by simp[World.setCell],fun k _ _ hA=>Below.heap_setCell _ _ _ _ hA⟩
theorem B2.setR {R A:Nat} {a b:World} (h:B2 R A a b) (j:Nat) (u:Value):B2 R A a (b.setCell ⟨R,j,none⟩ u) :=
 h.trans ⟨rfl,rfl,rfl,by simp[World.setCell],fun k _ hR _=>Below.heap_setCell _ _ _ _ hR⟩
theorem B2.setOut {R A:Nat} {a b:World} (h:B2 R A a b) (V j:Nat) (u:Value) (hV:a.heap.size<=V):B2 R A a (b.setCell ⟨V,j,none⟩ u) :=
 ⟨h.os,h.tape,h.output,by simpa [World.setCell] using h.size,fun k hk h1 h2=>(Below.heap_setCell _ _ _ _ (by show k≠V;omega)).trans (h.block k hk h1 h2)⟩
theorem B2.grown {R A:Nat} {a b c:World} {row:Option Nat} (h:B2 R A a b) (hg:b.grownBy c row) (hrow:∀ g,row=some g->a.heap.size<=g):B2 R A a c :=
 ⟨hg.os.trans h.os,hg.tape.trans h.tape,hg.output.trans h.output,Nat.le_trans h.size hg.size,fun k hk h1 h2=>(hg.block k (Nat.lt_of_lt_of_le hk h.size) (fun e=>by have:=hrow k e.symm;omega)).trans (h.block k hk h1 h2)⟩
theorem B2.keep {R A:Nat} {w0 a b:World} (h:B2 R A a b) (hw:Below w0.heap.size w0 a) (hR:w0.heap.size<=R) (hA:w0.heap.size<=A):Below w0.heap.size w0 b :=
 ⟨h.os.trans hw.os,h.tape.trans hw.tape,h.output.trans hw.output,Nat.le_trans hw.size h.size,fun k hk=>(h.block k (Nat.lt_of_lt_of_le hk hw.size) (by omega) (by omega)).trans (hw.block k hk)⟩
theorem owns_b2 {w w':World} {R A:Nat} {B:Nat} {e:TypeId} {s:Nat} {v:Value} {n:Nat} {xs:List Value} (h:w.ownsRow B e s v n xs) (hx:B2 R A w w') (hR:R < B) (hA:A < B):w'.ownsRow B e s v n xs:=by
 refine⟨h.1,?_⟩
 rcases h.2 with h1 | ⟨g,cap,cur,hv,hB,hg,rest⟩
 ·exact .inl h1
 ·exact .inr ⟨g,cap,cur,hv,hB,by rw[hx.block g (Array.getElem?_eq_some_iff.1 hg).1 (by omega) (by omega)];exact hg,rest⟩
theorem Pk.blk {w w':World} {A:Nat} {p:Pkv} (h:Pk w A p) (hb:w'.heap[A]?=w.heap[A]?):Pk w' A p:=fun j hj =>
 ⟨(World.cell?_of_block (a:=⟨A,j,none⟩) hb).trans (h j hj).1,(World.frozen?_of_block (a:=⟨A,j,none⟩) hb).trans (h j hj).2⟩
theorem Pk.oth {w w':World} {R A:Nat} {may:Nat->Prop} {p:Pkv} (h:Pk w A p) (hx:BX R may w w') (hA:A≠R):Pk w' A p:=h.blk (hx.block A h.lt hA)
theorem RP.far {w0:GW} {w w':World} {R:Nat} {st:Option (List Int)} (h:RP w0 w R st) (hb:w'.heap[R]?=w.heap[R]?) (hw':Below w0.heap.size w0 w'):RP w0 w' R st:=by
 obtain⟨ao,n,cap,k,bad,L,hc,hy,hk,hn,hw,hR,hst⟩:=h
 exact⟨ao,n,cap,k,bad,L,hc.far hb,hy,hk,hn,hw',hR,hst⟩
theorem RP.keep {w0:GW} {w:World} {R:Nat} {st:Option (List Int)} (h:RP w0 w R st):Below w0.heap.size w0 w:=by
 obtain⟨_,_,_,_,_,_,_,_,_,_,h,_⟩:=h
 exact h
theorem RP.low {w0:GW} {w:World} {R:Nat} {st:Option (List Int)} (h:RP w0 w R st):w0.heap.size<=R:=by
 obtain⟨_,_,_,_,_,_,_,_,_,_,_,h,_⟩:=h
 exact h
theorem RP.set {w0:GW} {w:World} {R:Nat} {st:Option (List Int)} (h:RP w0 w R st) (A j:Nat) (u:Value) (hA:A≠R) (h0:w0.heap.size<=A):RP w0 (w.setCell ⟨A,j,none⟩ u) R st :=
 h.far (Below.heap_setCell _ _ _ _ (fun e=>hA e.symm)) ⟨h.keep.os,h.keep.tape,h.keep.output,by simpa [World.setCell] using h.keep.size,fun k hk=>(Below.heap_setCell _ _ _ _ (by show k≠A;omega)).trans (h.keep.block k hk)⟩
theorem RP.grown {w0:GW} {w w':World} {R:Nat} {st:Option (List Int)} {row:Option Nat} (h:RP w0 w R st) (hg:w.grownBy w' row) (hR:row≠some R) (h0:∀ g,row=some g->w0.heap.size<=g):RP w0 w' R st :=
 h.far (hg.block R h.lt (fun e=>hR e.symm)) ⟨hg.os.trans h.keep.os,hg.tape.trans h.keep.tape,hg.output.trans h.keep.output,Nat.le_trans h.keep.size hg.size,fun k hk=>(hg.block k (Nat.lt_of_lt_of_le hk h.keep.size) (fun e=>by have:=h0 k e.symm;omega)).trans (h.keep.block k hk)⟩
theorem RP.bad {w0:GW} {w:World} {R:Nat} {st:Option (List Int)} (h:RP w0 w R st):RP w0 (w.setCell ⟨R,2,none⟩ (.bool true)) R none:=by
 obtain⟨ao,n,cap,k,bad,L,hc,hy,hk,hn,hw,hR,hst⟩:=h
 exact⟨ao,n,cap,k,true,L,hc.setBad true,hy,hk,hn,((BX.refl R isAny w).set 2 _ trivial).keep hw hR,hR,rfl⟩
theorem RP.c2 {w0:GW} {w:World} {R:Nat} {st:Option (List Int)} (h:RP w0 w R st):∃ b,w.cell? ⟨R,2,none⟩=some (.bool b)/\w.frozen? ⟨R,2,none⟩=false/\b=st.isNone:=by
 obtain⟨ao,n,cap,k,bad,L,hc,hy,hk,hn,hw,hR,hst⟩:=h
 refine⟨bad,hc.2.2.1,hc.2.2.2,?_⟩
 subst hst
 cases bad <;> rfl
def PgP (w0:GW) (R:Nat) (place:Int) (st:Option (List Int)) (w:World) (e:Ending) (w':World):Prop :=
 ∃ (t:Sl) (x:List Pr) (st':Option (List Int)),e=.returned t.val/\Hid (w'.ownsRow w.heap.size 109 4 t.val x.length (pcs x))/\Stp (props? place) st x st'/\RP w0 w' R st'/\BX R isAny w w'
theorem props_pg (R:Nat) (place:Int) (st:Option (List Int)) (w0:GW) (w:World) (h:RP w0 w R st):Calls Tryz.prog 63 #[.pointer (some ⟨R,0,none⟩),.int .i64 place] w (PgP w0 R place st w):=by
 have hlt:=h.lt
 have hw0:=h.keep
 have HS:=zh h
 have HW0:=zh hw0
 clear h hw0
 go_enter Tryz.func63,Tryz.ntmps63
 go_wp2_with fail
 refine (left_pg R st w0 w (uh HS)).mono ?_
 rintro e w1 ⟨v,l,rfl,hv,he1,he2,hb1⟩
 have HW1:Hid (Below w0.heap.size w0 w1):=(uh HW0).trans (hb1.mono (uh HW0).size)
 obtain⟨n,hN,hn⟩:=psz_len place l
 have HG:=zh (rGet_own v l place w1 ((uh hv).below (uh HW1)))
 unfold RGetPost2 at HG
 rw[hN]at HG
 have HS1:=zh ((uh HS).below hb1)
 have HB1:=zh hb1
 have HE1:=zh he1
 have HQ:Hid (props? place l=if pgt place l=0 then some (plist place l,l.drop n) else none):=by
  show props? place l=_
  unfold props?
  rw[hN,Int.toNat_natCast]
 clear hb1 he1 he2 hN
 generalize plist place l=x at HG HQ
 generalize pgt place l=m at HG HQ
 go_wp2_with fail
 refine (uh HG).mono ?_
 rintro e w2 ⟨u,rfl,hO,hb2⟩
 obtain⟨t,ht,_⟩:=owns_sl (uh hO)
 subst ht
 have HS2:=zh ((uh HS1).below hb2)
 have HB2:Hid (Below w.heap.size w w2):=(uh HB1).trans (hb2.mono (uh HB1).size)
 have hs1:w.heap.size<=w1.heap.size:=(uh HB1).size
 clear hb2
 go_wp2_with fail
 refine (took_pg R st n m w0 w2 (uh HS2) (fun l' e=>by rw[(uh HE1) l' e];exact hn)).mono ?_
 rintro e w3 ⟨rfl,h3,hx3⟩
 have HS3:=zh h3
 have HX3:=zh hx3
 clear h3 hx3
 go_wp2
 go_ret
 refine⟨t,x,_,rfl,owns_mono (owns_bx (uh hO) (uh HX3) (Nat.lt_of_lt_of_le hlt hs1)) hs1,?_,uh HS3,(BX.of_below (uh HB2) hlt).trans (uh HX3)⟩
 cases st with
 | none =>
  show (if m=0 then _ else _)=none
  split <;> rfl
 | some l' =>
  have e:=(uh HE1) l' rfl
  subst e
  exact stp_get (props? place) (some l') l' x n m (.inl rfl) (uh HQ)
def moreB:Option (List Int)->Bool
 | none=>false
 | some l=>!l.isEmpty
theorem more_pg (R:Nat) (st:Option (List Int)) (w0:GW) (w:World) (h:RP w0 w R st):Calls Tryz.prog 94 #[.pointer (some ⟨R,0,none⟩)] w fun e w'=>e=.returned (.bool (moreB st))/\Below w.heap.size w w':=by
 obtain⟨ao,n,cap,k,bad,L,hc,hy,hk,hn,hw,hR,hst⟩:=h
 obtain⟨hl,hc1,hc2⟩:=byt_len hy
 unfold maxLen at hc2
 have HD:=zh (bel_drew w)
 obtain⟨h0,⟨h1,f1⟩,h2,f2⟩:=hc
 cases bad
 ·have HM:Hid (moreB st=decide (k < n)):=by
   show _=_
   rw[hst]
   show (!(L.drop k).isEmpty)=_
   rcases Nat.lt_or_ge k n with a | a
   ·rw[decide_eq_true (by omega)]
    cases hd:L.drop k with
    | nil=>have:=congrArg List.length hd;rw[List.length_drop,hl]at this;simp at this;omega
    | cons x t=>rfl
   ·rw[decide_eq_false (by omega),List.drop_of_length_le (by omega)]
    rfl
  clear hst hy hw hl
  go_enter Tryz.func94,Tryz.ntmps94
  go_wp2_with fail
  refine wp_region_noPanic ?_
  refine wp_region_held_drew (S:=(fun w'=>w'.cell? ⟨R,0,none⟩=some (.slice ao n cap)/\w'.cell? ⟨R,1,none⟩=some (.int .i64 (k:Nat))/\w'.cell? ⟨R,2,none⟩=some (.bool false))) (by kernel_rfl) ⟨by simpa using h0,by simpa using h1,by simpa using h2⟩ (fun hHeld=>?_)
  refine rtk 0 (h:=?_)
  refine rtk 1 (h:=?_)
  refine rtk 2 (h:=?_)
  refine rtk 3 (h:=?_)
  refine rtk 4 (h:=?_)
  refine rtk 5 (h:=?_)
  refine rtk 6 (h:=?_)
  refine rtk 7 (h:=?_)
  refine rtk 8 (h:=?_)
  refine rtk 9 (h:=?_)
  refine rtk 10 (h:=?_)
  refine rtk 11 (h:=?_)
  refine rtk 12 (h:=?_)
  refine rtk 13 (h:=?_)
  refine rtk 14 (h:=?_)
  refine rtk 15 (h:=?_)
  refine rtk 16 (h:=?_)
  refine rcl 17 (h:=fun K hK=>?_)
  go_simp
  refine hK.out _ _ ⟨by simpa using h0,by simpa using h1,by simpa using h2⟩ (fun hHeld=>?_)
  clear hK K
  refine wpAnyH_done (by kernel_rfl) ?_ _
  refine NoPanic.normal ?_
  go_wp2
  go_ret
  exact⟨by rw[uh HM];rfl,uh HD⟩
 ·obtain rfl:st=none:=hst
  clear hy hw hl
  go_enter Tryz.func94,Tryz.ntmps94
  go_wp2_with fail
  refine wp_region_noPanic ?_
  refine wp_region_held_drew (S:=(fun w'=>w'.cell? ⟨R,0,none⟩=some (.slice ao n cap)/\w'.cell? ⟨R,1,none⟩=some (.int .i64 (k:Nat))/\w'.cell? ⟨R,2,none⟩=some (.bool true))) (by kernel_rfl) ⟨by simpa using h0,by simpa using h1,by simpa using h2⟩ (fun hHeld=>?_)
  refine rtk 0 (h:=?_)
  refine rtk 1 (h:=?_)
  refine rtk 2 (h:=?_)
  refine rtk 3 (h:=?_)
  refine rtk 4 (h:=?_)
  refine rtk 5 (h:=?_)
  refine rsk 6 (h:=?_)
  refine rsk 7 (h:=?_)
  refine rsk 8 (h:=?_)
  refine rsk 9 (h:=?_)
  refine rsk 10 (h:=?_)
  refine rsk 11 (h:=?_)
  refine rsk 12 (h:=?_)
  refine rsk 13 (h:=?_)
  refine rsk 14 (h:=?_)
  refine rsk 15 (h:=?_)
  refine rtk 16 (h:=?_)
  refine rcl 17 (h:=fun K hK=>?_)
  go_simp
  refine hK.out _ _ ⟨by simpa using h0,by simpa using h1,by simpa using h2⟩ (fun hHeld=>?_)
  clear hK K
  refine wpAnyH_done (by kernel_rfl) ?_ _
  refine NoPanic.normal ?_
  go_wp2
  go_ret
  exact⟨rfl,uh HD⟩
theorem moreB_no {st:Option (List Int)} (h:moreB st=false):st=none\/st=some []:=by
 cases st with
 | none=>exact .inl rfl
 | some l=>cases l with
  | nil=>exact .inr rfl
  | cons a t=>cases h
theorem moreB_yes {st:Option (List Int)} (h:moreB st=true):∃ l,st=some l/\l≠[]:=by
 cases st with
 | none=>cases h
 | some l=>cases l with
  | nil=>cases h
  | cons a t=>exact⟨_,rfl,by simp⟩
def TailPg (w0:GW) (R A:Nat) (p:Pkv) (st:Option (List Int)) (w:World) (e:Ending) (w':World):Prop :=
 e=.returned (.tuple #[])/\∃ (c:Int) (t:Sl) (x:List Pr) (st':Option (List Int)),Pk w' A { p with code:=c,props:=t }/\Hid (w'.ownsRow w.heap.size 109 4 t.val x.length (pcs x))/\Stp (reason? p.kind) st (c,x) st'/\RP w0 w' R st'/\B2 R A w w'
theorem tail_pg (R A:Nat) (p:Pkv) (st:Option (List Int)) (w0:GW) (w:World) (h:RP w0 w R st) (hp:Pk w A p) (hA:A≠R) (hA0:w0.heap.size<=A) (hc:p.code=0) (hpr:p.props=⟨none,0,0⟩):Calls Tryz.prog 67 #[.pointer (some ⟨R,0,none⟩),.pointer (some ⟨A,0,none⟩)] w (TailPg w0 R A p st w):=by
 have hlt:=h.lt
 have hla:=hp.lt
 have HP:=zh hp
 have HS:=zh h
 have HC:=zh hc
 have HPR:=zh hpr
 clear hp h hc hpr
 cases hm:moreB st
 ·go_enter Tryz.func67,Tryz.ntmps67
  go_wp2_with fail
  refine (more_pg R st w0 w (uh HS)).mono ?_
  rintro e w1 ⟨rfl,hb1⟩
  rw[hm]
  have HS1:=zh ((uh HS).below hb1)
  have HB1:=zh hb1
  clear hb1
  go_wp2_with fail
  refine (more_pg R st w0 w1 (uh HS1)).mono ?_
  rintro e w2 ⟨rfl,hb2⟩
  rw[hm]
  have HB2:Hid (Below w.heap.size w w2):=(uh HB1).trans (hb2.mono (uh HB1).size)
  clear hb2
  go_wp2
  go_end0
  refine⟨rfl,0,⟨none,0,0⟩,[],st,?_,owns_nil _ _ _ _,?_,(uh HS).below (uh HB2),B2.bel (uh HB2)⟩
  ·have e:{ p with code:=0,props:=⟨none,0,0⟩ }=p:=by rw[<- uh HC,<- uh HPR]
   rw[e]
   exact (uh HP).below (uh HB2)
  ·rcases moreB_no hm with rfl | rfl
   ·exact rfl
   ·exact⟨rfl,rfl⟩
 ·obtain⟨l,rfl,hl⟩:=moreB_yes hm
  obtain⟨y,t,rfl⟩:∃ y t,l=y :: t:=by cases l with | nil=>exact absurd rfl hl | cons y t=>exact⟨y,t,rfl⟩
  clear hl
  go_enter Tryz.func67,Tryz.ntmps67
  go_wp2_with fail
  refine (more_pg R _ w0 w (uh HS)).mono ?_
  rintro e w1 ⟨rfl,hb1⟩
  rw[hm]
  have HS1:=zh ((uh HS).below hb1)
  have HP1:=zh ((uh HP).below hb1)
  have HB1:Hid (B2 R A w w1):=B2.bel hb1
  clear hb1 hm
  go_wp2_with fail
  refine (byte_pg R _ w0 w1 (uh HS1)).mono ?_
  rintro e w2 ⟨c,st2,rfl,hcr,hs2,h2,hx2⟩
  obtain⟨rfl,rfl⟩:=hs2
  have hp2:=(uh HP1).oth hx2 hA
  have c14:=hp2.code
  have f14:=hp2.code_f
  have c0:=hp2.kind
  have HP2:=zh (hp2.set_code c)
  have HS2:=zh (h2.set A 14 (.int .i64 c) hA hA0)
  have HB2:Hid (B2 R A w (w2.setCell ⟨A,14,none⟩ (.int .i64 c))):=((uh HB1).trans (B2.bx hx2)).set 14 _
  clear hp2 h2 hx2
  cases ht:t with
  | nil =>
   subst ht
   go_wp2_with fail
   refine (more_pg R _ w0 _ (uh HS2)).mono ?_
   rintro e w3 ⟨rfl,hb3⟩
   rw[show moreB (some [])=false from rfl]
   have HB3:Hid (B2 R A w w3):=(uh HB2).trans (B2.bel hb3)
   have HP3:=zh ((uh HP2).below hb3)
   have HS3:=zh ((uh HS2).below hb3)
   clear hb3
   go_wp2
   go_end0
   refine⟨rfl,c,⟨none,0,0⟩,[],_,?_,owns_nil _ _ _ _,?_,uh HS3,uh HB3⟩
   ·have e:{ p with code:=c,props:=⟨none,0,0⟩ }={ p with code:=c }:=by rw[<- uh HPR]
    rw[e]
    exact uh HP3
   ·exact⟨rfl,rfl⟩
  | cons y' t' =>
   subst ht
   go_wp2_with fail
   refine (more_pg R _ w0 _ (uh HS2)).mono ?_
   rintro e w3 ⟨rfl,hb3⟩
   rw[show moreB (some (y' :: t'))=true from rfl]
   have HB3:Hid (B2 R A w w3):=(uh HB2).trans (B2.bel hb3)
   have hp3:=(uh HP2).below hb3
   have d0:=hp3.kind
   have HP3:=zh hp3
   have HS3:=zh ((uh HS2).below hb3)
   clear hb3 hp3 c14 f14 c0
   go_wp2_with fail
   refine (props_pg R _ _ w0 _ (uh HS3)).mono ?_
   rintro e w4 ⟨s,x,st4,rfl,hO,hs4,h4,hx4⟩
   have hp4:=(uh HP3).oth hx4 hA
   have d7:=hp4.props
   have e7:=hp4.props_f
   have HP4:=zh (hp4.set_props s)
   have HS4:=zh (h4.set A 7 s.val hA hA0)
   have HB4:Hid (B2 R A w (w4.setCell ⟨A,7,none⟩ s.val)):=((uh HB3).trans (B2.bx hx4)).set 7 _
   have HST4:=zh hs4
   have hB:w.heap.size<=w3.heap.size:=(uh HB3).size
   clear hp4 h4 hx4 hs4 d0
   go_wp2
   go_end0
   refine⟨rfl,c,s,x,st4,uh HP4,?_,?_,uh HS4,uh HB4⟩
   ·exact owns_mono (owns_b2 (uh hO) ((B2.refl R A w4).set 7 _) (Nat.lt_of_lt_of_le hlt hB) (Nat.lt_of_lt_of_le hla hB)) hB
   ·have k3:=uh HST4
    simp only[Stp,reason?]at k3 |-
    cases hq:props? p.kind (y' :: t') with
    | none=>rw[show ({ p with code:=c }:Pkv).kind=p.kind from rfl,hq]at k3;simpa using k3
    | some r =>
     obtain⟨r1,r2⟩:=r
     rw[show ({ p with code:=c }:Pkv).kind=p.kind from rfl,hq]at k3
     obtain⟨rfl,rfl⟩:=k3
     simp
end Go.Proofs.YtpheelbbpiieiaaGreatDoor.K
