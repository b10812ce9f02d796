/- Helpers of the proof. -/
import Derived.Test.YtmpijpjlbhfccaaGreatDoorZC30
import Derived.Test.YtmpijpjlbhfccaaGreatDoorZC9
import Derived.Test.YtmpijpjlbhfccaaGreatDoorZC13
import Derived.Test.YtmpijpjlbhfccaaGreatDoorZC29
import Derived.Test.YtmpijpjlbhfccaaGreatDoorZC28
import Derived.Test.YtmpijpjlbhfccaaGreatDoorZC22
import Derived.Test.YtmpijpjlbhfccaaGreatDoorZC12
set_option maxHeartbeats 20000000
namespace Go.Proofs.YtmpijpjlbhfccaaGreatDoor
open Go.RowKit
set_option maxRecDepth 100000
theorem may_use (id n:Int) (s t:ByteArray) (b:Bool) (h:may (id,n,s,t)=b) (w:World) (hs:s.size<=4611686018427387904) (ht:t.size<=4611686018427387904):Calls Tryz.prog 143 #[.agg #[.int .i64 id,.int .i64 n,.string s,.string t]] w fun e w'=>e=.returned (.bool b)/\Below w.heap.size w w':=by
 subst h
 exact may_any id n s t w hs ht
theorem in_use (vx:Value) (xs:List Int) (v:Int) (b:Bool) (hb:decide (v∈xs)=b) (w:World) (h:Ints w vx xs) :
  Calls Tryz.prog 144 #[vx,.int .i64 v] w fun e w'=>(∃ r:Int,e=.returned (.int .i64 r)/\(decide (r<0))=(!b))/\w'=w:=by
 subst hb
 exact in_any vx xs v w h
theorem seen_iff (l:List Pr) (k:Nat) (hk:k<=l.length) (id:Int):seen l k id=false ↔ ∀ j,j<k->(at0 l j).1≠id:=by
 unfold seen at0
 rw[List.any_eq_false]
 constructor
 ·intro h j hj
  have hm:l.getD j p0∈l.take k:=by
   rw[List.mem_take_iff_getElem]
   exact⟨j,by omega,by rw[List.getD_eq_getElem?_getD,List.getElem?_eq_getElem (by omega)];rfl⟩
  simpa using h _ hm
 ·intro h x hx
  rw[List.mem_take_iff_getElem]at hx
  obtain⟨j,hj,rfl⟩:=hx
  have:=h j (by omega)
  rw[List.getD_eq_getElem?_getD,List.getElem?_eq_getElem (by omega)]at this
  simpa using this
theorem rchk_core (b off cap:Nat) (l:List Pr) (len:Nat) (place:Int) (w:World) (hlen:l.length=len) (hmx:len<=1000000000) (hsm:Small l) (hl:PrAt w b off l) :
  Calls Tryz.prog 114 #[.slice (some ⟨b,off,none⟩) len cap,.int .i64 place] w fun e w'=>e=.returned (.int .i64 (chkP place l))/\Below w.heap.size w w':=by
 have HL:=zh hl
 have HLEN:=zh hlen
 have HSM:=zh hsm
 clear hl hlen hsm
 go_enter Tryz.func114,Tryz.ntmps114
 go_wp2
 go_loopw [5] (fun i wr=>∃ k:Nat,k<=len/\i=.int .i64 k/\Hid (okTo place l k)/\Below w.heap.size w wr) (fun i _=>len-(intOf i).toNat)
 case atStart=>exact⟨0,Nat.zero_le _,rfl,okTo_zero _ _,Below.refl _ _⟩
 case round =>
  obtain⟨k,hk,rfl,HOT,hbel⟩:=hrel
  have hsz:=hbel.size
  by_cases hlt:k<len
  ·have HPA:=zh ((uh HL).below hbel)
   obtain⟨h0,h1,h2,h3⟩:=(uh HPA) k (by rw[uh HLEN];exact hlt)
   have hsm:=(uh HSM) k (by rw[uh HLEN];exact hlt)
   have HLTk:Hid (k<l.length):=by show _<_;rw[uh HLEN];exact hlt
   have HKO:Hid (okAt place l k=(mst (at0 l k).1 place&&may (at0 l k)&&(rep (at0 l k).1 place || !(seen l k (at0 l k).1)))):=rfl
   have HSI:=zh (seen_iff l k (Nat.le_of_lt (uh HLTk)) (at0 l k).1)
   obtain⟨id,n,s,t,hp⟩:∃ id n s t,at0 l k=(id,n,s,t):=⟨_,_,_,_,rfl⟩
   rw[hp]at h0 h1 h2 h3 hsm HKO HSI
   simp only at h0 h1 h2 h3 hsm
   have HBEL:=zh hbel
   have HSMK:=zh hsm
   clear hp hbel hsm
   have hbl:=cell_lt h0
   cases hmay:may (id,n,s,t)
   ·have HC:Hid (chkP place l=1):=chkP_bad place l k (uh HLTk) ((uh HKO).trans (by rw[hmay,Bool.and_false,Bool.false_and]))
    have HM:=zh hmay
    clear hmay HKO
    go_wp2_with fail
    refine (may_use id n s t false (uh HM) _ (uh HSMK).1 (uh HSMK).2).mono ?_
    rintro e w2 ⟨rfl,hb2⟩
    go_wp2
    go_ret
    exact⟨ret_int (uh HC).symm,(uh HBEL).trans (hb2.mono hsz)⟩
   ·have HM:=zh hmay
    cases hmst:mst id place
    ·have HC:Hid (chkP place l=1):=chkP_bad place l k (uh HLTk) ((uh HKO).trans (by rw[hmst];rfl))
     have HMS:Hid (decide (place∈plc id)=false):=hmst
     clear hmay HKO hmst
     go_wp2_with fail
     refine (may_use id n s t true (uh HM) _ (uh HSMK).1 (uh HSMK).2).mono ?_
     rintro e w2 ⟨rfl,hb2⟩
     have g0:w2.cell? ⟨b,off+k*4,none⟩=some (.int .i64 id):=(hb2.cell (p:=⟨b,off+k*4,none⟩) hbl).trans h0
     have HB2:Hid (Below w.heap.size w w2):=(uh HBEL).trans (hb2.mono hsz)
     clear hb2
     go_wp2_with fail
     refine (places_any id _).mono ?_
     rintro e w3 ⟨v3,rfl,hi3,hb3⟩
     have HB3:Hid (Below w.heap.size w w3):=(uh HB2).trans (hb3.mono (uh HB2).size)
     clear hb3
     go_wp2_with fail
     refine (in_use v3 (plc id) place false (uh HMS) _ (uh hi3)).mono ?_
     rintro e w4 ⟨⟨r,rfl,hr⟩,hw⟩
     obtain rfl:=hw.symm
     clear hw
     have hr':r<0:=by simpa using hr
     clear hr
     go_wp2
     go_ret
     exact⟨ret_int (uh HC).symm,uh HB3⟩
    ·have HMS:Hid (decide (place∈plc id)=true):=hmst
     have HRS:Hid (okAt place l k=(rep id place || !(seen l k id))):=(uh HKO).trans (by rw[hmst,hmay];rfl)
     clear hmay HKO hmst
     go_wp2_with fail
     refine (may_use id n s t true (uh HM) _ (uh HSMK).1 (uh HSMK).2).mono ?_
     rintro e w2 ⟨rfl,hb2⟩
     have g0:w2.cell? ⟨b,off+k*4,none⟩=some (.int .i64 id):=(hb2.cell (p:=⟨b,off+k*4,none⟩) hbl).trans h0
     have HB2:Hid (Below w.heap.size w w2):=(uh HBEL).trans (hb2.mono hsz)
     clear hb2
     go_wp2_with fail
     refine (places_any id _).mono ?_
     rintro e w3 ⟨v3,rfl,hi3,hb3⟩
     have HB3:Hid (Below w.heap.size w w3):=(uh HB2).trans (hb3.mono (uh HB2).size)
     clear hb3
     go_wp2_with fail
     refine (in_use v3 (plc id) place true (uh HMS) _ (uh hi3)).mono ?_
     rintro e w4 ⟨⟨r,rfl,hr⟩,hw⟩
     obtain rfl:=hw.symm
     clear hw hi3
     have hr':¬ r<0:=by simpa using hr
     clear hr
     have HPA3:Hid (PrAt w3 b off l):=(uh HL).below (uh HB3)
     have g3:w3.cell? ⟨b,off+k*4,none⟩=some (.int .i64 id):=((uh HB3).cell (p:=⟨b,off+k*4,none⟩) (by have:=cell_lt ((uh HL) k (uh HLTk)).1;exact this)).trans (((uh HBEL).cell (p:=⟨b,off+k*4,none⟩) (by have:=cell_lt ((uh HL) k (uh HLTk)).1;exact this)).symm.trans h0)
     clear g0 HB2 HBEL h0 h1 h2 h3 HPA HM HMS HSMK hbl
     have hrep:rep id place=(decide (id=38)||(decide (id=11)&&decide (place=3))):=rfl
     have HREP:=zh hrep
     clear hrep hsz
     by_cases e38:id=38
     ·have HOK:Hid (okAt place l k=true):=by show okAt place l k=true;rw[uh HRS,uh HREP,e38];rfl
      subst e38
      go_wp2
      go_roundw
      case rel=>exact⟨k+1,by omega,by go_num,okTo_succ (uh HOT) (uh HOK),uh HB3⟩
      case measure=>simp[intOf];omega
     have b38:(id==38)=false:=beq_eq_false_iff_ne.2 e38
     by_cases e11:id=11
     ·by_cases e3:place=3
      ·have HOK:Hid (okAt place l k=true):=by show okAt place l k=true;rw[uh HRS,uh HREP,e11,e3];rfl
       subst e11
       subst e3
       clear e38 b38
       go_wp2
       go_roundw
       case rel=>exact⟨k+1,by omega,by go_num,okTo_succ (uh HOT) (uh HOK),uh HB3⟩
       case measure=>simp[intOf];omega
      ·have HRF:Hid (rep id place=false):=by show rep id place=false;rw[uh HREP];simp[e38,e3]
       have b3:(place==3)=false:=beq_eq_false_iff_ne.2 e3
       have b11:(id==11)=true:=beq_iff_eq.2 e11
       clear e38 e3 e11
       go_wp2
       go_loopw [6] (fun j wr=>∃ m q:Nat,m<=k/\j=.int .i64 m/\wr=w3.drewN q/\Hid (∀ i,i<m->(at0 l i).1≠id)) (fun j _=>k-(intOf j).toNat)
       case atStart=>exact⟨0,0,Nat.zero_le _,rfl,rfl,fun i hi=>absurd hi (Nat.not_lt_zero i)⟩
       case round =>
        obtain⟨m,q,hm,rfl,rfl,HNE⟩:=hrel
        by_cases hmk:m<k
        ·have hcm:=((uh HPA3) m (Nat.lt_trans hmk (uh HLTk))).1
         generalize hx:(at0 l m).1=x at hcm
         have HX:=zh hx
         clear hx
         by_cases hxy:x=id
         ·have hbq:(x==id)=true:=beq_iff_eq.2 hxy
          have HC:Hid (chkP place l=1):=chkP_bad place l k (uh HLTk) (by
           rw[uh HRS,uh HRF,Bool.false_or,Bool.not_eq_false']
           cases hs:seen l k id
           ·exact absurd ((uh HX).trans hxy) (((uh HSI).1 hs) m hmk)
           ·rfl)
          clear hxy
          go_wp2
          go_quiet (fail)
          go_wp2
          go_ret
          exact⟨ret_int (uh HC).symm,below_drewN (below_drewN (uh HB3) _) _⟩
         ·have hbq:(x==id)=false:=beq_eq_false_iff_ne.2 hxy
          have HXY:=zh hxy
          clear hxy
          go_wp2
          go_quiet (fail)
          go_wp2
          go_roundw
          case rel=>exact⟨m+1,_,by omega,by go_num,rfl,fun i hi=>by
           rcases Nat.lt_succ_iff_lt_or_eq.1 hi with h|h
           ·exact (uh HNE) i h
           ·rw[h,uh HX];exact uh HXY⟩
          case measure=>simp[intOf];omega
        ·obtain rfl:m=k:=by omega
         have HOK:Hid (okAt place l m=true):=by
          show okAt place l m=true
          rw[uh HRS,uh HRF,(uh HSI).2 (uh HNE)];rfl
         go_wp2
         go_roundw
         case rel=>exact⟨m+1,by omega,by go_num,okTo_succ (uh HOT) (uh HOK),below_drewN (uh HB3) _⟩
         case measure=>simp[intOf];omega
     ·have HRF:Hid (rep id place=false):=by show rep id place=false;rw[uh HREP];simp[e38,e11]
      have b11:(id==11)=false:=beq_eq_false_iff_ne.2 e11
      clear e38 e11
      go_wp2
      go_loopw [6] (fun j wr=>∃ m q:Nat,m<=k/\j=.int .i64 m/\wr=w3.drewN q/\Hid (∀ i,i<m->(at0 l i).1≠id)) (fun j _=>k-(intOf j).toNat)
      case atStart=>exact⟨0,0,Nat.zero_le _,rfl,rfl,fun i hi=>absurd hi (Nat.not_lt_zero i)⟩
      case round =>
       obtain⟨m,q,hm,rfl,rfl,HNE⟩:=hrel
       by_cases hmk:m<k
       ·have hcm:=((uh HPA3) m (Nat.lt_trans hmk (uh HLTk))).1
        generalize hx:(at0 l m).1=x at hcm
        have HX:=zh hx
        clear hx
        by_cases hxy:x=id
        ·have hbq:(x==id)=true:=beq_iff_eq.2 hxy
         have HC:Hid (chkP place l=1):=chkP_bad place l k (uh HLTk) (by
          rw[uh HRS,uh HRF,Bool.false_or,Bool.not_eq_false']
          cases hs:seen l k id
          ·exact absurd ((uh HX).trans hxy) (((uh HSI).1 hs) m hmk)
          ·rfl)
         clear hxy
         go_wp2
         go_quiet (fail)
         go_wp2
         go_ret
         exact⟨ret_int (uh HC).symm,below_drewN (below_drewN (uh HB3) _) _⟩
        ·have hbq:(x==id)=false:=beq_eq_false_iff_ne.2 hxy
         have HXY:=zh hxy
         clear hxy
         go_wp2
         go_quiet (fail)
         go_wp2
         go_roundw
         case rel=>exact⟨m+1,_,by omega,by go_num,rfl,fun i hi=>by
          rcases Nat.lt_succ_iff_lt_or_eq.1 hi with h|h
          ·exact (uh HNE) i h
          ·rw[h,uh HX];exact uh HXY⟩
         case measure=>simp[intOf];omega
       ·obtain rfl:m=k:=by omega
        have HOK:Hid (okAt place l m=true):=by
         show okAt place l m=true
         rw[uh HRS,uh HRF,(uh HSI).2 (uh HNE)];rfl
        go_wp2
        go_roundw
        case rel=>exact⟨m+1,by omega,by go_num,okTo_succ (uh HOT) (uh HOK),below_drewN (uh HB3) _⟩
        case measure=>simp[intOf];omega
  ·obtain rfl:k=len:=by omega
   have HOT':Hid (okTo place l l.length):=by show okTo _ _ _;rw[uh HLEN];exact uh HOT
   rcases Nat.lt_or_ge 32 k with h32|h32
   ·have HC:Hid (chkP place l=2):=chkP_lim place l (uh HOT') (by rw[uh HLEN];exact h32)
    go_wp2
    go_ret
    exact⟨ret_int (uh HC).symm,hbel⟩
   ·have HC:Hid (chkP place l=0):=chkP_ok place l (uh HOT') (by rw[uh HLEN];exact h32)
    go_wp2
    go_ret
    exact⟨ret_int (uh HC).symm,hbel⟩
end Go.Proofs.YtmpijpjlbhfccaaGreatDoor
namespace Go.Proofs.YtmpijpjlbhfccaaGreatDoor.K
open Go.RowKit
set_option maxRecDepth 100000
theorem gtext_any (s:ByteArray) (c:Bool) (hc:okT s=c) (w:World) (hs:s.size<=4611686018427387904):Calls Tryz.prog 62 #[.string s] w fun e w'=>e=.returned (.bool c)/\Below w.heap.size w w':=by
 subst hc
 unfold okT
 have HR:=zh (rcheck_any s w hs)
 by_cases h:chk (sb s)=0
 ·rw[h]at HR |-
  go_enter Tryz.func62,Tryz.ntmps62
  go_wp2_with fail
  refine (uh HR).mono ?_
  rintro e w1 ⟨rfl,hb⟩
  have HB:=zh hb
  clear hb
  go_wp2
  go_ret
  exact⟨rfl,uh HB⟩
 ·rw[decide_eq_false h]
  generalize chk (sb s)=n at h HR
  have hn:(n==0)=false:=beq_false_of_ne h
  go_enter Tryz.func62,Tryz.ntmps62
  go_wp2_with fail
  refine (uh HR).mono ?_
  rintro e w1 ⟨rfl,hb⟩
  have HB:=zh hb
  clear hb
  go_wp2
  go_ret
  exact⟨rfl,uh HB⟩
def idO (n:Int):Bool:=decide (1<=n)&&decide (n<=65535)
def codeO (n:Int):Bool:=decide (0<=n)&&decide (n<=255)
theorem grchk_any (v:Value) (l:List Pr) (place:Int) (w:World) (h:Prp w v l) (hmx:l.length<=1000000000) (hsm:Go.Proofs.YtmpijpjlbhfccaaGreatDoor.Small l):Calls Tryz.prog 114 #[v,.int .i64 place] w fun e w'=>e=.returned (.int .i64 (chkP place l))/\Below w.heap.size w w':=by
 obtain⟨ao,cap,rfl,hc⟩:=h
 rcases hc with rfl|⟨b,off,rfl,hc⟩
 ·have HC:Hid (chkP place []=0):=chkP_ok place [] (fun i hi=>absurd hi (Nat.not_lt_zero i)) (by simp)
  go_enter Tryz.func114,Tryz.ntmps114
  go_wp2
  refine wp_loop_rounds 1 ?_
  rw[rounds_succ]
  go_wp2
  go_ret
  exact⟨ret_int (uh HC).symm,Below.refl _ _⟩
 ·exact rchk_core b off cap l _ place w rfl hmx hsm hc
theorem gprops_any (v:Value) (l:List Pr) (place:Int) (w:World) (h:Prp w v l) (hmx:l.length<=1000000000) (hsm:Go.Proofs.YtmpijpjlbhfccaaGreatDoor.Small l):Calls Tryz.prog 68 #[v,.int .i64 place] w fun e w'=>e=.returned (.bool (okP place l))/\Below w.heap.size w w':=by
 have HR:=zh (grchk_any v l place w h hmx hsm)
 obtain⟨ao,cap,rfl⟩:=h.form
 unfold okP
 clear h hsm
 by_cases h:chkP place l=0
 ·rw[h]at HR |-
  go_enter Tryz.func68,Tryz.ntmps68
  go_wp2_with fail
  refine (uh HR).mono ?_
  rintro e w1 ⟨rfl,hb⟩
  have HB:=zh hb
  clear hb
  go_wp2
  go_ret
  exact⟨rfl,uh HB⟩
 ·rw[decide_eq_false h]
  generalize chkP place l=n at h HR
  have hn:(n==0)=false:=beq_false_of_ne h
  go_enter Tryz.func68,Tryz.ntmps68
  go_wp2_with fail
  refine (uh HR).mono ?_
  rintro e w1 ⟨rfl,hb⟩
  have HB:=zh hb
  clear hb
  go_wp2
  go_ret
  exact⟨rfl,uh HB⟩
def mwB (u:Wl):Bool:=okT u.topic&&(okB u.payload&&(decide (0<=u.qos)&&(decide (u.qos<=2)&&okP 16 u.props)))
theorem mayWill_any (u:Wl) (ao:Option Addr) (n cap:Nat) (w:World) (hP:Prp w (.slice ao n cap) u.props) (hto:u.topic.size<=4611686018427387904) (hmx:u.props.length<=1000000000) (hsm:Go.Proofs.YtmpijpjlbhfccaaGreatDoor.Small u.props) (hpy:u.payload.size<=4611686018427387904) :
  Calls Tryz.prog 63 #[.agg #[.string u.topic,.string u.payload,.int .i64 u.qos,.bool u.retain,.slice ao n cap]] w fun e w'=>e=.returned (.bool (mwB u))/\Below w.heap.size w w':=by
 obtain⟨tp,pa,qo,re,pr⟩:=u
 dsimp only at *
 have HB0:Hid (Below w.heap.size w (w.alloc (.cells #[.string tp,.string pa,.int .i64 qo,.bool re,.slice ao n cap] 90))):=bal _ _
 have HP:=zh (hP.below (uh HB0))
 have HSM:=zh hsm
 clear hP hsm
 cases ht:okT tp
 ·have HE:Hid (mwB ⟨tp,pa,qo,re,pr⟩=false):=by show _=_;unfold mwB;simp only[ht];rfl
  go_enter Tryz.func63,Tryz.ntmps63
  go_wp2_with fail
  refine (gtext_any tp false ht _ hto).mono ?_
  rintro e w1 ⟨rfl,hb⟩
  have HB:=zh ((uh HB0).trans (hb.mono (uh HB0).size))
  clear hb
  go_wp2
  go_ret
  exact⟨by rw[uh HE];rfl,uh HB⟩
 ·have HT:=zh ht
  clear ht
  have HM:Hid (mwB ⟨tp,pa,qo,re,pr⟩=(okB pa&&(decide (0<=qo)&&(decide (qo<=2)&&okP 16 pr)))):=by show _=_;unfold mwB;simp only[uh HT];rfl
  have HC:Hid (∀ w1:World,Below (w.alloc (.cells #[.string tp,.string pa,.int .i64 qo,.bool re,.slice ao n cap] 90)).heap.size (w.alloc (.cells #[.string tp,.string pa,.int .i64 qo,.bool re,.slice ao n cap] 90)) w1->w1.cell? ⟨w.heap.size,1,none⟩=some (.string pa)/\w1.cell? ⟨w.heap.size,2,none⟩=some (.int .i64 qo)/\w1.cell? ⟨w.heap.size,4,none⟩=some (.slice ao n cap)):=fun w1 hb=>⟨(hb.cell (by simp)).trans (by simp),(hb.cell (by simp)).trans (by simp),(hb.cell (by simp)).trans (by simp)⟩
  go_enter Tryz.func63,Tryz.ntmps63
  go_wp2_with fail
  refine (gtext_any tp true (uh HT) _ hto).mono ?_
  rintro e w1 ⟨rfl,hb⟩
  obtain⟨c1,c2,c4⟩:=(uh HC) w1 hb
  have HB:=zh ((uh HB0).trans (hb.mono (uh HB0).size))
  have HP1:=zh ((uh HP).below hb)
  clear hb HC HP
  generalize w.heap.size=B at c1 c2 c4 |-
  by_cases h1:pa.size<=65535
  ·by_cases h2:0<=qo
   ·by_cases h3:qo<=2
    ·have HE:Hid (mwB ⟨tp,pa,qo,re,pr⟩=okP 16 pr):=by show _=_;rw[uh HM];unfold okB;rw[decide_eq_true h1,decide_eq_true h2,decide_eq_true h3];rfl
     go_wp2_with fail
     refine (gprops_any _ pr 16 _ (uh HP1) hmx (uh HSM)).mono ?_
     rintro e w2 ⟨rfl,hb2⟩
     have HB2:=zh ((uh HB).trans (hb2.mono (uh HB).size))
     clear hb2
     go_wp2
     go_ret
     exact⟨by rw[uh HE];rfl,uh HB2⟩
    ·have HE:Hid (mwB ⟨tp,pa,qo,re,pr⟩=false):=by show _=_;rw[uh HM,decide_eq_false h3];simp
     go_wp2
     go_ret
     exact⟨by rw[uh HE];rfl,uh HB⟩
   ·have HE:Hid (mwB ⟨tp,pa,qo,re,pr⟩=false):=by show _=_;rw[uh HM,decide_eq_false h2];simp
    go_wp2
    go_ret
    exact⟨by rw[uh HE];rfl,uh HB⟩
  ·have HE:Hid (mwB ⟨tp,pa,qo,re,pr⟩=false):=by show _=_;rw[uh HM];unfold okB;rw[decide_eq_false h1];rfl
   go_wp2
   go_ret
   exact⟨by rw[uh HE];rfl,uh HB⟩
def msB (s:Sb):Bool:=okT s.filter&&(decide (0<=s.qos)&&(decide (s.qos<=2)&&(decide (0<=s.handling)&&decide (s.handling<=2))))
structure MS (w0 w:World) (B X:Nat) (q x:Pkv):Prop where
 bel:Below w0.heap.size w0 w
 lo:w0.heap.size<=B/\w0.heap.size<=X/\B≠X
 pb:Pk w B q
 px:Pk w X x
theorem MS.below {w0 w w':World} {B X:Nat} {q x:Pkv} (h:MS w0 w B X q x) (hb:Below w.heap.size w w'):MS w0 w' B X q x:=⟨h.bel.trans (hb.mono h.bel.size),h.lo,h.pb.below hb,h.px.below hb⟩
theorem MS.set {w0 w:World} {B X:Nat} {q x:Pkv} (h:MS w0 w B X q x) (y:Pkv) (i:Nat) (hi:i<19) (hq:∀ j,j≠i->y.cell j=x.cell j):MS w0 (w.setCell ⟨X,i,none⟩ (y.cell i)) B X q y:=by
 obtain⟨h1,⟨h2,h3,h4⟩,h5,h6⟩:=h
 refine⟨⟨h1.os,h1.tape,h1.output,by simpa [World.setCell] using h1.size,fun k hk=>(Below.heap_setCell _ _ _ _ (by show k≠X;omega)).trans (h1.block k hk)⟩,⟨h2,h3,h4⟩,fun j hj=>⟨(World.cell?_setCell_other _ _ _ _ (fun e=>by injection e with e _;exact h4 e.symm)).trans (h5 j hj).1,by rw[World.frozen?_setCell];exact (h5 j hj).2⟩,h6.set y i hi hq⟩
def Pkv.wi_kind (p:Pkv) (x:Int):Pkv:={ p with kind:=x }
def Pkv.wi_props (p:Pkv) (x:Sl):Pkv:={ p with props:=x }
theorem MS.wi_props {w0 w:World} {B X:Nat} {q x:Pkv} (h:MS w0 w B X q x) (y:Sl):MS w0 (w.setCell ⟨X,7,none⟩ (y.val)) B X q (x.wi_props y) :=
 h.set (x.wi_props y) 7 (by omega) (fun j hj=>by unfold Pkv.wi_props Pkv.cell;split<;>first|rfl|exact absurd rfl hj)
def Pkv.wi_client (p:Pkv) (x:ByteArray):Pkv:={ p with client:=x }
theorem MS.wi_client {w0 w:World} {B X:Nat} {q x:Pkv} (h:MS w0 w B X q x) (y:ByteArray):MS w0 (w.setCell ⟨X,8,none⟩ (.string y)) B X q (x.wi_client y) :=
 h.set (x.wi_client y) 8 (by omega) (fun j hj=>by unfold Pkv.wi_client Pkv.cell;split<;>first|rfl|exact absurd rfl hj)
def Pkv.wi_clean (p:Pkv) (x:Bool):Pkv:={ p with clean:=x }
theorem MS.wi_clean {w0 w:World} {B X:Nat} {q x:Pkv} (h:MS w0 w B X q x) (y:Bool):MS w0 (w.setCell ⟨X,9,none⟩ (.bool y)) B X q (x.wi_clean y) :=
 h.set (x.wi_clean y) 9 (by omega) (fun j hj=>by unfold Pkv.wi_clean Pkv.cell;split<;>first|rfl|exact absurd rfl hj)
def Pkv.wi_keep (p:Pkv) (x:Int):Pkv:={ p with keep:=x }
theorem MS.wi_keep {w0 w:World} {B X:Nat} {q x:Pkv} (h:MS w0 w B X q x) (y:Int):MS w0 (w.setCell ⟨X,10,none⟩ (.int .i64 y)) B X q (x.wi_keep y) :=
 h.set (x.wi_keep y) 10 (by omega) (fun j hj=>by unfold Pkv.wi_keep Pkv.cell;split<;>first|rfl|exact absurd rfl hj)
def Pkv.wi_wills (p:Pkv) (x:Sl):Pkv:={ p with wills:=x }
theorem MS.wi_wills {w0 w:World} {B X:Nat} {q x:Pkv} (h:MS w0 w B X q x) (y:Sl):MS w0 (w.setCell ⟨X,11,none⟩ (y.val)) B X q (x.wi_wills y) :=
 h.set (x.wi_wills y) 11 (by omega) (fun j hj=>by unfold Pkv.wi_wills Pkv.cell;split<;>first|rfl|exact absurd rfl hj)
def Pkv.wi_user (p:Pkv) (x:Sl):Pkv:={ p with user:=x }
theorem MS.wi_user {w0 w:World} {B X:Nat} {q x:Pkv} (h:MS w0 w B X q x) (y:Sl):MS w0 (w.setCell ⟨X,12,none⟩ (y.val)) B X q (x.wi_user y) :=
 h.set (x.wi_user y) 12 (by omega) (fun j hj=>by unfold Pkv.wi_user Pkv.cell;split<;>first|rfl|exact absurd rfl hj)
def Pkv.wi_pass (p:Pkv) (x:Sl):Pkv:={ p with pass:=x }
theorem MS.wi_pass {w0 w:World} {B X:Nat} {q x:Pkv} (h:MS w0 w B X q x) (y:Sl):MS w0 (w.setCell ⟨X,13,none⟩ (y.val)) B X q (x.wi_pass y) :=
 h.set (x.wi_pass y) 13 (by omega) (fun j hj=>by unfold Pkv.wi_pass Pkv.cell;split<;>first|rfl|exact absurd rfl hj)
def Pkv.wi_subs (p:Pkv) (x:Sl):Pkv:={ p with subs:=x }
theorem MS.wi_subs {w0 w:World} {B X:Nat} {q x:Pkv} (h:MS w0 w B X q x) (y:Sl):MS w0 (w.setCell ⟨X,16,none⟩ (y.val)) B X q (x.wi_subs y) :=
 h.set (x.wi_subs y) 16 (by omega) (fun j hj=>by unfold Pkv.wi_subs Pkv.cell;split<;>first|rfl|exact absurd rfl hj)
def Pkv.wi_filters (p:Pkv) (x:Sl):Pkv:={ p with filters:=x }
theorem MS.wi_filters {w0 w:World} {B X:Nat} {q x:Pkv} (h:MS w0 w B X q x) (y:Sl):MS w0 (w.setCell ⟨X,17,none⟩ (y.val)) B X q (x.wi_filters y) :=
 h.set (x.wi_filters y) 17 (by omega) (fun j hj=>by unfold Pkv.wi_filters Pkv.cell;split<;>first|rfl|exact absurd rfl hj)
def Pkv.wi_codes (p:Pkv) (x:Sl):Pkv:={ p with codes:=x }
theorem MS.wi_codes {w0 w:World} {B X:Nat} {q x:Pkv} (h:MS w0 w B X q x) (y:Sl):MS w0 (w.setCell ⟨X,18,none⟩ (y.val)) B X q (x.wi_codes y) :=
 h.set (x.wi_codes y) 18 (by omega) (fun j hj=>by unfold Pkv.wi_codes Pkv.cell;split<;>first|rfl|exact absurd rfl hj)
theorem mpacket_alloc (ρ:Operand->Value) (dst:Option Tmp) (ty:TypeId) (pos:String) (after:Array Edge) (w:World) :
  (execOp ρ ⟨dst,.alloc 31,ty,pos,after,none⟩).run Tryz.prog w=.ok (.value (.pointer (some ⟨w.heap.size,0,none⟩))) (w.alloc (.cells pkz.cells.toArray 31)):=by
 kernel_rfl
theorem mpacket_store (a:Act) (dst:Option Tmp) (x y:Operand) (ty:TypeId) (pos:String) (after:Array Edge) (q:Pkv) (w:World) (hx:a.eval x=.pointer (some ⟨w.heap.size,0,none⟩)) (hy:a.eval y=q.val) :
  (execOp a.eval ⟨dst,.store 31 x y,ty,pos,after,none⟩).run Tryz.prog (w.alloc (.cells pkz.cells.toArray 31))=.ok .skip (w.alloc (.cells q.cells.toArray 31)):=by
 show Sem.run Tryz.prog (do Instr.storeAt 31 (a.eval x) (a.eval y);pure Next.skip) _=_
 rw[hx,hy,show q.val=.agg q.cells.toArray from rfl]
 simp only[Sem.run_bind]
 rw[run_storeAt_new w 31 pkz.cells.toArray q.cells.toArray (by rw[packet_size];rfl) rfl (Pkv.ones' q)]
 rfl
theorem mpList_wanted {P:Program} {ops:Array Oper} {Q:Exit->Act->World->Prop} {a:Act} {w:World} {rest:List Oper} {o:Oper} (hw:Region.wanted o (yielded ops a.tmps)=true) (h:∀ K:Act->World->Prop,(∀ a w,wpList P ops Q rest a w->K a w)->o.wp P a w K Q):wpList P ops Q (o::rest) a w :=
 wpList_step fun K hK=>by rw[if_pos hw];exact h K hK
def xk (q:Pkv):Pkv:=(pkz.wi_kind q.kind).wi_props q.props
theorem packet_build2 (a:Act) (dst:Option Tmp) (x y:Operand) (ty:TypeId) (pos:String) (after:Array Edge) (q:Pkv) (hx:a.eval x=.int .i64 q.kind) (hy:a.eval y=q.props.val) (w:World) :
  (execOp a.eval ⟨dst,.build 31 #[(0,x),(7,y)],ty,pos,after,none⟩).run Tryz.prog w=.ok (.value (xk q).val) w:=by
 unfold execOp
 simp only[List.map_toArray,List.map_cons,List.map_nil,hx,hy]
 kernel_rfl
theorem ms_new (w:World) (q:Pkv):MS w ((w.alloc (.cells q.cells.toArray 31)).alloc (.cells (xk q).cells.toArray 31)) w.heap.size (w.heap.size+1) q (xk q):=by
 have hb:Below w.heap.size w (w.alloc (.cells q.cells.toArray 31)):=bal _ _
 have hb2:Below (w.alloc (.cells q.cells.toArray 31)).heap.size (w.alloc (.cells q.cells.toArray 31)) ((w.alloc (.cells q.cells.toArray 31)).alloc (.cells (xk q).cells.toArray 31)):=bal _ _
 refine⟨hb.trans (hb2.mono hb.size),⟨Nat.le_refl _,Nat.le_succ _,by omega⟩,(pk_new w q).below hb2,?_⟩
 have k:=pk_new (w.alloc (.cells q.cells.toArray 31)) (xk q)
 rw[show (w.alloc (.cells q.cells.toArray 31)).heap.size=w.heap.size+1 from by simp]at k
 exact k
end Go.Proofs.YtmpijpjlbhfccaaGreatDoor.K
namespace Go.Proofs.YtmpijpjlbhfccaaGreatDoor.K.W
open Go.RowKit
open Go.Proofs.YtmpijpjlbhfccaaGreatDoor.K
set_option maxRecDepth 100000
def Up (B:Nat) (w:World) (Φ:World->Prop):Prop:=∀ W,w.heap.size<=W.heap.size->(∀ k,B<=k->k<w.heap.size->W.heap[k]?=w.heap[k]?)->Φ W
theorem Up.below {B:Nat} {w w':World} {Φ:World->Prop} (h:Up B w Φ) (hb:Below w.heap.size w w'):Up B w' Φ:=fun W hs hk=>h W (Nat.le_trans hb.size hs) (fun k h1 h2=>(hk k h1 (Nat.lt_of_lt_of_le h2 hb.size)).trans (hb.block k h2))
theorem Up.set {B:Nat} {w:World} {Φ:World->Prop} (h:Up B w Φ) {X i:Nat} {v:Value} (hX:X<B):Up B (w.setCell ⟨X,i,none⟩ v) Φ:=fun W hs hk=>h W (by simpa [World.setCell] using hs) (fun k h1 h2=>(hk k h1 (by simpa [World.setCell] using h2)).trans (Below.heap_setCell _ _ _ _ (by show k≠X;omega)))
theorem Up.weaken {B C:Nat} {w:World} {Φ:World->Prop} (h:Up B w Φ) (hB:C<=B):Up C w Φ:=fun W hs hk=>h W hs (fun k h1 h2=>hk k (Nat.le_trans hB h1) h2)
theorem up_owns {B:Nat} {w:World} {e:TypeId} {s:Nat} {v:Value} {n:Nat} {xs:List Value} (h:w.ownsRow B e s v n xs):Up B w (fun W=>W.ownsRow B e s v n xs):=fun W _ hk=>by
 refine⟨h.1,?_⟩
 rcases h.2 with h1|⟨g,cap,cur,hv,hB,hg,rest⟩
 ·exact .inl h1
 ·exact .inr ⟨g,cap,cur,hv,hB,(hk g hB (Array.getElem?_eq_some_iff.1 hg).1).trans hg,rest⟩
theorem Up.map {B:Nat} {w:World} {Φ Ψ:World->Prop} (h:Up B w Φ) (f:∀ W,Φ W->Ψ W):Up B w Ψ:=fun W hs hk=>f W (h W hs hk)
theorem up_ws {B:Nat} {w:World} {v:Value} {qs:List Wq} (h:OwnWs w B v qs):Up B w (fun W=>OwnWs W B v qs):=fun W hs hk=>⟨up_owns h.row W hs hk,fun q hq=>⟨up_owns (h.prp q hq).1 W hs hk,(h.prp q hq).2⟩⟩
theorem sl_of {w:World} {B:Nat} {e:TypeId} {s:Nat} {v:Value} {n:Nat} {xs:List Value} (h:w.ownsRow B e s v n xs):∃ y:Sl,v=y.val:=by
 obtain⟨ao,cap,rfl⟩:=owns_slice h
 exact⟨⟨ao,n,cap⟩,rfl⟩
abbrev slz:Sl:=⟨none,0,0⟩
theorem copyp_up (v:Value) (l:List Pr) (w:World) (h:Prp w v l) (hmx:l.length<=1000000):Calls Tryz.prog 16 #[v] w fun e w'=>∃ y:Sl,e=.returned y.val/\Hid (Up w.heap.size w' (fun W=>Prp W y.val l))/\Below w.heap.size w w':=by
 refine (copyp_own v l w h hmx).mono ?_
 rintro e w' ⟨v',rfl,ho,hb⟩
 obtain⟨y,rfl⟩:=sl_of (uh ho)
 exact⟨y,rfl,(up_owns (uh ho)).map (fun W h=>Go.Proofs.YtmpijpjlbhfccaaGreatDoor.prp_of_owns h),hb⟩
theorem cpn_up (v:Value) (l:List Int) (w:World) (h:Nms w v l) (hmx:l.length<=2000000):Calls Tryz.prog 20 #[v] w fun e w'=>∃ y:Sl,e=.returned y.val/\Hid (Up w.heap.size w' (fun W=>Nms W y.val l))/\Below w.heap.size w w':=by
 obtain⟨ao,cap,rfl,-,hc⟩:=h
 rcases hc with rfl|⟨b,off,rfl,hc⟩
 ·refine (cpn_nil ao cap w).mono ?_
  rintro e w' ⟨rfl,rfl⟩
  exact⟨slz,rfl,fun W _ _=>⟨none,0,rfl,by simp,.inl rfl⟩,Below.refl _ _⟩
 ·refine (cpn_core b off cap l _ w rfl (by omega) hc).mono ?_
  rintro e w' ⟨v',rfl,ho,hb⟩
  obtain⟨y,rfl⟩:=sl_of (uh ho)
  exact⟨y,rfl,(up_owns (uh ho)).map (fun W h=>nms_of_owns h),hb⟩
theorem cps_up (v:Value) (l:List ByteArray) (w:World) (h:Txs w v l) (hmx:l.length<=2000000):Calls Tryz.prog 18 #[v] w fun e w'=>∃ y:Sl,e=.returned y.val/\Hid (Up w.heap.size w' (fun W=>Txs W y.val l))/\Below w.heap.size w w':=by
 obtain⟨ao,cap,rfl,-,hc⟩:=h
 rcases hc with rfl|⟨b,off,rfl,hc⟩
 ·refine (cps_nil ao cap w).mono ?_
  rintro e w' ⟨rfl,rfl⟩
  exact⟨slz,rfl,fun W _ _=>⟨none,0,rfl,by simp,.inl rfl⟩,Below.refl _ _⟩
 ·refine (cps_core b off cap l _ w rfl (by omega) hc).mono ?_
  rintro e w' ⟨v',rfl,ho,hb⟩
  obtain⟨y,rfl⟩:=sl_of (uh ho)
  exact⟨y,rfl,(up_owns (uh ho)).map (fun W h=>txs_of_owns h),hb⟩
theorem cpb_up (v:Value) (l:List Sb) (w:World) (h:Sbs w v l) (hmx:l.length<=1000000):Calls Tryz.prog 19 #[v] w fun e w'=>∃ y:Sl,e=.returned y.val/\Hid (Up w.heap.size w' (fun W=>Sbs W y.val l))/\Below w.heap.size w w':=by
 obtain⟨ao,cap,rfl,-,hc⟩:=h
 rcases hc with rfl|⟨b,off,rfl,hc⟩
 ·refine (cpb_nil ao cap w).mono ?_
  rintro e w' ⟨rfl,rfl⟩
  exact⟨slz,rfl,fun W _ _=>⟨none,0,rfl,by simp,.inl rfl⟩,Below.refl _ _⟩
 ·refine (cpb_core b off cap l _ w rfl (by omega) hc).mono ?_
  rintro e w' ⟨v',rfl,ho,hb⟩
  obtain⟨y,rfl⟩:=sl_of (uh ho)
  exact⟨y,rfl,(up_owns (uh ho)).map (fun W h=>sbs_own h),hb⟩
def WsOk (l:List Wl):Prop:=l.length<=1000000/\∀ k,k<l.length->(l.getD k wl0).props.length<=1000000
theorem cpws_up (v:Value) (l:List Wl) (w:World) (h:Wls w v l) (hmx:WsOk l):Calls Tryz.prog 17 #[v] w fun e w'=>∃ y:Sl,e=.returned y.val/\Hid (Up w.heap.size w' (fun W=>Wls W y.val l))/\Below w.heap.size w w':=by
 obtain⟨ao,cap,rfl,_,hc⟩:=h
 rcases hc with rfl|⟨b,off,rfl,hc⟩
 ·refine (cpws_nil ao cap w).mono ?_
  rintro e w' ⟨rfl,rfl⟩
  exact⟨slz,rfl,fun W _ _=>⟨none,0,rfl,by simp,.inl rfl⟩,Below.refl _ _⟩
 ·refine (cpws_core b off cap l _ w rfl (by have:=hmx.1;omega) hc hmx.2).mono ?_
  rintro e w' ⟨v',qs,rfl,ho,hb⟩
  obtain⟨y,rfl⟩:=sl_of (uh ho).1.row
  exact⟨y,rfl,(up_ws (uh ho).1).map (fun W h=>by have:=h.wls;rw[(uh ho).2]at this;exact this),hb⟩
structure CpOk (P:Pa):Prop where
 props:P.props.length<=1000000
 wills:WsOk P.wills
 user:P.user.length<=2000000
 pass:P.pass.length<=2000000
 subs:P.subs.length<=1000000
 filters:P.filters.length<=2000000
 codes:P.codes.length<=2000000
theorem res_pk1 {fn:Func} {a:Tmp} (h:fn.results=#[.cell a 31]) {tmps:Array Value} {w:World} {B:Nat} {q:Pkv} (ha:tmps[a]?.getD undef=.pointer (some ⟨B,0,none⟩)) (hq:Pk w B q):(results fn tmps).run Tryz.prog w=.ok q.val w:=by
 have k:=run_loadVar_mid (P:=Tryz.prog) w B 0 31 q.cells _ hq.range Tryz.underlying31 rfl packet_size
 simp[results,h,ha,asAddr,k]
 rfl
theorem setCells_other (R:Nat) (k:Nat) (h:k≠R):∀ (cs:List Value) (i:Nat) (w:World),(w.setCells R i cs).heap[k]?=w.heap[k]?
 | [],_,_=>rfl
 | v::r,i,w=>(setCells_other R k h r (i+1) (w.setCell ⟨R,i,none⟩ v)).trans (Below.heap_setCell _ _ _ _ (by show k≠R;exact h))
theorem setCells_size (R:Nat):∀ (cs:List Value) (i:Nat) (w:World),(w.setCells R i cs).heap.size=w.heap.size
 | [],_,_=>rfl
 | v::r,i,w=>(setCells_size R r (i+1) (w.setCell ⟨R,i,none⟩ v)).trans (by simp[World.setCell])
theorem cpp_any (q:Pkv) (P:Pa) (w:World) (hR:RPk w q P) (hL:CpOk P):Calls Tryz.prog 5 #[q.val] w fun e w'=>∃ q',e=.returned (Pkv.val q')/\Hid (RPk w' q' P)/\Below w.heap.size w w':=by
 have HR:=zh hR
 have HL:=zh hL
 clear hR hL
 have HM0:Hid (Pk ((w.alloc (.cells q.cells.toArray 31)).alloc (.cells pkz.cells.toArray 31)) w.heap.size q):=(pk_new w q).below (bal _ _)
 have HM1:Hid (MS w (((w.alloc (.cells q.cells.toArray 31)).alloc (.cells pkz.cells.toArray 31)).alloc (.cells q.cells.toArray 31)) w.heap.size (w.heap.size+2) q q):=by
  have b1:Below w.heap.size w (w.alloc (.cells q.cells.toArray 31)):=bal _ _
  have b2:=b1.alloc (by simp) (.cells pkz.cells.toArray 31)
  have b3:=b2.alloc (by simp<;>omega) (.cells q.cells.toArray 31)
  refine⟨b3,⟨Nat.le_refl _,by omega,by omega⟩,(uh HM0).below (bal _ _),?_⟩
  have k:=pk_new ((w.alloc (.cells q.cells.toArray 31)).alloc (.cells pkz.cells.toArray 31)) q
  rw[show ((w.alloc (.cells q.cells.toArray 31)).alloc (.cells pkz.cells.toArray 31)).heap.size=w.heap.size+2 from by simp]at k
  exact k
 have HN1:Hid (MS w (((w.alloc (.cells q.cells.toArray 31)).alloc (.cells pkz.cells.toArray 31)).alloc (.cells q.cells.toArray 31)) (w.heap.size+1) (w.heap.size+2) pkz q):=by
  refine⟨(uh HM1).bel,⟨by omega,by omega,by omega⟩,?_,(uh HM1).px⟩
  have k:=pk_new (w.alloc (.cells q.cells.toArray 31)) pkz
  rw[show (w.alloc (.cells q.cells.toArray 31)).heap.size=w.heap.size+1 from by simp]at k
  exact k.below (bal _ _)
 have hX1:w.heap.size+2+1<=(((w.alloc (.cells q.cells.toArray 31)).alloc (.cells pkz.cells.toArray 31)).alloc (.cells q.cells.toArray 31)).heap.size:=by simp
 have HWS:Hid (((w.alloc (.cells q.cells.toArray 31)).alloc (.cells pkz.cells.toArray 31)).heap.size=w.heap.size+2):=by show _=_;simp
 go_enter Tryz.func5,Tryz.ntmps5
 go_upto_region 1 with fail
 change Code.wp _ _ _ _ ((w.alloc (.cells q.cells.toArray 31)).alloc (.cells pkz.cells.toArray 31))
 generalize (w.alloc (.cells q.cells.toArray 31)).alloc (.cells pkz.cells.toArray 31)=wa at HM0 HM1 HN1 hX1 HWS |-
 go_step
 refine wpList_load_mid rfl 31 _ rfl w.heap.size 0 rfl q.cells _ (uh HM0).range Tryz.underlying31 rfl packet_size ?_
 simp only[sp]
 refine Go.Proofs.YtmpijpjlbhfccaaGreatDoor.wpList_value rfl (mpacket_alloc _ _ _ _ _ _) ?_
 simp only[sp]
 refine Go.Proofs.YtmpijpjlbhfccaaGreatDoor.wpList_skip rfl (mpacket_store _ _ _ _ _ _ _ q wa rfl rfl) ?_
 simp only[Act.put]
 rw[uh HWS]
 generalize wa.alloc (.cells q.cells.toArray 31)=w1 at HM1 HN1 hX1 |-
 have HRX:Hid (w.heap.size+1<w.heap.size+2):=Nat.lt_succ_self _
 generalize w.heap.size+2=X at HM1 HN1 hX1 HRX |-
 generalize w.heap.size+1=R at HN1 HRX |-
 clear HM0 HWS
 generalize hBB:w.heap.size=B at HM1 |-
 have HBB:=zh hBB
 clear hBB
 have c7:=(uh HM1).pb.props
 go_wp2_with fail
 refine (copyp_up _ P.props w1 ((uh HR).below (uh HM1).bel).props (uh HL).props).mono ?_
 rintro e v2 ⟨y2,rfl,hu,hb⟩
 have hsz2:w1.heap.size<=v2.heap.size:=hb.size
 have HMv:Hid (MS w v2 B X q q):=(uh HM1).below hb
 have HNv:Hid (MS w v2 R X pkz q):=(uh HN1).below hb
 have HUv0:Hid (Up (X+1) v2 (fun W=>Prp W y2.val P.props)):=(uh hu).weaken hX1
 clear hb hu c7 HM1 HN1
 have d7:=(uh HMv).px.props
 have e7:=(uh HMv).px.props_f
 go_upto_region 3 with fail
 have HM2:=zh ((uh HMv).wi_props y2)
 have HN2:=zh ((uh HNv).wi_props y2)
 have HU0:=zh ((uh HUv0).set (X:=X) (i:=7) (v:=y2.val) (Nat.lt_succ_self X))
 clear HUv0
 have hX2:X+1<=(v2.setCell ⟨X,7,none⟩ y2.val).heap.size:=by simpa [World.setCell] using Nat.le_trans hX1 hsz2
 generalize v2.setCell ⟨X,7,none⟩ y2.val=w2 at HM2 HN2 hX2 HU0 |-
 obtain⟨x2,hx2⟩:∃ x,x=q.wi_props y2:=⟨_,rfl⟩
 rw[<- hx2]at HM2 HN2
 have HX2:=zh hx2
 clear hx2 d7 e7 HMv HNv
 have c11:=(uh HM2).pb.wills
 go_wp2_with fail
 refine (cpws_up _ P.wills w2 ((uh HR).below (uh HM2).bel).wills (uh HL).wills).mono ?_
 rintro e v3 ⟨y3,rfl,hu,hb⟩
 have hsz3:w2.heap.size<=v3.heap.size:=hb.size
 have HMv:Hid (MS w v3 B X q x2):=(uh HM2).below hb
 have HNv:Hid (MS w v3 R X pkz x2):=(uh HN2).below hb
 have HUv1:Hid (Up (X+1) v3 (fun W=>Wls W y3.val P.wills)):=(uh hu).weaken hX2
 have HUv0:=zh ((uh HU0).below hb)
 clear HU0
 clear hb hu c11 HM2 HN2
 have d11:=(uh HMv).px.wills
 have e11:=(uh HMv).px.wills_f
 go_upto_region 4 with fail
 have HM3:=zh ((uh HMv).wi_wills y3)
 have HN3:=zh ((uh HNv).wi_wills y3)
 have HU0:=zh ((uh HUv0).set (X:=X) (i:=11) (v:=y3.val) (Nat.lt_succ_self X))
 clear HUv0
 have HU1:=zh ((uh HUv1).set (X:=X) (i:=11) (v:=y3.val) (Nat.lt_succ_self X))
 clear HUv1
 have hX3:X+1<=(v3.setCell ⟨X,11,none⟩ y3.val).heap.size:=by simpa [World.setCell] using Nat.le_trans hX2 hsz3
 generalize v3.setCell ⟨X,11,none⟩ y3.val=w3 at HM3 HN3 hX3 HU0 HU1 |-
 obtain⟨x3,hx3⟩:∃ x,x=x2.wi_wills y3:=⟨_,rfl⟩
 rw[<- hx3]at HM3 HN3
 have HX3:=zh hx3
 clear hx3 d11 e11 HMv HNv
 have c12:=(uh HM3).pb.user
 go_wp2_with fail
 refine (cps_up _ P.user w3 ((uh HR).below (uh HM3).bel).user (uh HL).user).mono ?_
 rintro e v4 ⟨y4,rfl,hu,hb⟩
 have hsz4:w3.heap.size<=v4.heap.size:=hb.size
 have HMv:Hid (MS w v4 B X q x3):=(uh HM3).below hb
 have HNv:Hid (MS w v4 R X pkz x3):=(uh HN3).below hb
 have HUv2:Hid (Up (X+1) v4 (fun W=>Txs W y4.val P.user)):=(uh hu).weaken hX3
 have HUv0:=zh ((uh HU0).below hb)
 clear HU0
 have HUv1:=zh ((uh HU1).below hb)
 clear HU1
 clear hb hu c12 HM3 HN3
 have d12:=(uh HMv).px.user
 have e12:=(uh HMv).px.user_f
 go_upto_region 5 with fail
 have HM4:=zh ((uh HMv).wi_user y4)
 have HN4:=zh ((uh HNv).wi_user y4)
 have HU0:=zh ((uh HUv0).set (X:=X) (i:=12) (v:=y4.val) (Nat.lt_succ_self X))
 clear HUv0
 have HU1:=zh ((uh HUv1).set (X:=X) (i:=12) (v:=y4.val) (Nat.lt_succ_self X))
 clear HUv1
 have HU2:=zh ((uh HUv2).set (X:=X) (i:=12) (v:=y4.val) (Nat.lt_succ_self X))
 clear HUv2
 have hX4:X+1<=(v4.setCell ⟨X,12,none⟩ y4.val).heap.size:=by simpa [World.setCell] using Nat.le_trans hX3 hsz4
 generalize v4.setCell ⟨X,12,none⟩ y4.val=w4 at HM4 HN4 hX4 HU0 HU1 HU2 |-
 obtain⟨x4,hx4⟩:∃ x,x=x3.wi_user y4:=⟨_,rfl⟩
 rw[<- hx4]at HM4 HN4
 have HX4:=zh hx4
 clear hx4 d12 e12 HMv HNv
 have c13:=(uh HM4).pb.pass
 go_wp2_with fail
 refine (cps_up _ P.pass w4 ((uh HR).below (uh HM4).bel).pass (uh HL).pass).mono ?_
 rintro e v5 ⟨y5,rfl,hu,hb⟩
 have hsz5:w4.heap.size<=v5.heap.size:=hb.size
 have HMv:Hid (MS w v5 B X q x4):=(uh HM4).below hb
 have HNv:Hid (MS w v5 R X pkz x4):=(uh HN4).below hb
 have HUv3:Hid (Up (X+1) v5 (fun W=>Txs W y5.val P.pass)):=(uh hu).weaken hX4
 have HUv0:=zh ((uh HU0).below hb)
 clear HU0
 have HUv1:=zh ((uh HU1).below hb)
 clear HU1
 have HUv2:=zh ((uh HU2).below hb)
 clear HU2
 clear hb hu c13 HM4 HN4
 have d13:=(uh HMv).px.pass
 have e13:=(uh HMv).px.pass_f
 go_upto_region 6 with fail
 have HM5:=zh ((uh HMv).wi_pass y5)
 have HN5:=zh ((uh HNv).wi_pass y5)
 have HU0:=zh ((uh HUv0).set (X:=X) (i:=13) (v:=y5.val) (Nat.lt_succ_self X))
 clear HUv0
 have HU1:=zh ((uh HUv1).set (X:=X) (i:=13) (v:=y5.val) (Nat.lt_succ_self X))
 clear HUv1
 have HU2:=zh ((uh HUv2).set (X:=X) (i:=13) (v:=y5.val) (Nat.lt_succ_self X))
 clear HUv2
 have HU3:=zh ((uh HUv3).set (X:=X) (i:=13) (v:=y5.val) (Nat.lt_succ_self X))
 clear HUv3
 have hX5:X+1<=(v5.setCell ⟨X,13,none⟩ y5.val).heap.size:=by simpa [World.setCell] using Nat.le_trans hX4 hsz5
 generalize v5.setCell ⟨X,13,none⟩ y5.val=w5 at HM5 HN5 hX5 HU0 HU1 HU2 HU3 |-
 obtain⟨x5,hx5⟩:∃ x,x=x4.wi_pass y5:=⟨_,rfl⟩
 rw[<- hx5]at HM5 HN5
 have HX5:=zh hx5
 clear hx5 d13 e13 HMv HNv
 have c16:=(uh HM5).pb.subs
 go_wp2_with fail
 refine (cpb_up _ P.subs w5 ((uh HR).below (uh HM5).bel).subs (uh HL).subs).mono ?_
 rintro e v6 ⟨y6,rfl,hu,hb⟩
 have hsz6:w5.heap.size<=v6.heap.size:=hb.size
 have HMv:Hid (MS w v6 B X q x5):=(uh HM5).below hb
 have HNv:Hid (MS w v6 R X pkz x5):=(uh HN5).below hb
 have HUv4:Hid (Up (X+1) v6 (fun W=>Sbs W y6.val P.subs)):=(uh hu).weaken hX5
 have HUv0:=zh ((uh HU0).below hb)
 clear HU0
 have HUv1:=zh ((uh HU1).below hb)
 clear HU1
 have HUv2:=zh ((uh HU2).below hb)
 clear HU2
 have HUv3:=zh ((uh HU3).below hb)
 clear HU3
 clear hb hu c16 HM5 HN5
 have d16:=(uh HMv).px.subs
 have e16:=(uh HMv).px.subs_f
 go_upto_region 7 with fail
 have HM6:=zh ((uh HMv).wi_subs y6)
 have HN6:=zh ((uh HNv).wi_subs y6)
 have HU0:=zh ((uh HUv0).set (X:=X) (i:=16) (v:=y6.val) (Nat.lt_succ_self X))
 clear HUv0
 have HU1:=zh ((uh HUv1).set (X:=X) (i:=16) (v:=y6.val) (Nat.lt_succ_self X))
 clear HUv1
 have HU2:=zh ((uh HUv2).set (X:=X) (i:=16) (v:=y6.val) (Nat.lt_succ_self X))
 clear HUv2
 have HU3:=zh ((uh HUv3).set (X:=X) (i:=16) (v:=y6.val) (Nat.lt_succ_self X))
 clear HUv3
 have HU4:=zh ((uh HUv4).set (X:=X) (i:=16) (v:=y6.val) (Nat.lt_succ_self X))
 clear HUv4
 have hX6:X+1<=(v6.setCell ⟨X,16,none⟩ y6.val).heap.size:=by simpa [World.setCell] using Nat.le_trans hX5 hsz6
 generalize v6.setCell ⟨X,16,none⟩ y6.val=w6 at HM6 HN6 hX6 HU0 HU1 HU2 HU3 HU4 |-
 obtain⟨x6,hx6⟩:∃ x,x=x5.wi_subs y6:=⟨_,rfl⟩
 rw[<- hx6]at HM6 HN6
 have HX6:=zh hx6
 clear hx6 d16 e16 HMv HNv
 have c17:=(uh HM6).pb.filters
 go_wp2_with fail
 refine (cps_up _ P.filters w6 ((uh HR).below (uh HM6).bel).filters (uh HL).filters).mono ?_
 rintro e v7 ⟨y7,rfl,hu,hb⟩
 have hsz7:w6.heap.size<=v7.heap.size:=hb.size
 have HMv:Hid (MS w v7 B X q x6):=(uh HM6).below hb
 have HNv:Hid (MS w v7 R X pkz x6):=(uh HN6).below hb
 have HUv5:Hid (Up (X+1) v7 (fun W=>Txs W y7.val P.filters)):=(uh hu).weaken hX6
 have HUv0:=zh ((uh HU0).below hb)
 clear HU0
 have HUv1:=zh ((uh HU1).below hb)
 clear HU1
 have HUv2:=zh ((uh HU2).below hb)
 clear HU2
 have HUv3:=zh ((uh HU3).below hb)
 clear HU3
 have HUv4:=zh ((uh HU4).below hb)
 clear HU4
 clear hb hu c17 HM6 HN6
 have d17:=(uh HMv).px.filters
 have e17:=(uh HMv).px.filters_f
 go_upto_region 8 with fail
 have HM7:=zh ((uh HMv).wi_filters y7)
 have HN7:=zh ((uh HNv).wi_filters y7)
 have HU0:=zh ((uh HUv0).set (X:=X) (i:=17) (v:=y7.val) (Nat.lt_succ_self X))
 clear HUv0
 have HU1:=zh ((uh HUv1).set (X:=X) (i:=17) (v:=y7.val) (Nat.lt_succ_self X))
 clear HUv1
 have HU2:=zh ((uh HUv2).set (X:=X) (i:=17) (v:=y7.val) (Nat.lt_succ_self X))
 clear HUv2
 have HU3:=zh ((uh HUv3).set (X:=X) (i:=17) (v:=y7.val) (Nat.lt_succ_self X))
 clear HUv3
 have HU4:=zh ((uh HUv4).set (X:=X) (i:=17) (v:=y7.val) (Nat.lt_succ_self X))
 clear HUv4
 have HU5:=zh ((uh HUv5).set (X:=X) (i:=17) (v:=y7.val) (Nat.lt_succ_self X))
 clear HUv5
 have hX7:X+1<=(v7.setCell ⟨X,17,none⟩ y7.val).heap.size:=by simpa [World.setCell] using Nat.le_trans hX6 hsz7
 generalize v7.setCell ⟨X,17,none⟩ y7.val=w7 at HM7 HN7 hX7 HU0 HU1 HU2 HU3 HU4 HU5 |-
 obtain⟨x7,hx7⟩:∃ x,x=x6.wi_filters y7:=⟨_,rfl⟩
 rw[<- hx7]at HM7 HN7
 have HX7:=zh hx7
 clear hx7 d17 e17 HMv HNv
 have c18:=(uh HM7).pb.codes
 go_wp2_with fail
 refine (cpn_up _ P.codes w7 ((uh HR).below (uh HM7).bel).codes (uh HL).codes).mono ?_
 rintro e v8 ⟨y8,rfl,hu,hb⟩
 have hsz8:w7.heap.size<=v8.heap.size:=hb.size
 have HMv:Hid (MS w v8 B X q x7):=(uh HM7).below hb
 have HNv:Hid (MS w v8 R X pkz x7):=(uh HN7).below hb
 have HUv6:Hid (Up (X+1) v8 (fun W=>Nms W y8.val P.codes)):=(uh hu).weaken hX7
 have HUv0:=zh ((uh HU0).below hb)
 clear HU0
 have HUv1:=zh ((uh HU1).below hb)
 clear HU1
 have HUv2:=zh ((uh HU2).below hb)
 clear HU2
 have HUv3:=zh ((uh HU3).below hb)
 clear HU3
 have HUv4:=zh ((uh HU4).below hb)
 clear HU4
 have HUv5:=zh ((uh HU5).below hb)
 clear HU5
 clear hb hu c18 HM7 HN7
 have d18:=(uh HMv).px.codes
 have e18:=(uh HMv).px.codes_f
 go_upto_region 9 with fail
 have HM8:=zh ((uh HMv).wi_codes y8)
 have HN8:=zh ((uh HNv).wi_codes y8)
 have HU0:=zh ((uh HUv0).set (X:=X) (i:=18) (v:=y8.val) (Nat.lt_succ_self X))
 clear HUv0
 have HU1:=zh ((uh HUv1).set (X:=X) (i:=18) (v:=y8.val) (Nat.lt_succ_self X))
 clear HUv1
 have HU2:=zh ((uh HUv2).set (X:=X) (i:=18) (v:=y8.val) (Nat.lt_succ_self X))
 clear HUv2
 have HU3:=zh ((uh HUv3).set (X:=X) (i:=18) (v:=y8.val) (Nat.lt_succ_self X))
 clear HUv3
 have HU4:=zh ((uh HUv4).set (X:=X) (i:=18) (v:=y8.val) (Nat.lt_succ_self X))
 clear HUv4
 have HU5:=zh ((uh HUv5).set (X:=X) (i:=18) (v:=y8.val) (Nat.lt_succ_self X))
 clear HUv5
 have HU6:=zh ((uh HUv6).set (X:=X) (i:=18) (v:=y8.val) (Nat.lt_succ_self X))
 clear HUv6
 have hX8:X+1<=(v8.setCell ⟨X,18,none⟩ y8.val).heap.size:=by simpa [World.setCell] using Nat.le_trans hX7 hsz8
 generalize v8.setCell ⟨X,18,none⟩ y8.val=w8 at HM8 HN8 hX8 HU0 HU1 HU2 HU3 HU4 HU5 HU6 |-
 obtain⟨x8,hx8⟩:∃ x,x=x7.wi_codes y8:=⟨_,rfl⟩
 rw[<- hx8]at HM8 HN8
 have HX8:=zh hx8
 clear hx8 d18 e18 HMv HNv
 go_step
 refine wpList_load_mid rfl 31 _ rfl X 0 rfl x8.cells _ (uh HM8).px.range Tryz.underlying31 rfl packet_size ?_
 simp only[sp]
 refine wpList_store_mid rfl 31 _ _ rfl R 0 x8.cells.toArray rfl rfl ((uh HN8).pb.there _) packet_size (Pkv.ones' _) ?_
 simp only[Act.put]
 have HPS:=zh ((uh HN8).pb.stored x8)
 have HBS:Hid (Below w.heap.size w (w8.setCells R 0 x8.cells)):=setCells_below (uh HN8).bel (uh HN8).lo.1
 have HFIN:Hid (RPk (w8.setCells R 0 x8.cells) x8 P):=by
  rw[uh HX8,uh HX7,uh HX6,uh HX5,uh HX4,uh HX3,uh HX2]
  have hk:∀ k,X+1<=k->k<w8.heap.size->(w8.setCells R 0 x8.cells).heap[k]?=w8.heap[k]?:=fun k h1 _=>setCells_other _ _ (by have:=uh HRX;omega) _ _ _
  have hz:w8.heap.size<=(w8.setCells R 0 x8.cells).heap.size:=Nat.le_of_eq (setCells_size _ _ _ _).symm
  rw[uh HX8,uh HX7,uh HX6,uh HX5,uh HX4,uh HX3,uh HX2]at hk hz
  exact⟨(uh HR).sc,(uh HU0) _ hz hk,(uh HU1) _ hz hk,(uh HU2) _ hz hk,(uh HU3) _ hz hk,(uh HU4) _ hz hk,(uh HU5) _ hz hk,(uh HU6) _ hz hk⟩
 generalize w8.setCells R 0 x8.cells=w9 at HPS HBS HFIN |-
 clear HU0 HU1 HU2 HU3 HU4 HU5 HU6 HM8 HN8
 go_wp2
 refine bodyPost_ret (res_pk1 (B:=R) (q:=x8) rfl rfl (uh HPS)) rfl ?_
 exact⟨_,rfl,HFIN,uh HBS⟩
end Go.Proofs.YtmpijpjlbhfccaaGreatDoor.K.W
namespace Go.Proofs.YtmpijpjlbhfccaaGreatDoor
open Go.RowKit
set_option maxRecDepth 100000
theorem high_2 (n:Int) (w:World) (h0:0<=n) (h1:n<=65535):Calls Tryz.prog 147 #[.int .i64 n,.int .i64 2] w (NumPost 2 n w):=by
 unfold NumPost
 obtain⟨i0,hi,hz0,hz1,hz2⟩:=info_parts Tryz.infoU8
 have HO0:Hid (w.ownsRow w.heap.size 5 1 (.slice none 0 0) 0 (([]:List Int).map (Value.int .u8))):=World.ownsRow_nil _ _ _ _
 have HB0:Hid (Below w.heap.size w w):=Below.refl _ _
 go_enter Tryz.func147,Tryz.ntmps147
 go_wp2
 refine wp_loop_rounds 3 ?_
 rw[rounds_succ]
 go_wp2_with (first
  | (at_builtin;refine wpList_append_own _ rfl _ _ 33 rfl w.heap.size 5 i0 (.int .u8 0) 1 1 Tryz.underlying33 hi hz0 hz1 hz2 rfl (by decide) _ _ _ rfl ((uh HO0).alloc _) ⟨w.heap.size,0,none⟩ 1 1 [.int .u8 (n/256)] rfl rfl (one_cell _ _ _) (one_one _ _) (by unfold maxLen;omega) (by omega) (by have:=(uh HB0).size;simp<;>omega) ?_)
  | go_in)
 intro v1 w1 hown1 hgrow1 _
 have HB1:Hid (Below w.heap.size w w1):=((uh HB0).alloc (uh HB0).size _).grown hgrow1 (by have:=(uh HB0).size;simp<;>omega) (fun k hk=>((uh HO0).lt k hk).1)
 have HO1:Hid (w1.ownsRow w.heap.size 5 1 v1 1 (([n/256]:List Int).map (Value.int .u8))):=by show World.ownsRow _ _ _ _ _ _ _;simpa using hown1
 clear hgrow1 hown1
 go_wp2
 rw[rounds_succ]
 go_wp2_with (first
  | (at_builtin;refine wpList_append_own _ rfl _ _ 33 rfl w.heap.size 5 i0 (.int .u8 0) 1 1 Tryz.underlying33 hi hz0 hz1 hz2 rfl (by decide) _ _ _ rfl ((uh HO1).alloc _) ⟨w1.heap.size,0,none⟩ 1 1 [.int .u8 (n % 256)] rfl rfl (one_cell _ _ _) (one_one _ _) (by unfold maxLen;omega) (by omega) (by have:=(uh HB1).size;simp<;>omega) ?_)
  | go_in)
 intro v2 w2 hown2 hgrow2 _
 have HB2:Hid (Below w.heap.size w w2):=((uh HB1).alloc (uh HB1).size _).grown hgrow2 (by have:=(uh HB1).size;simp<;>omega) (fun k hk=>((uh HO1).lt k hk).1)
 have HO2:Hid (w2.ownsRow w.heap.size 5 1 v2 2 (([n/256,n % 256]:List Int).map (Value.int .u8))):=by show World.ownsRow _ _ _ _ _ _ _;simpa using hown2
 clear hgrow2 hown2
 go_wp2
 rw[rounds_succ]
 go_wp2
 go_ret
 exact⟨_,rfl,by exact uh HO2,uh HB2⟩
theorem high_4 (n:Int) (w:World) (h0:0<=n) (h1:n<=4294967295):Calls Tryz.prog 147 #[.int .i64 n,.int .i64 4] w (NumPost 4 n w):=by
 unfold NumPost
 obtain⟨i0,hi,hz0,hz1,hz2⟩:=info_parts Tryz.infoU8
 have HO0:Hid (w.ownsRow w.heap.size 5 1 (.slice none 0 0) 0 (([]:List Int).map (Value.int .u8))):=World.ownsRow_nil _ _ _ _
 have HB0:Hid (Below w.heap.size w w):=Below.refl _ _
 go_enter Tryz.func147,Tryz.ntmps147
 go_wp2
 refine wp_loop_rounds 5 ?_
 rw[rounds_succ]
 go_wp2_with (first
  | (at_builtin;refine wpList_append_own _ rfl _ _ 33 rfl w.heap.size 5 i0 (.int .u8 0) 1 1 Tryz.underlying33 hi hz0 hz1 hz2 rfl (by decide) _ _ _ rfl ((uh HO0).alloc _) ⟨w.heap.size,0,none⟩ 1 1 [.int .u8 (n/16777216)] rfl rfl (one_cell _ _ _) (one_one _ _) (by unfold maxLen;omega) (by omega) (by have:=(uh HB0).size;simp<;>omega) ?_)
  | go_in)
 intro v1 w1 hown1 hgrow1 _
 have HB1:Hid (Below w.heap.size w w1):=((uh HB0).alloc (uh HB0).size _).grown hgrow1 (by have:=(uh HB0).size;simp<;>omega) (fun k hk=>((uh HO0).lt k hk).1)
 have HO1:Hid (w1.ownsRow w.heap.size 5 1 v1 1 (([n/16777216]:List Int).map (Value.int .u8))):=by show World.ownsRow _ _ _ _ _ _ _;simpa using hown1
 clear hgrow1 hown1
 go_wp2
 rw[rounds_succ]
 go_wp2_with (first
  | (at_builtin;refine wpList_append_own _ rfl _ _ 33 rfl w.heap.size 5 i0 (.int .u8 0) 1 1 Tryz.underlying33 hi hz0 hz1 hz2 rfl (by decide) _ _ _ rfl ((uh HO1).alloc _) ⟨w1.heap.size,0,none⟩ 1 1 [.int .u8 (n/65536 % 256)] rfl rfl (one_cell _ _ _) (one_one _ _) (by unfold maxLen;omega) (by omega) (by have:=(uh HB1).size;simp<;>omega) ?_)
  | go_in)
 intro v2 w2 hown2 hgrow2 _
 have HB2:Hid (Below w.heap.size w w2):=((uh HB1).alloc (uh HB1).size _).grown hgrow2 (by have:=(uh HB1).size;simp<;>omega) (fun k hk=>((uh HO1).lt k hk).1)
 have HO2:Hid (w2.ownsRow w.heap.size 5 1 v2 2 (([n/16777216,n/65536 % 256]:List Int).map (Value.int .u8))):=by show World.ownsRow _ _ _ _ _ _ _;simpa using hown2
 clear hgrow2 hown2
 go_wp2
 rw[rounds_succ]
 go_wp2_with (first
  | (at_builtin;refine wpList_append_own _ rfl _ _ 33 rfl w.heap.size 5 i0 (.int .u8 0) 1 1 Tryz.underlying33 hi hz0 hz1 hz2 rfl (by decide) _ _ _ rfl ((uh HO2).alloc _) ⟨w2.heap.size,0,none⟩ 1 1 [.int .u8 (n/256 % 256)] rfl rfl (one_cell _ _ _) (one_one _ _) (by unfold maxLen;omega) (by omega) (by have:=(uh HB2).size;simp<;>omega) ?_)
  | go_in)
 intro v3 w3 hown3 hgrow3 _
 have HB3:Hid (Below w.heap.size w w3):=((uh HB2).alloc (uh HB2).size _).grown hgrow3 (by have:=(uh HB2).size;simp<;>omega) (fun k hk=>((uh HO2).lt k hk).1)
 have HO3:Hid (w3.ownsRow w.heap.size 5 1 v3 3 (([n/16777216,n/65536 % 256,n/256 % 256]:List Int).map (Value.int .u8))):=by show World.ownsRow _ _ _ _ _ _ _;simpa using hown3
 clear hgrow3 hown3
 go_wp2
 rw[rounds_succ]
 go_wp2_with (first
  | (at_builtin;refine wpList_append_own _ rfl _ _ 33 rfl w.heap.size 5 i0 (.int .u8 0) 1 1 Tryz.underlying33 hi hz0 hz1 hz2 rfl (by decide) _ _ _ rfl ((uh HO3).alloc _) ⟨w3.heap.size,0,none⟩ 1 1 [.int .u8 (n % 256)] rfl rfl (one_cell _ _ _) (one_one _ _) (by unfold maxLen;omega) (by omega) (by have:=(uh HB3).size;simp<;>omega) ?_)
  | go_in)
 intro v4 w4 hown4 hgrow4 _
 have HB4:Hid (Below w.heap.size w w4):=((uh HB3).alloc (uh HB3).size _).grown hgrow4 (by have:=(uh HB3).size;simp<;>omega) (fun k hk=>((uh HO3).lt k hk).1)
 have HO4:Hid (w4.ownsRow w.heap.size 5 1 v4 4 (([n/16777216,n/65536 % 256,n/256 % 256,n % 256]:List Int).map (Value.int .u8))):=by show World.ownsRow _ _ _ _ _ _ _;simpa using hown4
 clear hgrow4 hown4
 go_wp2
 rw[rounds_succ]
 go_wp2
 go_ret
 exact⟨_,rfl,by exact uh HO4,uh HB4⟩
end Go.Proofs.YtmpijpjlbhfccaaGreatDoor
