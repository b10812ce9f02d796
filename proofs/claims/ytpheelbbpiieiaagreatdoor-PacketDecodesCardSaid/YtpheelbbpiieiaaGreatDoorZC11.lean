/- Proved here: helpers, one text behind the other. -/
import Derived.Test.YtpheelbbpiieiaaGreatDoorZC3
import Derived.Test.YtpheelbbpiieiaaGreatDoorProg
import Derived.Laws.StructEq
import Derived.Test.YtpheelbbpiieiaaGreatDoorZC1
import Derived.WalkKit
import Derived.Laws.BitsAllLaws
set_option maxHeartbeats 20000000
namespace Go.Proofs.YtpheelbbpiieiaaGreatDoor
open Go.RowKit
def acc (m:Int) (l:List Int):Nat->Int
 | 0=>l.getD 0 0 % m
 | k+1=>acc m l k * 64+l.getD (k+1) 0 % 64
theorem acc_pos (m:Int) (l:List Int) (hm:0 < m):∀ k,0<=acc m l k
 | 0=>Int.emod_nonneg _ (by omega)
 | k+1=>by have:=acc_pos m l hm k;simp only[acc];omega
theorem acc_lt (m:Int) (l:List Int) (hm:0 < m) (h32:m<=32) (k:Nat) (hk:k<=3):acc m l k < 8388608:=by
 have h0:acc m l 0 < 32:=by have:=Int.emod_lt_of_pos (l.getD 0 0) hm;simp only[acc];omega
 have h1:acc m l 1 < 2048:=by simp only[acc]at h0 |-;omega
 have h2:acc m l 2 < 131072:=by simp only[acc]at h0 h1 |-;omega
 have h3:acc m l 3 < 8388608:=by simp only[acc]at h0 h1 h2 |-;omega
 obtain rfl | rfl | rfl | rfl:k=0\/k=1\/k=2\/k=3:=by omega
 all_goals omega
def Mem (w:World) (b off len:Nat) (l:List Int):Prop:=l.length=len/\(∀ j,j < len->w.cell? ⟨b,off+j,none⟩=some (.int .u8 (l.getD j 0)))/\∀ j,0<=l.getD j 0/\l.getD j 0<=255
theorem Mem.len {w:World} {b off len:Nat} {l:List Int} (h:Mem w b off len l):l.length=len:=h.1
theorem Mem.cell {w:World} {b off len:Nat} {l:List Int} (h:Mem w b off len l):∀ j,j < len->w.cell? ⟨b,off+j,none⟩=some (.int .u8 (l.getD j 0)):=h.2.1
theorem Mem.range {w:World} {b off len:Nat} {l:List Int} (h:Mem w b off len l):∀ j,0<=l.getD j 0/\l.getD j 0<=255:=h.2.2
theorem Mem.cell0 {w:World} {b off len:Nat} {l:List Int} (h:Mem w b off len l) (h0:0 < len):w.cell? ⟨b,off,none⟩=some (.int .u8 (l.getD 0 0)):=h.cell 0 h0
theorem rp_lone (b off len cap:Nat) (l:List Int) (w:World) (h0:0 < len) (hm:Mem w b off len l) (h1:128<=l.getD 0 0) (h2:l.getD 0 0 < 192):Calls Tryz.prog 151 #[.slice (some ⟨b,off,none⟩) len cap] w fun e w'=>e=.returned (.int .i64 (pt l))/\w'=w:=by
 have hc:=hm.cell0 h0
 have hp:Hid (pt l=0):=pt_0 l (by rcases szf_cases (l.getD 0 0)with h | h | h | h | h | h <;> omega)
 have hr:=hm.range 0
 have HM:=zh hm
 clear hm
 generalize l.getD 0 0=c at hc hr h1 h2
 go_enter Tryz.func151,Tryz.ntmps151
 go_wp2
 go_ret
 refine⟨ret_int ?_,rfl⟩
 rw[uh hp]
 rfl
theorem rp_high (b off len cap:Nat) (l:List Int) (w:World) (h0:0 < len) (hm:Mem w b off len l) (h1:248<=l.getD 0 0):Calls Tryz.prog 151 #[.slice (some ⟨b,off,none⟩) len cap] w fun e w'=>e=.returned (.int .i64 (pt l))/\w'=w:=by
 have hc:=hm.cell0 h0
 have hp:Hid (pt l=0):=pt_0 l (by rcases szf_cases (l.getD 0 0)with h | h | h | h | h | h <;> omega)
 have hr:=hm.range 0
 have HM:=zh hm
 clear hm
 generalize l.getD 0 0=c at hc hr h1 
 go_enter Tryz.func151,Tryz.ntmps151
 go_wp2
 go_ret
 refine⟨ret_int ?_,rfl⟩
 rw[uh hp]
 rfl
theorem rp_1 (b off len cap:Nat) (l:List Int) (w:World) (h0:0 < len) (hm:Mem w b off len l) (h2:l.getD 0 0 < 128):Calls Tryz.prog 151 #[.slice (some ⟨b,off,none⟩) len cap] w fun e w'=>e=.returned (.int .i64 (pt l))/\w'=w:=by
 have hc:=hm.cell0 h0
 have hp:=zh (pt_1 l h2)
 have hr:=hm.range 0
 have HM:=zh hm
 clear hm
 generalize l.getD 0 0=c at hc hr h2 hp
 by_cases hz:0 < c
 ·have hp':Hid (pt l=1):=by show _=_;rw[uh hp,if_pos hz]
  go_enter Tryz.func151,Tryz.ntmps151
  go_wp2
  refine wp_loop_rounds 1 ?_
  rw[rounds_succ]
  go_wp2
  go_ret
  refine⟨ret_int ?_,rfl⟩
  rw[uh hp']
  rfl
 ·have hp':Hid (pt l=0):=by show _=_;rw[uh hp,if_neg hz]
  go_enter Tryz.func151,Tryz.ntmps151
  go_wp2
  refine wp_loop_rounds 1 ?_
  rw[rounds_succ]
  go_wp2
  go_ret
  refine⟨ret_int ?_,rfl⟩
  rw[uh hp']
  rfl
theorem rp_short2 (b off len cap:Nat) (l:List Int) (w:World) (h0:0 < len) (hm:Mem w b off len l) (h1:192<=l.getD 0 0) (h2:l.getD 0 0 < 224) (hs:len < 2):Calls Tryz.prog 151 #[.slice (some ⟨b,off,none⟩) len cap] w fun e w'=>e=.returned (.int .i64 (pt l))/\w'=w:=by
 have hc:=hm.cell0 h0
 have hp:Hid (pt l=0):=pt_short l 2 (by rcases szf_cases (l.getD 0 0)with h | h | h | h | h | h <;> omega) (by rw[hm.len];exact h0) (by rw[hm.len];exact hs)
 have hr:=hm.range 0
 have HM:=zh hm
 clear hm
 generalize l.getD 0 0=c at hc hr h1 h2
 go_enter Tryz.func151,Tryz.ntmps151
 go_wp2
 go_ret
 refine⟨ret_int ?_,rfl⟩
 rw[uh hp]
 rfl
set_option maxRecDepth 100000 in
theorem rp_2 (b off len cap:Nat) (l:List Int) (w:World) (h0:0 < len) (hm:Mem w b off len l) (h1:192<=l.getD 0 0) (h2:l.getD 0 0 < 224) (hs:2<=len):Calls Tryz.prog 151 #[.slice (some ⟨b,off,none⟩) len cap] w fun e w'=>e=.returned (.int .i64 (pt l))/\w'=w:=by
 have hc:=hm.cell0 h0
 have hz:Hid (szf (l.getD 0 0)=2):=by show _=_;rcases szf_cases (l.getD 0 0)with h | h | h | h | h | h <;> omega
 have hz2:Hid (szf (l.getD 0 0)=2):=uh hz
 have HZ:Hid (∀ z:Nat,z=2->szf (l.getD 0 0)=z):=fun z h=>by rw[uh hz2,h];rfl
 clear hz hz2
 have hr:=hm.range 0
 have ha:bits .and .i64 (l.getD 0 0) 31=l.getD 0 0 % 32:=a31 _ hr.1 hr.2
 have h00:Hid (l.getD 0 0 % 32=acc 32 l 0):=rfl
 have HM:=zh hm
 clear hm
 generalize l.getD 0 0=c at hc hr h1 h2 ha h00
 go_enter Tryz.func151,Tryz.ntmps151
 go_wp2
 go_loop [4,6] (fun p i=>∃ k:Nat,1<=k/\k<=2/\i=.int .i64 k/\p=.int .i64 (acc 32 l (k - 1))/\Hid (∀ j,1<=j->j < k->cont (l.getD j 0)=true)) (fun _ i=>2 - (intOf i).toNat)
 case atStart=>exact⟨1,by omega,by omega,rfl,by rw[uh h00],fun j h1 h2=>by omega⟩
 case round =>
  obtain⟨k,hk1,hkn,rfl,rfl,hall⟩:=hrel
  by_cases hlt:k < 2
  ·have hck:=(uh HM).cell k (by omega)
   have hrk:=(uh HM).range k
   have hstep:Hid (acc 32 l k=acc 32 l (k - 1) * 64+l.getD k 0 % 64):=by
    obtain⟨q,rfl⟩:∃ q,k=q+1:=⟨k - 1,by omega⟩
    rfl
   have hp0:=acc_pos 32 l (by omega) (k - 1)
   have hp1:=acc_lt 32 l (by omega) (by omega) (k - 1) (by omega)
   have hcs:Hid ((bits .and .u8 (l.getD k 0) 192 == 128)=cont (l.getD k 0)):=a192 _ hrk.1 hrk.2
   have hcont:=zh (pt_cont l 2 ((uh HZ) 2 rfl) k hk1 hlt)
   have ha63:bits .and .u8 (l.getD k 0) 63=l.getD k 0 % 64:=a63 _ hrk.1 hrk.2
   have hor:bits .or .i64 (acc 32 l (k - 1) * 64) (l.getD k 0 % 64)=acc 32 l (k - 1) * 64+l.getD k 0 % 64:=or_i64 _ _ 6 (by omega) (by omega) (by omega) (by omega) (by omega) (by omega)
   generalize hx:l.getD k 0=x at hck hrk hstep hcs hcont ha63 hor
   generalize hpp:acc 32 l (k - 1)=p at hp0 hp1 hstep hor
   have HX:=zh hx
   have HPP:=zh hpp
   clear hx hpp
   by_cases hct:cont x=true
   ·have hb:(bits .and .u8 x 192 == 128)=true:=(uh hcs).trans hct
    have HC:=zh hct
    clear hct hcont
    go_wp2
    go_round
    case rel=>exact⟨k+1,by omega,by omega,by go_num,by rw[Nat.add_sub_cancel,uh hstep],fun j h1 h2=>by
     rcases Nat.lt_succ_iff_lt_or_eq.1 h2 with h | h
     ·exact (uh hall) j h1 h
     ·rw[h,uh HX];exact uh HC⟩
    case measure=>simp[intOf];omega
   ·have hb:(bits .and .u8 x 192 == 128)=false:=by rw[uh hcs];simpa using hct
    have hp:Hid (pt l=0):=(uh hcont) (by simpa using hct)
    clear hct hcont
    go_wp2
    go_ret
    refine⟨ret_int ?_,rfl⟩
    rw[uh hp]
    rfl
  ·obtain rfl:k=2:=by omega
   have hpt:Hid (pt l=if mbn 2 l=true then 2 else 0):=pt_mb l 2 ((uh HZ) 2 rfl) (by omega) (by rw[(uh HM).len];exact hs) (uh hall)
   have hpv:Hid (pvn 2 l=acc 32 l (2 - 1)):=rfl
   have hp0:=acc_pos 32 l (by omega) (2 - 1)
   have hp1:=acc_lt 32 l (by omega) (by omega) (2 - 1) (by omega)
   have yes:Hid (∀ P,acc 32 l (2 - 1)=P->128<=P->P<=1114111->(P < 55296\/57343 < P)->pt l=2):=by
    intro P hP a1 a2 a3
    rw[uh hpt,if_pos]
    unfold mbn
    rw[uh hpv,hP]
    have:lstn 2=128:=rfl
    simp only[this,Bool.and_eq_true,Bool.not_eq_true',Bool.and_eq_false_iff,decide_eq_true_eq,decide_eq_false_iff_not]
    omega
   have no:Hid (∀ P,acc 32 l (2 - 1)=P->(P < 128\/1114111 < P\/(55296<=P/\P<=57343))->pt l=0):=by
    intro P hP a1
    rw[uh hpt,if_neg]
    unfold mbn
    rw[uh hpv,hP]
    have:lstn 2=128:=rfl
    simp only[this,Bool.and_eq_true,Bool.not_eq_true',Bool.and_eq_false_iff,decide_eq_true_eq,decide_eq_false_iff_not]
    omega
   generalize hP:acc 32 l (2 - 1)=P at hp0 hp1
   have HP:=zh hP
   clear hP hpt hpv
   by_cases q1:P < 128
   ·have hp:Hid (pt l=0):=(uh no) P (uh HP) (.inl q1)
    go_wp2
    go_ret
    refine⟨ret_int ?_,rfl⟩
    rw[uh hp]
    rfl
   ·by_cases q2:1114111 < P
    ·have hp:Hid (pt l=0):=(uh no) P (uh HP) (.inr (.inl q2))
     go_wp2
     go_ret
     refine⟨ret_int ?_,rfl⟩
     rw[uh hp]
     rfl
    ·by_cases q3:55296<=P
     ·by_cases q4:P<=57343
      ·have hp:Hid (pt l=0):=(uh no) P (uh HP) (.inr (.inr ⟨q3,q4⟩))
       go_wp2
       go_ret
       refine⟨ret_int ?_,rfl⟩
       rw[uh hp]
       rfl
      ·have hp:Hid (pt l=2):=(uh yes) P (uh HP) (by omega) (by omega) (by omega)
       go_wp2
       go_ret
       refine⟨ret_int ?_,rfl⟩
       rw[uh hp]
       rfl
     ·have hp:Hid (pt l=2):=(uh yes) P (uh HP) (by omega) (by omega) (by omega)
      go_wp2
      go_ret
      refine⟨ret_int ?_,rfl⟩
      rw[uh hp]
      rfl
theorem rp_short3 (b off len cap:Nat) (l:List Int) (w:World) (h0:0 < len) (hm:Mem w b off len l) (h1:224<=l.getD 0 0) (h2:l.getD 0 0 < 240) (hs:len < 3):Calls Tryz.prog 151 #[.slice (some ⟨b,off,none⟩) len cap] w fun e w'=>e=.returned (.int .i64 (pt l))/\w'=w:=by
 have hc:=hm.cell0 h0
 have hp:Hid (pt l=0):=pt_short l 3 (by rcases szf_cases (l.getD 0 0)with h | h | h | h | h | h <;> omega) (by rw[hm.len];exact h0) (by rw[hm.len];exact hs)
 have hr:=hm.range 0
 have HM:=zh hm
 clear hm
 generalize l.getD 0 0=c at hc hr h1 h2
 go_enter Tryz.func151,Tryz.ntmps151
 go_wp2
 go_ret
 refine⟨ret_int ?_,rfl⟩
 rw[uh hp]
 rfl
set_option maxRecDepth 100000 in
theorem rp_3 (b off len cap:Nat) (l:List Int) (w:World) (h0:0 < len) (hm:Mem w b off len l) (h1:224<=l.getD 0 0) (h2:l.getD 0 0 < 240) (hs:3<=len):Calls Tryz.prog 151 #[.slice (some ⟨b,off,none⟩) len cap] w fun e w'=>e=.returned (.int .i64 (pt l))/\w'=w:=by
 have hc:=hm.cell0 h0
 have hz:Hid (szf (l.getD 0 0)=3):=by show _=_;rcases szf_cases (l.getD 0 0)with h | h | h | h | h | h <;> omega
 have hz2:Hid (szf (l.getD 0 0)=3):=uh hz
 have HZ:Hid (∀ z:Nat,z=3->szf (l.getD 0 0)=z):=fun z h=>by rw[uh hz2,h];rfl
 clear hz hz2
 have hr:=hm.range 0
 have ha:bits .and .i64 (l.getD 0 0) 15=l.getD 0 0 % 16:=a15 _ hr.1 hr.2
 have h00:Hid (l.getD 0 0 % 16=acc 16 l 0):=rfl
 have HM:=zh hm
 clear hm
 generalize l.getD 0 0=c at hc hr h1 h2 ha h00
 go_enter Tryz.func151,Tryz.ntmps151
 go_wp2
 go_loop [4,6] (fun p i=>∃ k:Nat,1<=k/\k<=3/\i=.int .i64 k/\p=.int .i64 (acc 16 l (k - 1))/\Hid (∀ j,1<=j->j < k->cont (l.getD j 0)=true)) (fun _ i=>3 - (intOf i).toNat)
 case atStart=>exact⟨1,by omega,by omega,rfl,by rw[uh h00],fun j h1 h2=>by omega⟩
 case round =>
  obtain⟨k,hk1,hkn,rfl,rfl,hall⟩:=hrel
  by_cases hlt:k < 3
  ·have hck:=(uh HM).cell k (by omega)
   have hrk:=(uh HM).range k
   have hstep:Hid (acc 16 l k=acc 16 l (k - 1) * 64+l.getD k 0 % 64):=by
    obtain⟨q,rfl⟩:∃ q,k=q+1:=⟨k - 1,by omega⟩
    rfl
   have hp0:=acc_pos 16 l (by omega) (k - 1)
   have hp1:=acc_lt 16 l (by omega) (by omega) (k - 1) (by omega)
   have hcs:Hid ((bits .and .u8 (l.getD k 0) 192 == 128)=cont (l.getD k 0)):=a192 _ hrk.1 hrk.2
   have hcont:=zh (pt_cont l 3 ((uh HZ) 3 rfl) k hk1 hlt)
   have ha63:bits .and .u8 (l.getD k 0) 63=l.getD k 0 % 64:=a63 _ hrk.1 hrk.2
   have hor:bits .or .i64 (acc 16 l (k - 1) * 64) (l.getD k 0 % 64)=acc 16 l (k - 1) * 64+l.getD k 0 % 64:=or_i64 _ _ 6 (by omega) (by omega) (by omega) (by omega) (by omega) (by omega)
   generalize hx:l.getD k 0=x at hck hrk hstep hcs hcont ha63 hor
   generalize hpp:acc 16 l (k - 1)=p at hp0 hp1 hstep hor
   have HX:=zh hx
   have HPP:=zh hpp
   clear hx hpp
   by_cases hct:cont x=true
   ·have hb:(bits .and .u8 x 192 == 128)=true:=(uh hcs).trans hct
    have HC:=zh hct
    clear hct hcont
    go_wp2
    go_round
    case rel=>exact⟨k+1,by omega,by omega,by go_num,by rw[Nat.add_sub_cancel,uh hstep],fun j h1 h2=>by
     rcases Nat.lt_succ_iff_lt_or_eq.1 h2 with h | h
     ·exact (uh hall) j h1 h
     ·rw[h,uh HX];exact uh HC⟩
    case measure=>simp[intOf];omega
   ·have hb:(bits .and .u8 x 192 == 128)=false:=by rw[uh hcs];simpa using hct
    have hp:Hid (pt l=0):=(uh hcont) (by simpa using hct)
    clear hct hcont
    go_wp2
    go_ret
    refine⟨ret_int ?_,rfl⟩
    rw[uh hp]
    rfl
  ·obtain rfl:k=3:=by omega
   have hpt:Hid (pt l=if mbn 3 l=true then 3 else 0):=pt_mb l 3 ((uh HZ) 3 rfl) (by omega) (by rw[(uh HM).len];exact hs) (uh hall)
   have hpv:Hid (pvn 3 l=acc 16 l (3 - 1)):=rfl
   have hp0:=acc_pos 16 l (by omega) (3 - 1)
   have hp1:=acc_lt 16 l (by omega) (by omega) (3 - 1) (by omega)
   have yes:Hid (∀ P,acc 16 l (3 - 1)=P->2048<=P->P<=1114111->(P < 55296\/57343 < P)->pt l=3):=by
    intro P hP a1 a2 a3
    rw[uh hpt,if_pos]
    unfold mbn
    rw[uh hpv,hP]
    have:lstn 3=2048:=rfl
    simp only[this,Bool.and_eq_true,Bool.not_eq_true',Bool.and_eq_false_iff,decide_eq_true_eq,decide_eq_false_iff_not]
    omega
   have no:Hid (∀ P,acc 16 l (3 - 1)=P->(P < 2048\/1114111 < P\/(55296<=P/\P<=57343))->pt l=0):=by
    intro P hP a1
    rw[uh hpt,if_neg]
    unfold mbn
    rw[uh hpv,hP]
    have:lstn 3=2048:=rfl
    simp only[this,Bool.and_eq_true,Bool.not_eq_true',Bool.and_eq_false_iff,decide_eq_true_eq,decide_eq_false_iff_not]
    omega
   generalize hP:acc 16 l (3 - 1)=P at hp0 hp1
   have HP:=zh hP
   clear hP hpt hpv
   by_cases q1:P < 2048
   ·have hp:Hid (pt l=0):=(uh no) P (uh HP) (.inl q1)
    go_wp2
    go_ret
    refine⟨ret_int ?_,rfl⟩
    rw[uh hp]
    rfl
   ·by_cases q2:1114111 < P
    ·have hp:Hid (pt l=0):=(uh no) P (uh HP) (.inr (.inl q2))
     go_wp2
     go_ret
     refine⟨ret_int ?_,rfl⟩
     rw[uh hp]
     rfl
    ·by_cases q3:55296<=P
     ·by_cases q4:P<=57343
      ·have hp:Hid (pt l=0):=(uh no) P (uh HP) (.inr (.inr ⟨q3,q4⟩))
       go_wp2
       go_ret
       refine⟨ret_int ?_,rfl⟩
       rw[uh hp]
       rfl
      ·have hp:Hid (pt l=3):=(uh yes) P (uh HP) (by omega) (by omega) (by omega)
       go_wp2
       go_ret
       refine⟨ret_int ?_,rfl⟩
       rw[uh hp]
       rfl
     ·have hp:Hid (pt l=3):=(uh yes) P (uh HP) (by omega) (by omega) (by omega)
      go_wp2
      go_ret
      refine⟨ret_int ?_,rfl⟩
      rw[uh hp]
      rfl
theorem rp_short4 (b off len cap:Nat) (l:List Int) (w:World) (h0:0 < len) (hm:Mem w b off len l) (h1:240<=l.getD 0 0) (h2:l.getD 0 0 < 248) (hs:len < 4):Calls Tryz.prog 151 #[.slice (some ⟨b,off,none⟩) len cap] w fun e w'=>e=.returned (.int .i64 (pt l))/\w'=w:=by
 have hc:=hm.cell0 h0
 have hp:Hid (pt l=0):=pt_short l 4 (by rcases szf_cases (l.getD 0 0)with h | h | h | h | h | h <;> omega) (by rw[hm.len];exact h0) (by rw[hm.len];exact hs)
 have hr:=hm.range 0
 have HM:=zh hm
 clear hm
 generalize l.getD 0 0=c at hc hr h1 h2
 go_enter Tryz.func151,Tryz.ntmps151
 go_wp2
 go_ret
 refine⟨ret_int ?_,rfl⟩
 rw[uh hp]
 rfl
set_option maxRecDepth 100000 in
theorem rp_4 (b off len cap:Nat) (l:List Int) (w:World) (h0:0 < len) (hm:Mem w b off len l) (h1:240<=l.getD 0 0) (h2:l.getD 0 0 < 248) (hs:4<=len):Calls Tryz.prog 151 #[.slice (some ⟨b,off,none⟩) len cap] w fun e w'=>e=.returned (.int .i64 (pt l))/\w'=w:=by
 have hc:=hm.cell0 h0
 have hz:Hid (szf (l.getD 0 0)=4):=by show _=_;rcases szf_cases (l.getD 0 0)with h | h | h | h | h | h <;> omega
 have hz2:Hid (szf (l.getD 0 0)=4):=uh hz
 have HZ:Hid (∀ z:Nat,z=4->szf (l.getD 0 0)=z):=fun z h=>by rw[uh hz2,h];rfl
 clear hz hz2
 have hr:=hm.range 0
 have ha:bits .and .i64 (l.getD 0 0) 7=l.getD 0 0 % 8:=a7 _ hr.1 hr.2
 have h00:Hid (l.getD 0 0 % 8=acc 8 l 0):=rfl
 have HM:=zh hm
 clear hm
 generalize l.getD 0 0=c at hc hr h1 h2 ha h00
 go_enter Tryz.func151,Tryz.ntmps151
 go_wp2
 go_loop [4,6] (fun p i=>∃ k:Nat,1<=k/\k<=4/\i=.int .i64 k/\p=.int .i64 (acc 8 l (k - 1))/\Hid (∀ j,1<=j->j < k->cont (l.getD j 0)=true)) (fun _ i=>4 - (intOf i).toNat)
 case atStart=>exact⟨1,by omega,by omega,rfl,by rw[uh h00],fun j h1 h2=>by omega⟩
 case round =>
  obtain⟨k,hk1,hkn,rfl,rfl,hall⟩:=hrel
  by_cases hlt:k < 4
  ·have hck:=(uh HM).cell k (by omega)
   have hrk:=(uh HM).range k
   have hstep:Hid (acc 8 l k=acc 8 l (k - 1) * 64+l.getD k 0 % 64):=by
    obtain⟨q,rfl⟩:∃ q,k=q+1:=⟨k - 1,by omega⟩
    rfl
   have hp0:=acc_pos 8 l (by omega) (k - 1)
   have hp1:=acc_lt 8 l (by omega) (by omega) (k - 1) (by omega)
   have hcs:Hid ((bits .and .u8 (l.getD k 0) 192 == 128)=cont (l.getD k 0)):=a192 _ hrk.1 hrk.2
   have hcont:=zh (pt_cont l 4 ((uh HZ) 4 rfl) k hk1 hlt)
   have ha63:bits .and .u8 (l.getD k 0) 63=l.getD k 0 % 64:=a63 _ hrk.1 hrk.2
   have hor:bits .or .i64 (acc 8 l (k - 1) * 64) (l.getD k 0 % 64)=acc 8 l (k - 1) * 64+l.getD k 0 % 64:=or_i64 _ _ 6 (by omega) (by omega) (by omega) (by omega) (by omega) (by omega)
   generalize hx:l.getD k 0=x at hck hrk hstep hcs hcont ha63 hor
   generalize hpp:acc 8 l (k - 1)=p at hp0 hp1 hstep hor
   have HX:=zh hx
   have HPP:=zh hpp
   clear hx hpp
   by_cases hct:cont x=true
   ·have hb:(bits .and .u8 x 192 == 128)=true:=(uh hcs).trans hct
    have HC:=zh hct
    clear hct hcont
    go_wp2
    go_round
    case rel=>exact⟨k+1,by omega,by omega,by go_num,by rw[Nat.add_sub_cancel,uh hstep],fun j h1 h2=>by
     rcases Nat.lt_succ_iff_lt_or_eq.1 h2 with h | h
     ·exact (uh hall) j h1 h
     ·rw[h,uh HX];exact uh HC⟩
    case measure=>simp[intOf];omega
   ·have hb:(bits .and .u8 x 192 == 128)=false:=by rw[uh hcs];simpa using hct
    have hp:Hid (pt l=0):=(uh hcont) (by simpa using hct)
    clear hct hcont
    go_wp2
    go_ret
    refine⟨ret_int ?_,rfl⟩
    rw[uh hp]
    rfl
  ·obtain rfl:k=4:=by omega
   have hpt:Hid (pt l=if mbn 4 l=true then 4 else 0):=pt_mb l 4 ((uh HZ) 4 rfl) (by omega) (by rw[(uh HM).len];exact hs) (uh hall)
   have hpv:Hid (pvn 4 l=acc 8 l (4 - 1)):=rfl
   have hp0:=acc_pos 8 l (by omega) (4 - 1)
   have hp1:=acc_lt 8 l (by omega) (by omega) (4 - 1) (by omega)
   have yes:Hid (∀ P,acc 8 l (4 - 1)=P->65536<=P->P<=1114111->(P < 55296\/57343 < P)->pt l=4):=by
    intro P hP a1 a2 a3
    rw[uh hpt,if_pos]
    unfold mbn
    rw[uh hpv,hP]
    have:lstn 4=65536:=rfl
    simp only[this,Bool.and_eq_true,Bool.not_eq_true',Bool.and_eq_false_iff,decide_eq_true_eq,decide_eq_false_iff_not]
    omega
   have no:Hid (∀ P,acc 8 l (4 - 1)=P->(P < 65536\/1114111 < P\/(55296<=P/\P<=57343))->pt l=0):=by
    intro P hP a1
    rw[uh hpt,if_neg]
    unfold mbn
    rw[uh hpv,hP]
    have:lstn 4=65536:=rfl
    simp only[this,Bool.and_eq_true,Bool.not_eq_true',Bool.and_eq_false_iff,decide_eq_true_eq,decide_eq_false_iff_not]
    omega
   generalize hP:acc 8 l (4 - 1)=P at hp0 hp1
   have HP:=zh hP
   clear hP hpt hpv
   by_cases q1:P < 65536
   ·have hp:Hid (pt l=0):=(uh no) P (uh HP) (.inl q1)
    go_wp2
    go_ret
    refine⟨ret_int ?_,rfl⟩
    rw[uh hp]
    rfl
   ·by_cases q2:1114111 < P
    ·have hp:Hid (pt l=0):=(uh no) P (uh HP) (.inr (.inl q2))
     go_wp2
     go_ret
     refine⟨ret_int ?_,rfl⟩
     rw[uh hp]
     rfl
    ·by_cases q3:55296<=P
     ·by_cases q4:P<=57343
      ·have hp:Hid (pt l=0):=(uh no) P (uh HP) (.inr (.inr ⟨q3,q4⟩))
       go_wp2
       go_ret
       refine⟨ret_int ?_,rfl⟩
       rw[uh hp]
       rfl
      ·have hp:Hid (pt l=4):=(uh yes) P (uh HP) (by omega) (by omega) (by omega)
       go_wp2
       go_ret
       refine⟨ret_int ?_,rfl⟩
       rw[uh hp]
       rfl
     ·have hp:Hid (pt l=4):=(uh yes) P (uh HP) (by omega) (by omega) (by omega)
      go_wp2
      go_ret
      refine⟨ret_int ?_,rfl⟩
      rw[uh hp]
      rfl
theorem rp_any (v:Value) (l:List Int) (w:World) (hv:Byt w v l) (h0:l≠[]):Calls Tryz.prog 151 #[v] w fun e w'=>e=.returned (.int .i64 (pt l))/\w'=w:=by
 obtain⟨ao,cap,rfl,hlen,hr,hcase⟩:=hv
 rcases hcase with rfl | ⟨b,off,rfl,hc⟩
 ·exact absurd rfl h0
 ·have hm:Mem w b off l.length l:=⟨rfl,hc,hr⟩
  have hp:0 < l.length:=by rcases l with _ | ⟨a,r⟩;exact absurd rfl h0;simp
  by_cases a1:l.getD 0 0 < 128
  ·exact rp_1 b off _ cap l w hp hm a1
  ·by_cases a2:l.getD 0 0 < 192
   ·exact rp_lone b off _ cap l w hp hm (by omega) a2
   ·by_cases a3:l.getD 0 0 < 224
    ·by_cases hs:l.length < 2
     ·exact rp_short2 b off _ cap l w hp hm (by omega) a3 hs
     ·exact rp_2 b off _ cap l w hp hm (by omega) a3 (by omega)
    ·by_cases a4:l.getD 0 0 < 240
     ·by_cases hs:l.length < 3
      ·exact rp_short3 b off _ cap l w hp hm (by omega) a4 hs
      ·exact rp_3 b off _ cap l w hp hm (by omega) a4 (by omega)
     ·by_cases a5:l.getD 0 0 < 248
      ·by_cases hs:l.length < 4
       ·exact rp_short4 b off _ cap l w hp hm (by omega) a5 hs
       ·exact rp_4 b off _ cap l w hp hm (by omega) a5 (by omega)
      ·exact rp_high b off _ cap l w hp hm (by omega)
set_option maxRecDepth 100000 in
theorem rutf_any (v:Value) (l:List Int) (w:World) (hv:Byt w v l):Calls Tryz.prog 125 #[v] w fun e w'=>e=.returned (.bool (utf l))/\w'=w:=by
 go_enter Tryz.func125,Tryz.ntmps125
 go_wp2
 go_loop [0] (fun b=>∃ k:Nat,k<=l.length/\Hid (Byt w b (l.drop k))/\Hid (utf (l.drop k)=utf l)) (fun b=>match b with | .slice _ n _=>n | _=>0)
 case atStart=>exact⟨0,Nat.zero_le _,hv,rfl⟩
 case round =>
  obtain⟨k,hk,hby,hu⟩:=hrel
  by_cases hlt:k < l.length
  ·obtain⟨b,off,cap,rfl,hc1,hc2⟩:=(uh hby).form1 (by rw[List.length_drop];omega)
   have hps:=zh (rp_any _ _ w (uh hby) (by intro h;have:=congrArg List.length h;simp at this;omega))
   have h4:=pt_le (l.drop k)
   have hnot:=zh (utf_not l k hlt)
   have hyes:=zh (utf_drop l k hlt)
   have hdr:=zh (fun p=>(uh hby).drop' p)
   rw[List.length_drop]at h4 hc1 hps hdr |-
   have hdd:Hid (∀ p,(l.drop k).drop p=l.drop (k+p)):=fun p=>List.drop_drop
   generalize pt (l.drop k)=p at hps h4 hnot hyes
   generalize hm:l.length - k=m at hps h4 hc1 hdr
   unfold maxLen at hc2
   by_cases hp:p=0
   ·subst hp
    have hf:=zh ((uh hnot) rfl)
    go_wp2_with (go_at_call 151;refine (uh hps).mono ?_;rintro e w' ⟨rfl,rfl⟩)
    go_ret
    exact⟨ret_bool (by rw[<- uh hu,uh hf]),rfl⟩
   ·have hp0:((p:Int) == 0)=false:=beq_eq_false_iff_ne.2 (by omega)
    go_wp2_with (go_at_call 151;refine (uh hps).mono ?_;rintro e w' ⟨rfl,rfl⟩)
    go_round
    case rel=>exact⟨k+p,by omega,by show Byt _ _ _;rw[<- (uh hdd) p];exact (uh hdr) p h4,by show _=_;rw[<- (uh hyes) hp];exact uh hu⟩
    case measure=>simp;omega
  ·obtain rfl:k=l.length:=by omega
   have hn:l.drop l.length=[]:=List.drop_of_length_le (Nat.le_refl _)
   rw[hn]at hby hu
   obtain⟨ao,cap,rfl,_⟩:=(uh hby).form
   have hu':Hid (utf l=true):=(uh hu).symm
   clear hn hu
   go_wp2
   go_ret
   exact⟨ret_bool (uh hu').symm,rfl⟩
end Go.Proofs.YtpheelbbpiieiaaGreatDoor
namespace Go.Proofs.YtpheelbbpiieiaaGreatDoor.K
open Go.RowKit
theorem text_ext {x y:ByteArray} (h:x.toList=y.toList):x=y:=by
 rw[ByteArray.toList_eq,ByteArray.toList_eq]at h
 exact ByteArray.ext (Array.toList_inj.1 h)
def Txs (w:World) (v:Value) (l:List ByteArray):Prop :=
 ∃ ao cap,v=.slice ao l.length cap/\(l.length<=cap/\cap<=maxLen)/\(l=[]\/∃ b off,ao=some ⟨b,off,none⟩/\∀ j,j < l.length->w.cell? ⟨b,off+j,none⟩=some (.string (l.getD j ⟨#[]⟩)))
theorem txs_of_owns {w:World} {B:Nat} {e:TypeId} {v:Value} {l:List ByteArray} (h:w.ownsRow B e 1 v l.length (l.map (Value.string))):Txs w v l:=by
 rcases h.2 with⟨rfl,h1⟩ | ⟨g,cap,cur,rfl,hB,hg,h1,h2,h3,h4⟩
 ·have:l=[]:=List.length_eq_zero_iff.1 h1
  subst this
  exact⟨none,0,rfl,by simp,.inl rfl⟩
 ·refine⟨_,cap,rfl,⟨h1,h2⟩,.inr ⟨g,0,rfl,fun j hj=>?_⟩⟩
  rw[Nat.zero_add,h.cellAt j (by omega),List.getElem?_map,List.getElem?_eq_getElem hj,List.getD_eq_getElem?_getD,List.getElem?_eq_getElem hj]
  rfl
theorem eqs_len (ao bo:Option Addr) (n m ca cb:Nat) (w:World) (h:n≠m) :
  Calls Tryz.prog 35 #[.slice ao n ca,.slice bo m cb] w fun e w'=>e=.returned (.bool false)/\w'=w:=by
 have h1:((n:Int) == (m:Int))=false:=beq_eq_false_iff_ne.2 (by omega)
 go_enter Tryz.func35,Tryz.ntmps35
 go_wp2
 go_ret
 exact⟨rfl,rfl⟩
theorem eqs_nil (ao bo:Option Addr) (ca cb:Nat) (w:World) :
  Calls Tryz.prog 35 #[.slice ao 0 ca,.slice bo 0 cb] w fun e w'=>e=.returned (.bool true)/\w'=w:=by
 go_enter Tryz.func35,Tryz.ntmps35
 go_wp2
 refine wp_loop_rounds 1 ?_
 rw[rounds_succ]
 go_wp2
 go_ret
 exact⟨rfl,rfl⟩
theorem eqs_core (ba oa bb ob n ca cb:Nat) (f g:Nat->ByteArray) (w:World) (hn:n<=maxLen)
  (hf:∀ j,j < n->w.cell? ⟨ba,oa+j,none⟩=some (.string (f j))) (hg:∀ j,j < n->w.cell? ⟨bb,ob+j,none⟩=some (.string (g j))) :
  Calls Tryz.prog 35 #[.slice (some ⟨ba,oa,none⟩) n ca,.slice (some ⟨bb,ob,none⟩) n cb] w fun e w'=>(∃ b,e=.returned (.bool b)/\(b=true ↔ ∀ j,j < n->f j=g j))/\∃ k,w'=w.drewN k:=by
 unfold maxLen at hn
 have HF:=zh hf
 have HG:=zh hg
 clear hf hg
 go_enter Tryz.func35,Tryz.ntmps35
 go_wp2
 go_loopw [5] (fun i wr=>∃ k q:Nat,k<=n/\i=.int .i64 k/\wr=w.drewN q/\∀ j,j < k->f j=g j) (fun i _=>n - (intOf i).toNat)
 case atStart=>exact⟨0,0,Nat.zero_le _,rfl,rfl,fun j hj=>absurd hj (Nat.not_lt_zero j)⟩
 case round =>
  obtain⟨k,q,hk,rfl,rfl,hall⟩:=hrel
  have HA:=zh hall
  clear hall
  by_cases hlt:k < n
  ·have hfk:=(uh HF) k hlt
   have hgk:=(uh HG) k hlt
   generalize hx:f k=x at hfk
   generalize hy:g k=y at hgk
   have HX:=zh hx
   have HY:=zh hy
   clear hx hy
   by_cases hxy:x=y
   ·have hb:(x.toList == y.toList)=true:=by rw[hxy];exact beq_self_eq_true _
    have HE:=zh hxy
    clear hxy
    go_wp2
    go_quiet (fail)
    go_wp2
    go_roundw
    case rel=>exact⟨k+1,_,by omega,by go_num,rfl,fun j hj=>by
     rcases Nat.lt_succ_iff_lt_or_eq.1 hj with h | h
     ·exact (uh HA) j h
     ·rw[h,uh HX,uh HY];exact uh HE⟩
    case measure=>simp[intOf];omega
   ·have hb:(x.toList == y.toList)=false:=beq_eq_false_iff_ne.2 (fun e=>hxy (text_ext e))
    go_wp2
    go_quiet (fail)
    go_wp2
    go_ret
    refine⟨⟨_,rfl,?_⟩,q+nq,drewN_drewN _ _ _⟩
    constructor
    ·intro h;cases h
    ·intro h;exact absurd ((uh HX).symm.trans ((h k hlt).trans (uh HY))) hxy
  ·go_wp2
   go_ret
   exact⟨⟨_,rfl,fun _ j hj=>(uh HA) j (by omega),fun _=>rfl⟩,_,rfl⟩
theorem eqs_any (va vb:Value) (xs ys:List ByteArray) (w:World) (ha:Txs w va xs) (hb:Txs w vb ys) :
  Calls Tryz.prog 35 #[va,vb] w fun e w'=>e=.returned (.bool (decide (xs=ys)))/\∃ k,w'=w.drewN k:=by
 obtain⟨ao,ca,rfl,hla,ha⟩:=ha
 obtain⟨bo,cb,rfl,_,hb⟩:=hb
 by_cases hl:xs.length=ys.length
 ·rcases ha with rfl | ⟨ba,oa,rfl,hca⟩
  ·have hb0:ys=[]:=List.length_eq_zero_iff.1 hl.symm
   subst hb0
   refine (eqs_nil _ _ _ _ _).mono ?_
   rintro e w' ⟨rfl,rfl⟩
   exact⟨by simp,0,rfl⟩
  ·rcases hb with rfl | ⟨bb,ob,rfl,hcb⟩
   ·have ha0:xs=[]:=List.length_eq_zero_iff.1 hl
    subst ha0
    refine (eqs_nil _ _ _ _ _).mono ?_
    rintro e w' ⟨rfl,rfl⟩
    exact⟨by simp,0,rfl⟩
   ·rw[<- hl]at hcb |-
    refine (eqs_core ba oa bb ob xs.length ca cb (fun j=>xs.getD j ⟨#[]⟩) (fun j=>ys.getD j ⟨#[]⟩) w (Nat.le_trans hla.1 hla.2) hca hcb).mono ?_
    rintro e w' ⟨⟨b,rfl,hbb⟩,k,rfl⟩
    refine⟨?_,k,rfl⟩
    have:(b=true) ↔ xs=ys:=by
     rw[hbb]
     constructor
     ·intro h
      apply List.ext_getElem hl
      intro i h1 h2
      have:=h i h1
      rw[List.getD_eq_getElem?_getD,List.getD_eq_getElem?_getD,List.getElem?_eq_getElem h1,List.getElem?_eq_getElem h2]at this
      exact this
     ·rintro rfl j _;rfl
    rw[show b=decide (xs=ys) from by rw[Bool.eq_iff_iff,this];simp]
 ·refine (eqs_len ao bo xs.length ys.length ca cb w hl).mono ?_
  rintro e w' ⟨rfl,rfl⟩
  refine⟨?_,0,rfl⟩
  rw[show decide (xs=ys)=false from decide_eq_false (fun h=>hl (by rw[h]))]
theorem ofInt_64 (a:Nat) (ha:a < 18446744073709551616):(BitVec.ofInt 64 (a:Int)).toNat=a:=by
 rw[BitVec.ofInt_natCast,BitVec.toNat_ofNat];exact Nat.mod_eq_of_lt (by omega)
theorem i64_or_nat (a b:Nat) (ha:a < 4611686018427387904) (hb:b < 4611686018427387904):bits .or .i64 (a:Int) (b:Int)=((a ||| b:Nat):Int):=by
 have hx:a ||| b < 2 ^ 62:=Nat.or_lt_two_pow (by omega) (by omega)
 show IntKind.i64.wrap ((BitVec.ofInt 64 (a:Int) ||| BitVec.ofInt 64 (b:Int)).toNat:Int)=_
 rw[BitVec.toNat_or,ofInt_64 a (by omega),ofInt_64 b (by omega),IntKind.wrap_i64]
 omega
theorem or_hi (i:Nat) (x y:Int) (hx0:0<=x) (hx1:x < 4611686018427387904) (hy0:0<=y) (hy1:y < 4611686018427387904) (hm:x.toNat % 2 ^ i=0) (hy:y.toNat < 2 ^ i):bits .or .i64 x y=x+y:=by
 obtain⟨a,rfl⟩:=Int.eq_ofNat_of_zero_le hx0
 obtain⟨b,rfl⟩:=Int.eq_ofNat_of_zero_le hy0
 rw[i64_or_nat a b (by omega) (by omega),nat_join i a b (by simpa using hm) (by simpa using hy)]
 omega
theorem or_256 (x y:Int) (hx0:0<=x) (hx1:x < 16777216) (hy0:0<=y) (hy1:y<=255):bits .or .i64 (x * 256) y=x * 256+y:=or_hi 8 _ _ (by omega) (by omega) hy0 (by omega) (by omega) (by omega)
def Nms (w:World) (v:Value) (l:List Int):Prop :=
 ∃ ao cap,v=.slice ao l.length cap/\(l.length<=cap/\cap<=maxLen)/\(l=[]\/∃ b off,ao=some ⟨b,off,none⟩/\∀ j,j < l.length->w.cell? ⟨b,off+j,none⟩=some (.int .i64 (l.getD j 0)))
theorem nms_of_owns {w:World} {B:Nat} {e:TypeId} {v:Value} {l:List Int} (h:w.ownsRow B e 1 v l.length (l.map (Value.int .i64))):Nms w v l:=by
 rcases h.2 with⟨rfl,h1⟩ | ⟨g,cap,cur,rfl,hB,hg,h1,h2,h3,h4⟩
 ·have:l=[]:=List.length_eq_zero_iff.1 h1
  subst this
  exact⟨none,0,rfl,by simp,.inl rfl⟩
 ·refine⟨_,cap,rfl,⟨h1,h2⟩,.inr ⟨g,0,rfl,fun j hj=>?_⟩⟩
  rw[Nat.zero_add,h.cellAt j (by omega),List.getElem?_map,List.getElem?_eq_getElem hj,List.getD_eq_getElem?_getD,List.getElem?_eq_getElem hj]
  rfl
theorem eqn_len (ao bo:Option Addr) (n m ca cb:Nat) (w:World) (h:n≠m) :
  Calls Tryz.prog 37 #[.slice ao n ca,.slice bo m cb] w fun e w'=>e=.returned (.bool false)/\w'=w:=by
 have h1:((n:Int) == (m:Int))=false:=beq_eq_false_iff_ne.2 (by omega)
 go_enter Tryz.func37,Tryz.ntmps37
 go_wp2
 go_ret
 exact⟨rfl,rfl⟩
theorem eqn_nil (ao bo:Option Addr) (ca cb:Nat) (w:World) :
  Calls Tryz.prog 37 #[.slice ao 0 ca,.slice bo 0 cb] w fun e w'=>e=.returned (.bool true)/\w'=w:=by
 go_enter Tryz.func37,Tryz.ntmps37
 go_wp2
 refine wp_loop_rounds 1 ?_
 rw[rounds_succ]
 go_wp2
 go_ret
 exact⟨rfl,rfl⟩
theorem eqn_core (ba oa bb ob n ca cb:Nat) (f g:Nat->Int) (w:World) (hn:n<=maxLen)
  (hf:∀ j,j < n->w.cell? ⟨ba,oa+j,none⟩=some (.int .i64 (f j))) (hg:∀ j,j < n->w.cell? ⟨bb,ob+j,none⟩=some (.int .i64 (g j))) :
  Calls Tryz.prog 37 #[.slice (some ⟨ba,oa,none⟩) n ca,.slice (some ⟨bb,ob,none⟩) n cb] w fun e w'=>(∃ b,e=.returned (.bool b)/\(b=true ↔ ∀ j,j < n->f j=g j))/\∃ k,w'=w.drewN k:=by
 unfold maxLen at hn
 have HF:=zh hf
 have HG:=zh hg
 clear hf hg
 go_enter Tryz.func37,Tryz.ntmps37
 go_wp2
 go_loopw [5] (fun i wr=>∃ k q:Nat,k<=n/\i=.int .i64 k/\wr=w.drewN q/\∀ j,j < k->f j=g j) (fun i _=>n - (intOf i).toNat)
 case atStart=>exact⟨0,0,Nat.zero_le _,rfl,rfl,fun j hj=>absurd hj (Nat.not_lt_zero j)⟩
 case round =>
  obtain⟨k,q,hk,rfl,rfl,hall⟩:=hrel
  have HA:=zh hall
  clear hall
  by_cases hlt:k < n
  ·have hfk:=(uh HF) k hlt
   have hgk:=(uh HG) k hlt
   generalize hx:f k=x at hfk
   generalize hy:g k=y at hgk
   have HX:=zh hx
   have HY:=zh hy
   clear hx hy
   by_cases hxy:x=y
   ·have hb:(x == y)=true:=beq_iff_eq.2 hxy
    have HE:=zh hxy
    clear hxy
    go_wp2
    go_quiet (fail)
    go_wp2
    go_roundw
    case rel=>exact⟨k+1,_,by omega,by go_num,rfl,fun j hj=>by
     rcases Nat.lt_succ_iff_lt_or_eq.1 hj with h | h
     ·exact (uh HA) j h
     ·rw[h,uh HX,uh HY];exact uh HE⟩
    case measure=>simp[intOf];omega
   ·have hb:(x == y)=false:=beq_eq_false_iff_ne.2 hxy
    go_wp2
    go_quiet (fail)
    go_wp2
    go_ret
    refine⟨⟨_,rfl,?_⟩,q+nq,drewN_drewN _ _ _⟩
    constructor
    ·intro h;cases h
    ·intro h;exact absurd ((uh HX).symm.trans ((h k hlt).trans (uh HY))) hxy
  ·go_wp2
   go_ret
   exact⟨⟨_,rfl,fun _ j hj=>(uh HA) j (by omega),fun _=>rfl⟩,_,rfl⟩
theorem eqn_any (va vb:Value) (xs ys:List Int) (w:World) (ha:Nms w va xs) (hb:Nms w vb ys) :
  Calls Tryz.prog 37 #[va,vb] w fun e w'=>e=.returned (.bool (decide (xs=ys)))/\∃ k,w'=w.drewN k:=by
 obtain⟨ao,ca,rfl,hla,ha⟩:=ha
 obtain⟨bo,cb,rfl,_,hb⟩:=hb
 by_cases hl:xs.length=ys.length
 ·rcases ha with rfl | ⟨ba,oa,rfl,hca⟩
  ·have hb0:ys=[]:=List.length_eq_zero_iff.1 hl.symm
   subst hb0
   refine (eqn_nil _ _ _ _ _).mono ?_
   rintro e w' ⟨rfl,rfl⟩
   exact⟨by simp,0,rfl⟩
  ·rcases hb with rfl | ⟨bb,ob,rfl,hcb⟩
   ·have ha0:xs=[]:=List.length_eq_zero_iff.1 hl
    subst ha0
    refine (eqn_nil _ _ _ _ _).mono ?_
    rintro e w' ⟨rfl,rfl⟩
    exact⟨by simp,0,rfl⟩
   ·rw[<- hl]at hcb |-
    refine (eqn_core ba oa bb ob xs.length ca cb (fun j=>xs.getD j 0) (fun j=>ys.getD j 0) w (Nat.le_trans hla.1 hla.2) hca hcb).mono ?_
    rintro e w' ⟨⟨b,rfl,hbb⟩,k,rfl⟩
    refine⟨?_,k,rfl⟩
    have:(b=true) ↔ xs=ys:=by
     rw[hbb]
     constructor
     ·intro h
      apply List.ext_getElem hl
      intro i h1 h2
      have:=h i h1
      rw[List.getD_eq_getElem?_getD,List.getD_eq_getElem?_getD,List.getElem?_eq_getElem h1,List.getElem?_eq_getElem h2]at this
      exact this
     ·rintro rfl j _;rfl
    rw[show b=decide (xs=ys) from by rw[Bool.eq_iff_iff,this];simp]
 ·refine (eqn_len ao bo xs.length ys.length ca cb w hl).mono ?_
  rintro e w' ⟨rfl,rfl⟩
  refine⟨?_,0,rfl⟩
  rw[show decide (xs=ys)=false from decide_eq_false (fun h=>hl (by rw[h]))]
end Go.Proofs.YtpheelbbpiieiaaGreatDoor.K
namespace Go.Proofs.YtpheelbbpiieiaaGreatDoor
open Go.RowKit
theorem eq_len (ao bo:Option Addr) (n m ca cb:Nat) (w:World) (h:n≠m) :
  Calls Tryz.prog 11 #[.slice ao n ca,.slice bo m cb] w fun e w'=>e=.returned (.bool false)/\w'=w:=by
 have h1:((n:Int) == (m:Int))=false:=beq_eq_false_iff_ne.2 (by omega)
 go_enter Tryz.func11,Tryz.ntmps11
 go_wp2
 go_ret
 exact⟨rfl,rfl⟩
theorem eq_nil (ao bo:Option Addr) (ca cb:Nat) (w:World) :
  Calls Tryz.prog 11 #[.slice ao 0 ca,.slice bo 0 cb] w fun e w'=>e=.returned (.bool true)/\w'=w:=by
 go_enter Tryz.func11,Tryz.ntmps11
 go_wp2
 refine wp_loop_rounds 1 ?_
 rw[rounds_succ]
 go_wp2
 go_ret
 exact⟨rfl,rfl⟩
theorem eq_core (ba oa bb ob n ca cb:Nat) (f g:Nat->Int) (w:World) (hn:n<=maxLen)
  (hf:∀ j,j < n->w.cell? ⟨ba,oa+j,none⟩=some (.int .u8 (f j))) (hg:∀ j,j < n->w.cell? ⟨bb,ob+j,none⟩=some (.int .u8 (g j))) :
  Calls Tryz.prog 11 #[.slice (some ⟨ba,oa,none⟩) n ca,.slice (some ⟨bb,ob,none⟩) n cb] w fun e w'=>(∃ b,e=.returned (.bool b)/\(b=true ↔ ∀ j,j < n->f j=g j))/\∃ k,w'=w.drewN k:=by
 unfold maxLen at hn
 have HF:=zh hf
 have HG:=zh hg
 clear hf hg
 go_enter Tryz.func11,Tryz.ntmps11
 go_wp2
 go_loopw [5] (fun i wr=>∃ k q:Nat,k<=n/\i=.int .i64 k/\wr=w.drewN q/\∀ j,j < k->f j=g j) (fun i _=>n - (intOf i).toNat)
 case atStart=>exact⟨0,0,Nat.zero_le _,rfl,rfl,fun j hj=>absurd hj (Nat.not_lt_zero j)⟩
 case round =>
  obtain⟨k,q,hk,rfl,rfl,hall⟩:=hrel
  have HA:=zh hall
  clear hall
  by_cases hlt:k < n
  ·have hfk:=(uh HF) k hlt
   have hgk:=(uh HG) k hlt
   generalize hx:f k=x at hfk
   generalize hy:g k=y at hgk
   have HX:=zh hx
   have HY:=zh hy
   clear hx hy
   by_cases hxy:x=y
   ·have hb:(x == y)=true:=beq_iff_eq.2 hxy
    have HE:=zh hxy
    clear hxy
    go_wp2
    go_quiet (fail)
    go_wp2
    go_roundw
    case rel=>exact⟨k+1,_,by omega,by go_num,rfl,fun j hj=>by
     rcases Nat.lt_succ_iff_lt_or_eq.1 hj with h | h
     ·exact (uh HA) j h
     ·rw[h,uh HX,uh HY];exact uh HE⟩
    case measure=>simp[intOf];omega
   ·have hb:(x == y)=false:=beq_eq_false_iff_ne.2 hxy
    go_wp2
    go_quiet (fail)
    go_wp2
    go_ret
    refine⟨⟨_,rfl,?_⟩,q+nq,drewN_drewN _ _ _⟩
    constructor
    ·intro h;cases h
    ·intro h;exact absurd ((uh HX).symm.trans ((h k hlt).trans (uh HY))) hxy
  ·go_wp2
   go_ret
   exact⟨⟨_,rfl,fun _ j hj=>(uh HA) j (by omega),fun _=>rfl⟩,_,rfl⟩
theorem eq_any (va vb:Value) (xs ys:List Int) (w:World) (ha:Byt w va xs) (hb:Byt w vb ys) :
  Calls Tryz.prog 11 #[va,vb] w fun e w'=>e=.returned (.bool (decide (xs=ys)))/\∃ k,w'=w.drewN k:=by
 obtain⟨ao,ca,rfl,hla,_,ha⟩:=ha
 obtain⟨bo,cb,rfl,_,_,hb⟩:=hb
 by_cases hl:xs.length=ys.length
 ·rcases ha with rfl | ⟨ba,oa,rfl,hca⟩
  ·have hb0:ys=[]:=List.length_eq_zero_iff.1 hl.symm
   subst hb0
   refine (eq_nil _ _ _ _ _).mono ?_
   rintro e w' ⟨rfl,rfl⟩
   exact⟨by simp,0,rfl⟩
  ·rcases hb with rfl | ⟨bb,ob,rfl,hcb⟩
   ·have ha0:xs=[]:=List.length_eq_zero_iff.1 hl
    subst ha0
    refine (eq_nil _ _ _ _ _).mono ?_
    rintro e w' ⟨rfl,rfl⟩
    exact⟨by simp,0,rfl⟩
   ·rw[<- hl]at hcb |-
    refine (eq_core ba oa bb ob xs.length ca cb (fun j=>xs.getD j 0) (fun j=>ys.getD j 0) w (Nat.le_trans hla.1 hla.2) hca hcb).mono ?_
    rintro e w' ⟨⟨b,rfl,hbb⟩,k,rfl⟩
    refine⟨?_,k,rfl⟩
    have:(b=true) ↔ xs=ys:=by
     rw[hbb]
     constructor
     ·intro h
      apply List.ext_getElem hl
      intro i h1 h2
      have:=h i h1
      rw[List.getD_eq_getElem?_getD,List.getD_eq_getElem?_getD,List.getElem?_eq_getElem h1,List.getElem?_eq_getElem h2]at this
      exact this
     ·rintro rfl j _;rfl
    rw[show b=decide (xs=ys) from by rw[Bool.eq_iff_iff,this];simp]
 ·refine (eq_len ao bo xs.length ys.length ca cb w hl).mono ?_
  rintro e w' ⟨rfl,rfl⟩
  refine⟨?_,0,rfl⟩
  rw[show decide (xs=ys)=false from decide_eq_false (fun h=>hl (by rw[h]))]
end Go.Proofs.YtpheelbbpiieiaaGreatDoor
