/- Proved here: helpers, one text behind the other. -/
import Derived.Test.YtpheelbbpiieiaaGreatDoorZC9
namespace Go.Proofs.YtpheelbbpiieiaaGreatDoor.V
open Go.RowKit
set_option maxRecDepth 100000
def ErrS (w:World) (v:Value) (n:Int):Prop:=(n=0/\v=.nilIface)\/(n≠0/\∃ b,v=.iface 118 (.pointer (some ⟨b,0,none⟩))/\w.cell? ⟨b,1,none⟩=some (.iface 63 (.int .i64 n)))
def vgetf (len:Nat) (x0 x1 x2 x3:Int):Int×Int×Int :=
 if len=0 then (0,0,3) else
 if x0 < 128 then (x0,1,0) else
 if len=1 then (0,0,3) else
 if x1=0 then (0,0,1) else
 if x1 < 128 then ((x0 - 128)+x1 * 128,2,0) else
 if len=2 then (0,0,3) else
 if x2=0 then (0,0,1) else
 if x2 < 128 then ((x0 - 128)+(x1 - 128) * 128+x2 * 16384,3,0) else
 if len=3 then (0,0,3) else
 if x3=0 then (0,0,1) else
 if x3 < 128 then ((x0 - 128)+(x1 - 128) * 128+(x2 - 128) * 16384+x3 * 2097152,4,0) else
 (0,0,1)
def vget (bs:List Int):Int×Int×Int:=vgetf bs.length (bs.getD 0 0) (bs.getD 1 0) (bs.getD 2 0) (bs.getD 3 0)
theorem get_at (b off len cap:Nat) (x0 x1 x2 x3:Int) (w:World) (hlen:len<=maxLen) (hc0:0 < len->w.cell? ⟨b,off,none⟩=some (.int .u8 x0)) (hc1:1 < len->w.cell? ⟨b,off+1,none⟩=some (.int .u8 x1)) (hc2:2 < len->w.cell? ⟨b,off+2,none⟩=some (.int .u8 x2)) (hc3:3 < len->w.cell? ⟨b,off+3,none⟩=some (.int .u8 x3)) (r0:0<=x0/\x0<=255) (r1:0<=x1/\x1<=255) (r2:0<=x2/\x2<=255) (r3:0<=x3/\x3<=255) :
  Calls Tryz.prog 50 #[.slice (some ⟨b,off,none⟩) len cap] w fun e w'=>∃ E,e=.returned (.tuple #[.int .i64 (vgetf len x0 x1 x2 x3).1,.int .i64 (vgetf len x0 x1 x2 x3).2.1,E])/\ErrS w' E (vgetf len x0 x1 x2 x3).2.2/\Below w.heap.size w w':=by
 by_cases ds0:len=0
 ·have hv:vgetf len x0 x1 x2 x3=(0,0,3):=by unfold vgetf;rw[if_pos ds0]
  rw[hv]
  subst ds0
  refine (get_s0 _ _ _).mono ?_
  rintro e w' ⟨rfl,rfl⟩;exact⟨_,rfl,.inr ⟨by decide,_,rfl,by simp⟩,bal _ _⟩
 ·skip
  by_cases do1:x0 < 128
  ·have hv:vgetf len x0 x1 x2 x3=(x0,1,0):=by unfold vgetf;rw[if_neg ds0,if_pos do1]
   rw[hv]
   refine (get_o1 b off len cap x0 w hlen (by omega) (hc0 (by omega)) (by omega) (by omega)).mono ?_
   rintro e w' ⟨rfl,rfl⟩;exact⟨_,rfl,.inl ⟨rfl,rfl⟩,Below.refl _ _⟩
  ·skip
   by_cases ds1:len=1
   ·have hv:vgetf len x0 x1 x2 x3=(0,0,3):=by unfold vgetf;rw[if_neg ds0,if_neg do1,if_pos ds1]
    rw[hv]
    refine (get_s1 b off len cap x0 w hlen (by omega) (hc0 (by omega)) r0 (by omega)).mono ?_
    rintro e w' ⟨rfl,rfl⟩;exact⟨_,rfl,.inr ⟨by decide,_,rfl,by simp⟩,bal _ _⟩
   ·skip
    by_cases dz2:x1=0
    ·have hv:vgetf len x0 x1 x2 x3=(0,0,1):=by unfold vgetf;rw[if_neg ds0,if_neg do1,if_neg ds1,if_pos dz2]
     rw[hv]
     refine (get_z2 b off len cap x0 x1 w hlen (by omega) (hc0 (by omega)) r0 (hc1 (by omega)) (by omega) (by assumption)).mono ?_
     rintro e w' ⟨rfl,rfl⟩;exact⟨_,rfl,.inr ⟨by decide,_,rfl,by simp⟩,bal _ _⟩
    ·skip
     by_cases do2:x1 < 128
     ·have hv:vgetf len x0 x1 x2 x3=((x0 - 128)+x1 * 128,2,0):=by unfold vgetf;rw[if_neg ds0,if_neg do1,if_neg ds1,if_neg dz2,if_pos do2]
      rw[hv]
      refine (get_o2 b off len cap x0 x1 w hlen (by omega) (hc0 (by omega)) r0 (hc1 (by omega)) (by omega) (by omega) (by omega)).mono ?_
      rintro e w' ⟨rfl,rfl⟩;exact⟨_,rfl,.inl ⟨rfl,rfl⟩,Below.refl _ _⟩
     ·skip
      by_cases ds2:len=2
      ·have hv:vgetf len x0 x1 x2 x3=(0,0,3):=by unfold vgetf;rw[if_neg ds0,if_neg do1,if_neg ds1,if_neg dz2,if_neg do2,if_pos ds2]
       rw[hv]
       refine (get_s2 b off len cap x0 x1 w hlen (by omega) (hc0 (by omega)) r0 (hc1 (by omega)) r1 (by omega) (by omega)).mono ?_
       rintro e w' ⟨rfl,rfl⟩;exact⟨_,rfl,.inr ⟨by decide,_,rfl,by simp⟩,bal _ _⟩
      ·skip
       by_cases dz3:x2=0
       ·have hv:vgetf len x0 x1 x2 x3=(0,0,1):=by unfold vgetf;rw[if_neg ds0,if_neg do1,if_neg ds1,if_neg dz2,if_neg do2,if_neg ds2,if_pos dz3]
        rw[hv]
        refine (get_z3 b off len cap x0 x1 x2 w hlen (by omega) (hc0 (by omega)) r0 (hc1 (by omega)) r1 (hc2 (by omega)) (by omega) (by omega) (by assumption)).mono ?_
        rintro e w' ⟨rfl,rfl⟩;exact⟨_,rfl,.inr ⟨by decide,_,rfl,by simp⟩,bal _ _⟩
       ·skip
        by_cases do3:x2 < 128
        ·have hv:vgetf len x0 x1 x2 x3=((x0 - 128)+(x1 - 128) * 128+x2 * 16384,3,0):=by unfold vgetf;rw[if_neg ds0,if_neg do1,if_neg ds1,if_neg dz2,if_neg do2,if_neg ds2,if_neg dz3,if_pos do3]
         rw[hv]
         refine (get_o3 b off len cap x0 x1 x2 w hlen (by omega) (hc0 (by omega)) r0 (hc1 (by omega)) r1 (hc2 (by omega)) (by omega) (by omega) (by omega) (by omega)).mono ?_
         rintro e w' ⟨rfl,rfl⟩;exact⟨_,rfl,.inl ⟨rfl,rfl⟩,Below.refl _ _⟩
        ·skip
         by_cases ds3:len=3
         ·have hv:vgetf len x0 x1 x2 x3=(0,0,3):=by unfold vgetf;rw[if_neg ds0,if_neg do1,if_neg ds1,if_neg dz2,if_neg do2,if_neg ds2,if_neg dz3,if_neg do3,if_pos ds3]
          rw[hv]
          refine (get_s3 b off len cap x0 x1 x2 w hlen (by omega) (hc0 (by omega)) r0 (hc1 (by omega)) r1 (hc2 (by omega)) r2 (by omega) (by omega) (by omega)).mono ?_
          rintro e w' ⟨rfl,rfl⟩;exact⟨_,rfl,.inr ⟨by decide,_,rfl,by simp⟩,bal _ _⟩
         ·skip
          by_cases dz4:x3=0
          ·have hv:vgetf len x0 x1 x2 x3=(0,0,1):=by unfold vgetf;rw[if_neg ds0,if_neg do1,if_neg ds1,if_neg dz2,if_neg do2,if_neg ds2,if_neg dz3,if_neg do3,if_neg ds3,if_pos dz4]
           rw[hv]
           refine (get_z4 b off len cap x0 x1 x2 x3 w hlen (by omega) (hc0 (by omega)) r0 (hc1 (by omega)) r1 (hc2 (by omega)) r2 (hc3 (by omega)) (by omega) (by omega) (by omega) (by assumption)).mono ?_
           rintro e w' ⟨rfl,rfl⟩;exact⟨_,rfl,.inr ⟨by decide,_,rfl,by simp⟩,bal _ _⟩
          ·skip
           by_cases do4:x3 < 128
           ·have hv:vgetf len x0 x1 x2 x3=((x0 - 128)+(x1 - 128) * 128+(x2 - 128) * 16384+x3 * 2097152,4,0):=by unfold vgetf;rw[if_neg ds0,if_neg do1,if_neg ds1,if_neg dz2,if_neg do2,if_neg ds2,if_neg dz3,if_neg do3,if_neg ds3,if_neg dz4,if_pos do4]
            rw[hv]
            refine (get_o4 b off len cap x0 x1 x2 x3 w hlen (by omega) (hc0 (by omega)) r0 (hc1 (by omega)) r1 (hc2 (by omega)) r2 (hc3 (by omega)) (by omega) (by omega) (by omega) (by omega) (by omega)).mono ?_
            rintro e w' ⟨rfl,rfl⟩;exact⟨_,rfl,.inl ⟨rfl,rfl⟩,Below.refl _ _⟩
           ·skip
            have hv:vgetf len x0 x1 x2 x3=(0,0,1):=by unfold vgetf;rw[if_neg ds0,if_neg do1,if_neg ds1,if_neg dz2,if_neg do2,if_neg ds2,if_neg dz3,if_neg do3,if_neg ds3,if_neg dz4,if_neg do4]
            rw[hv]
            refine (get_l4 b off len cap x0 x1 x2 x3 w hlen (by omega) (hc0 (by omega)) r0 (hc1 (by omega)) r1 (hc2 (by omega)) r2 (hc3 (by omega)) r3 (by omega) (by omega) (by omega) (by omega)).mono ?_
            rintro e w' ⟨rfl,rfl⟩;exact⟨_,rfl,.inr ⟨by decide,_,rfl,by simp⟩,bal _ _⟩
theorem get_any (v:Value) (bs:List Int) (w:World) (h:Byt w v bs) :
  Calls Tryz.prog 50 #[v] w fun e w'=>∃ E,e=.returned (.tuple #[.int .i64 (vget bs).1,.int .i64 (vget bs).2.1,E])/\ErrS w' E (vget bs).2.2/\Below w.heap.size w w':=by
 obtain⟨ao,cap,rfl,hlen,hr,hcase⟩:=h
 rcases hcase with rfl | ⟨b,off,rfl,hc⟩
 ·rw[show vget []=(0,0,3) from rfl]
  refine (get_s0 ao cap w).mono ?_
  rintro e w' ⟨rfl,rfl⟩;exact⟨_,rfl,.inr ⟨by decide,_,rfl,by simp⟩,bal _ _⟩
 ·exact get_at b off bs.length cap _ _ _ _ w (Nat.le_trans hlen.1 hlen.2) (hc 0) (hc 1) (hc 2) (hc 3) (hr 0) (hr 1) (hr 2) (hr 3)
end Go.Proofs.YtpheelbbpiieiaaGreatDoor.V
namespace Go.Proofs.YtpheelbbpiieiaaGreatDoor.V
theorem short0:vget []=(0,0,3):=rfl
def Told (l:List Int) (n k:Int):Prop:=0<=n/\n<=268435455/\∃ K:Nat,k=K/\1<=K/\K<=l.length/\put n=l.take K
theorem vget_ok (l:List Int) (hr:∀ j,0<=l.getD j 0/\l.getD j 0<=255) (n k:Int) (h:vget l=(n,k,0)):Told l n k:=by
 have r0:=hr 0
 have r1:=hr 1
 have r2:=hr 2
 have r3:=hr 3
 match l,r0,r1,r2,r3,h with
 | [],_,_,_,_,h=>simp[short0]at h
 | [a],r0,_,_,_,h =>
  simp only[vget,List.length_cons,List.length_nil,List.getD_cons_zero,List.getD_cons_succ]at h r0
  unfold vgetf at h
  rw[if_neg (by omega)]at h
  by_cases d:a < 128
  ·rw[if_pos d]at h
   simp only[Prod.mk.injEq]at h
   obtain⟨rfl,rfl,_⟩:=h
   exact⟨by omega,by omega,1,rfl,by omega,by simp,by unfold put;rw[if_pos d];rfl⟩
  ·rw[if_neg d,if_pos (by omega)]at h
   simp at h
 | [a,b],r0,r1,_,_,h =>
  simp only[vget,List.length_cons,List.length_nil,List.getD_cons_zero,List.getD_cons_succ]at h r0 r1
  unfold vgetf at h
  rw[if_neg (by omega)]at h
  by_cases d:a < 128
  ·rw[if_pos d]at h
   simp only[Prod.mk.injEq]at h
   obtain⟨rfl,rfl,_⟩:=h
   exact⟨by omega,by omega,1,rfl,by omega,by simp,by unfold put;rw[if_pos d];rfl⟩
  ·rw[if_neg d,if_neg (by omega)]at h
   by_cases z:b=0
   ·rw[if_pos z]at h;simp at h
   ·rw[if_neg z]at h
    by_cases d1:b < 128
    ·rw[if_pos d1]at h
     simp only[Prod.mk.injEq]at h
     obtain⟨rfl,rfl,_⟩:=h
     exact⟨by omega,by omega,2,rfl,by omega,by simp,by
      unfold put;rw[if_neg (by omega),if_pos (by omega),show (a - 128+b * 128) % 128+128=a from by omega,show (a - 128+b * 128) / 128=b from by omega];rfl⟩
    ·rw[if_neg d1,if_pos (by omega)]at h
     simp at h
 | [a,b,c],r0,r1,r2,_,h =>
  simp only[vget,List.length_cons,List.length_nil,List.getD_cons_zero,List.getD_cons_succ]at h r0 r1 r2
  unfold vgetf at h
  rw[if_neg (by omega)]at h
  by_cases d:a < 128
  ·rw[if_pos d]at h
   simp only[Prod.mk.injEq]at h
   obtain⟨rfl,rfl,_⟩:=h
   exact⟨by omega,by omega,1,rfl,by omega,by simp,by unfold put;rw[if_pos d];rfl⟩
  ·rw[if_neg d,if_neg (by omega)]at h
   by_cases z:b=0
   ·rw[if_pos z]at h;simp at h
   ·rw[if_neg z]at h
    by_cases d1:b < 128
    ·rw[if_pos d1]at h
     simp only[Prod.mk.injEq]at h
     obtain⟨rfl,rfl,_⟩:=h
     exact⟨by omega,by omega,2,rfl,by omega,by simp,by
      unfold put;rw[if_neg (by omega),if_pos (by omega),show (a - 128+b * 128) % 128+128=a from by omega,show (a - 128+b * 128) / 128=b from by omega];rfl⟩
    ·rw[if_neg d1,if_neg (by omega)]at h
     by_cases z2:c=0
     ·rw[if_pos z2]at h;simp at h
     ·rw[if_neg z2]at h
      by_cases d2:c < 128
      ·rw[if_pos d2]at h
       simp only[Prod.mk.injEq]at h
       obtain⟨rfl,rfl,_⟩:=h
       exact⟨by omega,by omega,3,rfl,by omega,by simp,by
        unfold put;rw[if_neg (by omega),if_neg (by omega),if_pos (by omega),show (a - 128+(b - 128) * 128+c * 16384) % 128+128=a from by omega,show (a - 128+(b - 128) * 128+c * 16384) / 128 % 128+128=b from by omega,show (a - 128+(b - 128) * 128+c * 16384) / 16384=c from by omega];rfl⟩
      ·rw[if_neg d2,if_pos (by omega)]at h
       simp at h
 | a :: b :: c :: e :: r,r0,r1,r2,r3,h =>
  simp only[vget,List.length_cons,List.getD_cons_zero,List.getD_cons_succ]at h r0 r1 r2 r3
  unfold vgetf at h
  rw[if_neg (by omega)]at h
  by_cases d:a < 128
  ·rw[if_pos d]at h
   simp only[Prod.mk.injEq]at h
   obtain⟨rfl,rfl,_⟩:=h
   exact⟨by omega,by omega,1,rfl,by omega,by simp,by unfold put;rw[if_pos d];rfl⟩
  ·rw[if_neg d,if_neg (by omega)]at h
   by_cases z:b=0
   ·rw[if_pos z]at h;simp at h
   ·rw[if_neg z]at h
    by_cases d1:b < 128
    ·rw[if_pos d1]at h
     simp only[Prod.mk.injEq]at h
     obtain⟨rfl,rfl,_⟩:=h
     exact⟨by omega,by omega,2,rfl,by omega,by simp,by
      unfold put;rw[if_neg (by omega),if_pos (by omega),show (a - 128+b * 128) % 128+128=a from by omega,show (a - 128+b * 128) / 128=b from by omega];rfl⟩
    ·rw[if_neg d1,if_neg (by omega)]at h
     by_cases z2:c=0
     ·rw[if_pos z2]at h;simp at h
     ·rw[if_neg z2]at h
      by_cases d2:c < 128
      ·rw[if_pos d2]at h
       simp only[Prod.mk.injEq]at h
       obtain⟨rfl,rfl,_⟩:=h
       exact⟨by omega,by omega,3,rfl,by omega,by simp,by
        unfold put;rw[if_neg (by omega),if_neg (by omega),if_pos (by omega),show (a - 128+(b - 128) * 128+c * 16384) % 128+128=a from by omega,show (a - 128+(b - 128) * 128+c * 16384) / 128 % 128+128=b from by omega,show (a - 128+(b - 128) * 128+c * 16384) / 16384=c from by omega];rfl⟩
      ·rw[if_neg d2,if_neg (by omega)]at h
       by_cases z3:e=0
       ·rw[if_pos z3]at h;simp at h
       ·rw[if_neg z3]at h
        by_cases d3:e < 128
        ·rw[if_pos d3]at h
         simp only[Prod.mk.injEq]at h
         obtain⟨rfl,rfl,_⟩:=h
         exact⟨by omega,by omega,4,rfl,by omega,by simp,by
          unfold put;rw[if_neg (by omega),if_neg (by omega),if_neg (by omega),show (a - 128+(b - 128) * 128+(c - 128) * 16384+e * 2097152) % 128+128=a from by omega,show (a - 128+(b - 128) * 128+(c - 128) * 16384+e * 2097152) / 128 % 128+128=b from by omega,show (a - 128+(b - 128) * 128+(c - 128) * 16384+e * 2097152) / 16384 % 128+128=c from by omega,show (a - 128+(b - 128) * 128+(c - 128) * 16384+e * 2097152) / 2097152=e from by omega];rfl⟩
        ·rw[if_neg d3]at h
         simp at h
end Go.Proofs.YtpheelbbpiieiaaGreatDoor.V
