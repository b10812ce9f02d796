/- Proved here: helpers, one text behind the other. -/
import Derived.Test.YtpheelbbpiieiaaGreatDoorZC13
import Derived.Handy
import Derived.Test.YtpheelbbpiieiaaGreatDoorZC11
set_option maxHeartbeats 20000000
namespace Go.Proofs.YtpheelbbpiieiaaGreatDoor.K
open Go.RowKit
theorem eqp_any (va vb:Value) (l m:List Pr) (w:World) (ha:Prp w va l) (hb:Prp w vb m) (hmx:l.length<=1000000000) :
  Calls Tryz.prog 33 #[va,vb] w fun e w'=>(∃ b,e=.returned (.bool b)/\(b=true ↔ l=m))/\∃ k,w'=w.drewN k:=by
 obtain⟨ao,ca,rfl,ha⟩:=ha
 obtain⟨bo,cb,rfl,hb⟩:=hb
 by_cases hl:l.length=m.length
 ·rcases ha with rfl | ⟨ba,oa,rfl,hca⟩
  ·obtain rfl:m=[]:=List.length_eq_zero_iff.1 hl.symm
   refine (eqp_nil _ _ _ _ _).mono ?_
   rintro e w' ⟨rfl,rfl⟩
   exact⟨⟨true,rfl,by simp⟩,0,rfl⟩
  ·rcases hb with rfl | ⟨bb,ob,rfl,hcb⟩
   ·obtain rfl:l=[]:=List.length_eq_zero_iff.1 hl
    refine (eqp_nil _ _ _ _ _).mono ?_
    rintro e w' ⟨rfl,rfl⟩
    exact⟨⟨true,rfl,by simp⟩,0,rfl⟩
   ·rw[<- hl]
    refine (eqp_core ba oa bb ob ca cb l m l.length w rfl hl.symm hmx hca hcb).mono ?_
    rintro e w' ⟨⟨b,rfl,hbb⟩,k,rfl⟩
    exact⟨⟨b,rfl,hbb.trans ⟨fun h=>at0_ext hl h,fun h j _=>by rw[h]⟩⟩,k,rfl⟩
 ·refine (eqp_len ao bo l.length m.length ca cb w hl).mono ?_
  rintro e w' ⟨rfl,rfl⟩
  exact⟨⟨false,rfl,by constructor;(intro h;cases h);(intro h;exact absurd (by rw[h]) hl)⟩,0,rfl⟩
set_option maxRecDepth 100000
theorem eqw_any (t t' p p':ByteArray) (q q':Int) (r r':Bool) (ao ao':Option Addr) (n n' cap cap':Nat) (l l':List Pr) (w:World) (ha:Prp w (.slice ao n cap) l) (hb:Prp w (.slice ao' n' cap') l') (hmx:l.length<=1000000000) :
  Calls Tryz.prog 70 #[.agg #[.string t,.string p,.int .i64 q,.bool r,.slice ao n cap],.agg #[.string t',.string p',.int .i64 q',.bool r',.slice ao' n' cap']] w fun e w'=>(∃ b,e=.returned (.bool b)/\(b=true ↔ (t=t'/\p=p'/\q=q'/\r=r'/\l=l')))/\Below w.heap.size w w':=by
 have HA:=zh ha
 have HB:=zh hb
 clear ha hb
 by_cases h0:t=t'
 ·have k0:(t.toList == t'.toList)=true:=by rw[h0];exact beq_self_eq_true _
  have H0:=zh h0
  clear h0
  by_cases h1:p=p'
  ·have k1:(p.toList == p'.toList)=true:=by rw[h1];exact beq_self_eq_true _
   have H1:=zh h1
   clear h1
   by_cases h2:q=q'
   ·have k2:(q == q')=true:=by rw[h2];exact beq_self_eq_true _
    have H2:=zh h2
    clear h2
    by_cases h3:r=r'
    ·have k3:(r == r')=true:=by rw[h3];exact beq_self_eq_true _
     have H3:=zh h3
     clear h3
     go_enter Tryz.func70,Tryz.ntmps70
     go_wp2_with fail
     refine (eqp_any _ _ l l' _ ((uh HA).below (by go_grown)) ((uh HB).below (by go_grown)) hmx).mono ?_
     rintro e w1 ⟨⟨b,rfl,hbb⟩,k,rfl⟩
     have HBB:=zh hbb
     clear hbb
     cases b
     ·go_wp2
      go_ret
      exact⟨⟨false,rfl,by constructor;(intro h;cases h);(intro h;exact (uh HBB).2 h.2.2.2.2)⟩,below_drewN (by go_grown) k⟩
     ·go_wp2
      go_ret
      exact⟨⟨true,rfl,fun _=>⟨uh H0,uh H1,uh H2,uh H3,(uh HBB).1 trivial⟩,fun _=>rfl⟩,below_drewN (by go_grown) k⟩
    ·have k3:(r == r')=false:=beq_eq_false_iff_ne.2 (h3)
     have H3:=zh h3
     clear h3
     go_enter Tryz.func70,Tryz.ntmps70
     go_wp2
     go_ret
     exact⟨⟨false,rfl,by constructor;(intro h;cases h);(intro h;exact absurd h.2.2.2.1 (uh H3))⟩,by go_grown⟩
   ·have k2:(q == q')=false:=beq_eq_false_iff_ne.2 (h2)
    have H2:=zh h2
    clear h2
    go_enter Tryz.func70,Tryz.ntmps70
    go_wp2
    go_ret
    exact⟨⟨false,rfl,by constructor;(intro h;cases h);(intro h;exact absurd h.2.2.1 (uh H2))⟩,by go_grown⟩
  ·have k1:(p.toList == p'.toList)=false:=beq_eq_false_iff_ne.2 (fun e=>h1 (text_ext e))
   have H1:=zh h1
   clear h1
   go_enter Tryz.func70,Tryz.ntmps70
   go_wp2
   go_ret
   exact⟨⟨false,rfl,by constructor;(intro h;cases h);(intro h;exact absurd h.2.1 (uh H1))⟩,by go_grown⟩
 ·have k0:(t.toList == t'.toList)=false:=beq_eq_false_iff_ne.2 (fun e=>h0 (text_ext e))
  have H0:=zh h0
  clear h0
  go_enter Tryz.func70,Tryz.ntmps70
  go_wp2
  go_ret
  exact⟨⟨false,rfl,by constructor;(intro h;cases h);(intro h;exact absurd h.1 (uh H0))⟩,by go_grown⟩
end Go.Proofs.YtpheelbbpiieiaaGreatDoor.K
