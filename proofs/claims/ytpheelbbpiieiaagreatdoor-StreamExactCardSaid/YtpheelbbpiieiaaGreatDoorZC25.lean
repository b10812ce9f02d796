/- Proved here: helpers, one text behind the other. -/
import Derived.Test.YtpheelbbpiieiaaGreatDoorZC6
import Derived.Test.YtpheelbbpiieiaaGreatDoorZC23
import Derived.Test.YtpheelbbpiieiaaGreatDoorZC24
import Derived.Handy
import Derived.Test.YtpheelbbpiieiaaGreatDoorZC3
import Derived.Test.YtpheelbbpiieiaaGreatDoorChecked
import Derived.Test.YtpheelbbpiieiaaGreatDoorZC1
set_option maxHeartbeats 20000000
namespace Go.Proofs.YtpheelbbpiieiaaGreatDoor
open Go.RowKit Go.Extern.Stop Go.Stop Go.Extern
theorem er_as (d:Nat) (hd:d<=3) (v:Value) (n:Int) (t:Addr) (old:Value) (w:World) (hg:Laid w) (h:Er w d v n) (ht0:w.cell? t=some old) (hf0:w.frozen? t=false) :
  Calls Tryz.prog 69 #[v,.iface 107 (.pointer (some t))] w fun ev w'=>ev=.returned (.bool true)/\w'=((((w.alloc (.cells #[.pointer (some t)] 107)).alloc (.cells #[.pointer (some ⟨1,107,none⟩),.pointer (some ⟨w.heap.size,0,none⟩),.int .u64 150] 143)).alloc (.cells #[.pointer (some ⟨1,107,none⟩),.pointer (some ⟨w.heap.size,0,none⟩),.int .u64 150] 143)).alloc (.cells #[.int .i64 n] 63)).setCell t (.int .i64 n):=by
 match d,hd,h with
 | 0,_,h=>cases h;exact er_as0 n t old w hg ht0 hf0
 | 1,_,⟨b,u,h1,h2,h3⟩=>cases h1;cases h3;exact er_as1 b n t old w hg h2 ht0 hf0
 | 2,_,⟨b,u,h1,h2,b',u',h3,h4,h5⟩=>cases h1;cases h3;cases h5;exact er_as2 b b' n t old w hg h2 h4 ht0 hf0
 | 3,_,⟨b,u,h1,h2,b',u',h3,h4,b'',u'',h5,h6,h7⟩=>cases h1;cases h3;cases h5;cases h7;exact er_as3 b b' b'' n t old w hg h2 h4 h6 ht0 hf0
theorem er_num (d:Nat) (hd:d<=3) (v:Value) (n:Int) (w:World) (hg:Laid w) (h:Er w d v n) :
  Calls Tryz.prog 32 #[v] w fun e w'=>e=.returned (.int .i64 n)/\Below w.heap.size w w':=by
 have hB:Below w.heap.size w (w.alloc (.cells #[.int .i64 0] 63)):=bal _ _
 have HG:=zh (hg.below hB hg.pos)
 have HE:=zh (h.below hB)
 obtain⟨tt,x,rfl⟩:=h.iface
 clear hg h hB
 go_enter Tryz.func32,Tryz.ntmps32
 go_wp2_with fail
 refine (er_as d hd _ n ⟨w.heap.size,0,none⟩ (.int .i64 0) _ (uh HG) (uh HE) (by simp) (by simp)).mono ?_
 rintro e w' ⟨rfl,rfl⟩
 go_wp2
 go_ret
 refine⟨rfl,?_⟩
 exact ((((((bal _ _).alloc (by simp) _).alloc (by simp;omega) _).alloc (by simp;omega) _).alloc (by simp;omega) _))
def ErrX (w:World) (v:Value) (n:Int):Prop:=(n=0/\v=.nilIface)\/∃ d,d<=3/\Er w d v n
theorem ErrX.below {w w':World} {v:Value} {n:Int} (h:ErrX w v n) (hb:Below w.heap.size w w'):ErrX w' v n:=by
 rcases h with h | ⟨d,hd,h⟩
 ·exact .inl h
 ·exact .inr ⟨d,hd,h.below hb⟩
theorem numx (v:Value) (n:Int) (w:World) (hg:Laid w) (hv:ErrX w v n):Calls Tryz.prog 32 #[v] w fun e w'=>e=.returned (.int .i64 n)/\Below w.heap.size w w':=by
 rcases hv with⟨rfl,rfl⟩ | ⟨d,hd,h⟩
 ·refine (num_nil w).mono ?_
  rintro e w' ⟨rfl,rfl⟩
  exact⟨rfl,Below.refl _ _⟩
 ·exact er_num d hd v n w hg h
end Go.Proofs.YtpheelbbpiieiaaGreatDoor
namespace Go.Proofs.YtpheelbbpiieiaaGreatDoor.K
open Go.RowKit Go.Extern.Stop Go.Stop Go.Extern
set_option maxRecDepth 100000
abbrev pwrapW (v:Value) (w:World):World:=w.alloc (.cells #[.string ⟨#[112,97,99,107,101,116]⟩,v] 120)
theorem pwrap_any (t:TypeId) (x:Value) (w:World):Calls Tryz.prog 48 #[.iface t x] w fun e w'=>e=.returned (.iface 118 (.pointer (some ⟨w.heap.size,0,none⟩)))/\w'=pwrapW (.iface t x) w:=by
 go_enter Tryz.func48,Tryz.ntmps48
 go_wp2
 go_ret
 exact⟨rfl,rfl⟩
theorem pfault_any (n:Int) (w:World):Calls Tryz.prog 25 #[.int .i64 n] w fun e w'=>e=.returned (.iface 118 (.pointer (some ⟨w.heap.size,0,none⟩)))/\w'=pwrapW (.iface 63 (.int .i64 n)) w:=by
 go_enter Tryz.func25,Tryz.ntmps25
 go_wp2_with (go_at_call 48;refine (pwrap_any _ _ _).mono ?_;rintro e w' ⟨rfl,rfl⟩)
 go_ret
 exact⟨rfl,rfl⟩
theorem pwrap_er (d:Nat) (n:Int) (v:Value) (w:World) (h:Er w d v n):Er (pwrapW v w) (d+1) (.iface 118 (.pointer (some ⟨w.heap.size,0,none⟩))) n :=
 ⟨w.heap.size,v,rfl,by simp,h.below (bal _ _)⟩
theorem pwrap_below (v:Value) (w:World):Below w.heap.size w (pwrapW v w):=bal _ _
def ErP (w:World) (E:Value) (n:Int):Prop:=∃ x d,E=.iface 118 x/\d<=3/\Er w d E n
theorem pf_use (n:Int) (w:World):Calls Tryz.prog 25 #[.int .i64 n] w fun e w'=>∃ x,e=.returned (.iface 118 x)/\Hid (ErP w' (.iface 118 x) n)/\Below w.heap.size w w':=by
 refine (pfault_any n w).mono ?_
 rintro e w' ⟨rfl,rfl⟩
 exact⟨_,rfl,⟨_,1,rfl,by omega,pwrap_er 0 n _ w rfl⟩,pwrap_below _ _⟩
theorem pw_use (d:Nat) (hd:d<=2) (v:Value) (n:Int) (w:World) (h:Er w d v n):Calls Tryz.prog 48 #[v] w fun e w'=>∃ x,e=.returned (.iface 118 x)/\Hid (ErP w' (.iface 118 x) n)/\Below w.heap.size w w':=by
 obtain⟨t,x,rfl⟩:=h.iface
 refine (pwrap_any t x w).mono ?_
 rintro e w' ⟨rfl,rfl⟩
 exact⟨_,rfl,⟨_,d+1,rfl,by omega,pwrap_er d n _ w h⟩,pwrap_below _ _⟩
theorem pbroken (d:Nat) (hd:d<=2) (v:Value) (n:Int) (w:World) (h:Er w d v n):Calls Tryz.prog 29 #[v] w fun e w'=>∃ x,e=.returned (.iface 118 x)/\Hid (ErP w' (.iface 118 x) 1)/\Below w.heap.size w w':=by
 obtain⟨t,x,rfl⟩:=h.iface
 have H:=zh h
 clear h
 by_cases h:n=1
 ·subst h
  go_enter Tryz.func29,Tryz.ntmps29
  go_wp2_with (first | (go_at_call 46;refine (er_Is d (by omega) _ 1 1 _ (uh H)).mono ?_;rintro e w' ⟨rfl,rfl⟩) | (go_at_call 48;refine (pw_use d hd _ 1 _ (uh H)).mono ?_;rintro e w' ⟨E,rfl,hE,hb⟩))
  go_ret
  exact⟨_,rfl,hE,hb⟩
 ·have hb:(n == 1)=false:=beq_eq_false_iff_ne.2 h
  go_enter Tryz.func29,Tryz.ntmps29
  go_wp2_with (first | (go_at_call 46;refine (er_Is d (by omega) _ n 1 _ (uh H)).mono ?_;rintro e w' ⟨rfl,rfl⟩) | (go_at_call 25;refine (pf_use 1 _).mono ?_;rintro e w' ⟨E,rfl,hE,hb'⟩))
  go_ret
  exact⟨_,rfl,hE,hb'⟩
def slim (n:Int):Int:=if n < 2 then 2 else if 65536 < n then 65536 else n
theorem slim_ok (n:Int):2<=slim n/\slim n<=65536:=by
 unfold slim
 split
 ·omega
 ·split <;> omega
theorem snew_any (n:Int) (w:World):Calls Tryz.prog 15 #[.int .i64 n] w fun e w'=>e=.returned (.pointer (some ⟨w.heap.size,0,none⟩))/\w'=w.alloc (.cells #[.int .i64 (slim n),.slice none 0 0,.int .i64 0] 91):=by
 by_cases h1:n < 2
 ·have hs:slim n=2:=by unfold slim;rw[if_pos h1]
  rw[hs]
  go_enter Tryz.func15,Tryz.ntmps15
  go_wp2
  go_ret
  exact⟨rfl,rfl⟩
 ·by_cases h2:65536 < n
  ·have hs:slim n=65536:=by unfold slim;rw[if_neg h1,if_pos h2]
   rw[hs]
   go_enter Tryz.func15,Tryz.ntmps15
   go_wp2
   go_ret
   exact⟨rfl,rfl⟩
  ·have hs:slim n=n:=by unfold slim;rw[if_neg h1,if_neg h2]
   rw[hs]
   go_enter Tryz.func15,Tryz.ntmps15
   go_wp2
   go_ret
   exact⟨rfl,rfl⟩
theorem sheld_any (S:Nat) (ao:Option Addr) (n cap:Nat) (w:World) (h:w.cell? ⟨S,1,none⟩=some (.slice ao n cap)):Calls Tryz.prog 22 #[.pointer (some ⟨S,0,none⟩)] w fun e w'=>e=.returned (.int .i64 n)/\w'=w:=by
 go_enter Tryz.func22,Tryz.ntmps22
 go_wp2
 go_ret
 exact⟨rfl,rfl⟩
abbrev swrapW (v:Value) (w:World):World:=w.alloc (.cells #[.string ⟨#[115,116,114,101,97,109]⟩,v] 120)
theorem sfault_any (n:Int) (w:World):Calls Tryz.prog 44 #[.int .i64 n] w fun e w'=>e=.returned (.iface 118 (.pointer (some ⟨w.heap.size,0,none⟩)))/\w'=swrapW (.iface 63 (.int .i64 n)) w:=by
 go_enter Tryz.func44,Tryz.ntmps44
 go_wp2
 go_ret
 exact⟨rfl,rfl⟩
end Go.Proofs.YtpheelbbpiieiaaGreatDoor.K
namespace Go.Proofs.YtpheelbbpiieiaaGreatDoor.K
open Go.RowKit
set_option maxRecDepth 100000
theorem or_lo (i:Nat) (x y:Int) (hx0:0<=x) (hx1:x < 4611686018427387904) (hy0:0<=y) (hy1:y < 4611686018427387904) (hm:y.toNat % 2 ^ i=0) (hx:x.toNat < 2 ^ i):bits .or .i64 x y=x+y:=by
 obtain⟨a,rfl⟩:=Int.eq_ofNat_of_zero_le hx0
 obtain⟨b,rfl⟩:=Int.eq_ofNat_of_zero_le hy0
 rw[i64_or_nat a b (by omega) (by omega),Nat.or_comm,nat_join i b a (by simpa using hm) (by simpa using hx)]
 omega
theorem or_lo0 (y:Int) (hy0:0<=y) (hy1:y < 4611686018427387904):bits .or .i64 0 y=y:=by
 rw[or_lo 0 0 y (by omega) (by omega) hy0 hy1 (by omega) (by decide)];omega
theorem sm_s0 (ao:Option Addr) (cap:Nat) (w:World):Calls Tryz.prog 113 #[.slice ao 0 cap] w fun e w'=>e=.returned (.tuple #[.int .i64 0,.int .i64 0])/\w'=w:=by
 go_enter Tryz.func113,Tryz.ntmps113
 go_wp2
 refine wp_loop_rounds 1 ?_
 rw[rounds_succ]
 go_wp2
 go_ret2
 exact⟨rfl,rfl⟩
theorem sm_o1_2 (b off cap:Nat) (x0:Int) (w:World) (hc:2<=cap) (hcm:cap<=maxLen) (c0:w.cell? ⟨b,off+1,none⟩=some (.int .u8 x0)) (p0:0<=x0) (q0:x0<=255) (g0:x0 < 128):Calls Tryz.prog 113 #[.slice (some ⟨b,off,none⟩) 2 cap] w fun e w'=>e=.returned (.tuple #[.int .i64 2,.int .i64 (2+(x0 % 128))])/\w'=w:=by
 unfold maxLen at hcm
 have o0:bits .or .i64 0 (x0 % 128)=x0 % 128:=or_lo0 _ (by omega) (by omega)
 have hw:wrap64 (2+(x0 % 128))=2+(x0 % 128):=by unfold wrap64;omega
 go_enter Tryz.func113,Tryz.ntmps113
 go_wp2
 refine wp_loop_rounds 1 ?_
 rw[rounds_succ]
 go_wp2
 go_ret2
 first | exact⟨rfl,rfl⟩ | (refine⟨?_,rfl⟩;simp only[hw])
theorem sm_o1_3 (b off cap:Nat) (x0:Int) (w:World) (hc:3<=cap) (hcm:cap<=maxLen) (c0:w.cell? ⟨b,off+1,none⟩=some (.int .u8 x0)) (p0:0<=x0) (q0:x0<=255) (g0:x0 < 128):Calls Tryz.prog 113 #[.slice (some ⟨b,off,none⟩) 3 cap] w fun e w'=>e=.returned (.tuple #[.int .i64 2,.int .i64 (2+(x0 % 128))])/\w'=w:=by
 unfold maxLen at hcm
 have o0:bits .or .i64 0 (x0 % 128)=x0 % 128:=or_lo0 _ (by omega) (by omega)
 have hw:wrap64 (2+(x0 % 128))=2+(x0 % 128):=by unfold wrap64;omega
 go_enter Tryz.func113,Tryz.ntmps113
 go_wp2
 refine wp_loop_rounds 1 ?_
 rw[rounds_succ]
 go_wp2
 go_ret2
 first | exact⟨rfl,rfl⟩ | (refine⟨?_,rfl⟩;simp only[hw])
theorem sm_o1_4 (b off cap:Nat) (x0:Int) (w:World) (hc:4<=cap) (hcm:cap<=maxLen) (c0:w.cell? ⟨b,off+1,none⟩=some (.int .u8 x0)) (p0:0<=x0) (q0:x0<=255) (g0:x0 < 128):Calls Tryz.prog 113 #[.slice (some ⟨b,off,none⟩) 4 cap] w fun e w'=>e=.returned (.tuple #[.int .i64 2,.int .i64 (2+(x0 % 128))])/\w'=w:=by
 unfold maxLen at hcm
 have o0:bits .or .i64 0 (x0 % 128)=x0 % 128:=or_lo0 _ (by omega) (by omega)
 have hw:wrap64 (2+(x0 % 128))=2+(x0 % 128):=by unfold wrap64;omega
 go_enter Tryz.func113,Tryz.ntmps113
 go_wp2
 refine wp_loop_rounds 1 ?_
 rw[rounds_succ]
 go_wp2
 go_ret2
 first | exact⟨rfl,rfl⟩ | (refine⟨?_,rfl⟩;simp only[hw])
theorem sm_o1_n (b off n cap:Nat) (x0:Int) (w:World) (hn:5<=n) (hc:n<=cap) (hcm:cap<=maxLen) (c0:w.cell? ⟨b,off+1,none⟩=some (.int .u8 x0)) (p0:0<=x0) (q0:x0<=255) (g0:x0 < 128):Calls Tryz.prog 113 #[.slice (some ⟨b,off,none⟩) n cap] w fun e w'=>e=.returned (.tuple #[.int .i64 2,.int .i64 (2+(x0 % 128))])/\w'=w:=by
 unfold maxLen at hcm
 have hn':(5:Int)<=n:=by omega
 have o0:bits .or .i64 0 (x0 % 128)=x0 % 128:=or_lo0 _ (by omega) (by omega)
 have hw:wrap64 (2+(x0 % 128))=2+(x0 % 128):=by unfold wrap64;omega
 go_enter Tryz.func113,Tryz.ntmps113
 go_wp2
 refine wp_loop_rounds 1 ?_
 rw[rounds_succ]
 go_wp2
 go_ret2
 first | exact⟨rfl,rfl⟩ | (refine⟨?_,rfl⟩;simp only[hw])
theorem sm_o2_3 (b off cap:Nat) (x0 x1:Int) (w:World) (hc:3<=cap) (hcm:cap<=maxLen) (c0:w.cell? ⟨b,off+1,none⟩=some (.int .u8 x0)) (p0:0<=x0) (q0:x0<=255) (c1:w.cell? ⟨b,off+2,none⟩=some (.int .u8 x1)) (p1:0<=x1) (q1:x1<=255) (g0:128<=x0) (g1:x1 < 128):Calls Tryz.prog 113 #[.slice (some ⟨b,off,none⟩) 3 cap] w fun e w'=>e=.returned (.tuple #[.int .i64 3,.int .i64 (3+(x0 % 128+x1 % 128 * 128))])/\w'=w:=by
 unfold maxLen at hcm
 have o0:bits .or .i64 0 (x0 % 128)=x0 % 128:=or_lo0 _ (by omega) (by omega)
 have o1:bits .or .i64 (x0 % 128) (x1 % 128 * 128)=x0 % 128+x1 % 128 * 128:=or_lo 7 _ _ (by omega) (by omega) (by omega) (by omega) (by omega) (by omega)
 have hw:wrap64 (3+(x0 % 128+x1 % 128 * 128))=3+(x0 % 128+x1 % 128 * 128):=by unfold wrap64;omega
 go_enter Tryz.func113,Tryz.ntmps113
 go_wp2
 refine wp_loop_rounds 2 ?_
 rw[rounds_succ]
 go_wp2
 rw[rounds_succ]
 go_wp2
 go_ret2
 first | exact⟨rfl,rfl⟩ | (refine⟨?_,rfl⟩;simp only[hw])
theorem sm_o2_4 (b off cap:Nat) (x0 x1:Int) (w:World) (hc:4<=cap) (hcm:cap<=maxLen) (c0:w.cell? ⟨b,off+1,none⟩=some (.int .u8 x0)) (p0:0<=x0) (q0:x0<=255) (c1:w.cell? ⟨b,off+2,none⟩=some (.int .u8 x1)) (p1:0<=x1) (q1:x1<=255) (g0:128<=x0) (g1:x1 < 128):Calls Tryz.prog 113 #[.slice (some ⟨b,off,none⟩) 4 cap] w fun e w'=>e=.returned (.tuple #[.int .i64 3,.int .i64 (3+(x0 % 128+x1 % 128 * 128))])/\w'=w:=by
 unfold maxLen at hcm
 have o0:bits .or .i64 0 (x0 % 128)=x0 % 128:=or_lo0 _ (by omega) (by omega)
 have o1:bits .or .i64 (x0 % 128) (x1 % 128 * 128)=x0 % 128+x1 % 128 * 128:=or_lo 7 _ _ (by omega) (by omega) (by omega) (by omega) (by omega) (by omega)
 have hw:wrap64 (3+(x0 % 128+x1 % 128 * 128))=3+(x0 % 128+x1 % 128 * 128):=by unfold wrap64;omega
 go_enter Tryz.func113,Tryz.ntmps113
 go_wp2
 refine wp_loop_rounds 2 ?_
 rw[rounds_succ]
 go_wp2
 rw[rounds_succ]
 go_wp2
 go_ret2
 first | exact⟨rfl,rfl⟩ | (refine⟨?_,rfl⟩;simp only[hw])
theorem sm_o2_n (b off n cap:Nat) (x0 x1:Int) (w:World) (hn:5<=n) (hc:n<=cap) (hcm:cap<=maxLen) (c0:w.cell? ⟨b,off+1,none⟩=some (.int .u8 x0)) (p0:0<=x0) (q0:x0<=255) (c1:w.cell? ⟨b,off+2,none⟩=some (.int .u8 x1)) (p1:0<=x1) (q1:x1<=255) (g0:128<=x0) (g1:x1 < 128):Calls Tryz.prog 113 #[.slice (some ⟨b,off,none⟩) n cap] w fun e w'=>e=.returned (.tuple #[.int .i64 3,.int .i64 (3+(x0 % 128+x1 % 128 * 128))])/\w'=w:=by
 unfold maxLen at hcm
 have hn':(5:Int)<=n:=by omega
 have o0:bits .or .i64 0 (x0 % 128)=x0 % 128:=or_lo0 _ (by omega) (by omega)
 have o1:bits .or .i64 (x0 % 128) (x1 % 128 * 128)=x0 % 128+x1 % 128 * 128:=or_lo 7 _ _ (by omega) (by omega) (by omega) (by omega) (by omega) (by omega)
 have hw:wrap64 (3+(x0 % 128+x1 % 128 * 128))=3+(x0 % 128+x1 % 128 * 128):=by unfold wrap64;omega
 go_enter Tryz.func113,Tryz.ntmps113
 go_wp2
 refine wp_loop_rounds 2 ?_
 rw[rounds_succ]
 go_wp2
 rw[rounds_succ]
 go_wp2
 go_ret2
 first | exact⟨rfl,rfl⟩ | (refine⟨?_,rfl⟩;simp only[hw])
theorem sm_o3_4 (b off cap:Nat) (x0 x1 x2:Int) (w:World) (hc:4<=cap) (hcm:cap<=maxLen) (c0:w.cell? ⟨b,off+1,none⟩=some (.int .u8 x0)) (p0:0<=x0) (q0:x0<=255) (c1:w.cell? ⟨b,off+2,none⟩=some (.int .u8 x1)) (p1:0<=x1) (q1:x1<=255) (c2:w.cell? ⟨b,off+3,none⟩=some (.int .u8 x2)) (p2:0<=x2) (q2:x2<=255) (g0:128<=x0) (g1:128<=x1) (g2:x2 < 128):Calls Tryz.prog 113 #[.slice (some ⟨b,off,none⟩) 4 cap] w fun e w'=>e=.returned (.tuple #[.int .i64 4,.int .i64 (4+(x0 % 128+x1 % 128 * 128+x2 % 128 * 16384))])/\w'=w:=by
 unfold maxLen at hcm
 have o0:bits .or .i64 0 (x0 % 128)=x0 % 128:=or_lo0 _ (by omega) (by omega)
 have o1:bits .or .i64 (x0 % 128) (x1 % 128 * 128)=x0 % 128+x1 % 128 * 128:=or_lo 7 _ _ (by omega) (by omega) (by omega) (by omega) (by omega) (by omega)
 have o2:bits .or .i64 (x0 % 128+x1 % 128 * 128) (x2 % 128 * 16384)=x0 % 128+x1 % 128 * 128+x2 % 128 * 16384:=or_lo 14 _ _ (by omega) (by omega) (by omega) (by omega) (by omega) (by omega)
 have hw:wrap64 (4+(x0 % 128+x1 % 128 * 128+x2 % 128 * 16384))=4+(x0 % 128+x1 % 128 * 128+x2 % 128 * 16384):=by unfold wrap64;omega
 go_enter Tryz.func113,Tryz.ntmps113
 go_wp2
 refine wp_loop_rounds 3 ?_
 rw[rounds_succ]
 go_wp2
 rw[rounds_succ]
 go_wp2
 rw[rounds_succ]
 go_wp2
 go_ret2
 first | exact⟨rfl,rfl⟩ | (refine⟨?_,rfl⟩;simp only[hw])
theorem sm_o3_n (b off n cap:Nat) (x0 x1 x2:Int) (w:World) (hn:5<=n) (hc:n<=cap) (hcm:cap<=maxLen) (c0:w.cell? ⟨b,off+1,none⟩=some (.int .u8 x0)) (p0:0<=x0) (q0:x0<=255) (c1:w.cell? ⟨b,off+2,none⟩=some (.int .u8 x1)) (p1:0<=x1) (q1:x1<=255) (c2:w.cell? ⟨b,off+3,none⟩=some (.int .u8 x2)) (p2:0<=x2) (q2:x2<=255) (g0:128<=x0) (g1:128<=x1) (g2:x2 < 128):Calls Tryz.prog 113 #[.slice (some ⟨b,off,none⟩) n cap] w fun e w'=>e=.returned (.tuple #[.int .i64 4,.int .i64 (4+(x0 % 128+x1 % 128 * 128+x2 % 128 * 16384))])/\w'=w:=by
 unfold maxLen at hcm
 have hn':(5:Int)<=n:=by omega
 have o0:bits .or .i64 0 (x0 % 128)=x0 % 128:=or_lo0 _ (by omega) (by omega)
 have o1:bits .or .i64 (x0 % 128) (x1 % 128 * 128)=x0 % 128+x1 % 128 * 128:=or_lo 7 _ _ (by omega) (by omega) (by omega) (by omega) (by omega) (by omega)
 have o2:bits .or .i64 (x0 % 128+x1 % 128 * 128) (x2 % 128 * 16384)=x0 % 128+x1 % 128 * 128+x2 % 128 * 16384:=or_lo 14 _ _ (by omega) (by omega) (by omega) (by omega) (by omega) (by omega)
 have hw:wrap64 (4+(x0 % 128+x1 % 128 * 128+x2 % 128 * 16384))=4+(x0 % 128+x1 % 128 * 128+x2 % 128 * 16384):=by unfold wrap64;omega
 go_enter Tryz.func113,Tryz.ntmps113
 go_wp2
 refine wp_loop_rounds 3 ?_
 rw[rounds_succ]
 go_wp2
 rw[rounds_succ]
 go_wp2
 rw[rounds_succ]
 go_wp2
 go_ret2
 first | exact⟨rfl,rfl⟩ | (refine⟨?_,rfl⟩;simp only[hw])
theorem sm_o4_n (b off n cap:Nat) (x0 x1 x2 x3:Int) (w:World) (hn:5<=n) (hc:n<=cap) (hcm:cap<=maxLen) (c0:w.cell? ⟨b,off+1,none⟩=some (.int .u8 x0)) (p0:0<=x0) (q0:x0<=255) (c1:w.cell? ⟨b,off+2,none⟩=some (.int .u8 x1)) (p1:0<=x1) (q1:x1<=255) (c2:w.cell? ⟨b,off+3,none⟩=some (.int .u8 x2)) (p2:0<=x2) (q2:x2<=255) (c3:w.cell? ⟨b,off+4,none⟩=some (.int .u8 x3)) (p3:0<=x3) (q3:x3<=255) (g0:128<=x0) (g1:128<=x1) (g2:128<=x2) (g3:x3 < 128):Calls Tryz.prog 113 #[.slice (some ⟨b,off,none⟩) n cap] w fun e w'=>e=.returned (.tuple #[.int .i64 5,.int .i64 (5+(x0 % 128+x1 % 128 * 128+x2 % 128 * 16384+x3 % 128 * 2097152))])/\w'=w:=by
 unfold maxLen at hcm
 have hn':(5:Int)<=n:=by omega
 have o0:bits .or .i64 0 (x0 % 128)=x0 % 128:=or_lo0 _ (by omega) (by omega)
 have o1:bits .or .i64 (x0 % 128) (x1 % 128 * 128)=x0 % 128+x1 % 128 * 128:=or_lo 7 _ _ (by omega) (by omega) (by omega) (by omega) (by omega) (by omega)
 have o2:bits .or .i64 (x0 % 128+x1 % 128 * 128) (x2 % 128 * 16384)=x0 % 128+x1 % 128 * 128+x2 % 128 * 16384:=or_lo 14 _ _ (by omega) (by omega) (by omega) (by omega) (by omega) (by omega)
 have o3:bits .or .i64 (x0 % 128+x1 % 128 * 128+x2 % 128 * 16384) (x3 % 128 * 2097152)=x0 % 128+x1 % 128 * 128+x2 % 128 * 16384+x3 % 128 * 2097152:=or_lo 21 _ _ (by omega) (by omega) (by omega) (by omega) (by omega) (by omega)
 have hw:wrap64 (5+(x0 % 128+x1 % 128 * 128+x2 % 128 * 16384+x3 % 128 * 2097152))=5+(x0 % 128+x1 % 128 * 128+x2 % 128 * 16384+x3 % 128 * 2097152):=by unfold wrap64;omega
 go_enter Tryz.func113,Tryz.ntmps113
 go_wp2
 refine wp_loop_rounds 4 ?_
 rw[rounds_succ]
 go_wp2
 rw[rounds_succ]
 go_wp2
 rw[rounds_succ]
 go_wp2
 rw[rounds_succ]
 go_wp2
 go_ret2
 first | exact⟨rfl,rfl⟩ | (refine⟨?_,rfl⟩;simp only[hw])
theorem sm_x0_1 (b off cap:Nat) (w:World) (hc:1<=cap) (hcm:cap<=maxLen)   : Calls Tryz.prog 113 #[.slice (some ⟨b,off,none⟩) 1 cap] w fun e w'=>e=.returned (.tuple #[.int .i64 0,.int .i64 0])/\w'=w:=by
 unfold maxLen at hcm
 by_cases hcap:cap=1
 ·subst hcap
  go_enter Tryz.func113,Tryz.ntmps113
  go_wp2
  refine wp_loop_rounds 1 ?_
  rw[rounds_succ]
  go_wp2
  go_ret2
  exact⟨rfl,rfl⟩
 ·go_enter Tryz.func113,Tryz.ntmps113
  go_wp2
  refine wp_loop_rounds 1 ?_
  rw[rounds_succ]
  go_wp2
  go_ret2
  exact⟨rfl,rfl⟩
theorem sm_x1_2 (b off cap:Nat) (x0:Int) (w:World) (hc:2<=cap) (hcm:cap<=maxLen) (c0:w.cell? ⟨b,off+1,none⟩=some (.int .u8 x0)) (p0:0<=x0) (q0:x0<=255) (g0:128<=x0):Calls Tryz.prog 113 #[.slice (some ⟨b,off,none⟩) 2 cap] w fun e w'=>e=.returned (.tuple #[.int .i64 0,.int .i64 0])/\w'=w:=by
 unfold maxLen at hcm
 have o0:bits .or .i64 0 (x0 % 128)=x0 % 128:=or_lo0 _ (by omega) (by omega)
 go_enter Tryz.func113,Tryz.ntmps113
 go_wp2
 refine wp_loop_rounds 2 ?_
 rw[rounds_succ]
 go_wp2
 rw[rounds_succ]
 go_wp2
 go_ret2
 exact⟨rfl,rfl⟩
theorem sm_x2_3 (b off cap:Nat) (x0 x1:Int) (w:World) (hc:3<=cap) (hcm:cap<=maxLen) (c0:w.cell? ⟨b,off+1,none⟩=some (.int .u8 x0)) (p0:0<=x0) (q0:x0<=255) (c1:w.cell? ⟨b,off+2,none⟩=some (.int .u8 x1)) (p1:0<=x1) (q1:x1<=255) (g0:128<=x0) (g1:128<=x1):Calls Tryz.prog 113 #[.slice (some ⟨b,off,none⟩) 3 cap] w fun e w'=>e=.returned (.tuple #[.int .i64 0,.int .i64 0])/\w'=w:=by
 unfold maxLen at hcm
 have o0:bits .or .i64 0 (x0 % 128)=x0 % 128:=or_lo0 _ (by omega) (by omega)
 have o1:bits .or .i64 (x0 % 128) (x1 % 128 * 128)=x0 % 128+x1 % 128 * 128:=or_lo 7 _ _ (by omega) (by omega) (by omega) (by omega) (by omega) (by omega)
 go_enter Tryz.func113,Tryz.ntmps113
 go_wp2
 refine wp_loop_rounds 3 ?_
 rw[rounds_succ]
 go_wp2
 rw[rounds_succ]
 go_wp2
 rw[rounds_succ]
 go_wp2
 go_ret2
 exact⟨rfl,rfl⟩
theorem sm_x3_4 (b off cap:Nat) (x0 x1 x2:Int) (w:World) (hc:4<=cap) (hcm:cap<=maxLen) (c0:w.cell? ⟨b,off+1,none⟩=some (.int .u8 x0)) (p0:0<=x0) (q0:x0<=255) (c1:w.cell? ⟨b,off+2,none⟩=some (.int .u8 x1)) (p1:0<=x1) (q1:x1<=255) (c2:w.cell? ⟨b,off+3,none⟩=some (.int .u8 x2)) (p2:0<=x2) (q2:x2<=255) (g0:128<=x0) (g1:128<=x1) (g2:128<=x2):Calls Tryz.prog 113 #[.slice (some ⟨b,off,none⟩) 4 cap] w fun e w'=>e=.returned (.tuple #[.int .i64 0,.int .i64 0])/\w'=w:=by
 unfold maxLen at hcm
 have o0:bits .or .i64 0 (x0 % 128)=x0 % 128:=or_lo0 _ (by omega) (by omega)
 have o1:bits .or .i64 (x0 % 128) (x1 % 128 * 128)=x0 % 128+x1 % 128 * 128:=or_lo 7 _ _ (by omega) (by omega) (by omega) (by omega) (by omega) (by omega)
 have o2:bits .or .i64 (x0 % 128+x1 % 128 * 128) (x2 % 128 * 16384)=x0 % 128+x1 % 128 * 128+x2 % 128 * 16384:=or_lo 14 _ _ (by omega) (by omega) (by omega) (by omega) (by omega) (by omega)
 go_enter Tryz.func113,Tryz.ntmps113
 go_wp2
 refine wp_loop_rounds 4 ?_
 rw[rounds_succ]
 go_wp2
 rw[rounds_succ]
 go_wp2
 rw[rounds_succ]
 go_wp2
 rw[rounds_succ]
 go_wp2
 go_ret2
 exact⟨rfl,rfl⟩
theorem sm_x4_n (b off n cap:Nat) (x0 x1 x2 x3:Int) (w:World) (hn:5<=n) (hc:n<=cap) (hcm:cap<=maxLen) (c0:w.cell? ⟨b,off+1,none⟩=some (.int .u8 x0)) (p0:0<=x0) (q0:x0<=255) (c1:w.cell? ⟨b,off+2,none⟩=some (.int .u8 x1)) (p1:0<=x1) (q1:x1<=255) (c2:w.cell? ⟨b,off+3,none⟩=some (.int .u8 x2)) (p2:0<=x2) (q2:x2<=255) (c3:w.cell? ⟨b,off+4,none⟩=some (.int .u8 x3)) (p3:0<=x3) (q3:x3<=255) (g0:128<=x0) (g1:128<=x1) (g2:128<=x2) (g3:128<=x3):Calls Tryz.prog 113 #[.slice (some ⟨b,off,none⟩) n cap] w fun e w'=>e=.returned (.tuple #[.int .i64 0,.int .i64 0])/\w'=w:=by
 unfold maxLen at hcm
 have hn':(5:Int)<=n:=by omega
 have o0:bits .or .i64 0 (x0 % 128)=x0 % 128:=or_lo0 _ (by omega) (by omega)
 have o1:bits .or .i64 (x0 % 128) (x1 % 128 * 128)=x0 % 128+x1 % 128 * 128:=or_lo 7 _ _ (by omega) (by omega) (by omega) (by omega) (by omega) (by omega)
 have o2:bits .or .i64 (x0 % 128+x1 % 128 * 128) (x2 % 128 * 16384)=x0 % 128+x1 % 128 * 128+x2 % 128 * 16384:=or_lo 14 _ _ (by omega) (by omega) (by omega) (by omega) (by omega) (by omega)
 have o3:bits .or .i64 (x0 % 128+x1 % 128 * 128+x2 % 128 * 16384) (x3 % 128 * 2097152)=x0 % 128+x1 % 128 * 128+x2 % 128 * 16384+x3 % 128 * 2097152:=or_lo 21 _ _ (by omega) (by omega) (by omega) (by omega) (by omega) (by omega)
 go_enter Tryz.func113,Tryz.ntmps113
 go_wp2
 refine wp_loop_rounds 5 ?_
 rw[rounds_succ]
 go_wp2
 rw[rounds_succ]
 go_wp2
 rw[rounds_succ]
 go_wp2
 rw[rounds_succ]
 go_wp2
 rw[rounds_succ]
 go_wp2
 go_ret2
 exact⟨rfl,rfl⟩
def smeas (l:List Int):Int×Int :=
 if l.length<=1 then (0,0)
 else if l.getD 1 0 < 128 then (2,2+(l.getD 1 0 % 128))
 else if l.length<=2 then (0,0)
 else if l.getD 2 0 < 128 then (3,3+(l.getD 1 0 % 128+l.getD 2 0 % 128 * 128))
 else if l.length<=3 then (0,0)
 else if l.getD 3 0 < 128 then (4,4+(l.getD 1 0 % 128+l.getD 2 0 % 128 * 128+l.getD 3 0 % 128 * 16384))
 else if l.length<=4 then (0,0)
 else if l.getD 4 0 < 128 then (5,5+(l.getD 1 0 % 128+l.getD 2 0 % 128 * 128+l.getD 3 0 % 128 * 16384+l.getD 4 0 % 128 * 2097152))
 else (0,0)
theorem smeas_any (v:Value) (l:List Int) (w:World) (h:Byt w v l):Calls Tryz.prog 113 #[v] w fun e w'=>e=.returned (.tuple #[.int .i64 (smeas l).1,.int .i64 (smeas l).2])/\w'=w:=by
 have hr:=h.range
 by_cases hl:l.length=0
 ·obtain⟨ao,cap,e,_,_⟩:=h.form
  subst e
  rw[hl]
  have e:smeas l=(0,0):=by unfold smeas;rw[if_pos (by omega)]
  rw[e]
  exact sm_s0 ao cap w
 ·obtain⟨ao,cap,e,⟨h1,h2⟩,_,hcase⟩:=h
  subst e
  rcases hcase with rfl | ⟨b,off,rfl,hc⟩
  ·simp at hl
  have hcj:∀ j,j+1 < l.length->w.cell? ⟨b,off+(j+1),none⟩=some (.int .u8 (l.getD (j+1) 0)):=fun j hj=>hc (j+1) hj
  generalize hn:l.length=n at *
  by_cases k0:n<=1
  ·skip
   have e:smeas l=(0,0):=by
    unfold smeas
    rw[hn,if_pos (by omega)]
   rw[e]
   obtain rfl:n=1:=by omega
   exact sm_x0_1 b off cap  w  h1 h2  
  by_cases j1:l.getD 1 0 < 128
  ·skip
   have e:smeas l=(2,2+(l.getD 1 0 % 128)):=by
    unfold smeas
    rw[hn,if_neg (by omega),if_pos (by omega)]
   rw[e]
   by_cases hm2:n=2
   ·subst hm2
    exact sm_o1_2 b off cap (l.getD 1 0) w  h1 h2 (hcj 0 (by omega)) (hr 1).1 (hr 1).2 (by omega)
   by_cases hm3:n=3
   ·subst hm3
    exact sm_o1_3 b off cap (l.getD 1 0) w  h1 h2 (hcj 0 (by omega)) (hr 1).1 (hr 1).2 (by omega)
   by_cases hm4:n=4
   ·subst hm4
    exact sm_o1_4 b off cap (l.getD 1 0) w  h1 h2 (hcj 0 (by omega)) (hr 1).1 (hr 1).2 (by omega)
   exact sm_o1_n b off n cap (l.getD 1 0) w (by omega)  h1 h2 (hcj 0 (by omega)) (hr 1).1 (hr 1).2 (by omega)
  by_cases k1:n<=2
  ·skip
   have e:smeas l=(0,0):=by
    unfold smeas
    rw[hn,if_neg (by omega),if_neg (by omega),if_pos (by omega)]
   rw[e]
   obtain rfl:n=2:=by omega
   exact sm_x1_2 b off cap (l.getD 1 0) w  h1 h2 (hcj 0 (by omega)) (hr 1).1 (hr 1).2 (by omega)
  by_cases j2:l.getD 2 0 < 128
  ·skip
   have e:smeas l=(3,3+(l.getD 1 0 % 128+l.getD 2 0 % 128 * 128)):=by
    unfold smeas
    rw[hn,if_neg (by omega),if_neg (by omega),if_neg (by omega),if_pos (by omega)]
   rw[e]
   by_cases hm3:n=3
   ·subst hm3
    exact sm_o2_3 b off cap (l.getD 1 0) (l.getD 2 0) w  h1 h2 (hcj 0 (by omega)) (hr 1).1 (hr 1).2 (hcj 1 (by omega)) (hr 2).1 (hr 2).2 (by omega) (by omega)
   by_cases hm4:n=4
   ·subst hm4
    exact sm_o2_4 b off cap (l.getD 1 0) (l.getD 2 0) w  h1 h2 (hcj 0 (by omega)) (hr 1).1 (hr 1).2 (hcj 1 (by omega)) (hr 2).1 (hr 2).2 (by omega) (by omega)
   exact sm_o2_n b off n cap (l.getD 1 0) (l.getD 2 0) w (by omega)  h1 h2 (hcj 0 (by omega)) (hr 1).1 (hr 1).2 (hcj 1 (by omega)) (hr 2).1 (hr 2).2 (by omega) (by omega)
  by_cases k2:n<=3
  ·skip
   have e:smeas l=(0,0):=by
    unfold smeas
    rw[hn,if_neg (by omega),if_neg (by omega),if_neg (by omega),if_neg (by omega),if_pos (by omega)]
   rw[e]
   obtain rfl:n=3:=by omega
   exact sm_x2_3 b off cap (l.getD 1 0) (l.getD 2 0) w  h1 h2 (hcj 0 (by omega)) (hr 1).1 (hr 1).2 (hcj 1 (by omega)) (hr 2).1 (hr 2).2 (by omega) (by omega)
  by_cases j3:l.getD 3 0 < 128
  ·skip
   have e:smeas l=(4,4+(l.getD 1 0 % 128+l.getD 2 0 % 128 * 128+l.getD 3 0 % 128 * 16384)):=by
    unfold smeas
    rw[hn,if_neg (by omega),if_neg (by omega),if_neg (by omega),if_neg (by omega),if_neg (by omega),if_pos (by omega)]
   rw[e]
   by_cases hm4:n=4
   ·subst hm4
    exact sm_o3_4 b off cap (l.getD 1 0) (l.getD 2 0) (l.getD 3 0) w  h1 h2 (hcj 0 (by omega)) (hr 1).1 (hr 1).2 (hcj 1 (by omega)) (hr 2).1 (hr 2).2 (hcj 2 (by omega)) (hr 3).1 (hr 3).2 (by omega) (by omega) (by omega)
   exact sm_o3_n b off n cap (l.getD 1 0) (l.getD 2 0) (l.getD 3 0) w (by omega)  h1 h2 (hcj 0 (by omega)) (hr 1).1 (hr 1).2 (hcj 1 (by omega)) (hr 2).1 (hr 2).2 (hcj 2 (by omega)) (hr 3).1 (hr 3).2 (by omega) (by omega) (by omega)
  by_cases k3:n<=4
  ·skip
   have e:smeas l=(0,0):=by
    unfold smeas
    rw[hn,if_neg (by omega),if_neg (by omega),if_neg (by omega),if_neg (by omega),if_neg (by omega),if_neg (by omega),if_pos (by omega)]
   rw[e]
   obtain rfl:n=4:=by omega
   exact sm_x3_4 b off cap (l.getD 1 0) (l.getD 2 0) (l.getD 3 0) w  h1 h2 (hcj 0 (by omega)) (hr 1).1 (hr 1).2 (hcj 1 (by omega)) (hr 2).1 (hr 2).2 (hcj 2 (by omega)) (hr 3).1 (hr 3).2 (by omega) (by omega) (by omega)
  by_cases j4:l.getD 4 0 < 128
  ·skip
   have e:smeas l=(5,5+(l.getD 1 0 % 128+l.getD 2 0 % 128 * 128+l.getD 3 0 % 128 * 16384+l.getD 4 0 % 128 * 2097152)):=by
    unfold smeas
    rw[hn,if_neg (by omega),if_neg (by omega),if_neg (by omega),if_neg (by omega),if_neg (by omega),if_neg (by omega),if_neg (by omega),if_pos (by omega)]
   rw[e]
   exact sm_o4_n b off n cap (l.getD 1 0) (l.getD 2 0) (l.getD 3 0) (l.getD 4 0) w (by omega)  h1 h2 (hcj 0 (by omega)) (hr 1).1 (hr 1).2 (hcj 1 (by omega)) (hr 2).1 (hr 2).2 (hcj 2 (by omega)) (hr 3).1 (hr 3).2 (hcj 3 (by omega)) (hr 4).1 (hr 4).2 (by omega) (by omega) (by omega) (by omega)
  have e:smeas l=(0,0):=by
   unfold smeas
   rw[hn,if_neg (by omega),if_neg (by omega),if_neg (by omega),if_neg (by omega),if_neg (by omega),if_neg (by omega),if_neg (by omega),if_neg (by omega)]
  rw[e]
  exact sm_x4_n b off n cap (l.getD 1 0) (l.getD 2 0) (l.getD 3 0) (l.getD 4 0) w (by omega)  h1 h2 (hcj 0 (by omega)) (hr 1).1 (hr 1).2 (hcj 1 (by omega)) (hr 2).1 (hr 2).2 (hcj 2 (by omega)) (hr 3).1 (hr 3).2 (hcj 3 (by omega)) (hr 4).1 (hr 4).2 (by omega) (by omega) (by omega) (by omega)
end Go.Proofs.YtpheelbbpiieiaaGreatDoor.K
namespace Go.Proofs.YtpheelbbpiieiaaGreatDoor.K
open Go.RowKit Go.Extern.Stop Go.Stop Go.Extern
set_option maxRecDepth 100000
def ErB (w:World) (B:Nat) (v:Value) (n:Int):Prop:=∃ b,v=.iface 118 (.pointer (some ⟨b,0,none⟩))/\B<=b/\w.cell? ⟨b,1,none⟩=some (.iface 63 (.int .i64 n))
theorem ErB.er {w:World} {B:Nat} {v:Value} {n:Int} (h:ErB w B v n):Er w 1 v n:=by
 obtain⟨b,h1,_,h2⟩:=h
 exact⟨b,_,h1,h2,rfl⟩
theorem ErB.mono {w:World} {B B':Nat} {v:Value} {n:Int} (h:ErB w B v n) (hB:B'<=B):ErB w B' v n:=by
 obtain⟨b,h1,h3,h2⟩:=h
 exact⟨b,h1,Nat.le_trans hB h3,h2⟩
theorem ErB.below {w w':World} {B:Nat} {v:Value} {n:Int} (h:ErB w B v n) (hb:Below w.heap.size w w'):ErB w' B v n:=by
 obtain⟨b,h1,h3,h2⟩:=h
 exact⟨b,h1,h3,(hb.cell (p:=⟨b,1,none⟩) (cell_lt h2)).trans h2⟩
theorem ErB.grown {w w':World} {B:Nat} {v:Value} {n:Int} {row:Option Nat} (h:ErB w B v n) (hg:w.grownBy w' row) (hr:∀ g,row=some g->g < B):ErB w' B v n:=by
 obtain⟨b,h1,h3,h2⟩:=h
 exact⟨b,h1,h3,hg.cell h2 (fun e=>by have:=hr b e.symm;omega)⟩
theorem sfault_use (n:Int) (w:World):Calls Tryz.prog 44 #[.int .i64 n] w fun e w'=>∃ x,e=.returned (.iface 118 x)/\Hid (ErB w' w.heap.size (.iface 118 x) n)/\Below w.heap.size w w':=by
 refine (sfault_any n w).mono ?_
 rintro e w' ⟨rfl,rfl⟩
 exact⟨_,rfl,⟨w.heap.size,rfl,Nat.le_refl _,by simp⟩,bal _ _⟩
def FailPost (S:Nat) (n:Int) (w:World) (e:Ending) (w':World):Prop :=
 ∃ x,e=.returned (.iface 118 x)/\Hid (ErB w' w.heap.size (.iface 118 x) n)/\w'.cell? ⟨S,1,none⟩=some (.slice none 0 0)/\w'.cell? ⟨S,2,none⟩=some (.int .i64 n)/\Hid (BX S (fun j=>j=1\/j=2) w w')
theorem sfail_any (S:Nat) (d:Nat) (hd:d<=3) (v:Value) (n m:Int) (hv:Value) (w:World) (hg:Laid w) (h:Er w d v n) (h1:w.cell? ⟨S,1,none⟩=some hv) (h2:w.cell? ⟨S,2,none⟩=some (.int .i64 m)) (hf1:w.frozen? ⟨S,1,none⟩=false) (hf:w.frozen? ⟨S,2,none⟩=false) :
  Calls Tryz.prog 47 #[.pointer (some ⟨S,0,none⟩),v] w (FailPost S n w):=by
 have hA:=er_as d hd v n ⟨S,2,none⟩ _ w hg h h2 hf
 have hS:S < w.heap.size:=cell_lt h1
 obtain⟨t,x,rfl⟩:=h.iface
 have HK:Hid (∀ W:World,Below w.heap.size w W->∀ W',W'=W.setCell ⟨S,2,none⟩ (.int .i64 n)->BX S (fun j=>j=1\/j=2) w W'/\W'.cell? ⟨S,2,none⟩=some (.int .i64 n)/\W'.cell? ⟨S,1,none⟩=some hv/\W'.frozen? ⟨S,1,none⟩=false):=by
  rintro W hB W' rfl
  have c2:W.cell? ⟨S,2,none⟩=some (.int .i64 m):=(hB.cell hS).trans h2
  have c1:W.cell? ⟨S,1,none⟩=some hv:=(hB.cell hS).trans h1
  refine⟨(BX.of_below hB hS).set 2 _ (.inr rfl),World.cell?_setCell_same _ _ _ c2,?_,?_⟩
  ·rw[World.cell?_setCell_other _ _ _ _ (fun e=>by simp at e)];exact c1
  ·rw[World.frozen?_setCell];exact (hB.frozen hS).trans hf1
 have HA:=zh hA
 clear hA hg h h1 h2 hf hf1
 go_enter Tryz.func47,Tryz.ntmps47
 go_wp2_with fail
 refine (uh HA).mono ?_
 rintro e w1 ⟨rfl,hw1⟩
 obtain⟨hx,c2,c1,f1⟩:=(uh HK) _ (((bal _ _).alloc (by simp) _).alloc (by simp;omega) _ |>.alloc (by simp;omega) _) w1 hw1
 have HX:=zh hx
 clear hx hw1 HK HA
 go_wp2_with fail
 refine (sfault_use n _).mono ?_
 rintro e w2 ⟨y,rfl,hE,hb⟩
 have hS1:S < w1.heap.size:=cell_lt c1
 have k2:w2.cell? ⟨S,2,none⟩=some (.int .i64 n):=(hb.cell (by simpa [World.setCell] using hS1)).trans ((World.cell?_setCell_other _ _ _ _ (fun e=>by simp at e)).trans c2)
 have k1:w2.cell? ⟨S,1,none⟩=some (.slice none 0 0):=(hb.cell (by simpa [World.setCell] using hS1)).trans (World.cell?_setCell_same _ _ _ c1)
 have kx:=((uh HX).set 1 (.slice none 0 0) (.inl rfl)).trans (BX.of_below hb (by simpa [World.setCell] using hS1))
 have KX:=zh kx
 have HEB:Hid (ErB w2 w.heap.size (.iface 118 y) n):=(uh hE).mono (by have:=(uh HX).size;simpa [World.setCell] using this)
 clear kx hb HX c1 c2 f1
 go_wp2
 go_ret
 exact⟨_,rfl,HEB,k1,k2,KX⟩
end Go.Proofs.YtpheelbbpiieiaaGreatDoor.K
namespace Go.Proofs.YtpheelbbpiieiaaGreatDoor.K
open Go.RowKit
structure FB (S:Nat) (row:Option Nat) (w w':World):Prop where
 os:w'.os=w.os
 tape:w'.tape=w.tape
 output:w'.output=w.output
 size:w.heap.size<=w'.heap.size
 block:∀ k,k < w.heap.size->k≠S->some k≠row->w'.heap[k]?=w.heap[k]?
theorem FB.refl (S:Nat) (row:Option Nat) (w:World):FB S row w w:=⟨rfl,rfl,rfl,Nat.le_refl _,fun _ _ _ _=>rfl⟩
theorem FB.trans {S:Nat} {row row':Option Nat} {a b c:World} (h:FB S row a b) (k:FB S row' b c) (hr:∀ g,row'=some g->row=some g\/a.heap.size<=g):FB S row a c :=
 ⟨k.os.trans h.os,k.tape.trans h.tape,k.output.trans h.output,Nat.le_trans h.size k.size,fun i hi hS hrow=>(k.block i (Nat.lt_of_lt_of_le hi h.size) hS (fun e=>by
  rcases hr i e.symm with e' | e'
  ·exact hrow e'.symm
  ·omega)).trans (h.block i hi hS hrow)⟩
theorem FB.of_below {S:Nat} {row:Option Nat} {a b:World} (h:Below a.heap.size a b):FB S row a b:=⟨h.os,h.tape,h.output,h.size,fun k hk _ _=>h.block k hk⟩
theorem FB.of_grown {S:Nat} {row:Option Nat} {a b:World} (h:a.grownBy b row):FB S row a b:=⟨h.os,h.tape,h.output,h.size,fun k hk _ hr=>h.block k hk hr⟩
theorem FB.of_bx {S:Nat} {row:Option Nat} {may:Nat->Prop} {a b:World} (h:BX S may a b):FB S row a b:=⟨h.os,h.tape,h.output,h.size,fun k hk hS _=>h.block k hk hS⟩
theorem owns_blk {w:World} {B:Nat} {e:TypeId} {s:Nat} {v:Value} {n:Nat} {xs:List Value} (h:w.ownsRow B e s v n xs):∀ g,v.ownBlock=some g->B<=g:=by
 intro g hg
 rcases h.2 with⟨rfl,_⟩ | ⟨g',cap,cur,rfl,hB,_⟩
 ·cases hg
 ·cases hg
  exact hB
structure FW (W:Nat) (row:Option Nat) (w w':World):Prop where
 fb:FB W row w w'
 cell:∀ j,j < 19->w'.cell? ⟨W,j,none⟩=w.cell? ⟨W,j,none⟩
 frozen:∀ j,j < 19->w'.frozen? ⟨W,j,none⟩=w.frozen? ⟨W,j,none⟩
theorem FW.of_bx {W:Nat} {row:Option Nat} {may:Nat->Prop} {a b:World} (h:BX W may a b) (hm:∀ j,may j->19<=j):FW W row a b:=⟨FB.of_bx h,fun j hj=>h.cell j (fun e=>by have:=hm j e;omega),fun j _=>h.frozen j⟩
theorem FW.of_below {W:Nat} {row:Option Nat} {a b:World} (h:Below a.heap.size a b) (hW:W < a.heap.size):FW W row a b:=⟨FB.of_below h,fun _ _=>h.cell hW,fun _ _=>h.frozen hW⟩
theorem FW.of_grown {W:Nat} {row:Option Nat} {a b:World} (h:a.grownBy b row) (hW:W < a.heap.size) (hr:some W≠row):FW W row a b:=by
 have hb:=h.block W hW hr
 exact⟨FB.of_grown h,fun _ _=>World.cell?_of_block hb,fun _ _=>World.frozen?_of_block hb⟩
theorem FW.trans {W:Nat} {row row':Option Nat} {a b c:World} (h:FW W row a b) (k:FW W row' b c) (hr:∀ g,row'=some g->row=some g\/a.heap.size<=g):FW W row a c :=
 ⟨h.fb.trans k.fb hr,fun j hj=>(k.cell j hj).trans (h.cell j hj),fun j hj=>(k.frozen j hj).trans (h.frozen j hj)⟩
set_option maxRecDepth 100000
def Tells (w:World) (f:Nat) (x y:Value) (c:Bool):Prop:=∀ W,Below w.heap.size w W->Calls Tryz.prog f #[x,y] W fun e w'=>e=.returned (.bool c)/\Below W.heap.size W w'
theorem eqpk_yes (a0 b0:Int) (a1 b1:Bool) (a2 b2:Int) (a3 b3:Bool) (a4 b4:ByteArray) (a5 b5:Int) (a6 b6:ByteArray) (a7 b7:Value) (a8 b8:ByteArray) (a9 b9:Bool) (a10 b10:Int) (a11 b11:Value) (a12 b12:Value) (a13 b13:Value) (a14 b14:Int) (a15 b15:Bool) (a16 b16:Value) (a17 b17:Value) (a18 b18:Value) (w:World) (k0:(a0 == b0)=true) (k1:(a1 == b1)=true) (k2:(a2 == b2)=true) (k3:(a3 == b3)=true) (k4:(a4.toList == b4.toList)=true) (k5:(a5 == b5)=true) (k6:(a6.toList == b6.toList)=true) (k7:Hid (Tells w 33 a7 b7 true)) (k8:(a8.toList == b8.toList)=true) (k9:(a9 == b9)=true) (k10:(a10 == b10)=true) (k11:Hid (Tells w 34 a11 b11 true)) (k12:Hid (Tells w 35 a12 b12 true)) (k13:Hid (Tells w 35 a13 b13 true)) (k14:(a14 == b14)=true) (k15:(a15 == b15)=true) (k16:Hid (Tells w 36 a16 b16 true)) (k17:Hid (Tells w 35 a17 b17 true)) (k18:Hid (Tells w 37 a18 b18 true)) :
  Calls Tryz.prog 10 #[.agg #[.int .i64 a0,.bool a1,.int .i64 a2,.bool a3,.string a4,.int .i64 a5,.string a6,a7,.string a8,.bool a9,.int .i64 a10,a11,a12,a13,.int .i64 a14,.bool a15,a16,a17,a18],.agg #[.int .i64 b0,.bool b1,.int .i64 b2,.bool b3,.string b4,.int .i64 b5,.string b6,b7,.string b8,.bool b9,.int .i64 b10,b11,b12,b13,.int .i64 b14,.bool b15,b16,b17,b18]] w fun e w'=>e=.returned (.bool true)/\Below w.heap.size w w':=by
 go_enter Tryz.func10,Tryz.ntmps10
 go_wp2_with fail
 refine ((uh k7) _ (by go_grown)).mono ?_
 rintro e w7 ⟨rfl,hb7⟩
 have HB7:Hid (Below w.heap.size w w7):=Below.trans (by go_grown) (hb7.mono (by simp;omega))
 have hc7:=fun (b o:Nat) (h:b < w.heap.size+2)=>hb7.cell (p:=(⟨b,o,none⟩:Addr)) (show b < _ by simp;omega)
 have hz7:w.heap.size+2<=w7.heap.size:=by (have:=hb7.size;  (try simp at this);  omega)
 clear hb7
 go_wp2_with fail
 refine ((uh k11) _ (uh HB7)).mono ?_
 rintro e w11 ⟨rfl,hb11⟩
 have HB11:Hid (Below w.heap.size w w11):=(uh HB7).trans (hb11.mono (uh HB7).size)
 have hc11:=fun (b o:Nat) (h:b < w.heap.size+2)=>(hb11.cell (p:=(⟨b,o,none⟩:Addr)) (show b < _ by omega)).trans (hc7 b o h)
 clear hc7
 have hz11:w.heap.size+2<=w11.heap.size:=by (have:=hb11.size;  (try simp at this);  omega)
 clear hb11
 go_wp2_with fail
 refine ((uh k12) _ (uh HB11)).mono ?_
 rintro e w12 ⟨rfl,hb12⟩
 have HB12:Hid (Below w.heap.size w w12):=(uh HB11).trans (hb12.mono (uh HB11).size)
 have hc12:=fun (b o:Nat) (h:b < w.heap.size+2)=>(hb12.cell (p:=(⟨b,o,none⟩:Addr)) (show b < _ by omega)).trans (hc11 b o h)
 clear hc11
 have hz12:w.heap.size+2<=w12.heap.size:=by (have:=hb12.size;  (try simp at this);  omega)
 clear hb12
 go_wp2_with fail
 refine ((uh k13) _ (uh HB12)).mono ?_
 rintro e w13 ⟨rfl,hb13⟩
 have HB13:Hid (Below w.heap.size w w13):=(uh HB12).trans (hb13.mono (uh HB12).size)
 have hc13:=fun (b o:Nat) (h:b < w.heap.size+2)=>(hb13.cell (p:=(⟨b,o,none⟩:Addr)) (show b < _ by omega)).trans (hc12 b o h)
 clear hc12
 have hz13:w.heap.size+2<=w13.heap.size:=by (have:=hb13.size;  (try simp at this);  omega)
 clear hb13
 go_wp2_with fail
 refine ((uh k16) _ (uh HB13)).mono ?_
 rintro e w16 ⟨rfl,hb16⟩
 have HB16:Hid (Below w.heap.size w w16):=(uh HB13).trans (hb16.mono (uh HB13).size)
 have hc16:=fun (b o:Nat) (h:b < w.heap.size+2)=>(hb16.cell (p:=(⟨b,o,none⟩:Addr)) (show b < _ by omega)).trans (hc13 b o h)
 clear hc13
 have hz16:w.heap.size+2<=w16.heap.size:=by (have:=hb16.size;  (try simp at this);  omega)
 clear hb16
 go_wp2_with fail
 refine ((uh k17) _ (uh HB16)).mono ?_
 rintro e w17 ⟨rfl,hb17⟩
 have HB17:Hid (Below w.heap.size w w17):=(uh HB16).trans (hb17.mono (uh HB16).size)
 have hc17:=fun (b o:Nat) (h:b < w.heap.size+2)=>(hb17.cell (p:=(⟨b,o,none⟩:Addr)) (show b < _ by omega)).trans (hc16 b o h)
 clear hc16
 have hz17:w.heap.size+2<=w17.heap.size:=by (have:=hb17.size;  (try simp at this);  omega)
 clear hb17
 go_wp2_with fail
 refine ((uh k18) _ (uh HB17)).mono ?_
 rintro e w18 ⟨rfl,hb18⟩
 have HB18:Hid (Below w.heap.size w w18):=(uh HB17).trans (hb18.mono (uh HB17).size)
 have hc18:=fun (b o:Nat) (h:b < w.heap.size+2)=>(hb18.cell (p:=(⟨b,o,none⟩:Addr)) (show b < _ by omega)).trans (hc17 b o h)
 clear hc17
 have hz18:w.heap.size+2<=w18.heap.size:=by (have:=hb18.size;  (try simp at this);  omega)
 clear hb18
 go_wp2
 go_ret
 exact⟨rfl,uh HB18⟩
end Go.Proofs.YtpheelbbpiieiaaGreatDoor.K
