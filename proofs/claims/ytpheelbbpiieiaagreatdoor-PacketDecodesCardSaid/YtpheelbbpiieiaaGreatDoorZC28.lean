/- Proved here: helpers, one text behind the other. -/
import Derived.Test.YtpheelbbpiieiaaGreatDoorZC16
import Derived.Test.YtpheelbbpiieiaaGreatDoorZC26
import Derived.Test.YtpheelbbpiieiaaGreatDoorZC27
import Derived.Handy
import Derived.Test.YtpheelbbpiieiaaGreatDoorProg
import Derived.Test.YtpheelbbpiieiaaGreatDoorZC5
set_option maxHeartbeats 20000000
namespace Go.Proofs.YtpheelbbpiieiaaGreatDoor
open Go.RowKit Go.Extern.Stop Go.Stop Go.Extern
theorem er_as (d:Nat) (hd:d<=3) (v:Value) (n:Int) (t:Addr) (old:Value) (w:World) (hg:Laid w) (h:Er w d v n) (ht0:w.cell? t=some old) (hf0:w.frozen? t=false) :
  Calls Tryz.prog 69 #[v,.iface 107 (.pointer (some t))] w fun ev w'=>ev=.returned (.bool true)/\w'=((((w.alloc (.cells #[.pointer (some t)] 107)).alloc (.cells #[.pointer (some ⟨1,107,none⟩),.pointer (some ⟨w.heap.size,0,none⟩),.int .u64 150] 143)).alloc (.cells #[.pointer (some ⟨1,107,none⟩),.pointer (some ⟨w.heap.size,0,none⟩),.int .u64 150] 143)).alloc (.cells #[.int .i64 n] 63)).setCell t (.int .i64 n):=by
 match d,hd,h with
 | 0,_,h=>cases h;exact er_as0 n t old w hg ht0 hf0
 | 1,_,⟨b,u,h1,h2,h3⟩=>cases h1;cases h3;exact er_as1 b n t old w hg h2 ht0 hf0
 | 2,_,⟨b,u,h1,h2,b',u',h3,h4,h5⟩=>cases h1;cases h3;cases h5;exact er_as2 b b' n t old w hg h2 h4 ht0 hf0
 | 3,_,⟨b,u,h1,h2,b',u',h3,h4,b'',u'',h5,h6,h7⟩=>cases h1;cases h3;cases h5;cases h7;exact er_as3 b b' b'' n t old w hg h2 h4 h6 ht0 hf0
theorem er_num (d:Nat) (hd:d<=3) (v:Value) (n:Int) (w:World) (hg:Laid w) (h:Er w d v n) :
  Calls Tryz.prog 32 #[v] w fun e w'=>e=.returned (.int .i64 n)/\Below w.heap.size w w':=by
 have hB:Below w.heap.size w (w.alloc (.cells #[.int .i64 0] 63)):=bal _ _
 have HG:=zh (hg.below hB hg.pos)
 have HE:=zh (h.below hB)
 obtain⟨tt,x,rfl⟩:=h.iface
 clear hg h hB
 go_enter Tryz.func32,Tryz.ntmps32
 go_wp2_with fail
 refine (er_as d hd _ n ⟨w.heap.size,0,none⟩ (.int .i64 0) _ (uh HG) (uh HE) (by simp) (by simp)).mono ?_
 rintro e w' ⟨rfl,rfl⟩
 go_wp2
 go_ret
 refine⟨rfl,?_⟩
 exact ((((((bal _ _).alloc (by simp) _).alloc (by simp;omega) _).alloc (by simp;omega) _).alloc (by simp;omega) _))
def ErrX (w:World) (v:Value) (n:Int):Prop:=(n=0/\v=.nilIface)\/∃ d,d<=3/\Er w d v n
theorem ErrX.below {w w':World} {v:Value} {n:Int} (h:ErrX w v n) (hb:Below w.heap.size w w'):ErrX w' v n:=by
 rcases h with h | ⟨d,hd,h⟩
 ·exact .inl h
 ·exact .inr ⟨d,hd,h.below hb⟩
theorem numx (v:Value) (n:Int) (w:World) (hg:Laid w) (hv:ErrX w v n):Calls Tryz.prog 32 #[v] w fun e w'=>e=.returned (.int .i64 n)/\Below w.heap.size w w':=by
 rcases hv with⟨rfl,rfl⟩ | ⟨d,hd,h⟩
 ·refine (num_nil w).mono ?_
  rintro e w' ⟨rfl,rfl⟩
  exact⟨rfl,Below.refl _ _⟩
 ·exact er_num d hd v n w hg h
end Go.Proofs.YtpheelbbpiieiaaGreatDoor
namespace Go.Proofs.YtpheelbbpiieiaaGreatDoor.K
open Go.RowKit Go.Extern.Stop Go.Stop Go.Extern
set_option maxRecDepth 100000
abbrev pwrapW (v:Value) (w:World):World:=w.alloc (.cells #[.string ⟨#[112,97,99,107,101,116]⟩,v] 120)
theorem pwrap_any (t:TypeId) (x:Value) (w:World):Calls Tryz.prog 48 #[.iface t x] w fun e w'=>e=.returned (.iface 118 (.pointer (some ⟨w.heap.size,0,none⟩)))/\w'=pwrapW (.iface t x) w:=by
 go_enter Tryz.func48,Tryz.ntmps48
 go_wp2
 go_ret
 exact⟨rfl,rfl⟩
theorem pfault_any (n:Int) (w:World):Calls Tryz.prog 25 #[.int .i64 n] w fun e w'=>e=.returned (.iface 118 (.pointer (some ⟨w.heap.size,0,none⟩)))/\w'=pwrapW (.iface 63 (.int .i64 n)) w:=by
 go_enter Tryz.func25,Tryz.ntmps25
 go_wp2_with (go_at_call 48;refine (pwrap_any _ _ _).mono ?_;rintro e w' ⟨rfl,rfl⟩)
 go_ret
 exact⟨rfl,rfl⟩
theorem pwrap_er (d:Nat) (n:Int) (v:Value) (w:World) (h:Er w d v n):Er (pwrapW v w) (d+1) (.iface 118 (.pointer (some ⟨w.heap.size,0,none⟩))) n :=
 ⟨w.heap.size,v,rfl,by simp,h.below (bal _ _)⟩
theorem pwrap_below (v:Value) (w:World):Below w.heap.size w (pwrapW v w):=bal _ _
def ErP (w:World) (E:Value) (n:Int):Prop:=∃ x d,E=.iface 118 x/\d<=3/\Er w d E n
theorem pf_use (n:Int) (w:World):Calls Tryz.prog 25 #[.int .i64 n] w fun e w'=>∃ x,e=.returned (.iface 118 x)/\Hid (ErP w' (.iface 118 x) n)/\Below w.heap.size w w':=by
 refine (pfault_any n w).mono ?_
 rintro e w' ⟨rfl,rfl⟩
 exact⟨_,rfl,⟨_,1,rfl,by omega,pwrap_er 0 n _ w rfl⟩,pwrap_below _ _⟩
theorem pw_use (d:Nat) (hd:d<=2) (v:Value) (n:Int) (w:World) (h:Er w d v n):Calls Tryz.prog 48 #[v] w fun e w'=>∃ x,e=.returned (.iface 118 x)/\Hid (ErP w' (.iface 118 x) n)/\Below w.heap.size w w':=by
 obtain⟨t,x,rfl⟩:=h.iface
 refine (pwrap_any t x w).mono ?_
 rintro e w' ⟨rfl,rfl⟩
 exact⟨_,rfl,⟨_,d+1,rfl,by omega,pwrap_er d n _ w h⟩,pwrap_below _ _⟩
theorem pbroken (d:Nat) (hd:d<=2) (v:Value) (n:Int) (w:World) (h:Er w d v n):Calls Tryz.prog 29 #[v] w fun e w'=>∃ x,e=.returned (.iface 118 x)/\Hid (ErP w' (.iface 118 x) 1)/\Below w.heap.size w w':=by
 obtain⟨t,x,rfl⟩:=h.iface
 have H:=zh h
 clear h
 by_cases h:n=1
 ·subst h
  go_enter Tryz.func29,Tryz.ntmps29
  go_wp2_with (first | (go_at_call 46;refine (er_Is d (by omega) _ 1 1 _ (uh H)).mono ?_;rintro e w' ⟨rfl,rfl⟩) | (go_at_call 48;refine (pw_use d hd _ 1 _ (uh H)).mono ?_;rintro e w' ⟨E,rfl,hE,hb⟩))
  go_ret
  exact⟨_,rfl,hE,hb⟩
 ·have hb:(n == 1)=false:=beq_eq_false_iff_ne.2 h
  go_enter Tryz.func29,Tryz.ntmps29
  go_wp2_with (first | (go_at_call 46;refine (er_Is d (by omega) _ n 1 _ (uh H)).mono ?_;rintro e w' ⟨rfl,rfl⟩) | (go_at_call 25;refine (pf_use 1 _).mono ?_;rintro e w' ⟨E,rfl,hE,hb'⟩))
  go_ret
  exact⟨_,rfl,hE,hb'⟩
end Go.Proofs.YtpheelbbpiieiaaGreatDoor.K
namespace Go.Proofs.YtpheelbbpiieiaaGreatDoor.K
open Go.RowKit
set_option maxRecDepth 100000
def Wtr (w:World) (W:Nat) (bv:Value) (sz:Int) (E:Value):Prop:=(w.cell? ⟨W,19,none⟩=some bv/\w.frozen? ⟨W,19,none⟩=false)/\(w.cell? ⟨W,20,none⟩=some (.int .i64 sz)/\w.frozen? ⟨W,20,none⟩=false)/\w.cell? ⟨W,21,none⟩=some E/\w.frozen? ⟨W,21,none⟩=false
theorem Wtr.setE {w:World} {W:Nat} {bv E u:Value} {sz:Int} (h:Wtr w W bv sz E):Wtr (w.setCell ⟨W,21,none⟩ u) W bv sz u:=by
 obtain⟨⟨a1,a2⟩,⟨b1,b2⟩,c1,c2⟩:=h
 exact⟨⟨(World.cell?_setCell_other _ _ _ _ (by intro e;simp at e)).trans a1,by simpa using a2⟩,⟨(World.cell?_setCell_other _ _ _ _ (by intro e;simp at e)).trans b1,by simpa using b2⟩,World.cell?_setCell_same _ _ _ c1,by simpa using c2⟩
theorem wmust_true (W:Nat) (w:World):Calls Tryz.prog 109 #[.pointer (some ⟨W,0,none⟩),.bool true] w fun e w'=>e=.returned (.tuple #[])/\w'=w:=by
 go_enter Tryz.func109,Tryz.ntmps109
 go_wp2
 go_end0
 exact⟨rfl,rfl⟩
end Go.Proofs.YtpheelbbpiieiaaGreatDoor.K
