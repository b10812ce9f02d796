/- Helpers of the proof. -/
import Derived.Test.YtmpijpjlbhfccaaGreatDoorZC16
import Derived.Test.YtmpijpjlbhfccaaGreatDoorZC24
import Derived.Test.YtmpijpjlbhfccaaGreatDoorZC25
import Derived.Handy
set_option maxHeartbeats 20000000
namespace Go.Proofs.YtmpijpjlbhfccaaGreatDoor
open Go.RowKit Go.Extern.Stop Go.Stop Go.Extern
theorem er_as (d:Nat) (hd:d<=3) (v:Value) (n:Int) (t:Addr) (old:Value) (w:World) (hg:Laid w) (h:Er w d v n) (ht0:w.cell? t=some old) (hf0:w.frozen? t=false) :
  Calls Tryz.prog 75 #[v,.iface 116 (.pointer (some t))] w fun ev w'=>ev=.returned (.bool true)/\w'=((((w.alloc (.cells #[.pointer (some t)] 116)).alloc (.cells #[.pointer (some ⟨1,116,none⟩),.pointer (some ⟨w.heap.size,0,none⟩),.int .u64 150] 154)).alloc (.cells #[.pointer (some ⟨1,116,none⟩),.pointer (some ⟨w.heap.size,0,none⟩),.int .u64 150] 154)).alloc (.cells #[.int .i64 n] 61)).setCell t (.int .i64 n):=by
 match d,hd,h with
 | 0,_,h=>cases h;exact er_as0 n t old w hg ht0 hf0
 | 1,_,⟨b,u,h1,h2,h3⟩=>cases h1;cases h3;exact er_as1 b n t old w hg h2 ht0 hf0
 | 2,_,⟨b,u,h1,h2,b',u',h3,h4,h5⟩=>cases h1;cases h3;cases h5;exact er_as2 b b' n t old w hg h2 h4 ht0 hf0
 | 3,_,⟨b,u,h1,h2,b',u',h3,h4,b'',u'',h5,h6,h7⟩=>cases h1;cases h3;cases h5;cases h7;exact er_as3 b b' b'' n t old w hg h2 h4 h6 ht0 hf0
theorem er_num (d:Nat) (hd:d<=3) (v:Value) (n:Int) (w:World) (hg:Laid w) (h:Er w d v n) :
  Calls Tryz.prog 31 #[v] w fun e w'=>e=.returned (.int .i64 n)/\Below w.heap.size w w':=by
 have hB:Below w.heap.size w (w.alloc (.cells #[.int .i64 0] 61)):=bal _ _
 have HG:=zh (hg.below hB hg.pos)
 have HE:=zh (h.below hB)
 obtain⟨tt,x,rfl⟩:=h.iface
 clear hg h hB
 go_enter Tryz.func31,Tryz.ntmps31
 go_wp2_with fail
 refine (er_as d hd _ n ⟨w.heap.size,0,none⟩ (.int .i64 0) _ (uh HG) (uh HE) (by simp) (by simp)).mono ?_
 rintro e w' ⟨rfl,rfl⟩
 go_wp2
 go_ret
 refine⟨rfl,?_⟩
 exact ((((((bal _ _).alloc (by simp) _).alloc (by simp;omega) _).alloc (by simp;omega) _).alloc (by simp;omega) _))
def ErrX (w:World) (v:Value) (n:Int):Prop:=(n=0/\v=.nilIface)\/∃ d,d<=3/\Er w d v n
theorem ErrX.below {w w':World} {v:Value} {n:Int} (h:ErrX w v n) (hb:Below w.heap.size w w'):ErrX w' v n:=by
 rcases h with h|⟨d,hd,h⟩
 ·exact .inl h
 ·exact .inr ⟨d,hd,h.below hb⟩
theorem numx (v:Value) (n:Int) (w:World) (hg:Laid w) (hv:ErrX w v n):Calls Tryz.prog 31 #[v] w fun e w'=>e=.returned (.int .i64 n)/\Below w.heap.size w w':=by
 rcases hv with⟨rfl,rfl⟩|⟨d,hd,h⟩
 ·refine (num_nil w).mono ?_
  rintro e w' ⟨rfl,rfl⟩
  exact⟨rfl,Below.refl _ _⟩
 ·exact er_num d hd v n w hg h
end Go.Proofs.YtmpijpjlbhfccaaGreatDoor
namespace Go.Proofs.YtmpijpjlbhfccaaGreatDoor.K
open Go.RowKit Go.Extern.Stop Go.Stop Go.Extern
set_option maxRecDepth 100000
abbrev pwrapW (v:Value) (w:World):World:=w.alloc (.cells #[.string ⟨#[112,97,99,107,101,116]⟩,v] 127)
theorem pwrap_any (t:TypeId) (x:Value) (w:World):Calls Tryz.prog 46 #[.iface t x] w fun e w'=>e=.returned (.iface 125 (.pointer (some ⟨w.heap.size,0,none⟩)))/\w'=pwrapW (.iface t x) w:=by
 go_enter Tryz.func46,Tryz.ntmps46
 go_wp2
 go_ret
 exact⟨rfl,rfl⟩
theorem pfault_any (n:Int) (w:World):Calls Tryz.prog 23 #[.int .i64 n] w fun e w'=>e=.returned (.iface 125 (.pointer (some ⟨w.heap.size,0,none⟩)))/\w'=pwrapW (.iface 61 (.int .i64 n)) w:=by
 go_enter Tryz.func23,Tryz.ntmps23
 go_wp2_with (go_at_call 46;refine (pwrap_any _ _ _).mono ?_;rintro e w' ⟨rfl,rfl⟩)
 go_ret
 exact⟨rfl,rfl⟩
theorem pwrap_er (d:Nat) (n:Int) (v:Value) (w:World) (h:Er w d v n):Er (pwrapW v w) (d+1) (.iface 125 (.pointer (some ⟨w.heap.size,0,none⟩))) n :=
 ⟨w.heap.size,v,rfl,by simp,h.below (bal _ _)⟩
theorem pwrap_below (v:Value) (w:World):Below w.heap.size w (pwrapW v w):=bal _ _
def ErP (w:World) (E:Value) (n:Int):Prop:=∃ x d,E=.iface 125 x/\d<=3/\Er w d E n
theorem pf_use (n:Int) (w:World):Calls Tryz.prog 23 #[.int .i64 n] w fun e w'=>∃ x,e=.returned (.iface 125 x)/\Hid (ErP w' (.iface 125 x) n)/\Below w.heap.size w w':=by
 refine (pfault_any n w).mono ?_
 rintro e w' ⟨rfl,rfl⟩
 exact⟨_,rfl,⟨_,1,rfl,by omega,pwrap_er 0 n _ w rfl⟩,pwrap_below _ _⟩
theorem pw_use (d:Nat) (hd:d<=2) (v:Value) (n:Int) (w:World) (h:Er w d v n):Calls Tryz.prog 46 #[v] w fun e w'=>∃ x,e=.returned (.iface 125 x)/\Hid (ErP w' (.iface 125 x) n)/\Below w.heap.size w w':=by
 obtain⟨t,x,rfl⟩:=h.iface
 refine (pwrap_any t x w).mono ?_
 rintro e w' ⟨rfl,rfl⟩
 exact⟨_,rfl,⟨_,d+1,rfl,by omega,pwrap_er d n _ w h⟩,pwrap_below _ _⟩
theorem pbroken (d:Nat) (hd:d<=2) (v:Value) (n:Int) (w:World) (h:Er w d v n):Calls Tryz.prog 25 #[v] w fun e w'=>∃ x,e=.returned (.iface 125 x)/\Hid (ErP w' (.iface 125 x) 1)/\Below w.heap.size w w':=by
 obtain⟨t,x,rfl⟩:=h.iface
 have H:=zh h
 clear h
 by_cases h:n=1
 ·subst h
  go_enter Tryz.func25,Tryz.ntmps25
  go_wp2_with (first|(go_at_call 59;refine (er_Is d (by omega) _ 1 1 _ (uh H)).mono ?_;rintro e w' ⟨rfl,rfl⟩)|(go_at_call 46;refine (pw_use d hd _ 1 _ (uh H)).mono ?_;rintro e w' ⟨E,rfl,hE,hb⟩))
  go_ret
  exact⟨_,rfl,hE,hb⟩
 ·have hb:(n==1)=false:=beq_eq_false_iff_ne.2 h
  go_enter Tryz.func25,Tryz.ntmps25
  go_wp2_with (first|(go_at_call 59;refine (er_Is d (by omega) _ n 1 _ (uh H)).mono ?_;rintro e w' ⟨rfl,rfl⟩)|(go_at_call 23;refine (pf_use 1 _).mono ?_;rintro e w' ⟨E,rfl,hE,hb'⟩))
  go_ret
  exact⟨_,rfl,hE,hb'⟩
end Go.Proofs.YtmpijpjlbhfccaaGreatDoor.K
