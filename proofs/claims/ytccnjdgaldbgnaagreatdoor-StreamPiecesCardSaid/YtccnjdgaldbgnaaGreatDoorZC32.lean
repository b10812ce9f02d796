/- Proved here: helpers, one text behind the other. -/
import Derived.Test.YtccnjdgaldbgnaaGreatDoorProg
import Derived.Test.YtccnjdgaldbgnaaGreatDoorZC6
import Derived.Test.YtccnjdgaldbgnaaGreatDoorChecked
import Derived.Handy
import Derived.Test.YtccnjdgaldbgnaaGreatDoorZC1
set_option maxHeartbeats 20000000
namespace Go.Proofs.YtccnjdgaldbgnaaGreatDoor.K
open Go.RowKit
set_option maxRecDepth 100000
def Wtr (w:World) (W:Nat) (bv:Value) (sz:Int) (E:Value):Prop:=(w.cell? ⟨W,19,none⟩=some bv/\w.frozen? ⟨W,19,none⟩=false)/\(w.cell? ⟨W,20,none⟩=some (.int .i64 sz)/\w.frozen? ⟨W,20,none⟩=false)/\w.cell? ⟨W,21,none⟩=some E/\w.frozen? ⟨W,21,none⟩=false
abbrev is20 (j:Nat):Prop:=j=20
abbrev is21 (j:Nat):Prop:=j=21
theorem Wtr.setE {w:World} {W:Nat} {bv E u:Value} {sz:Int} (h:Wtr w W bv sz E):Wtr (w.setCell ⟨W,21,none⟩ u) W bv sz u:=by
 obtain⟨⟨a1,a2⟩,⟨b1,b2⟩,c1,c2⟩:=h
 exact⟨⟨(World.cell?_setCell_other _ _ _ _ (by intro e;simp at e)).trans a1,by simpa using a2⟩,⟨(World.cell?_setCell_other _ _ _ _ (by intro e;simp at e)).trans b1,by simpa using b2⟩,World.cell?_setCell_same _ _ _ c1,by simpa using c2⟩
theorem Wtr.setS {w:World} {W:Nat} {bv E:Value} {sz s':Int} (h:Wtr w W bv sz E):Wtr (w.setCell ⟨W,20,none⟩ (.int .i64 s')) W bv s' E:=by
 obtain⟨⟨a1,a2⟩,⟨b1,b2⟩,c1,c2⟩:=h
 exact⟨⟨(World.cell?_setCell_other _ _ _ _ (by intro e;simp at e)).trans a1,by simpa using a2⟩,⟨World.cell?_setCell_same _ _ _ b1,by simpa using b2⟩,(World.cell?_setCell_other _ _ _ _ (by intro e;simp at e)).trans c1,by simpa using c2⟩
theorem wfail_new (W:Nat) (bv:Value) (sz:Int) (t:TypeId) (x:Value) (w:World) (h:Wtr w W bv sz .nilIface):Calls Tryz.prog 70 #[.pointer (some ⟨W,0,none⟩),.iface t x] w fun e w'=>e=.returned (.tuple #[])/\Wtr w' W bv sz (.iface t x)/\BX W is21 w w':=by
 have HW:=zh h
 obtain⟨-,-,c1,c2⟩:=h
 go_enter Tryz.func70,Tryz.ntmps70
 go_wp2
 go_end0
 exact⟨rfl,(uh HW).setE,(BX.refl _ _ _).set 21 _ rfl⟩
theorem wfail_nil (W:Nat) (bv:Value) (sz:Int) (w:World) (h:Wtr w W bv sz .nilIface):Calls Tryz.prog 70 #[.pointer (some ⟨W,0,none⟩),.nilIface] w fun e w'=>e=.returned (.tuple #[])/\Wtr w' W bv sz .nilIface/\BX W is21 w w':=by
 have HW:=zh h
 obtain⟨-,-,c1,c2⟩:=h
 go_enter Tryz.func70,Tryz.ntmps70
 go_wp2
 go_end0
 exact⟨rfl,(uh HW).setE,(BX.refl _ _ _).set 21 _ rfl⟩
theorem wfail_old (W:Nat) (bv E:Value) (sz:Int) (t:TypeId) (x:Value) (w:World) (h:Wtr w W bv sz (.iface t x)):Calls Tryz.prog 70 #[.pointer (some ⟨W,0,none⟩),E] w fun e w'=>e=.returned (.tuple #[])/\w'=w:=by
 obtain⟨-,-,c1,c2⟩:=h
 go_enter Tryz.func70,Tryz.ntmps70
 go_wp2
 go_end0
 exact⟨rfl,rfl⟩
theorem wmust_true (W:Nat) (w:World):Calls Tryz.prog 45 #[.pointer (some ⟨W,0,none⟩),.bool true] w fun e w'=>e=.returned (.tuple #[])/\w'=w:=by
 go_enter Tryz.func45,Tryz.ntmps45
 go_wp2
 go_end0
 exact⟨rfl,rfl⟩
theorem wmust_new (W:Nat) (bv:Value) (sz:Int) (w:World) (h:Wtr w W bv sz .nilIface):Calls Tryz.prog 45 #[.pointer (some ⟨W,0,none⟩),.bool false] w fun e w'=>e=.returned (.tuple #[])/\Wtr w' W bv sz (.iface 47 (.int .i64 1))/\BX W is21 w w':=by
 have HR:=zh h
 clear h
 go_enter Tryz.func45,Tryz.ntmps45
 go_wp2_with fail
 refine (wfail_new W bv sz _ _ w (uh HR)).mono ?_
 rintro e w' ⟨rfl,hr,hx⟩
 have H1:=zh hr
 have H2:=zh hx
 clear hr hx
 go_wp2
 go_end0
 exact⟨rfl,uh H1,uh H2⟩
theorem wmust_old (W:Nat) (bv:Value) (sz:Int) (t:TypeId) (x:Value) (w:World) (h:Wtr w W bv sz (.iface t x)):Calls Tryz.prog 45 #[.pointer (some ⟨W,0,none⟩),.bool false] w fun e w'=>e=.returned (.tuple #[])/\w'=w:=by
 have HR:=zh h
 clear h
 go_enter Tryz.func45,Tryz.ntmps45
 go_wp2_with fail
 refine (wfail_old W bv _ sz t x w (uh HR)).mono ?_
 rintro e w' ⟨rfl,hw⟩
 obtain rfl:=hw.symm
 clear hw
 go_wp2
 go_end0
 exact⟨rfl,rfl⟩
theorem room_any (W:Nat) (bv E:Value) (sz n:Int) (w:World) (h:Wtr w W bv sz E) (h0:0<=sz) (h1:sz<=4611686018427387904) (h2:0<=n) (h3:n<=4611686018427387904 - 1):Calls Tryz.prog 65 #[.pointer (some ⟨W,0,none⟩),.int .i64 n] w fun e w'=>e=.returned (.bool (decide (sz+n<=65536)))/\Wtr w' W bv (sz+n) E/\BX W is20 w w':=by
 have HW:=zh h
 obtain⟨-,⟨b1,b2⟩,-,-⟩:=h
 have hs:(w.setCell ⟨W,20,none⟩ (.int .i64 (sz+n))).cell? ⟨W,20,none⟩=some (.int .i64 (sz+n)):=World.cell?_setCell_same _ _ _ b1
 go_enter Tryz.func65,Tryz.ntmps65
 go_wp2
 go_ret
 exact⟨rfl,(uh HW).setS,(BX.refl _ _ _).set 20 _ rfl⟩
structure FB (S:Nat) (row:Option Nat) (w w':World):Prop where
 os:w'.os=w.os
 tape:w'.tape=w.tape
 output:w'.output=w.output
 size:w.heap.size<=w'.heap.size
 block:∀ k,k < w.heap.size->k≠S->some k≠row->w'.heap[k]?=w.heap[k]?
theorem FB.refl (S:Nat) (row:Option Nat) (w:World):FB S row w w:=⟨rfl,rfl,rfl,Nat.le_refl _,fun _ _ _ _=>rfl⟩
theorem FB.trans {S:Nat} {row row':Option Nat} {a b c:World} (h:FB S row a b) (k:FB S row' b c) (hr:∀ g,row'=some g->row=some g\/a.heap.size<=g):FB S row a c :=
 ⟨k.os.trans h.os,k.tape.trans h.tape,k.output.trans h.output,Nat.le_trans h.size k.size,fun i hi hS hrow=>(k.block i (Nat.lt_of_lt_of_le hi h.size) hS (fun e=>by
  rcases hr i e.symm with e' | e'
  ·exact hrow e'.symm
  ·omega)).trans (h.block i hi hS hrow)⟩
theorem FB.of_below {S:Nat} {row:Option Nat} {a b:World} (h:Below a.heap.size a b):FB S row a b:=⟨h.os,h.tape,h.output,h.size,fun k hk _ _=>h.block k hk⟩
theorem FB.of_grown {S:Nat} {row:Option Nat} {a b:World} (h:a.grownBy b row):FB S row a b:=⟨h.os,h.tape,h.output,h.size,fun k hk _ hr=>h.block k hk hr⟩
theorem FB.of_bx {S:Nat} {row:Option Nat} {may:Nat->Prop} {a b:World} (h:BX S may a b):FB S row a b:=⟨h.os,h.tape,h.output,h.size,fun k hk hS _=>h.block k hk hS⟩
theorem owns_blk {w:World} {B:Nat} {e:TypeId} {s:Nat} {v:Value} {n:Nat} {xs:List Value} (h:w.ownsRow B e s v n xs):∀ g,v.ownBlock=some g->B<=g:=by
 intro g hg
 rcases h.2 with⟨rfl,_⟩ | ⟨g',cap,cur,rfl,hB,_⟩
 ·cases hg
 ·cases hg
  exact hB
structure FW (W:Nat) (row:Option Nat) (w w':World):Prop where
 fb:FB W row w w'
 cell:∀ j,j < 19->w'.cell? ⟨W,j,none⟩=w.cell? ⟨W,j,none⟩
 frozen:∀ j,j < 19->w'.frozen? ⟨W,j,none⟩=w.frozen? ⟨W,j,none⟩
abbrev isT (j:Nat):Prop:=19<=j
theorem FW.of_bx {W:Nat} {row:Option Nat} {may:Nat->Prop} {a b:World} (h:BX W may a b) (hm:∀ j,may j->19<=j):FW W row a b:=⟨FB.of_bx h,fun j hj=>h.cell j (fun e=>by have:=hm j e;omega),fun j _=>h.frozen j⟩
theorem FW.of_below {W:Nat} {row:Option Nat} {a b:World} (h:Below a.heap.size a b) (hW:W < a.heap.size):FW W row a b:=⟨FB.of_below h,fun _ _=>h.cell hW,fun _ _=>h.frozen hW⟩
theorem FW.of_grown {W:Nat} {row:Option Nat} {a b:World} (h:a.grownBy b row) (hW:W < a.heap.size) (hr:some W≠row):FW W row a b:=by
 have hb:=h.block W hW hr
 exact⟨FB.of_grown h,fun _ _=>World.cell?_of_block hb,fun _ _=>World.frozen?_of_block hb⟩
theorem FW.trans {W:Nat} {row row':Option Nat} {a b c:World} (h:FW W row a b) (k:FW W row' b c) (hr:∀ g,row'=some g->row=some g\/a.heap.size<=g):FW W row a c :=
 ⟨h.fb.trans k.fb hr,fun j hj=>(k.cell j hj).trans (h.cell j hj),fun j hj=>(k.frozen j hj).trans (h.frozen j hj)⟩
def Tells (w:World) (f:Nat) (x y:Value) (c:Bool):Prop:=∀ W,Below w.heap.size w W->Calls Tryz.prog f #[x,y] W fun e w'=>e=.returned (.bool c)/\Below W.heap.size W w'
theorem eqpk_yes (a0 b0:Int) (a1 b1:Bool) (a2 b2:Int) (a3 b3:Bool) (a4 b4:ByteArray) (a5 b5:Int) (a6 b6:ByteArray) (a7 b7:Value) (a8 b8:ByteArray) (a9 b9:Bool) (a10 b10:Int) (a11 b11:Value) (a12 b12:Value) (a13 b13:Value) (a14 b14:Int) (a15 b15:Bool) (a16 b16:Value) (a17 b17:Value) (a18 b18:Value) (w:World) (k0:(a0 == b0)=true) (k1:(a1 == b1)=true) (k2:(a2 == b2)=true) (k3:(a3 == b3)=true) (k4:(a4.toList == b4.toList)=true) (k5:(a5 == b5)=true) (k6:(a6.toList == b6.toList)=true) (k7:Hid (Tells w 27 a7 b7 true)) (k8:(a8.toList == b8.toList)=true) (k9:(a9 == b9)=true) (k10:(a10 == b10)=true) (k11:Hid (Tells w 28 a11 b11 true)) (k12:Hid (Tells w 29 a12 b12 true)) (k13:Hid (Tells w 29 a13 b13 true)) (k14:(a14 == b14)=true) (k15:(a15 == b15)=true) (k16:Hid (Tells w 30 a16 b16 true)) (k17:Hid (Tells w 29 a17 b17 true)) (k18:Hid (Tells w 31 a18 b18 true)) :
  Calls Tryz.prog 17 #[.agg #[.int .i64 a0,.bool a1,.int .i64 a2,.bool a3,.string a4,.int .i64 a5,.string a6,a7,.string a8,.bool a9,.int .i64 a10,a11,a12,a13,.int .i64 a14,.bool a15,a16,a17,a18],.agg #[.int .i64 b0,.bool b1,.int .i64 b2,.bool b3,.string b4,.int .i64 b5,.string b6,b7,.string b8,.bool b9,.int .i64 b10,b11,b12,b13,.int .i64 b14,.bool b15,b16,b17,b18]] w fun e w'=>e=.returned (.bool true)/\Below w.heap.size w w':=by
 go_enter Tryz.func17,Tryz.ntmps17
 go_wp2_with fail
 refine ((uh k7) _ (by go_grown)).mono ?_
 rintro e w7 ⟨rfl,hb7⟩
 have HB7:Hid (Below w.heap.size w w7):=Below.trans (by go_grown) (hb7.mono (by simp;omega))
 have hc7:=fun (b o:Nat) (h:b < w.heap.size+2)=>hb7.cell (p:=(⟨b,o,none⟩:Addr)) (show b < _ by simp;omega)
 have hz7:w.heap.size+2<=w7.heap.size:=by (have:=hb7.size;  (try simp at this);  omega)
 clear hb7
 go_wp2_with fail
 refine ((uh k11) _ (uh HB7)).mono ?_
 rintro e w11 ⟨rfl,hb11⟩
 have HB11:Hid (Below w.heap.size w w11):=(uh HB7).trans (hb11.mono (uh HB7).size)
 have hc11:=fun (b o:Nat) (h:b < w.heap.size+2)=>(hb11.cell (p:=(⟨b,o,none⟩:Addr)) (show b < _ by omega)).trans (hc7 b o h)
 clear hc7
 have hz11:w.heap.size+2<=w11.heap.size:=by (have:=hb11.size;  (try simp at this);  omega)
 clear hb11
 go_wp2_with fail
 refine ((uh k12) _ (uh HB11)).mono ?_
 rintro e w12 ⟨rfl,hb12⟩
 have HB12:Hid (Below w.heap.size w w12):=(uh HB11).trans (hb12.mono (uh HB11).size)
 have hc12:=fun (b o:Nat) (h:b < w.heap.size+2)=>(hb12.cell (p:=(⟨b,o,none⟩:Addr)) (show b < _ by omega)).trans (hc11 b o h)
 clear hc11
 have hz12:w.heap.size+2<=w12.heap.size:=by (have:=hb12.size;  (try simp at this);  omega)
 clear hb12
 go_wp2_with fail
 refine ((uh k13) _ (uh HB12)).mono ?_
 rintro e w13 ⟨rfl,hb13⟩
 have HB13:Hid (Below w.heap.size w w13):=(uh HB12).trans (hb13.mono (uh HB12).size)
 have hc13:=fun (b o:Nat) (h:b < w.heap.size+2)=>(hb13.cell (p:=(⟨b,o,none⟩:Addr)) (show b < _ by omega)).trans (hc12 b o h)
 clear hc12
 have hz13:w.heap.size+2<=w13.heap.size:=by (have:=hb13.size;  (try simp at this);  omega)
 clear hb13
 go_wp2_with fail
 refine ((uh k16) _ (uh HB13)).mono ?_
 rintro e w16 ⟨rfl,hb16⟩
 have HB16:Hid (Below w.heap.size w w16):=(uh HB13).trans (hb16.mono (uh HB13).size)
 have hc16:=fun (b o:Nat) (h:b < w.heap.size+2)=>(hb16.cell (p:=(⟨b,o,none⟩:Addr)) (show b < _ by omega)).trans (hc13 b o h)
 clear hc13
 have hz16:w.heap.size+2<=w16.heap.size:=by (have:=hb16.size;  (try simp at this);  omega)
 clear hb16
 go_wp2_with fail
 refine ((uh k17) _ (uh HB16)).mono ?_
 rintro e w17 ⟨rfl,hb17⟩
 have HB17:Hid (Below w.heap.size w w17):=(uh HB16).trans (hb17.mono (uh HB16).size)
 have hc17:=fun (b o:Nat) (h:b < w.heap.size+2)=>(hb17.cell (p:=(⟨b,o,none⟩:Addr)) (show b < _ by omega)).trans (hc16 b o h)
 clear hc16
 have hz17:w.heap.size+2<=w17.heap.size:=by (have:=hb17.size;  (try simp at this);  omega)
 clear hb17
 go_wp2_with fail
 refine ((uh k18) _ (uh HB17)).mono ?_
 rintro e w18 ⟨rfl,hb18⟩
 have HB18:Hid (Below w.heap.size w w18):=(uh HB17).trans (hb18.mono (uh HB17).size)
 have hc18:=fun (b o:Nat) (h:b < w.heap.size+2)=>(hb18.cell (p:=(⟨b,o,none⟩:Addr)) (show b < _ by omega)).trans (hc17 b o h)
 clear hc17
 have hz18:w.heap.size+2<=w18.heap.size:=by (have:=hb18.size;  (try simp at this);  omega)
 clear hb18
 go_wp2
 go_ret
 exact⟨rfl,uh HB18⟩
end Go.Proofs.YtccnjdgaldbgnaaGreatDoor.K
