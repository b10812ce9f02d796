/- Proved here: helpers, one text behind the other. -/
import Derived.Test.YtdkmmmjjdlnnoaaGreatDoorZC5
set_option maxHeartbeats 20000000
namespace Go.Proofs.YtdkmmmjjdlnnoaaGreatDoor.K
open Go.RowKit
set_option maxRecDepth 100000
theorem eqpk_no2 (a0 b0:Int) (a1 b1:Bool) (a2 b2:Int) (a3 b3:Bool) (a4 b4:ByteArray) (a5 b5:Int) (a6 b6:ByteArray) (a7 b7:Value) (a8 b8:ByteArray) (a9 b9:Bool) (a10 b10:Int) (a11 b11:Value) (a12 b12:Value) (a13 b13:Value) (a14 b14:Int) (a15 b15:Bool) (a16 b16:Value) (a17 b17:Value) (a18 b18:Value) (w:World) (k0:(a0 == b0)=true) (k1:(a1 == b1)=true) (k2:(a2 == b2)=false) :
  Calls Tryz.prog 24 #[.agg #[.int .i64 a0,.bool a1,.int .i64 a2,.bool a3,.string a4,.int .i64 a5,.string a6,a7,.string a8,.bool a9,.int .i64 a10,a11,a12,a13,.int .i64 a14,.bool a15,a16,a17,a18],.agg #[.int .i64 b0,.bool b1,.int .i64 b2,.bool b3,.string b4,.int .i64 b5,.string b6,b7,.string b8,.bool b9,.int .i64 b10,b11,b12,b13,.int .i64 b14,.bool b15,b16,b17,b18]] w fun e w'=>e=.returned (.bool false)/\Below w.heap.size w w':=by
 go_enter Tryz.func24,Tryz.ntmps24
 go_wp2
 go_ret
 exact⟨rfl,by go_grown⟩
theorem eqpk_no10 (a0 b0:Int) (a1 b1:Bool) (a2 b2:Int) (a3 b3:Bool) (a4 b4:ByteArray) (a5 b5:Int) (a6 b6:ByteArray) (a7 b7:Value) (a8 b8:ByteArray) (a9 b9:Bool) (a10 b10:Int) (a11 b11:Value) (a12 b12:Value) (a13 b13:Value) (a14 b14:Int) (a15 b15:Bool) (a16 b16:Value) (a17 b17:Value) (a18 b18:Value) (w:World) (k0:(a0 == b0)=true) (k1:(a1 == b1)=true) (k2:(a2 == b2)=true) (k3:(a3 == b3)=true) (k4:(a4.toList == b4.toList)=true) (k5:(a5 == b5)=true) (k6:(a6.toList == b6.toList)=true) (k7:Hid (Tells w 47 a7 b7 true)) (k8:(a8.toList == b8.toList)=true) (k9:(a9 == b9)=true) (k10:(a10 == b10)=false) :
  Calls Tryz.prog 24 #[.agg #[.int .i64 a0,.bool a1,.int .i64 a2,.bool a3,.string a4,.int .i64 a5,.string a6,a7,.string a8,.bool a9,.int .i64 a10,a11,a12,a13,.int .i64 a14,.bool a15,a16,a17,a18],.agg #[.int .i64 b0,.bool b1,.int .i64 b2,.bool b3,.string b4,.int .i64 b5,.string b6,b7,.string b8,.bool b9,.int .i64 b10,b11,b12,b13,.int .i64 b14,.bool b15,b16,b17,b18]] w fun e w'=>e=.returned (.bool false)/\Below w.heap.size w w':=by
 go_enter Tryz.func24,Tryz.ntmps24
 go_wp2_with fail
 refine ((uh k7) _ (by go_grown)).mono ?_
 rintro e w7 ⟨rfl,hb7⟩
 have HB7:Hid (Below w.heap.size w w7):=Below.trans (by go_grown) (hb7.mono (by simp;omega))
 have hc7:=fun (b o:Nat) (h:b < w.heap.size+2)=>hb7.cell (p:=(⟨b,o,none⟩:Addr)) (show b < _ by simp;omega)
 have hz7:w.heap.size+2<=w7.heap.size:=by (have:=hb7.size;  (try simp at this);  omega)
 clear hb7
 go_wp2
 go_ret
 exact⟨rfl,uh HB7⟩
theorem eqpk_no18 (a0 b0:Int) (a1 b1:Bool) (a2 b2:Int) (a3 b3:Bool) (a4 b4:ByteArray) (a5 b5:Int) (a6 b6:ByteArray) (a7 b7:Value) (a8 b8:ByteArray) (a9 b9:Bool) (a10 b10:Int) (a11 b11:Value) (a12 b12:Value) (a13 b13:Value) (a14 b14:Int) (a15 b15:Bool) (a16 b16:Value) (a17 b17:Value) (a18 b18:Value) (w:World) (k0:(a0 == b0)=true) (k1:(a1 == b1)=true) (k2:(a2 == b2)=true) (k3:(a3 == b3)=true) (k4:(a4.toList == b4.toList)=true) (k5:(a5 == b5)=true) (k6:(a6.toList == b6.toList)=true) (k7:Hid (Tells w 47 a7 b7 true)) (k8:(a8.toList == b8.toList)=true) (k9:(a9 == b9)=true) (k10:(a10 == b10)=true) (k11:Hid (Tells w 48 a11 b11 true)) (k12:Hid (Tells w 49 a12 b12 true)) (k13:Hid (Tells w 49 a13 b13 true)) (k14:(a14 == b14)=true) (k15:(a15 == b15)=true) (k16:Hid (Tells w 50 a16 b16 true)) (k17:Hid (Tells w 49 a17 b17 true)) (k18:Hid (Tells w 51 a18 b18 false)) :
  Calls Tryz.prog 24 #[.agg #[.int .i64 a0,.bool a1,.int .i64 a2,.bool a3,.string a4,.int .i64 a5,.string a6,a7,.string a8,.bool a9,.int .i64 a10,a11,a12,a13,.int .i64 a14,.bool a15,a16,a17,a18],.agg #[.int .i64 b0,.bool b1,.int .i64 b2,.bool b3,.string b4,.int .i64 b5,.string b6,b7,.string b8,.bool b9,.int .i64 b10,b11,b12,b13,.int .i64 b14,.bool b15,b16,b17,b18]] w fun e w'=>e=.returned (.bool false)/\Below w.heap.size w w':=by
 go_enter Tryz.func24,Tryz.ntmps24
 go_wp2_with fail
 refine ((uh k7) _ (by go_grown)).mono ?_
 rintro e w7 ⟨rfl,hb7⟩
 have HB7:Hid (Below w.heap.size w w7):=Below.trans (by go_grown) (hb7.mono (by simp;omega))
 have hc7:=fun (b o:Nat) (h:b < w.heap.size+2)=>hb7.cell (p:=(⟨b,o,none⟩:Addr)) (show b < _ by simp;omega)
 have hz7:w.heap.size+2<=w7.heap.size:=by (have:=hb7.size;  (try simp at this);  omega)
 clear hb7
 go_wp2_with fail
 refine ((uh k11) _ (uh HB7)).mono ?_
 rintro e w11 ⟨rfl,hb11⟩
 have HB11:Hid (Below w.heap.size w w11):=(uh HB7).trans (hb11.mono (uh HB7).size)
 have hc11:=fun (b o:Nat) (h:b < w.heap.size+2)=>(hb11.cell (p:=(⟨b,o,none⟩:Addr)) (show b < _ by omega)).trans (hc7 b o h)
 clear hc7
 have hz11:w.heap.size+2<=w11.heap.size:=by (have:=hb11.size;  (try simp at this);  omega)
 clear hb11
 go_wp2_with fail
 refine ((uh k12) _ (uh HB11)).mono ?_
 rintro e w12 ⟨rfl,hb12⟩
 have HB12:Hid (Below w.heap.size w w12):=(uh HB11).trans (hb12.mono (uh HB11).size)
 have hc12:=fun (b o:Nat) (h:b < w.heap.size+2)=>(hb12.cell (p:=(⟨b,o,none⟩:Addr)) (show b < _ by omega)).trans (hc11 b o h)
 clear hc11
 have hz12:w.heap.size+2<=w12.heap.size:=by (have:=hb12.size;  (try simp at this);  omega)
 clear hb12
 go_wp2_with fail
 refine ((uh k13) _ (uh HB12)).mono ?_
 rintro e w13 ⟨rfl,hb13⟩
 have HB13:Hid (Below w.heap.size w w13):=(uh HB12).trans (hb13.mono (uh HB12).size)
 have hc13:=fun (b o:Nat) (h:b < w.heap.size+2)=>(hb13.cell (p:=(⟨b,o,none⟩:Addr)) (show b < _ by omega)).trans (hc12 b o h)
 clear hc12
 have hz13:w.heap.size+2<=w13.heap.size:=by (have:=hb13.size;  (try simp at this);  omega)
 clear hb13
 go_wp2_with fail
 refine ((uh k16) _ (uh HB13)).mono ?_
 rintro e w16 ⟨rfl,hb16⟩
 have HB16:Hid (Below w.heap.size w w16):=(uh HB13).trans (hb16.mono (uh HB13).size)
 have hc16:=fun (b o:Nat) (h:b < w.heap.size+2)=>(hb16.cell (p:=(⟨b,o,none⟩:Addr)) (show b < _ by omega)).trans (hc13 b o h)
 clear hc13
 have hz16:w.heap.size+2<=w16.heap.size:=by (have:=hb16.size;  (try simp at this);  omega)
 clear hb16
 go_wp2_with fail
 refine ((uh k17) _ (uh HB16)).mono ?_
 rintro e w17 ⟨rfl,hb17⟩
 have HB17:Hid (Below w.heap.size w w17):=(uh HB16).trans (hb17.mono (uh HB16).size)
 have hc17:=fun (b o:Nat) (h:b < w.heap.size+2)=>(hb17.cell (p:=(⟨b,o,none⟩:Addr)) (show b < _ by omega)).trans (hc16 b o h)
 clear hc16
 have hz17:w.heap.size+2<=w17.heap.size:=by (have:=hb17.size;  (try simp at this);  omega)
 clear hb17
 go_wp2_with fail
 refine ((uh k18) _ (uh HB17)).mono ?_
 rintro e w18 ⟨rfl,hb18⟩
 have HB18:Hid (Below w.heap.size w w18):=(uh HB17).trans (hb18.mono (uh HB17).size)
 have hc18:=fun (b o:Nat) (h:b < w.heap.size+2)=>(hb18.cell (p:=(⟨b,o,none⟩:Addr)) (show b < _ by omega)).trans (hc17 b o h)
 clear hc17
 have hz18:w.heap.size+2<=w18.heap.size:=by (have:=hb18.size;  (try simp at this);  omega)
 clear hb18
 go_wp2
 go_ret
 exact⟨rfl,uh HB18⟩
theorem eqpk_no5 (a0 b0:Int) (a1 b1:Bool) (a2 b2:Int) (a3 b3:Bool) (a4 b4:ByteArray) (a5 b5:Int) (a6 b6:ByteArray) (a7 b7:Value) (a8 b8:ByteArray) (a9 b9:Bool) (a10 b10:Int) (a11 b11:Value) (a12 b12:Value) (a13 b13:Value) (a14 b14:Int) (a15 b15:Bool) (a16 b16:Value) (a17 b17:Value) (a18 b18:Value) (w:World) (k0:(a0 == b0)=true) (k1:(a1 == b1)=true) (k2:(a2 == b2)=true) (k3:(a3 == b3)=true) (k4:(a4.toList == b4.toList)=true) (k5:(a5 == b5)=false) :
  Calls Tryz.prog 24 #[.agg #[.int .i64 a0,.bool a1,.int .i64 a2,.bool a3,.string a4,.int .i64 a5,.string a6,a7,.string a8,.bool a9,.int .i64 a10,a11,a12,a13,.int .i64 a14,.bool a15,a16,a17,a18],.agg #[.int .i64 b0,.bool b1,.int .i64 b2,.bool b3,.string b4,.int .i64 b5,.string b6,b7,.string b8,.bool b9,.int .i64 b10,b11,b12,b13,.int .i64 b14,.bool b15,b16,b17,b18]] w fun e w'=>e=.returned (.bool false)/\Below w.heap.size w w':=by
 go_enter Tryz.func24,Tryz.ntmps24
 go_wp2
 go_ret
 exact⟨rfl,by go_grown⟩
theorem eqpk_no13 (a0 b0:Int) (a1 b1:Bool) (a2 b2:Int) (a3 b3:Bool) (a4 b4:ByteArray) (a5 b5:Int) (a6 b6:ByteArray) (a7 b7:Value) (a8 b8:ByteArray) (a9 b9:Bool) (a10 b10:Int) (a11 b11:Value) (a12 b12:Value) (a13 b13:Value) (a14 b14:Int) (a15 b15:Bool) (a16 b16:Value) (a17 b17:Value) (a18 b18:Value) (w:World) (k0:(a0 == b0)=true) (k1:(a1 == b1)=true) (k2:(a2 == b2)=true) (k3:(a3 == b3)=true) (k4:(a4.toList == b4.toList)=true) (k5:(a5 == b5)=true) (k6:(a6.toList == b6.toList)=true) (k7:Hid (Tells w 47 a7 b7 true)) (k8:(a8.toList == b8.toList)=true) (k9:(a9 == b9)=true) (k10:(a10 == b10)=true) (k11:Hid (Tells w 48 a11 b11 true)) (k12:Hid (Tells w 49 a12 b12 true)) (k13:Hid (Tells w 49 a13 b13 false)) :
  Calls Tryz.prog 24 #[.agg #[.int .i64 a0,.bool a1,.int .i64 a2,.bool a3,.string a4,.int .i64 a5,.string a6,a7,.string a8,.bool a9,.int .i64 a10,a11,a12,a13,.int .i64 a14,.bool a15,a16,a17,a18],.agg #[.int .i64 b0,.bool b1,.int .i64 b2,.bool b3,.string b4,.int .i64 b5,.string b6,b7,.string b8,.bool b9,.int .i64 b10,b11,b12,b13,.int .i64 b14,.bool b15,b16,b17,b18]] w fun e w'=>e=.returned (.bool false)/\Below w.heap.size w w':=by
 go_enter Tryz.func24,Tryz.ntmps24
 go_wp2_with fail
 refine ((uh k7) _ (by go_grown)).mono ?_
 rintro e w7 ⟨rfl,hb7⟩
 have HB7:Hid (Below w.heap.size w w7):=Below.trans (by go_grown) (hb7.mono (by simp;omega))
 have hc7:=fun (b o:Nat) (h:b < w.heap.size+2)=>hb7.cell (p:=(⟨b,o,none⟩:Addr)) (show b < _ by simp;omega)
 have hz7:w.heap.size+2<=w7.heap.size:=by (have:=hb7.size;  (try simp at this);  omega)
 clear hb7
 go_wp2_with fail
 refine ((uh k11) _ (uh HB7)).mono ?_
 rintro e w11 ⟨rfl,hb11⟩
 have HB11:Hid (Below w.heap.size w w11):=(uh HB7).trans (hb11.mono (uh HB7).size)
 have hc11:=fun (b o:Nat) (h:b < w.heap.size+2)=>(hb11.cell (p:=(⟨b,o,none⟩:Addr)) (show b < _ by omega)).trans (hc7 b o h)
 clear hc7
 have hz11:w.heap.size+2<=w11.heap.size:=by (have:=hb11.size;  (try simp at this);  omega)
 clear hb11
 go_wp2_with fail
 refine ((uh k12) _ (uh HB11)).mono ?_
 rintro e w12 ⟨rfl,hb12⟩
 have HB12:Hid (Below w.heap.size w w12):=(uh HB11).trans (hb12.mono (uh HB11).size)
 have hc12:=fun (b o:Nat) (h:b < w.heap.size+2)=>(hb12.cell (p:=(⟨b,o,none⟩:Addr)) (show b < _ by omega)).trans (hc11 b o h)
 clear hc11
 have hz12:w.heap.size+2<=w12.heap.size:=by (have:=hb12.size;  (try simp at this);  omega)
 clear hb12
 go_wp2_with fail
 refine ((uh k13) _ (uh HB12)).mono ?_
 rintro e w13 ⟨rfl,hb13⟩
 have HB13:Hid (Below w.heap.size w w13):=(uh HB12).trans (hb13.mono (uh HB12).size)
 have hc13:=fun (b o:Nat) (h:b < w.heap.size+2)=>(hb13.cell (p:=(⟨b,o,none⟩:Addr)) (show b < _ by omega)).trans (hc12 b o h)
 clear hc12
 have hz13:w.heap.size+2<=w13.heap.size:=by (have:=hb13.size;  (try simp at this);  omega)
 clear hb13
 go_wp2
 go_ret
 exact⟨rfl,uh HB13⟩
end Go.Proofs.YtdkmmmjjdlnnoaaGreatDoor.K
