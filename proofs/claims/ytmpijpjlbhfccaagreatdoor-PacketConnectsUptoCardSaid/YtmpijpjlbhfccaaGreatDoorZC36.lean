/- Helpers of the proof. -/
import Derived.Test.YtmpijpjlbhfccaaGreatDoorZC5
set_option maxHeartbeats 20000000
namespace Go.Proofs.YtmpijpjlbhfccaaGreatDoor.K
open Go.RowKit
set_option maxRecDepth 100000
theorem eqpk_no0 {a0 b0 a1 b1 a2 b2 a3 b3 a4 b4 a5 b5 a6 b6 a7 b7 a8 b8 a9 b9 a10 b10 a11 b11 a12 b12 a13 b13 a14 b14 a15 b15 a16 b16 a17 b17 a18 b18 w}:(a0==b0)=false->EqNo a0 b0 a1 b1 a2 b2 a3 b3 a4 b4 a5 b5 a6 b6 a7 b7 a8 b8 a9 b9 a10 b10 a11 b11 a12 b12 a13 b13 a14 b14 a15 b15 a16 b16 a17 b17 a18 b18 w:=by
 intro k0
 unfold EqNo
 go_enter Tryz.func12,Tryz.ntmps12
 go_wp2
 go_ret
 exact⟨rfl,by go_grown⟩
theorem eqpk_no8 {a0 b0 a1 b1 a2 b2 a3 b3 a4 b4 a5 b5 a6 b6 a7 b7 a8 b8 a9 b9 a10 b10 a11 b11 a12 b12 a13 b13 a14 b14 a15 b15 a16 b16 a17 b17 a18 b18 w}:(a0==b0)=true->(a1==b1)=true->(a2==b2)=true->(a3==b3)=true->(a4.toList==b4.toList)=true->(a5==b5)=true->(a6.toList==b6.toList)=true->Hid (Tells w 35 a7 b7 true)->(a8.toList==b8.toList)=false->EqNo a0 b0 a1 b1 a2 b2 a3 b3 a4 b4 a5 b5 a6 b6 a7 b7 a8 b8 a9 b9 a10 b10 a11 b11 a12 b12 a13 b13 a14 b14 a15 b15 a16 b16 a17 b17 a18 b18 w:=by
 intro k0 k1 k2 k3 k4 k5 k6 k7 k8
 unfold EqNo
 go_enter Tryz.func12,Tryz.ntmps12
 go_wp2_with fail
 refine ((uh k7) _ (by go_grown)).mono ?_
 rintro e w7 ⟨rfl,hb7⟩
 have HB7:Hid (Below w.heap.size w w7):=Below.trans (by go_grown) (hb7.mono (by simp;omega))
 have hc7:=fun (b o:Nat) (h:b<w.heap.size+2)=>hb7.cell (p:=(⟨b,o,none⟩:Addr)) (show b<_ by simp;omega)
 have hz7:w.heap.size+2<=w7.heap.size:=by (have:=hb7.size;  (try simp at this);  omega)
 clear hb7
 go_wp2
 go_ret
 exact⟨rfl,uh HB7⟩
theorem eqpk_no16 {a0 b0 a1 b1 a2 b2 a3 b3 a4 b4 a5 b5 a6 b6 a7 b7 a8 b8 a9 b9 a10 b10 a11 b11 a12 b12 a13 b13 a14 b14 a15 b15 a16 b16 a17 b17 a18 b18 w}:(a0==b0)=true->(a1==b1)=true->(a2==b2)=true->(a3==b3)=true->(a4.toList==b4.toList)=true->(a5==b5)=true->(a6.toList==b6.toList)=true->Hid (Tells w 35 a7 b7 true)->(a8.toList==b8.toList)=true->(a9==b9)=true->(a10==b10)=true->Hid (Tells w 36 a11 b11 true)->Hid (Tells w 37 a12 b12 true)->Hid (Tells w 37 a13 b13 true)->(a14==b14)=true->(a15==b15)=true->Hid (Tells w 38 a16 b16 false)->EqNo a0 b0 a1 b1 a2 b2 a3 b3 a4 b4 a5 b5 a6 b6 a7 b7 a8 b8 a9 b9 a10 b10 a11 b11 a12 b12 a13 b13 a14 b14 a15 b15 a16 b16 a17 b17 a18 b18 w:=by
 intro k0 k1 k2 k3 k4 k5 k6 k7 k8 k9 k10 k11 k12 k13 k14 k15 k16
 unfold EqNo
 go_enter Tryz.func12,Tryz.ntmps12
 go_wp2_with fail
 refine ((uh k7) _ (by go_grown)).mono ?_
 rintro e w7 ⟨rfl,hb7⟩
 have HB7:Hid (Below w.heap.size w w7):=Below.trans (by go_grown) (hb7.mono (by simp;omega))
 have hc7:=fun (b o:Nat) (h:b<w.heap.size+2)=>hb7.cell (p:=(⟨b,o,none⟩:Addr)) (show b<_ by simp;omega)
 have hz7:w.heap.size+2<=w7.heap.size:=by (have:=hb7.size;  (try simp at this);  omega)
 clear hb7
 go_wp2_with fail
 refine ((uh k11) _ (uh HB7)).mono ?_
 rintro e w11 ⟨rfl,hb11⟩
 have HB11:Hid (Below w.heap.size w w11):=(uh HB7).trans (hb11.mono (uh HB7).size)
 have hc11:=fun (b o:Nat) (h:b<w.heap.size+2)=>(hb11.cell (p:=(⟨b,o,none⟩:Addr)) (show b<_ by omega)).trans (hc7 b o h)
 clear hc7
 have hz11:w.heap.size+2<=w11.heap.size:=by (have:=hb11.size;  (try simp at this);  omega)
 clear hb11
 go_wp2_with fail
 refine ((uh k12) _ (uh HB11)).mono ?_
 rintro e w12 ⟨rfl,hb12⟩
 have HB12:Hid (Below w.heap.size w w12):=(uh HB11).trans (hb12.mono (uh HB11).size)
 have hc12:=fun (b o:Nat) (h:b<w.heap.size+2)=>(hb12.cell (p:=(⟨b,o,none⟩:Addr)) (show b<_ by omega)).trans (hc11 b o h)
 clear hc11
 have hz12:w.heap.size+2<=w12.heap.size:=by (have:=hb12.size;  (try simp at this);  omega)
 clear hb12
 go_wp2_with fail
 refine ((uh k13) _ (uh HB12)).mono ?_
 rintro e w13 ⟨rfl,hb13⟩
 have HB13:Hid (Below w.heap.size w w13):=(uh HB12).trans (hb13.mono (uh HB12).size)
 have hc13:=fun (b o:Nat) (h:b<w.heap.size+2)=>(hb13.cell (p:=(⟨b,o,none⟩:Addr)) (show b<_ by omega)).trans (hc12 b o h)
 clear hc12
 have hz13:w.heap.size+2<=w13.heap.size:=by (have:=hb13.size;  (try simp at this);  omega)
 clear hb13
 go_wp2_with fail
 refine ((uh k16) _ (uh HB13)).mono ?_
 rintro e w16 ⟨rfl,hb16⟩
 have HB16:Hid (Below w.heap.size w w16):=(uh HB13).trans (hb16.mono (uh HB13).size)
 have hc16:=fun (b o:Nat) (h:b<w.heap.size+2)=>(hb16.cell (p:=(⟨b,o,none⟩:Addr)) (show b<_ by omega)).trans (hc13 b o h)
 clear hc13
 have hz16:w.heap.size+2<=w16.heap.size:=by (have:=hb16.size;  (try simp at this);  omega)
 clear hb16
 go_wp2
 go_ret
 exact⟨rfl,uh HB16⟩
theorem eqpk_no3 {a0 b0 a1 b1 a2 b2 a3 b3 a4 b4 a5 b5 a6 b6 a7 b7 a8 b8 a9 b9 a10 b10 a11 b11 a12 b12 a13 b13 a14 b14 a15 b15 a16 b16 a17 b17 a18 b18 w}:(a0==b0)=true->(a1==b1)=true->(a2==b2)=true->(a3==b3)=false->EqNo a0 b0 a1 b1 a2 b2 a3 b3 a4 b4 a5 b5 a6 b6 a7 b7 a8 b8 a9 b9 a10 b10 a11 b11 a12 b12 a13 b13 a14 b14 a15 b15 a16 b16 a17 b17 a18 b18 w:=by
 intro k0 k1 k2 k3
 unfold EqNo
 go_enter Tryz.func12,Tryz.ntmps12
 go_wp2
 go_ret
 exact⟨rfl,by go_grown⟩
theorem eqpk_no11 {a0 b0 a1 b1 a2 b2 a3 b3 a4 b4 a5 b5 a6 b6 a7 b7 a8 b8 a9 b9 a10 b10 a11 b11 a12 b12 a13 b13 a14 b14 a15 b15 a16 b16 a17 b17 a18 b18 w}:(a0==b0)=true->(a1==b1)=true->(a2==b2)=true->(a3==b3)=true->(a4.toList==b4.toList)=true->(a5==b5)=true->(a6.toList==b6.toList)=true->Hid (Tells w 35 a7 b7 true)->(a8.toList==b8.toList)=true->(a9==b9)=true->(a10==b10)=true->Hid (Tells w 36 a11 b11 false)->EqNo a0 b0 a1 b1 a2 b2 a3 b3 a4 b4 a5 b5 a6 b6 a7 b7 a8 b8 a9 b9 a10 b10 a11 b11 a12 b12 a13 b13 a14 b14 a15 b15 a16 b16 a17 b17 a18 b18 w:=by
 intro k0 k1 k2 k3 k4 k5 k6 k7 k8 k9 k10 k11
 unfold EqNo
 go_enter Tryz.func12,Tryz.ntmps12
 go_wp2_with fail
 refine ((uh k7) _ (by go_grown)).mono ?_
 rintro e w7 ⟨rfl,hb7⟩
 have HB7:Hid (Below w.heap.size w w7):=Below.trans (by go_grown) (hb7.mono (by simp;omega))
 have hc7:=fun (b o:Nat) (h:b<w.heap.size+2)=>hb7.cell (p:=(⟨b,o,none⟩:Addr)) (show b<_ by simp;omega)
 have hz7:w.heap.size+2<=w7.heap.size:=by (have:=hb7.size;  (try simp at this);  omega)
 clear hb7
 go_wp2_with fail
 refine ((uh k11) _ (uh HB7)).mono ?_
 rintro e w11 ⟨rfl,hb11⟩
 have HB11:Hid (Below w.heap.size w w11):=(uh HB7).trans (hb11.mono (uh HB7).size)
 have hc11:=fun (b o:Nat) (h:b<w.heap.size+2)=>(hb11.cell (p:=(⟨b,o,none⟩:Addr)) (show b<_ by omega)).trans (hc7 b o h)
 clear hc7
 have hz11:w.heap.size+2<=w11.heap.size:=by (have:=hb11.size;  (try simp at this);  omega)
 clear hb11
 go_wp2
 go_ret
 exact⟨rfl,uh HB11⟩
end Go.Proofs.YtmpijpjlbhfccaaGreatDoor.K
