/- Proved here: helpers, one text behind the other. -/
import Derived.Test.YtpheelbbpiieiaaGreatDoorChecked
import Derived.Handy
import Derived.Test.YtpheelbbpiieiaaGreatDoorZC1
import Derived.Test.YtpheelbbpiieiaaGreatDoorZC3
set_option maxHeartbeats 20000000
namespace Go.Proofs.YtpheelbbpiieiaaGreatDoor.K
open Go.RowKit
set_option maxRecDepth 100000
def Tells (w:World) (f:Nat) (x y:Value) (c:Bool):Prop:=∀ W,Below w.heap.size w W->Calls Tryz.prog f #[x,y] W fun e w'=>e=.returned (.bool c)/\Below W.heap.size W w'
theorem eqpk_yes (a0 b0:Int) (a1 b1:Bool) (a2 b2:Int) (a3 b3:Bool) (a4 b4:ByteArray) (a5 b5:Int) (a6 b6:ByteArray) (a7 b7:Value) (a8 b8:ByteArray) (a9 b9:Bool) (a10 b10:Int) (a11 b11:Value) (a12 b12:Value) (a13 b13:Value) (a14 b14:Int) (a15 b15:Bool) (a16 b16:Value) (a17 b17:Value) (a18 b18:Value) (w:World) (k0:(a0 == b0)=true) (k1:(a1 == b1)=true) (k2:(a2 == b2)=true) (k3:(a3 == b3)=true) (k4:(a4.toList == b4.toList)=true) (k5:(a5 == b5)=true) (k6:(a6.toList == b6.toList)=true) (k7:Hid (Tells w 33 a7 b7 true)) (k8:(a8.toList == b8.toList)=true) (k9:(a9 == b9)=true) (k10:(a10 == b10)=true) (k11:Hid (Tells w 34 a11 b11 true)) (k12:Hid (Tells w 35 a12 b12 true)) (k13:Hid (Tells w 35 a13 b13 true)) (k14:(a14 == b14)=true) (k15:(a15 == b15)=true) (k16:Hid (Tells w 36 a16 b16 true)) (k17:Hid (Tells w 35 a17 b17 true)) (k18:Hid (Tells w 37 a18 b18 true)) :
  Calls Tryz.prog 10 #[.agg #[.int .i64 a0,.bool a1,.int .i64 a2,.bool a3,.string a4,.int .i64 a5,.string a6,a7,.string a8,.bool a9,.int .i64 a10,a11,a12,a13,.int .i64 a14,.bool a15,a16,a17,a18],.agg #[.int .i64 b0,.bool b1,.int .i64 b2,.bool b3,.string b4,.int .i64 b5,.string b6,b7,.string b8,.bool b9,.int .i64 b10,b11,b12,b13,.int .i64 b14,.bool b15,b16,b17,b18]] w fun e w'=>e=.returned (.bool true)/\Below w.heap.size w w':=by
 go_enter Tryz.func10,Tryz.ntmps10
 go_wp2_with fail
 refine ((uh k7) _ (by go_grown)).mono ?_
 rintro e w7 ⟨rfl,hb7⟩
 have HB7:Hid (Below w.heap.size w w7):=Below.trans (by go_grown) (hb7.mono (by simp;omega))
 have hc7:=fun (b o:Nat) (h:b < w.heap.size+2)=>hb7.cell (p:=(⟨b,o,none⟩:Addr)) (show b < _ by simp;omega)
 have hz7:w.heap.size+2<=w7.heap.size:=by (have:=hb7.size;  (try simp at this);  omega)
 clear hb7
 go_wp2_with fail
 refine ((uh k11) _ (uh HB7)).mono ?_
 rintro e w11 ⟨rfl,hb11⟩
 have HB11:Hid (Below w.heap.size w w11):=(uh HB7).trans (hb11.mono (uh HB7).size)
 have hc11:=fun (b o:Nat) (h:b < w.heap.size+2)=>(hb11.cell (p:=(⟨b,o,none⟩:Addr)) (show b < _ by omega)).trans (hc7 b o h)
 clear hc7
 have hz11:w.heap.size+2<=w11.heap.size:=by (have:=hb11.size;  (try simp at this);  omega)
 clear hb11
 go_wp2_with fail
 refine ((uh k12) _ (uh HB11)).mono ?_
 rintro e w12 ⟨rfl,hb12⟩
 have HB12:Hid (Below w.heap.size w w12):=(uh HB11).trans (hb12.mono (uh HB11).size)
 have hc12:=fun (b o:Nat) (h:b < w.heap.size+2)=>(hb12.cell (p:=(⟨b,o,none⟩:Addr)) (show b < _ by omega)).trans (hc11 b o h)
 clear hc11
 have hz12:w.heap.size+2<=w12.heap.size:=by (have:=hb12.size;  (try simp at this);  omega)
 clear hb12
 go_wp2_with fail
 refine ((uh k13) _ (uh HB12)).mono ?_
 rintro e w13 ⟨rfl,hb13⟩
 have HB13:Hid (Below w.heap.size w w13):=(uh HB12).trans (hb13.mono (uh HB12).size)
 have hc13:=fun (b o:Nat) (h:b < w.heap.size+2)=>(hb13.cell (p:=(⟨b,o,none⟩:Addr)) (show b < _ by omega)).trans (hc12 b o h)
 clear hc12
 have hz13:w.heap.size+2<=w13.heap.size:=by (have:=hb13.size;  (try simp at this);  omega)
 clear hb13
 go_wp2_with fail
 refine ((uh k16) _ (uh HB13)).mono ?_
 rintro e w16 ⟨rfl,hb16⟩
 have HB16:Hid (Below w.heap.size w w16):=(uh HB13).trans (hb16.mono (uh HB13).size)
 have hc16:=fun (b o:Nat) (h:b < w.heap.size+2)=>(hb16.cell (p:=(⟨b,o,none⟩:Addr)) (show b < _ by omega)).trans (hc13 b o h)
 clear hc13
 have hz16:w.heap.size+2<=w16.heap.size:=by (have:=hb16.size;  (try simp at this);  omega)
 clear hb16
 go_wp2_with fail
 refine ((uh k17) _ (uh HB16)).mono ?_
 rintro e w17 ⟨rfl,hb17⟩
 have HB17:Hid (Below w.heap.size w w17):=(uh HB16).trans (hb17.mono (uh HB16).size)
 have hc17:=fun (b o:Nat) (h:b < w.heap.size+2)=>(hb17.cell (p:=(⟨b,o,none⟩:Addr)) (show b < _ by omega)).trans (hc16 b o h)
 clear hc16
 have hz17:w.heap.size+2<=w17.heap.size:=by (have:=hb17.size;  (try simp at this);  omega)
 clear hb17
 go_wp2_with fail
 refine ((uh k18) _ (uh HB17)).mono ?_
 rintro e w18 ⟨rfl,hb18⟩
 have HB18:Hid (Below w.heap.size w w18):=(uh HB17).trans (hb18.mono (uh HB17).size)
 have hc18:=fun (b o:Nat) (h:b < w.heap.size+2)=>(hb18.cell (p:=(⟨b,o,none⟩:Addr)) (show b < _ by omega)).trans (hc17 b o h)
 clear hc17
 have hz18:w.heap.size+2<=w18.heap.size:=by (have:=hb18.size;  (try simp at this);  omega)
 clear hb18
 go_wp2
 go_ret
 exact⟨rfl,uh HB18⟩
end Go.Proofs.YtpheelbbpiieiaaGreatDoor.K
namespace Go.Proofs.YtpheelbbpiieiaaGreatDoor
open Go.RowKit Go.Extern.Stop Go.Stop Go.Extern
set_option maxRecDepth 100000
abbrev wrapW (v:Value) (w:World):World:=w.alloc (.cells #[.string ⟨#[112,114,111,112]⟩,v] 120)
theorem wrap_any (t:TypeId) (x:Value) (w:World):Calls Tryz.prog 117 #[.iface t x] w fun e w'=>e=.returned (.iface 118 (.pointer (some ⟨w.heap.size,0,none⟩)))/\w'=wrapW (.iface t x) w:=by
 go_enter Tryz.func117,Tryz.ntmps117
 go_wp2
 go_ret
 exact⟨rfl,rfl⟩
theorem pfault_any (n:Int) (w:World):Calls Tryz.prog 118 #[.int .i64 n] w fun e w'=>e=.returned (.iface 118 (.pointer (some ⟨w.heap.size,0,none⟩)))/\w'=wrapW (.iface 63 (.int .i64 n)) w:=by
 go_enter Tryz.func118,Tryz.ntmps118
 go_wp2_with (go_at_call 117;refine (wrap_any _ _ _).mono ?_;rintro e w' ⟨rfl,rfl⟩)
 go_ret
 exact⟨rfl,rfl⟩
def ErrP (w:World) (v:Value) (n:Int):Prop :=
 ErrIs w v n\/∃ b c,v=.iface 118 (.pointer (some ⟨b,0,none⟩))/\w.cell? ⟨b,1,none⟩=some (.iface 118 (.pointer (some ⟨c,0,none⟩)))/\w.cell? ⟨c,1,none⟩=some (.iface 63 (.int .i64 n))
def Inn (w:World) (v:Value) (n:Int):Prop:=v=.iface 63 (.int .i64 n)\/∃ b,v=.iface 118 (.pointer (some ⟨b,0,none⟩))/\w.cell? ⟨b,1,none⟩=some (.iface 63 (.int .i64 n))
theorem ErrP.below {w w':World} {v:Value} {n:Int} (h:ErrP w v n) (hb:Below w.heap.size w w'):ErrP w' v n:=by
 rcases h with h | ⟨b,c,h1,h2,h3⟩
 ·exact .inl (h.below hb)
 ·exact .inr ⟨b,c,h1,by rw[hb.cell (p:=⟨b,1,none⟩) (cell_lt h2)];exact h2,by rw[hb.cell (p:=⟨c,1,none⟩) (cell_lt h3)];exact h3⟩
theorem ErrP.nil (w:World):ErrP w .nilIface 0:=.inl (.inl ⟨rfl,rfl⟩)
theorem Inn.below {w w':World} {v:Value} {n:Int} (h:Inn w v n) (hb:Below w.heap.size w w'):Inn w' v n:=by
 rcases h with h | ⟨b,h1,h2⟩
 ·exact .inl h
 ·exact .inr ⟨b,h1,by rw[hb.cell (p:=⟨b,1,none⟩) (cell_lt h2)];exact h2⟩
theorem wrap_is (n:Int) (v:Value) (w:World) (h:Inn w v n):ErrP (wrapW v w) (.iface 118 (.pointer (some ⟨w.heap.size,0,none⟩))) n:=by
 rcases h with rfl | ⟨b,rfl,hc⟩
 ·exact .inl (.inr ⟨_,rfl,by simp⟩)
 ·exact .inr ⟨_,b,rfl,by simp,by rw[World.cell?_alloc_lt _ _ ⟨b,1,none⟩ (cell_lt hc)];exact hc⟩
theorem wrap_below (v:Value) (w:World):Below w.heap.size w (wrapW v w):=bal _ _
theorem pfault_use (n:Int) (w:World):Calls Tryz.prog 118 #[.int .i64 n] w fun e w'=>∃ E,e=.returned (.iface 118 E)/\Hid (ErrP w' (.iface 118 E) n)/\Below w.heap.size w w':=by
 refine (pfault_any n w).mono ?_
 rintro e w' ⟨rfl,rfl⟩
 exact⟨_,rfl,wrap_is n _ w (.inl rfl),wrap_below _ _⟩
theorem wrap_use (v:Value) (n:Int) (w:World) (h:Inn w v n):Calls Tryz.prog 117 #[v] w fun e w'=>∃ E,e=.returned (.iface 118 E)/\Hid (ErrP w' (.iface 118 E) n)/\Below w.heap.size w w':=by
 obtain⟨t,x,rfl⟩:∃ t x,v=.iface t x:=by rcases h with rfl | ⟨b,rfl,_⟩ <;> exact⟨_,_,rfl⟩
 refine (wrap_any t x w).mono ?_
 rintro e w' ⟨rfl,rfl⟩
 exact⟨_,rfl,wrap_is n _ w h,wrap_below _ _⟩
theorem few_ok (n:Int) (w:World) (h:n<=32):Calls Tryz.prog 120 #[.int .i64 n] w fun e w'=>e=.returned .nilIface/\w'=w:=by
 go_enter Tryz.func120,Tryz.ntmps120
 go_wp2
 go_ret
 exact⟨rfl,rfl⟩
theorem few_bad (n:Int) (w:World) (h:32 < n):Calls Tryz.prog 120 #[.int .i64 n] w fun e w'=>∃ E,e=.returned (.iface 118 E)/\Hid (ErrP w' (.iface 118 E) 2)/\Below w.heap.size w w':=by
 go_enter Tryz.func120,Tryz.ntmps120
 go_wp2_with (go_at_call 118;refine (pfault_use 2 _).mono ?_;rintro e w' ⟨E,rfl,hE,hb⟩)
 go_ret
 exact⟨_,rfl,hE,hb⟩
theorem methodComp (h:Value) (w:World):(Go.method 366 163 (.agg #[h]) "Comparable").run Tryz.prog w=.ok (203,.agg #[h]) w:=by kernel_rfl
theorem compE (w:World):((ReflectliteType.method fun t=>do Rtype.noPackHeld "Comparable" t;(fun a=>Value.bool a.comparable) <$> typeInfo t) #[.agg #[.pointer (some ⟨1,63,none⟩)]]).run Tryz.prog w=.ok (.bool true) w:=by kernel_rfl
theorem noIsF (v:Value) (xT:TypeId) (w:World):(Instr.typeAssert (.iface 118 v) xT 165 true).run Tryz.prog w=.ok (.tuple #[.nilIface,.bool false]) w:=run_typeAssert_lacksB Tryz.underlying165 (by kernel_rfl) (by kernel_rfl) v xT w
theorem noIsE (v:Value) (xT:TypeId) (w:World):(Instr.typeAssert (.iface 63 v) xT 165 true).run Tryz.prog w=.ok (.tuple #[.nilIface,.bool false]) w:=run_typeAssert_lacksB Tryz.underlying165 (by kernel_rfl) (by kernel_rfl) v xT w
theorem noUnwrapE (v:Value) (xT:TypeId) (w:World):(Instr.typeAssert (.iface 63 v) xT 168 true).run Tryz.prog w=.ok (.tuple #[.nilIface,.bool false]) w:=run_typeAssert_lacksB Tryz.underlying168 (by kernel_rfl) (by kernel_rfl) v xT w
theorem noUnwrapsE (v:Value) (xT:TypeId) (w:World):(Instr.typeAssert (.iface 63 v) xT 170 true).run Tryz.prog w=.ok (.tuple #[.nilIface,.bool false]) w:=run_typeAssert_lacksB Tryz.underlying170 (by kernel_rfl) (by kernel_rfl) v xT w
theorem eqE (n:Int) (w:World):(binOp .eql 35 (.iface 63 (.int .i64 n)) (.iface 63 (.int .i64 1))).run Tryz.prog w=.ok (.bool (n == 1)) w:=by kernel_rfl
theorem eqF (v u:Value) (w:World):(binOp .eql 35 (.iface 118 v) (.iface 63 u)).run Tryz.prog w=.ok (.bool false) w:=by kernel_rfl
theorem is_errno (n:Int) (w:World):Calls Tryz.prog 75 #[.iface 63 (.int .i64 n),.iface 63 (.int .i64 1),.bool true] w fun e w'=>e=.returned (.bool (n == 1))/\w'=w:=by
 have nI:=noIsE
 have q1:=eqE
 have q2:=eqF
 have nU:=noUnwrapE
 have nV:=noUnwrapsE
 by_cases h:n=1
 ·subst h
  go_enter Tryz.func75,Tryz.ntmps75
  go_wp2
  refine wp_loop_rounds 1 ?_
  rw[rounds_succ]
  go_wp2
  go_ret
  exact⟨rfl,rfl⟩
 ·have hb:(n == 1)=false:=beq_eq_false_iff_ne.2 h
  go_enter Tryz.func75,Tryz.ntmps75
  go_wp2
  refine wp_loop_rounds 1 ?_
  rw[rounds_succ]
  go_wp2
  go_ret
  exact⟨ret_bool hb.symm,rfl⟩
theorem is_fault (b:Nat) (n:Int) (w:World) (hc:w.cell? ⟨b,1,none⟩=some (.iface 63 (.int .i64 n))):Calls Tryz.prog 75 #[.iface 118 (.pointer (some ⟨b,0,none⟩)),.iface 63 (.int .i64 1),.bool true] w fun e w'=>e=.returned (.bool (n == 1))/\w'=w:=by
 have nI:=noIsE
 have q1:=eqE
 have q2:=eqF
 have nU:=noUnwrapE
 have nV:=noUnwrapsE
 have nF:=noIsF
 have hU:=hasUnwrapF
 have mU:=methodUnwrap
 by_cases h:n=1
 ·subst h
  go_enter Tryz.func75,Tryz.ntmps75
  go_wp2
  refine wp_loop_rounds 2 ?_
  rw[rounds_succ]
  go_wp2_with (go_at_call 197;refine (unwrap_any _ _ _ hc).mono ?_;rintro e w' ⟨rfl,rfl⟩)
  rw[rounds_succ]
  go_wp2
  go_ret
  exact⟨rfl,rfl⟩
 ·have hb:(n == 1)=false:=beq_eq_false_iff_ne.2 h
  go_enter Tryz.func75,Tryz.ntmps75
  go_wp2
  refine wp_loop_rounds 2 ?_
  rw[rounds_succ]
  go_wp2_with (go_at_call 197;refine (unwrap_any _ _ _ hc).mono ?_;rintro e w' ⟨rfl,rfl⟩)
  rw[rounds_succ]
  go_wp2
  go_ret
  exact⟨ret_bool hb.symm,rfl⟩
theorem is_inn (v:Value) (n:Int) (w:World) (h:Inn w v n):Calls Tryz.prog 75 #[v,.iface 63 (.int .i64 1),.bool true] w fun e w'=>e=.returned (.bool (n == 1))/\w'=w:=by
 rcases h with rfl | ⟨b,rfl,hc⟩
 ·exact is_errno n w
 ·exact is_fault b n w hc
theorem Is_inn (t:TypeId) (x:Value) (n:Int) (w:World) (h:Inn w (.iface t x) n):Calls Tryz.prog 46 #[.iface t x,.iface 63 (.int .i64 1)] w fun e w'=>e=.returned (.bool (n == 1))/\w'=w:=by
 have H:=zh h
 clear h
 have hT:=@run_callFunc_extern Tryz.prog 74 _ ReflectliteType.typeOf Tryz.func74 (by kernel_rfl) (by kernel_rfl) (by kernel_rfl) (by kernel_rfl)
 have hC:=@run_callFunc_extern Tryz.prog 203 _ (ReflectliteType.method fun t=>do Rtype.noPackHeld "Comparable" t;pure (.bool (<- typeInfo t).comparable)) Tryz.func203 (by kernel_rfl) (by kernel_rfl) (by kernel_rfl) (by kernel_rfl)
 have tO:=typeOfE
 have mC:=methodComp
 have cE:=compE
 go_enter Tryz.func46,Tryz.ntmps46
 go_wp2_with (go_at_call 75;refine (is_inn _ n _ (uh H)).mono ?_;rintro e w' ⟨rfl,rfl⟩)
 go_ret
 exact⟨rfl,rfl⟩
theorem broken_use (v:Value) (n:Int) (w:World) (h:Inn w v n):Calls Tryz.prog 145 #[v] w fun e w'=>∃ E,e=.returned (.iface 118 E)/\Hid (ErrP w' (.iface 118 E) 1)/\Below w.heap.size w w':=by
 obtain⟨t,x,rfl⟩:∃ t x,v=.iface t x:=by rcases h with rfl | ⟨b,rfl,_⟩ <;> exact⟨_,_,rfl⟩
 have H:=zh h
 clear h
 by_cases h:n=1
 ·subst h
  go_enter Tryz.func145,Tryz.ntmps145
  go_wp2_with (first | (go_at_call 46;refine (Is_inn t x 1 _ (uh H)).mono ?_;rintro e w' ⟨rfl,rfl⟩) | (go_at_call 117;refine (wrap_use _ 1 _ (uh H)).mono ?_;rintro e w' ⟨E,rfl,hE,hb⟩))
  go_ret
  exact⟨_,rfl,hE,hb⟩
 ·have hb:(n == 1)=false:=beq_eq_false_iff_ne.2 h
  go_enter Tryz.func145,Tryz.ntmps145
  go_wp2_with (first | (go_at_call 46;refine (Is_inn t x n _ (uh H)).mono ?_;rintro e w' ⟨rfl,rfl⟩) | (go_at_call 118;refine (pfault_use 1 _).mono ?_;rintro e w' ⟨E,rfl,hE,hb'⟩))
  go_ret
  exact⟨_,rfl,hE,hb'⟩
end Go.Proofs.YtpheelbbpiieiaaGreatDoor
namespace Go.Proofs.YtpheelbbpiieiaaGreatDoor.K
open Go.RowKit
structure BX (R:Nat) (may:Nat->Prop) (w w':World):Prop where
 os:w'.os=w.os
 tape:w'.tape=w.tape
 output:w'.output=w.output
 size:w.heap.size<=w'.heap.size
 block:∀ k,k < w.heap.size->k≠R->w'.heap[k]?=w.heap[k]?
 cell:∀ j,¬ may j->w'.cell? ⟨R,j,none⟩=w.cell? ⟨R,j,none⟩
 frozen:∀ j,w'.frozen? ⟨R,j,none⟩=w.frozen? ⟨R,j,none⟩
structure BX' (R:Nat) (may:Nat->Prop) (B:Nat) (w w':World):Prop where
 os:w'.os=w.os
 tape:w'.tape=w.tape
 output:w'.output=w.output
 size:w.heap.size<=w'.heap.size
 block:∀ k,k < B->k≠R->w'.heap[k]?=w.heap[k]?
 cell:∀ j,¬ may j->w'.cell? ⟨R,j,none⟩=w.cell? ⟨R,j,none⟩
 frozen:∀ j,w'.frozen? ⟨R,j,none⟩=w.frozen? ⟨R,j,none⟩
theorem BX.refl (R:Nat) (may:Nat->Prop) (w:World):BX R may w w:=⟨rfl,rfl,rfl,Nat.le_refl _,fun _ _ _=>rfl,fun _ _=>rfl,fun _=>rfl⟩
theorem BX.trans {R:Nat} {may:Nat->Prop} {a b c:World} (h:BX R may a b) (k:BX R may b c):BX R may a c :=
 ⟨k.os.trans h.os,k.tape.trans h.tape,k.output.trans h.output,Nat.le_trans h.size k.size,fun i hi hR=>(k.block i (Nat.lt_of_lt_of_le hi h.size) hR).trans (h.block i hi hR),fun j hj=>(k.cell j hj).trans (h.cell j hj),fun j=>(k.frozen j).trans (h.frozen j)⟩
theorem BX.trans' {R:Nat} {may:Nat->Prop} {a b c:World} (h:BX R may a b) (k:BX' R may a.heap.size b c):BX R may a c :=
 ⟨k.os.trans h.os,k.tape.trans h.tape,k.output.trans h.output,Nat.le_trans h.size k.size,fun i hi hR=>(k.block i hi hR).trans (h.block i hi hR),fun j hj=>(k.cell j hj).trans (h.cell j hj),fun j=>(k.frozen j).trans (h.frozen j)⟩
theorem BX.weak {R:Nat} {may may':Nat->Prop} {a b:World} (h:BX R may a b) (hm:∀ j,may j->may' j):BX R may' a b :=
 ⟨h.os,h.tape,h.output,h.size,h.block,fun j hj=>h.cell j (fun hx=>hj (hm j hx)),h.frozen⟩
theorem BX.of_below {R:Nat} {may:Nat->Prop} {a b:World} (h:Below a.heap.size a b) (hR:R < a.heap.size):BX R may a b :=
 ⟨h.os,h.tape,h.output,h.size,fun k hk _=>h.block k hk,fun j _=>h.cell (p:=⟨R,j,none⟩) hR,fun j=>h.frozen (p:=⟨R,j,none⟩) hR⟩
theorem BX.set {R:Nat} {may:Nat->Prop} {a b:World} (h:BX R may a b) (j:Nat) (u:Value) (hj:may j):BX R may a (b.setCell ⟨R,j,none⟩ u) :=
 h.trans ⟨rfl,rfl,rfl,by simp[World.setCell],fun k _ hR=>Below.heap_setCell _ _ _ _ hR,fun i hi=>World.cell?_setCell_other _ _ _ _ (fun e=>by injection e with _ h2;subst h2;exact hi hj),fun i=>World.frozen?_setCell ..⟩
theorem BX.below {R B:Nat} {may:Nat->Prop} {a b:World} (h:BX R may a b) (hB:B<=R) (hs:B<=a.heap.size):Below B a b :=
 ⟨h.os,h.tape,h.output,h.size,fun k hk=>h.block k (Nat.lt_of_lt_of_le hk hs) (by omega)⟩
theorem BX.far {R:Nat} {may:Nat->Prop} {a b:World} (h:BX R may a b) {p:Addr} {v:Value} (hp:a.cell? p=some v) (hR:p.block≠R):b.cell? p=some v :=
 (World.cell?_of_block (w:=a) (h.block p.block (cell_lt hp) hR)).trans hp
end Go.Proofs.YtpheelbbpiieiaaGreatDoor.K
