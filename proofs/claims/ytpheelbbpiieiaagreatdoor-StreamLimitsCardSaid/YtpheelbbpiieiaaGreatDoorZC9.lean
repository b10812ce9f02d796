/- Proved here: helpers, one text behind the other. -/
import Derived.Test.YtpheelbbpiieiaaGreatDoorProg
import Derived.Lib.BitFns
import Derived.Lib.Walk
import Derived.Test.YtpheelbbpiieiaaGreatDoorZC1
import Derived.Test.YtpheelbbpiieiaaGreatDoorZC3
import Derived.Laws.BitsAllLaws
set_option maxHeartbeats 20000000
namespace Go.Proofs.YtpheelbbpiieiaaGreatDoor.V
open Go.RowKit
set_option maxRecDepth 100000
def sz (n:Int):Int:=if n < 128 then 1 else if n < 16384 then 2 else if n < 2097152 then 3 else 4
theorem bitLen_ge (k x:Nat) (h:2 ^ k<=x) (hx:x < 2 ^ 64):k+1<=Lib.bitLen x:=by
 rw[Lib.bitLen_shift k x h hx]
 have h1:x / 2 ^ k≠0:=by
  have:=Nat.div_pos h (Nat.two_pow_pos k);omega
 rw[Lib.bitLen_half _ h1 (Nat.lt_of_le_of_lt (Nat.div_le_self _ _) hx)]
 omega
theorem sz_of (n:Int) (h0:0<=n) (h1:n<=268435455):max 1 ((Lib.bitLen n.toNat+6:Int) / 7)=sz n:=by
 unfold sz
 obtain⟨m,rfl⟩:=Int.eq_ofNat_of_zero_le h0
 rw[Int.toNat_natCast]
 have hx:m < 2 ^ 64:=by omega
 by_cases a:m < 128
 ·have:=Lib.bitLen_le m 7 (by omega) a
  rw[if_pos (show (m:Int) < 128 by omega)]
  omega
 ·by_cases b:m < 16384
  ·have l:=bitLen_ge 7 m (by omega) hx
   have u:=Lib.bitLen_le m 14 (by omega) b
   rw[if_neg (show ¬ (m:Int) < 128 by omega),if_pos (show (m:Int) < 16384 by omega)]
   omega
  ·by_cases c:m < 2097152
   ·have l:=bitLen_ge 14 m (by omega) hx
    have u:=Lib.bitLen_le m 21 (by omega) c
    rw[if_neg (show ¬ (m:Int) < 128 by omega),if_neg (show ¬ (m:Int) < 16384 by omega),if_pos (show (m:Int) < 2097152 by omega)]
    omega
   ·have l:=bitLen_ge 21 m (by omega) hx
    have u:=Lib.bitLen_le m 28 (by omega) (by omega)
    rw[if_neg (show ¬ (m:Int) < 128 by omega),if_neg (show ¬ (m:Int) < 16384 by omega),if_neg (show ¬ (m:Int) < 2097152 by omega)]
    omega
set_option maxRecDepth 100000 in
theorem len64_any (x:Int) (w:World) (h0:0<=x) (h1:x<=268435455) :
  Calls Tryz.prog 156 #[.int .u64 x] w fun e w'=>e=.returned (.int .i64 (Lib.bitLen x.toNat))/\w'=w:=by
 have t9:=Tryz.underlying9
 by_cases a:x<=255
 ·have l:=Lib.bitLen_le8' x h0 a
  go_enter Tryz.func156,Tryz.ntmps156
  go_wp2
  go_ret
  refine⟨congrArg Ending.returned (congrArg (Value.int IntKind.i64) ?_),rfl⟩
  rw[Lib.len8_of x h0 a]
  simp only[wrap64]
  omega
 ·by_cases b:x<=65535
  ·have c0:0<=x / 256:=by omega
   have c1:x / 256<=255:=by omega
   have l:=Lib.bitLen_le8' (x / 256) c0 c1
   have s:=Lib.bitLen_shift8 x.toNat (by omega) (by omega)
   have S:=zh s
   clear s
   go_enter Tryz.func156,Tryz.ntmps156
   go_wp2
   go_ret
   refine⟨congrArg Ending.returned (congrArg (Value.int IntKind.i64) ?_),rfl⟩
   rw[Lib.len8_of (x / 256) c0 c1,uh S,show (x / 256).toNat=x.toNat / 256 from by omega]
   rw[show (x / 256).toNat=x.toNat / 256 from by omega]at l
   simp only[wrap64]
   omega
  ·by_cases c:x<=16777215
   ·have c0:0<=x / 65536:=by omega
    have c1:x / 65536<=255:=by omega
    have l:=Lib.bitLen_le8' (x / 65536) c0 c1
    have s:=Lib.bitLen_shift16 x.toNat (by omega) (by omega)
    have S:=zh s
    clear s
    go_enter Tryz.func156,Tryz.ntmps156
    go_wp2
    go_ret
    refine⟨congrArg Ending.returned (congrArg (Value.int IntKind.i64) ?_),rfl⟩
    rw[Lib.len8_of (x / 65536) c0 c1,uh S,show (x / 65536).toNat=x.toNat / 65536 from by omega]
    rw[show (x / 65536).toNat=x.toNat / 65536 from by omega]at l
    simp only[wrap64]
    omega
   ·have c0:0<=x / 65536 / 256:=by omega
    have c1:x / 65536 / 256<=255:=by omega
    have l:=Lib.bitLen_le8' (x / 65536 / 256) c0 c1
    have s:=Lib.bitLen_shift24 x.toNat (by omega) (by omega)
    have S:=zh s
    clear s
    go_enter Tryz.func156,Tryz.ntmps156
    go_wp2
    go_ret
    refine⟨congrArg Ending.returned (congrArg (Value.int IntKind.i64) ?_),rfl⟩
    rw[Lib.len8_of (x / 65536 / 256) c0 c1,uh S,show (x / 65536 / 256).toNat=x.toNat / 16777216 from by omega]
    rw[show (x / 65536 / 256).toNat=x.toNat / 16777216 from by omega]at l
    simp only[wrap64]
    omega
theorem len_any (x:Int) (w:World) (h0:0<=x) (h1:x<=268435455) :
  Calls Tryz.prog 141 #[.int .u64 x] w fun e w'=>e=.returned (.int .i64 (Lib.bitLen x.toNat))/\w'=w:=by
 go_enter Tryz.func141,Tryz.ntmps141
 go_wp2_with (go_at_call 156;refine (len64_any _ _ h0 h1).mono ?_;rintro e w' ⟨rfl,rfl⟩)
 go_ret
 exact⟨rfl,rfl⟩
theorem sizeOf_any (n:Int) (w:World) (h0:0<=n) (h1:n<=268435455) :
  Calls Tryz.prog 112 #[.int .i64 n] w fun e w'=>e=.returned (.int .i64 (sz n))/\w'=w:=by
 have hs:=zh (sz_of n h0 h1)
 have hl:=Lib.bitLen_le n.toNat 28 (by omega) (by omega)
 go_enter Tryz.func112,Tryz.ntmps112
 go_wp2_with (go_at_call 141;refine (len_any _ _ h0 h1).mono ?_;rintro e w' ⟨rfl,rfl⟩)
 go_ret
 exact⟨congrArg Ending.returned (congrArg (Value.int IntKind.i64) (uh hs)),rfl⟩
theorem fault_any (n:Int) (w:World):Calls Tryz.prog 111 #[.int .i64 n] w fun e w'=>e=.returned (.iface 118 (.pointer (some ⟨w.heap.size,0,none⟩)))/\w'=w.alloc (.cells #[.string ⟨#[118,97,114,105,110,116]⟩,.iface 63 (.int .i64 n)] 120):=by
 go_enter Tryz.func111,Tryz.ntmps111
 go_wp2
 go_ret
 exact⟨rfl,rfl⟩
def put (n:Int):List Int :=
 if n < 128 then [n] else if n < 16384 then [n % 128+128,n / 128] else if n < 2097152 then [n % 128+128,n / 128 % 128+128,n / 16384]
 else [n % 128+128,n / 128 % 128+128,n / 16384 % 128+128,n / 2097152]
theorem put_bad (n:Int) (w:World) (h:n < 0\/268435455 < n) :
  Calls Tryz.prog 72 #[.int .i64 n] w fun e w'=>e=.returned (.tuple #[.slice none 0 0,.iface 118 (.pointer (some ⟨w.heap.size,0,none⟩))])/\w'=w.alloc (.cells #[.string ⟨#[118,97,114,105,110,116]⟩,.iface 63 (.int .i64 1)] 120):=by
 rcases h with h | h
 ·go_enter Tryz.func72,Tryz.ntmps72
  go_wp2_with (go_at_call 111;refine (fault_any _ _).mono ?_;rintro e w' ⟨rfl,rfl⟩)
  go_ret2
  exact⟨rfl,rfl⟩
 ·have h':¬ n < 0:=by omega
  go_enter Tryz.func72,Tryz.ntmps72
  go_wp2_with (go_at_call 111;refine (fault_any _ _).mono ?_;rintro e w' ⟨rfl,rfl⟩)
  go_ret2
  exact⟨rfl,rfl⟩
theorem make1 (w:World):(Instr.makeSlice 30 (.int .i64 1) (.int .i64 1)).run Tryz.prog w=.ok (.slice (some ⟨w.heap.size,0,none⟩) 1 1) (w.alloc (.cells #[.int .u8 0] 5)):=by kernel_rfl
theorem make2 (w:World):(Instr.makeSlice 30 (.int .i64 2) (.int .i64 2)).run Tryz.prog w=.ok (.slice (some ⟨w.heap.size,0,none⟩) 2 2) (w.alloc (.cells #[.int .u8 0,.int .u8 0] 5)):=by kernel_rfl
theorem make3 (w:World):(Instr.makeSlice 30 (.int .i64 3) (.int .i64 3)).run Tryz.prog w=.ok (.slice (some ⟨w.heap.size,0,none⟩) 3 3) (w.alloc (.cells #[.int .u8 0,.int .u8 0,.int .u8 0] 5)):=by kernel_rfl
theorem make4 (w:World):(Instr.makeSlice 30 (.int .i64 4) (.int .i64 4)).run Tryz.prog w=.ok (.slice (some ⟨w.heap.size,0,none⟩) 4 4) (w.alloc (.cells #[.int .u8 0,.int .u8 0,.int .u8 0,.int .u8 0] 5)):=by kernel_rfl
theorem or128_all:∀ x:Fin 256,bits .or .u8 (x.val:Int) 128=(x.val:Int) % 128+128:=by decide +kernel
theorem and127_all:∀ x:Fin 256,bits .and .u8 (x.val:Int) 127=(x.val:Int) % 128:=by decide +kernel
theorem and128_all:∀ x:Fin 256,bits .and .u8 (x.val:Int) 128=if (x.val:Int) < 128 then 0 else 128:=by decide +kernel
theorem or128 (x:Int) (h0:0<=x) (h1:x < 256):bits .or .u8 x 128=x % 128+128:=by
 have:=or128_all ⟨x.toNat,by omega⟩
 simpa only[Int.toNat_of_nonneg h0] using this
theorem and127 (x:Int) (h0:0<=x) (h1:x < 256):bits .and .u8 x 127=x % 128:=by
 have:=and127_all ⟨x.toNat,by omega⟩
 simpa only[Int.toNat_of_nonneg h0] using this
theorem and128 (x:Int) (h0:0<=x) (h1:x < 256):bits .and .u8 x 128=if x < 128 then 0 else 128:=by
 have:=and128_all ⟨x.toNat,by omega⟩
 simpa only[Int.toNat_of_nonneg h0] using this
theorem last_of (x:Int) (h0:0<=x) (h1:x < 128):bits .and .u8 (bits .or .u8 x 128) 127=x:=by
 rw[or128 x h0 (by omega),and127 _ (by omega) (by omega)];omega
theorem more_of (x:Int):bits .or .u8 (x % 256) 128=x % 128+128:=by
 rw[or128 _ (by omega) (by omega)];omega
def PutPost (n:Int) (w:World) (e:Ending) (w':World):Prop :=
 e=.returned (.tuple #[.slice (some ⟨w.heap.size,0,none⟩) (put n).length (put n).length,.nilIface])/\w'=w.alloc (.cells ((put n).map (Value.int .u8)).toArray 5)
theorem put_1 (n:Int) (w:World) (h0:0<=n) (h1:n < 128):Calls Tryz.prog 72 #[.int .i64 n] w (PutPost n w):=by
 have hp:put n=[n]:=by simp[put,h1]
 unfold PutPost
 rw[hp]
 clear hp
 have hm:=make1 w
 have hs:sz n=1:=by simp[sz,h1]
 go_enter Tryz.func72,Tryz.ntmps72
 go_wp2_with (go_at_call 112;refine (sizeOf_any _ _ h0 (by omega)).mono ?_;rintro e w' ⟨rfl,rfl⟩)
 go_ret2
 refine⟨rfl,?_⟩
 rw[last_of n h0 h1]
 rfl
theorem put_2 (n:Int) (w:World) (h0:128<=n) (h1:n < 16384):Calls Tryz.prog 72 #[.int .i64 n] w (PutPost n w):=by
 have hp:put n=[n % 128+128,n / 128]:=by unfold put;rw[if_neg (by omega),if_pos (by omega)]
 unfold PutPost
 rw[hp]
 clear hp
 have hm:=make2 w
 have hs:sz n=2:=by unfold sz;rw[if_neg (by omega),if_pos (by omega)]
 go_enter Tryz.func72,Tryz.ntmps72
 go_wp2_with (go_at_call 112;refine (sizeOf_any _ _ (by omega) (by omega)).mono ?_;rintro e w' ⟨rfl,rfl⟩)
 go_ret2
 refine⟨rfl,?_⟩
 rw[last_of (n / 128) (by omega) (by omega),more_of]
 rfl
theorem put_3 (n:Int) (w:World) (h0:16384<=n) (h1:n < 2097152):Calls Tryz.prog 72 #[.int .i64 n] w (PutPost n w):=by
 have hp:put n=[n % 128+128,n / 128 % 128+128,n / 16384]:=by unfold put;rw[if_neg (by omega),if_neg (by omega),if_pos (by omega)]
 unfold PutPost
 rw[hp]
 clear hp
 have hm:=make3 w
 have hs:sz n=3:=by unfold sz;rw[if_neg (by omega),if_neg (by omega),if_pos (by omega)]
 go_enter Tryz.func72,Tryz.ntmps72
 go_wp2_with (go_at_call 112;refine (sizeOf_any _ _ (by omega) (by omega)).mono ?_;rintro e w' ⟨rfl,rfl⟩)
 go_ret2
 refine⟨rfl,?_⟩
 rw[last_of (n / 16384) (by omega) (by omega),more_of,more_of]
 rfl
theorem put_4 (n:Int) (w:World) (h0:2097152<=n) (h1:n<=268435455):Calls Tryz.prog 72 #[.int .i64 n] w (PutPost n w):=by
 have hp:put n=[n % 128+128,n / 128 % 128+128,n / 16384 % 128+128,n / 2097152]:=by unfold put;rw[if_neg (by omega),if_neg (by omega),if_neg (by omega)]
 unfold PutPost
 rw[hp]
 clear hp
 have hm:=make4 w
 have hs:sz n=4:=by unfold sz;rw[if_neg (by omega),if_neg (by omega),if_neg (by omega)]
 go_enter Tryz.func72,Tryz.ntmps72
 go_wp2_with (go_at_call 112;refine (sizeOf_any _ _ (by omega) (by omega)).mono ?_;rintro e w' ⟨rfl,rfl⟩)
 go_ret2
 refine⟨rfl,?_⟩
 rw[last_of (n / 2097152) (by omega) (by omega),more_of,more_of,more_of]
 rfl
theorem put_good (n:Int) (w:World) (h0:0<=n) (h1:n<=268435455):Calls Tryz.prog 72 #[.int .i64 n] w (PutPost n w):=by
 by_cases a:n < 128
 ·exact put_1 n w h0 a
 ·by_cases b:n < 16384
  ·exact put_2 n w (by omega) b
  ·by_cases c:n < 2097152
   ·exact put_3 n w (by omega) c
   ·exact put_4 n w (by omega) h1
theorem put_range (n:Int) (h0:0<=n) (h1:n<=268435455):∀ j,0<=(put n).getD j 0/\(put n).getD j 0<=255:=by
 intro j
 unfold put
 split
 ·rcases j with _ | j <;> simp <;> omega
 ·split
  ·rcases j with _ | _ | j <;> simp <;> omega
  ·split
   ·rcases j with _ | _ | _ | j <;> simp <;> omega
   ·rcases j with _ | _ | _ | _ | j <;> simp <;> omega
theorem put_len (n:Int):1<=(put n).length/\(put n).length<=4:=by
 unfold put
 split <;> (try split) <;> (try split) <;> simp
theorem put_use (x:Int) (w:World) (h0:0<=x) (h1:x<=268435455):Calls Tryz.prog 72 #[.int .i64 x] w fun e w'=>∃ n:Nat,Hid (n=(put x).length)/\e=.returned (.tuple #[.slice (some ⟨w.heap.size,0,none⟩) n n,.nilIface]) /\
  Hid (w'.ownsRow w.heap.size 5 1 (.slice (some ⟨w.heap.size,0,none⟩) n n) n ((put x).map (Value.int .u8)))/\Below w.heap.size w w':=by
 refine (put_good x w h0 h1).mono ?_
 rintro e w' ⟨rfl,rfl⟩
 have hl:=put_len x
 exact⟨_,rfl,rfl,World.ownsRow_lit w _ _ (Nat.le_refl _) (by unfold maxLen;omega) (by simp),bal _ _⟩
end Go.Proofs.YtpheelbbpiieiaaGreatDoor.V
namespace Go.Proofs.YtpheelbbpiieiaaGreatDoor
open Go.RowKit
abbrev Pr:=Int×Int×ByteArray×ByteArray
abbrev es:ByteArray:=⟨#[]⟩
abbrev emp (s:ByteArray):Bool:=s.toList.isEmpty
def p0:Pr:=(0,0,es,es)
def kd (id:Int):Int :=
 if id=1\/id=23\/id=25\/id=36\/id=37\/id=40\/id=41\/id=42 then 1
 else if id=19\/id=33\/id=34\/id=35 then 2
 else if id=2\/id=17\/id=24\/id=39 then 4
 else if id=11 then 5
 else if id=3\/id=8\/id=18\/id=21\/id=26\/id=28\/id=31 then 6
 else if id=9\/id=22 then 7
 else if id=38 then 8 else 0
def lst (id:Int):Int:=if id=11\/id=33\/id=35\/id=39 then 1 else 0
def mx (id:Int):Int:=if kd id=1 then 1 else if kd id=2 then 65535 else if kd id=4 then 4294967295 else if kd id=5 then 268435455 else 0
def plc (id:Int):List Int :=
 if id=1\/id=2\/id=3\/id=8\/id=9 then [3,16]
 else if id=11 then [3,8]
 else if id=17 then [1,2,14]
 else if id=18\/id=19\/id=26\/id=36\/id=37\/id=40\/id=41\/id=42 then [2]
 else if id=21\/id=22 then [1,2,15]
 else if id=23\/id=25 then [1]
 else if id=24 then [16]
 else if id=28 then [2,14]
 else if id=31 then [2,4,5,6,7,9,11,14,15]
 else if id=33\/id=34\/id=39 then [1,2]
 else if id=35 then [3]
 else if id=38 then [1,2,3,4,5,6,7,8,9,10,11,14,15,16] else []
def mst (id place:Int):Bool:=decide (place ∈ plc id)
def rep (id place:Int):Bool:=decide (id=38) || (decide (id=11) && decide (place=3))
def fit (p:Pr):Bool:=decide (lst p.1<=p.2.1) && decide (p.2.1<=mx p.1) &&
 (if kd p.1=8 then true else if kd p.1=6\/kd p.1=7 then emp p.2.2.2 else emp p.2.2.1 && emp p.2.2.2)
def txo (p:Pr):Bool:=if kd p.1=6 then decide (chk (sb p.2.2.1)=0) else if kd p.1=7 then decide (p.2.2.1.size<=65535) else if kd p.1=8 then decide (chk (sb p.2.2.1)=0) && decide (chk (sb p.2.2.2)=0) else decide (kd p.1≠0)
def may (p:Pr):Bool:=fit p && txo p
def at0 (l:List Pr) (i:Nat):Pr:=l.getD i p0
def seen (l:List Pr) (i:Nat) (id:Int):Bool:=(l.take i).any fun q=>decide (q.1=id)
def okAt (place:Int) (l:List Pr) (i:Nat):Bool:=mst (at0 l i).1 place && may (at0 l i) && (rep (at0 l i).1 place || !(seen l i (at0 l i).1))
def chkP (place:Int) (l:List Pr):Int:=if (∀ i,i < l.length->okAt place l i=true) then (if l.length<=32 then 0 else 2) else 1
def pvb (p:Pr):List Int :=
 if kd p.1=1 then [p.2.1] else if kd p.1=2 then [p.2.1 / 256,p.2.1 % 256]
 else if kd p.1=4 then [p.2.1 / 16777216,p.2.1 / 65536 % 256,p.2.1 / 256 % 256,p.2.1 % 256]
 else if kd p.1=5 then V.put p.2.1 else if kd p.1=8 then tx p.2.2.1++tx p.2.2.2 else tx p.2.2.1
def pb (p:Pr):List Int:=V.put p.1++pvb p
theorem id_cases {P:Int->Prop} (id:Int) (h1:P 1) (h2:P 2) (h3:P 3) (h8:P 8) (h9:P 9) (h11:P 11) (h17:P 17) (h18:P 18) (h19:P 19) (h21:P 21) (h22:P 22) (h23:P 23) (h24:P 24) (h25:P 25) (h26:P 26) (h28:P 28) (h31:P 31) (h33:P 33) (h34:P 34) (h35:P 35) (h36:P 36) (h37:P 37) (h38:P 38) (h39:P 39) (h40:P 40) (h41:P 41) (h42:P 42) (hn:id≠1->id≠2->id≠3->id≠8->id≠9->id≠11->id≠17->id≠18->id≠19->id≠21->id≠22->id≠23->id≠24->id≠25->id≠26->id≠28->id≠31->id≠33->id≠34->id≠35->id≠36->id≠37->id≠38->id≠39->id≠40->id≠41->id≠42->P id):P id:=by
 by_cases e1:id=1
 ·rw[e1];exact h1
 by_cases e2:id=2
 ·rw[e2];exact h2
 by_cases e3:id=3
 ·rw[e3];exact h3
 by_cases e8:id=8
 ·rw[e8];exact h8
 by_cases e9:id=9
 ·rw[e9];exact h9
 by_cases e11:id=11
 ·rw[e11];exact h11
 by_cases e17:id=17
 ·rw[e17];exact h17
 by_cases e18:id=18
 ·rw[e18];exact h18
 by_cases e19:id=19
 ·rw[e19];exact h19
 by_cases e21:id=21
 ·rw[e21];exact h21
 by_cases e22:id=22
 ·rw[e22];exact h22
 by_cases e23:id=23
 ·rw[e23];exact h23
 by_cases e24:id=24
 ·rw[e24];exact h24
 by_cases e25:id=25
 ·rw[e25];exact h25
 by_cases e26:id=26
 ·rw[e26];exact h26
 by_cases e28:id=28
 ·rw[e28];exact h28
 by_cases e31:id=31
 ·rw[e31];exact h31
 by_cases e33:id=33
 ·rw[e33];exact h33
 by_cases e34:id=34
 ·rw[e34];exact h34
 by_cases e35:id=35
 ·rw[e35];exact h35
 by_cases e36:id=36
 ·rw[e36];exact h36
 by_cases e37:id=37
 ·rw[e37];exact h37
 by_cases e38:id=38
 ·rw[e38];exact h38
 by_cases e39:id=39
 ·rw[e39];exact h39
 by_cases e40:id=40
 ·rw[e40];exact h40
 by_cases e41:id=41
 ·rw[e41];exact h41
 by_cases e42:id=42
 ·rw[e42];exact h42
 exact hn e1 e2 e3 e8 e9 e11 e17 e18 e19 e21 e22 e23 e24 e25 e26 e28 e31 e33 e34 e35 e36 e37 e38 e39 e40 e41 e42
theorem kd_none (id:Int) (n1:id≠1) (n2:id≠2) (n3:id≠3) (n8:id≠8) (n9:id≠9) (n11:id≠11) (n17:id≠17) (n18:id≠18) (n19:id≠19) (n21:id≠21) (n22:id≠22) (n23:id≠23) (n24:id≠24) (n25:id≠25) (n26:id≠26) (n28:id≠28) (n31:id≠31) (n33:id≠33) (n34:id≠34) (n35:id≠35) (n36:id≠36) (n37:id≠37) (n38:id≠38) (n39:id≠39) (n40:id≠40) (n41:id≠41) (n42:id≠42):kd id=0:=by
 unfold kd
 simp only[n1,n2,n3,n8,n9,n11,n17,n18,n19,n21,n22,n23,n24,n25,n26,n28,n31,n33,n34,n35,n36,n37,n38,n39,n40,n41,n42,or_false,if_false]
theorem plc_none (id:Int) (n1:id≠1) (n2:id≠2) (n3:id≠3) (n8:id≠8) (n9:id≠9) (n11:id≠11) (n17:id≠17) (n18:id≠18) (n19:id≠19) (n21:id≠21) (n22:id≠22) (n23:id≠23) (n24:id≠24) (n25:id≠25) (n26:id≠26) (n28:id≠28) (n31:id≠31) (n33:id≠33) (n34:id≠34) (n35:id≠35) (n36:id≠36) (n37:id≠37) (n38:id≠38) (n39:id≠39) (n40:id≠40) (n41:id≠41) (n42:id≠42):plc id=[]:=by
 unfold plc
 simp only[n1,n2,n3,n8,n9,n11,n17,n18,n19,n21,n22,n23,n24,n25,n26,n28,n31,n33,n34,n35,n36,n37,n38,n39,n40,n41,n42,or_false,if_false]
theorem lst_none (id:Int) (n11:id≠11) (n33:id≠33) (n35:id≠35) (n39:id≠39):lst id=0:=by
 unfold lst
 simp only[n11,n33,n35,n39,or_false,if_false]
theorem id_range (id place:Int) (h:mst id place=true):1<=id/\id<=42:=by
 refine id_cases (P:=fun id=>mst id place=true->1<=id/\id<=42) id (fun _=>by omega) (fun _=>by omega) (fun _=>by omega) (fun _=>by omega) (fun _=>by omega) (fun _=>by omega) (fun _=>by omega) (fun _=>by omega) (fun _=>by omega) (fun _=>by omega) (fun _=>by omega) (fun _=>by omega) (fun _=>by omega) (fun _=>by omega) (fun _=>by omega) (fun _=>by omega) (fun _=>by omega) (fun _=>by omega) (fun _=>by omega) (fun _=>by omega) (fun _=>by omega) (fun _=>by omega) (fun _=>by omega) (fun _=>by omega) (fun _=>by omega) (fun _=>by omega) (fun _=>by omega) ?_ h
 intro n1 n2 n3 n8 n9 n11 n17 n18 n19 n21 n22 n23 n24 n25 n26 n28 n31 n33 n34 n35 n36 n37 n38 n39 n40 n41 n42 h
 unfold mst at h
 rw[plc_none id n1 n2 n3 n8 n9 n11 n17 n18 n19 n21 n22 n23 n24 n25 n26 n28 n31 n33 n34 n35 n36 n37 n38 n39 n40 n41 n42]at h
 simp at h
theorem pvb_le (p:Pr) (h:may p=true):(pvb p).length<=131074:=by
 have hv:=(V.put_len p.2.1).2
 unfold may txo at h
 rw[Bool.and_eq_true]at h
 have h2:=h.2
 unfold pvb
 by_cases k1:kd p.1=1
 ·rw[if_pos k1];simp
 rw[if_neg k1]
 by_cases k2:kd p.1=2
 ·rw[if_pos k2];simp
 rw[if_neg k2]
 by_cases k4:kd p.1=4
 ·rw[if_pos k4];simp
 rw[if_neg k4]
 by_cases k5:kd p.1=5
 ·rw[if_pos k5];omega
 rw[if_neg k5]
 by_cases k8:kd p.1=8
 ·rw[if_pos k8]
  rw[if_neg (by omega),if_neg (by omega),if_pos k8,Bool.and_eq_true,decide_eq_true_eq,decide_eq_true_eq]at h2
  have a:=chk_0 h2.1
  have b:=chk_0 h2.2
  rw[sb_length]at a b
  rw[List.length_append,tx_length,tx_length]
  omega
 rw[if_neg k8]
 by_cases k6:kd p.1=6
 ·rw[if_pos k6,decide_eq_true_eq]at h2
  have a:=chk_0 h2
  rw[sb_length]at a
  rw[tx_length];omega
 rw[if_neg k6]at h2
 by_cases k7:kd p.1=7
 ·rw[if_pos k7,decide_eq_true_eq]at h2
  rw[tx_length];omega
 rw[if_neg k7,if_neg k8,decide_eq_true_eq]at h2
 exfalso
 revert h2 k1 k2 k4 k5 k6 k7 k8
 unfold kd
 repeat' split
 all_goals omega
theorem chkP_bad (place:Int) (l:List Pr) (k:Nat) (hk:k < l.length) (h:okAt place l k=false):chkP place l=1:=by
 unfold chkP
 rw[if_neg]
 intro a
 rw[a k hk]at h
 cases h
theorem chkP_ok (place:Int) (l:List Pr) (h:∀ i,i < l.length->okAt place l i=true) (hl:l.length<=32):chkP place l=0:=by
 unfold chkP
 rw[if_pos h,if_pos hl]
theorem chkP_lim (place:Int) (l:List Pr) (h:∀ i,i < l.length->okAt place l i=true) (hl:32 < l.length):chkP place l=2:=by
 unfold chkP
 rw[if_pos h,if_neg (by omega)]
def okTo (place:Int) (l:List Pr) (k:Nat):Prop:=∀ i,i < k->okAt place l i=true
theorem okTo_zero (place:Int) (l:List Pr):okTo place l 0:=fun i h=>absurd h (Nat.not_lt_zero i)
end Go.Proofs.YtpheelbbpiieiaaGreatDoor
namespace Go.Proofs.YtpheelbbpiieiaaGreatDoor.V
open Go.RowKit
set_option maxRecDepth 100000
theorem Tryz.infoU8:(Tryz.prog.info? 5).map (fun i=>(i.zero,i.size,i.bytes))=some (some (.int .u8 0),1,1):=by kernel_rfl
theorem ofInt_64 (a:Nat) (ha:a < 18446744073709551616):(BitVec.ofInt 64 (a:Int)).toNat=a:=by
 rw[BitVec.ofInt_natCast,BitVec.toNat_ofNat];exact Nat.mod_eq_of_lt (by omega)
theorem i64_or_nat (a b:Nat) (ha:a < 4611686018427387904) (hb:b < 4611686018427387904):bits .or .i64 (a:Int) (b:Int)=((a ||| b:Nat):Int):=by
 have hx:a ||| b < 2 ^ 62:=Nat.or_lt_two_pow (by omega) (by omega)
 show IntKind.i64.wrap ((BitVec.ofInt 64 (a:Int) ||| BitVec.ofInt 64 (b:Int)).toNat:Int)=_
 rw[BitVec.toNat_or,ofInt_64 a (by omega),ofInt_64 b (by omega),IntKind.wrap_i64]
 omega
theorem or_hi (i:Nat) (x y:Int) (hx0:0<=x) (hx1:x < 4611686018427387904) (hy0:0<=y) (hy1:y < 4611686018427387904) (hm:x.toNat % 2 ^ i=0) (hy:y.toNat < 2 ^ i):bits .or .i64 x y=x+y:=by
 obtain⟨a,rfl⟩:=Int.eq_ofNat_of_zero_le hx0
 obtain⟨b,rfl⟩:=Int.eq_ofNat_of_zero_le hy0
 rw[i64_or_nat a b (by omega) (by omega),nat_join i a b (by simpa using hm) (by simpa using hy)]
 omega
theorem or_lo (i:Nat) (x y:Int) (hx0:0<=x) (hx1:x < 4611686018427387904) (hy0:0<=y) (hy1:y < 4611686018427387904) (hm:y.toNat % 2 ^ i=0) (hx:x.toNat < 2 ^ i):bits .or .i64 x y=x+y:=by
 obtain⟨a,rfl⟩:=Int.eq_ofNat_of_zero_le hx0
 obtain⟨b,rfl⟩:=Int.eq_ofNat_of_zero_le hy0
 rw[i64_or_nat a b (by omega) (by omega),Nat.or_comm,nat_join i b a (by simpa using hm) (by simpa using hx)]
 omega
theorem or_zero (y:Int) (hy0:0<=y) (hy1:y < 4611686018427387904):bits .or .i64 0 y=y:=by
 rw[or_lo 0 0 y (by omega) (by omega) hy0 hy1 (by omega) (by decide)];omega
theorem and128_hi (x:Int) (h0:128<=x) (h1:x<=255):bits .and .u8 x 128=128:=by
 rw[and128 x (by omega) (by omega),if_neg (by omega)]
theorem and128_lo (x:Int) (h0:0<=x) (h1:x < 128):bits .and .u8 x 128=0:=by
 rw[and128 x (by omega) (by omega),if_pos (by omega)]
theorem and127_hi (x:Int) (h0:128<=x) (h1:x<=255):bits .and .u8 x 127=x - 128:=by
 rw[and127 x (by omega) (by omega)];omega
theorem and127_lo (x:Int) (h0:0<=x) (h1:x < 128):bits .and .u8 x 127=x:=by
 rw[and127 x (by omega) (by omega)];omega
theorem meas_s0 (ao:Option Addr) (cap:Nat) (w:World) :
  Calls Tryz.prog 78 #[.slice ao 0 cap] w fun e w'=>e=.returned (.tuple #[.int .i64 0,.iface 118 (.pointer (some ⟨w.heap.size,0,none⟩))])/\w'=w.alloc (.cells #[.string ⟨#[118,97,114,105,110,116]⟩,.iface 63 (.int .i64 3)] 120):=by
 go_enter Tryz.func78,Tryz.ntmps78
 go_wp2
 refine wp_loop_rounds 1 ?_
 rw[rounds_succ]
 go_wp2_with (go_at_call 111;refine (fault_any _ _).mono ?_;rintro e w' ⟨rfl,rfl⟩)
 go_ret2
 exact⟨rfl,rfl⟩
theorem meas_o1 (b off len cap:Nat) (x0:Int) (w:World) (hlen:len<=maxLen) (hl:0 < len) (c0:w.cell? ⟨b,off,none⟩=some (.int .u8 x0)) (p0:0<=x0) (p1:x0 < 128) :
  Calls Tryz.prog 78 #[.slice (some ⟨b,off,none⟩) len cap] w fun e w'=>e=.returned (.tuple #[.int .i64 1,.nilIface])/\w'=w:=by
 unfold maxLen at hlen
 have k0:=and128_lo x0 (by omega) p1
 go_enter Tryz.func78,Tryz.ntmps78
 go_wp2
 refine wp_loop_rounds 1 ?_
 rw[rounds_succ]
 go_wp2
 go_ret2
 exact⟨rfl,rfl⟩
theorem meas_s1 (b off len cap:Nat) (x0:Int) (w:World) (hlen:len<=maxLen) (hl:len=1) (c0:w.cell? ⟨b,off,none⟩=some (.int .u8 x0)) (r0:0<=x0/\x0<=255) (g0:128<=x0) :
  Calls Tryz.prog 78 #[.slice (some ⟨b,off,none⟩) len cap] w fun e w'=>e=.returned (.tuple #[.int .i64 0,.iface 118 (.pointer (some ⟨w.heap.size,0,none⟩))])/\w'=w.alloc (.cells #[.string ⟨#[118,97,114,105,110,116]⟩,.iface 63 (.int .i64 3)] 120):=by
 unfold maxLen at hlen
 have k0:=and128_hi x0 g0 r0.2
 subst hl
 go_enter Tryz.func78,Tryz.ntmps78
 go_wp2
 refine wp_loop_rounds 2 ?_
 rw[rounds_succ]
 go_wp2
 rw[rounds_succ]
 go_wp2_with (go_at_call 111;refine (fault_any _ _).mono ?_;rintro e w' ⟨rfl,rfl⟩)
 go_ret2
 exact⟨rfl,rfl⟩
theorem meas_z2 (b off len cap:Nat) (x0 x1:Int) (w:World) (hlen:len<=maxLen) (hl:1 < len) (c0:w.cell? ⟨b,off,none⟩=some (.int .u8 x0)) (r0:0<=x0/\x0<=255) (c1:w.cell? ⟨b,off+1,none⟩=some (.int .u8 x1)) (g0:128<=x0) (p0:x1=0) :
  Calls Tryz.prog 78 #[.slice (some ⟨b,off,none⟩) len cap] w fun e w'=>e=.returned (.tuple #[.int .i64 0,.iface 118 (.pointer (some ⟨w.heap.size,0,none⟩))])/\w'=w.alloc (.cells #[.string ⟨#[118,97,114,105,110,116]⟩,.iface 63 (.int .i64 1)] 120):=by
 unfold maxLen at hlen
 have k0:=and128_hi x0 g0 r0.2
 subst p0
 have k1:=and128_lo 0 (by omega) (by omega)
 go_enter Tryz.func78,Tryz.ntmps78
 go_wp2
 refine wp_loop_rounds 2 ?_
 rw[rounds_succ]
 go_wp2
 rw[rounds_succ]
 go_wp2_with (go_at_call 111;refine (fault_any _ _).mono ?_;rintro e w' ⟨rfl,rfl⟩)
 go_ret2
 exact⟨rfl,rfl⟩
theorem meas_o2 (b off len cap:Nat) (x0 x1:Int) (w:World) (hlen:len<=maxLen) (hl:1 < len) (c0:w.cell? ⟨b,off,none⟩=some (.int .u8 x0)) (r0:0<=x0/\x0<=255) (c1:w.cell? ⟨b,off+1,none⟩=some (.int .u8 x1)) (g0:128<=x0) (p0:1<=x1) (p1:x1 < 128) :
  Calls Tryz.prog 78 #[.slice (some ⟨b,off,none⟩) len cap] w fun e w'=>e=.returned (.tuple #[.int .i64 2,.nilIface])/\w'=w:=by
 unfold maxLen at hlen
 have k0:=and128_hi x0 g0 r0.2
 have k1:=and128_lo x1 (by omega) p1
 go_enter Tryz.func78,Tryz.ntmps78
 go_wp2
 refine wp_loop_rounds 2 ?_
 rw[rounds_succ]
 go_wp2
 rw[rounds_succ]
 go_wp2
 go_ret2
 exact⟨rfl,rfl⟩
theorem meas_s2 (b off len cap:Nat) (x0 x1:Int) (w:World) (hlen:len<=maxLen) (hl:len=2) (c0:w.cell? ⟨b,off,none⟩=some (.int .u8 x0)) (r0:0<=x0/\x0<=255) (c1:w.cell? ⟨b,off+1,none⟩=some (.int .u8 x1)) (r1:0<=x1/\x1<=255) (g0:128<=x0) (g1:128<=x1) :
  Calls Tryz.prog 78 #[.slice (some ⟨b,off,none⟩) len cap] w fun e w'=>e=.returned (.tuple #[.int .i64 0,.iface 118 (.pointer (some ⟨w.heap.size,0,none⟩))])/\w'=w.alloc (.cells #[.string ⟨#[118,97,114,105,110,116]⟩,.iface 63 (.int .i64 3)] 120):=by
 unfold maxLen at hlen
 have k0:=and128_hi x0 g0 r0.2
 have k1:=and128_hi x1 g1 r1.2
 subst hl
 go_enter Tryz.func78,Tryz.ntmps78
 go_wp2
 refine wp_loop_rounds 3 ?_
 rw[rounds_succ]
 go_wp2
 rw[rounds_succ]
 go_wp2
 rw[rounds_succ]
 go_wp2_with (go_at_call 111;refine (fault_any _ _).mono ?_;rintro e w' ⟨rfl,rfl⟩)
 go_ret2
 exact⟨rfl,rfl⟩
theorem meas_z3 (b off len cap:Nat) (x0 x1 x2:Int) (w:World) (hlen:len<=maxLen) (hl:2 < len) (c0:w.cell? ⟨b,off,none⟩=some (.int .u8 x0)) (r0:0<=x0/\x0<=255) (c1:w.cell? ⟨b,off+1,none⟩=some (.int .u8 x1)) (r1:0<=x1/\x1<=255) (c2:w.cell? ⟨b,off+2,none⟩=some (.int .u8 x2)) (g0:128<=x0) (g1:128<=x1) (p0:x2=0) :
  Calls Tryz.prog 78 #[.slice (some ⟨b,off,none⟩) len cap] w fun e w'=>e=.returned (.tuple #[.int .i64 0,.iface 118 (.pointer (some ⟨w.heap.size,0,none⟩))])/\w'=w.alloc (.cells #[.string ⟨#[118,97,114,105,110,116]⟩,.iface 63 (.int .i64 1)] 120):=by
 unfold maxLen at hlen
 have k0:=and128_hi x0 g0 r0.2
 have k1:=and128_hi x1 g1 r1.2
 subst p0
 have k2:=and128_lo 0 (by omega) (by omega)
 go_enter Tryz.func78,Tryz.ntmps78
 go_wp2
 refine wp_loop_rounds 3 ?_
 rw[rounds_succ]
 go_wp2
 rw[rounds_succ]
 go_wp2
 rw[rounds_succ]
 go_wp2_with (go_at_call 111;refine (fault_any _ _).mono ?_;rintro e w' ⟨rfl,rfl⟩)
 go_ret2
 exact⟨rfl,rfl⟩
theorem meas_o3 (b off len cap:Nat) (x0 x1 x2:Int) (w:World) (hlen:len<=maxLen) (hl:2 < len) (c0:w.cell? ⟨b,off,none⟩=some (.int .u8 x0)) (r0:0<=x0/\x0<=255) (c1:w.cell? ⟨b,off+1,none⟩=some (.int .u8 x1)) (r1:0<=x1/\x1<=255) (c2:w.cell? ⟨b,off+2,none⟩=some (.int .u8 x2)) (g0:128<=x0) (g1:128<=x1) (p0:1<=x2) (p1:x2 < 128) :
  Calls Tryz.prog 78 #[.slice (some ⟨b,off,none⟩) len cap] w fun e w'=>e=.returned (.tuple #[.int .i64 3,.nilIface])/\w'=w:=by
 unfold maxLen at hlen
 have k0:=and128_hi x0 g0 r0.2
 have k1:=and128_hi x1 g1 r1.2
 have k2:=and128_lo x2 (by omega) p1
 go_enter Tryz.func78,Tryz.ntmps78
 go_wp2
 refine wp_loop_rounds 3 ?_
 rw[rounds_succ]
 go_wp2
 rw[rounds_succ]
 go_wp2
 rw[rounds_succ]
 go_wp2
 go_ret2
 exact⟨rfl,rfl⟩
theorem meas_s3 (b off len cap:Nat) (x0 x1 x2:Int) (w:World) (hlen:len<=maxLen) (hl:len=3) (c0:w.cell? ⟨b,off,none⟩=some (.int .u8 x0)) (r0:0<=x0/\x0<=255) (c1:w.cell? ⟨b,off+1,none⟩=some (.int .u8 x1)) (r1:0<=x1/\x1<=255) (c2:w.cell? ⟨b,off+2,none⟩=some (.int .u8 x2)) (r2:0<=x2/\x2<=255) (g0:128<=x0) (g1:128<=x1) (g2:128<=x2) :
  Calls Tryz.prog 78 #[.slice (some ⟨b,off,none⟩) len cap] w fun e w'=>e=.returned (.tuple #[.int .i64 0,.iface 118 (.pointer (some ⟨w.heap.size,0,none⟩))])/\w'=w.alloc (.cells #[.string ⟨#[118,97,114,105,110,116]⟩,.iface 63 (.int .i64 3)] 120):=by
 unfold maxLen at hlen
 have k0:=and128_hi x0 g0 r0.2
 have k1:=and128_hi x1 g1 r1.2
 have k2:=and128_hi x2 g2 r2.2
 subst hl
 go_enter Tryz.func78,Tryz.ntmps78
 go_wp2
 refine wp_loop_rounds 4 ?_
 rw[rounds_succ]
 go_wp2
 rw[rounds_succ]
 go_wp2
 rw[rounds_succ]
 go_wp2
 rw[rounds_succ]
 go_wp2_with (go_at_call 111;refine (fault_any _ _).mono ?_;rintro e w' ⟨rfl,rfl⟩)
 go_ret2
 exact⟨rfl,rfl⟩
theorem meas_z4 (b off len cap:Nat) (x0 x1 x2 x3:Int) (w:World) (hlen:len<=maxLen) (hl:3 < len) (c0:w.cell? ⟨b,off,none⟩=some (.int .u8 x0)) (r0:0<=x0/\x0<=255) (c1:w.cell? ⟨b,off+1,none⟩=some (.int .u8 x1)) (r1:0<=x1/\x1<=255) (c2:w.cell? ⟨b,off+2,none⟩=some (.int .u8 x2)) (r2:0<=x2/\x2<=255) (c3:w.cell? ⟨b,off+3,none⟩=some (.int .u8 x3)) (g0:128<=x0) (g1:128<=x1) (g2:128<=x2) (p0:x3=0) :
  Calls Tryz.prog 78 #[.slice (some ⟨b,off,none⟩) len cap] w fun e w'=>e=.returned (.tuple #[.int .i64 0,.iface 118 (.pointer (some ⟨w.heap.size,0,none⟩))])/\w'=w.alloc (.cells #[.string ⟨#[118,97,114,105,110,116]⟩,.iface 63 (.int .i64 1)] 120):=by
 unfold maxLen at hlen
 have k0:=and128_hi x0 g0 r0.2
 have k1:=and128_hi x1 g1 r1.2
 have k2:=and128_hi x2 g2 r2.2
 subst p0
 have k3:=and128_lo 0 (by omega) (by omega)
 go_enter Tryz.func78,Tryz.ntmps78
 go_wp2
 refine wp_loop_rounds 4 ?_
 rw[rounds_succ]
 go_wp2
 rw[rounds_succ]
 go_wp2
 rw[rounds_succ]
 go_wp2
 rw[rounds_succ]
 go_wp2_with (go_at_call 111;refine (fault_any _ _).mono ?_;rintro e w' ⟨rfl,rfl⟩)
 go_ret2
 exact⟨rfl,rfl⟩
theorem meas_o4 (b off len cap:Nat) (x0 x1 x2 x3:Int) (w:World) (hlen:len<=maxLen) (hl:3 < len) (c0:w.cell? ⟨b,off,none⟩=some (.int .u8 x0)) (r0:0<=x0/\x0<=255) (c1:w.cell? ⟨b,off+1,none⟩=some (.int .u8 x1)) (r1:0<=x1/\x1<=255) (c2:w.cell? ⟨b,off+2,none⟩=some (.int .u8 x2)) (r2:0<=x2/\x2<=255) (c3:w.cell? ⟨b,off+3,none⟩=some (.int .u8 x3)) (g0:128<=x0) (g1:128<=x1) (g2:128<=x2) (p0:1<=x3) (p1:x3 < 128) :
  Calls Tryz.prog 78 #[.slice (some ⟨b,off,none⟩) len cap] w fun e w'=>e=.returned (.tuple #[.int .i64 4,.nilIface])/\w'=w:=by
 unfold maxLen at hlen
 have k0:=and128_hi x0 g0 r0.2
 have k1:=and128_hi x1 g1 r1.2
 have k2:=and128_hi x2 g2 r2.2
 have k3:=and128_lo x3 (by omega) p1
 go_enter Tryz.func78,Tryz.ntmps78
 go_wp2
 refine wp_loop_rounds 4 ?_
 rw[rounds_succ]
 go_wp2
 rw[rounds_succ]
 go_wp2
 rw[rounds_succ]
 go_wp2
 rw[rounds_succ]
 go_wp2
 go_ret2
 exact⟨rfl,rfl⟩
theorem meas_l4 (b off len cap:Nat) (x0 x1 x2 x3:Int) (w:World) (hlen:len<=maxLen) (hl:3 < len) (c0:w.cell? ⟨b,off,none⟩=some (.int .u8 x0)) (r0:0<=x0/\x0<=255) (c1:w.cell? ⟨b,off+1,none⟩=some (.int .u8 x1)) (r1:0<=x1/\x1<=255) (c2:w.cell? ⟨b,off+2,none⟩=some (.int .u8 x2)) (r2:0<=x2/\x2<=255) (c3:w.cell? ⟨b,off+3,none⟩=some (.int .u8 x3)) (r3:0<=x3/\x3<=255) (g0:128<=x0) (g1:128<=x1) (g2:128<=x2) (g3:128<=x3) :
  Calls Tryz.prog 78 #[.slice (some ⟨b,off,none⟩) len cap] w fun e w'=>e=.returned (.tuple #[.int .i64 0,.iface 118 (.pointer (some ⟨w.heap.size,0,none⟩))])/\w'=w.alloc (.cells #[.string ⟨#[118,97,114,105,110,116]⟩,.iface 63 (.int .i64 1)] 120):=by
 unfold maxLen at hlen
 have k0:=and128_hi x0 g0 r0.2
 have k1:=and128_hi x1 g1 r1.2
 have k2:=and128_hi x2 g2 r2.2
 have k3:=and128_hi x3 g3 r3.2
 go_enter Tryz.func78,Tryz.ntmps78
 go_wp2
 refine wp_loop_rounds 5 ?_
 rw[rounds_succ]
 go_wp2
 rw[rounds_succ]
 go_wp2
 rw[rounds_succ]
 go_wp2
 rw[rounds_succ]
 go_wp2
 rw[rounds_succ]
 go_wp2_with (go_at_call 111;refine (fault_any _ _).mono ?_;rintro e w' ⟨rfl,rfl⟩)
 go_ret2
 exact⟨rfl,rfl⟩
theorem get_s0 (ao:Option Addr) (cap:Nat) (w:World) :
  Calls Tryz.prog 50 #[.slice ao 0 cap] w fun e w'=>e=.returned (.tuple #[.int .i64 0,.int .i64 0,.iface 118 (.pointer (some ⟨w.heap.size,0,none⟩))])/\w'=w.alloc (.cells #[.string ⟨#[118,97,114,105,110,116]⟩,.iface 63 (.int .i64 3)] 120):=by
 have HM:=zh (meas_s0 ao cap w)
 go_enter Tryz.func50,Tryz.ntmps50
 go_wp2_with (go_at_call 78;refine (uh HM).mono ?_;rintro e w' ⟨rfl,rfl⟩)
 go_ret3
 exact⟨rfl,rfl⟩
theorem get_o1 (b off len cap:Nat) (x0:Int) (w:World) (hlen:len<=maxLen) (hl:0 < len) (c0:w.cell? ⟨b,off,none⟩=some (.int .u8 x0)) (p0:0<=x0) (p1:x0 < 128) :
  Calls Tryz.prog 50 #[.slice (some ⟨b,off,none⟩) len cap] w fun e w'=>e=.returned (.tuple #[.int .i64 (x0),.int .i64 1,.nilIface])/\w'=w:=by
 have HM:=zh (meas_o1 b off len cap x0 w hlen hl c0 p0 p1)
 unfold maxLen at hlen
 have k0:=and127_lo x0 (by omega) p1
 go_enter Tryz.func50,Tryz.ntmps50
 go_wp2_with (go_at_call 78;refine (uh HM).mono ?_;rintro e w' ⟨rfl,rfl⟩)
 go_ret3
 refine⟨congrArg (fun z:Int=>Ending.returned (.tuple #[.int .i64 z,.int .i64 1,.nilIface])) ?_,rfl⟩
 rw[or_zero (x0) (by omega) (by omega)]
theorem get_s1 (b off len cap:Nat) (x0:Int) (w:World) (hlen:len<=maxLen) (hl:len=1) (c0:w.cell? ⟨b,off,none⟩=some (.int .u8 x0)) (r0:0<=x0/\x0<=255) (g0:128<=x0) :
  Calls Tryz.prog 50 #[.slice (some ⟨b,off,none⟩) len cap] w fun e w'=>e=.returned (.tuple #[.int .i64 0,.int .i64 0,.iface 118 (.pointer (some ⟨w.heap.size,0,none⟩))])/\w'=w.alloc (.cells #[.string ⟨#[118,97,114,105,110,116]⟩,.iface 63 (.int .i64 3)] 120):=by
 have HM:=zh (meas_s1 b off len cap x0 w hlen hl c0 r0 g0)
 unfold maxLen at hlen
 subst hl
 go_enter Tryz.func50,Tryz.ntmps50
 go_wp2_with (go_at_call 78;refine (uh HM).mono ?_;rintro e w' ⟨rfl,rfl⟩)
 go_ret3
 exact⟨rfl,rfl⟩
theorem get_z2 (b off len cap:Nat) (x0 x1:Int) (w:World) (hlen:len<=maxLen) (hl:1 < len) (c0:w.cell? ⟨b,off,none⟩=some (.int .u8 x0)) (r0:0<=x0/\x0<=255) (c1:w.cell? ⟨b,off+1,none⟩=some (.int .u8 x1)) (g0:128<=x0) (p0:x1=0) :
  Calls Tryz.prog 50 #[.slice (some ⟨b,off,none⟩) len cap] w fun e w'=>e=.returned (.tuple #[.int .i64 0,.int .i64 0,.iface 118 (.pointer (some ⟨w.heap.size,0,none⟩))])/\w'=w.alloc (.cells #[.string ⟨#[118,97,114,105,110,116]⟩,.iface 63 (.int .i64 1)] 120):=by
 have HM:=zh (meas_z2 b off len cap x0 x1 w hlen hl c0 r0 c1 g0 p0)
 unfold maxLen at hlen
 subst p0
 go_enter Tryz.func50,Tryz.ntmps50
 go_wp2_with (go_at_call 78;refine (uh HM).mono ?_;rintro e w' ⟨rfl,rfl⟩)
 go_ret3
 exact⟨rfl,rfl⟩
theorem get_o2 (b off len cap:Nat) (x0 x1:Int) (w:World) (hlen:len<=maxLen) (hl:1 < len) (c0:w.cell? ⟨b,off,none⟩=some (.int .u8 x0)) (r0:0<=x0/\x0<=255) (c1:w.cell? ⟨b,off+1,none⟩=some (.int .u8 x1)) (g0:128<=x0) (p0:1<=x1) (p1:x1 < 128) :
  Calls Tryz.prog 50 #[.slice (some ⟨b,off,none⟩) len cap] w fun e w'=>e=.returned (.tuple #[.int .i64 ((x0 - 128)+x1 * 128),.int .i64 2,.nilIface])/\w'=w:=by
 have HM:=zh (meas_o2 b off len cap x0 x1 w hlen hl c0 r0 c1 g0 p0 p1)
 unfold maxLen at hlen
 have k0:=and127_hi x0 g0 r0.2
 have k1:=and127_lo x1 (by omega) p1
 go_enter Tryz.func50,Tryz.ntmps50
 go_wp2_with (go_at_call 78;refine (uh HM).mono ?_;rintro e w' ⟨rfl,rfl⟩)
 go_ret3
 refine⟨congrArg (fun z:Int=>Ending.returned (.tuple #[.int .i64 z,.int .i64 2,.nilIface])) ?_,rfl⟩
 rw[or_zero (x1 * 128) (by omega) (by omega),or_hi 7 (x1 * 128) ((x0 - 128)) (by omega) (by omega) (by omega) (by omega) (by omega) (by omega)]
 omega
theorem get_s2 (b off len cap:Nat) (x0 x1:Int) (w:World) (hlen:len<=maxLen) (hl:len=2) (c0:w.cell? ⟨b,off,none⟩=some (.int .u8 x0)) (r0:0<=x0/\x0<=255) (c1:w.cell? ⟨b,off+1,none⟩=some (.int .u8 x1)) (r1:0<=x1/\x1<=255) (g0:128<=x0) (g1:128<=x1) :
  Calls Tryz.prog 50 #[.slice (some ⟨b,off,none⟩) len cap] w fun e w'=>e=.returned (.tuple #[.int .i64 0,.int .i64 0,.iface 118 (.pointer (some ⟨w.heap.size,0,none⟩))])/\w'=w.alloc (.cells #[.string ⟨#[118,97,114,105,110,116]⟩,.iface 63 (.int .i64 3)] 120):=by
 have HM:=zh (meas_s2 b off len cap x0 x1 w hlen hl c0 r0 c1 r1 g0 g1)
 unfold maxLen at hlen
 subst hl
 go_enter Tryz.func50,Tryz.ntmps50
 go_wp2_with (go_at_call 78;refine (uh HM).mono ?_;rintro e w' ⟨rfl,rfl⟩)
 go_ret3
 exact⟨rfl,rfl⟩
theorem get_z3 (b off len cap:Nat) (x0 x1 x2:Int) (w:World) (hlen:len<=maxLen) (hl:2 < len) (c0:w.cell? ⟨b,off,none⟩=some (.int .u8 x0)) (r0:0<=x0/\x0<=255) (c1:w.cell? ⟨b,off+1,none⟩=some (.int .u8 x1)) (r1:0<=x1/\x1<=255) (c2:w.cell? ⟨b,off+2,none⟩=some (.int .u8 x2)) (g0:128<=x0) (g1:128<=x1) (p0:x2=0) :
  Calls Tryz.prog 50 #[.slice (some ⟨b,off,none⟩) len cap] w fun e w'=>e=.returned (.tuple #[.int .i64 0,.int .i64 0,.iface 118 (.pointer (some ⟨w.heap.size,0,none⟩))])/\w'=w.alloc (.cells #[.string ⟨#[118,97,114,105,110,116]⟩,.iface 63 (.int .i64 1)] 120):=by
 have HM:=zh (meas_z3 b off len cap x0 x1 x2 w hlen hl c0 r0 c1 r1 c2 g0 g1 p0)
 unfold maxLen at hlen
 subst p0
 go_enter Tryz.func50,Tryz.ntmps50
 go_wp2_with (go_at_call 78;refine (uh HM).mono ?_;rintro e w' ⟨rfl,rfl⟩)
 go_ret3
 exact⟨rfl,rfl⟩
theorem get_o3 (b off len cap:Nat) (x0 x1 x2:Int) (w:World) (hlen:len<=maxLen) (hl:2 < len) (c0:w.cell? ⟨b,off,none⟩=some (.int .u8 x0)) (r0:0<=x0/\x0<=255) (c1:w.cell? ⟨b,off+1,none⟩=some (.int .u8 x1)) (r1:0<=x1/\x1<=255) (c2:w.cell? ⟨b,off+2,none⟩=some (.int .u8 x2)) (g0:128<=x0) (g1:128<=x1) (p0:1<=x2) (p1:x2 < 128) :
  Calls Tryz.prog 50 #[.slice (some ⟨b,off,none⟩) len cap] w fun e w'=>e=.returned (.tuple #[.int .i64 ((x0 - 128)+(x1 - 128) * 128+x2 * 16384),.int .i64 3,.nilIface])/\w'=w:=by
 have HM:=zh (meas_o3 b off len cap x0 x1 x2 w hlen hl c0 r0 c1 r1 c2 g0 g1 p0 p1)
 unfold maxLen at hlen
 have k0:=and127_hi x0 g0 r0.2
 have k1:=and127_hi x1 g1 r1.2
 have k2:=and127_lo x2 (by omega) p1
 go_enter Tryz.func50,Tryz.ntmps50
 go_wp2_with (go_at_call 78;refine (uh HM).mono ?_;rintro e w' ⟨rfl,rfl⟩)
 go_ret3
 refine⟨congrArg (fun z:Int=>Ending.returned (.tuple #[.int .i64 z,.int .i64 3,.nilIface])) ?_,rfl⟩
 rw[or_zero (x2 * 16384) (by omega) (by omega),or_hi 14 (x2 * 16384) ((x1 - 128) * 128) (by omega) (by omega) (by omega) (by omega) (by omega) (by omega),or_hi 7 (x2 * 16384+(x1 - 128) * 128) ((x0 - 128)) (by omega) (by omega) (by omega) (by omega) (by omega) (by omega)]
 omega
theorem get_s3 (b off len cap:Nat) (x0 x1 x2:Int) (w:World) (hlen:len<=maxLen) (hl:len=3) (c0:w.cell? ⟨b,off,none⟩=some (.int .u8 x0)) (r0:0<=x0/\x0<=255) (c1:w.cell? ⟨b,off+1,none⟩=some (.int .u8 x1)) (r1:0<=x1/\x1<=255) (c2:w.cell? ⟨b,off+2,none⟩=some (.int .u8 x2)) (r2:0<=x2/\x2<=255) (g0:128<=x0) (g1:128<=x1) (g2:128<=x2) :
  Calls Tryz.prog 50 #[.slice (some ⟨b,off,none⟩) len cap] w fun e w'=>e=.returned (.tuple #[.int .i64 0,.int .i64 0,.iface 118 (.pointer (some ⟨w.heap.size,0,none⟩))])/\w'=w.alloc (.cells #[.string ⟨#[118,97,114,105,110,116]⟩,.iface 63 (.int .i64 3)] 120):=by
 have HM:=zh (meas_s3 b off len cap x0 x1 x2 w hlen hl c0 r0 c1 r1 c2 r2 g0 g1 g2)
 unfold maxLen at hlen
 subst hl
 go_enter Tryz.func50,Tryz.ntmps50
 go_wp2_with (go_at_call 78;refine (uh HM).mono ?_;rintro e w' ⟨rfl,rfl⟩)
 go_ret3
 exact⟨rfl,rfl⟩
theorem get_z4 (b off len cap:Nat) (x0 x1 x2 x3:Int) (w:World) (hlen:len<=maxLen) (hl:3 < len) (c0:w.cell? ⟨b,off,none⟩=some (.int .u8 x0)) (r0:0<=x0/\x0<=255) (c1:w.cell? ⟨b,off+1,none⟩=some (.int .u8 x1)) (r1:0<=x1/\x1<=255) (c2:w.cell? ⟨b,off+2,none⟩=some (.int .u8 x2)) (r2:0<=x2/\x2<=255) (c3:w.cell? ⟨b,off+3,none⟩=some (.int .u8 x3)) (g0:128<=x0) (g1:128<=x1) (g2:128<=x2) (p0:x3=0) :
  Calls Tryz.prog 50 #[.slice (some ⟨b,off,none⟩) len cap] w fun e w'=>e=.returned (.tuple #[.int .i64 0,.int .i64 0,.iface 118 (.pointer (some ⟨w.heap.size,0,none⟩))])/\w'=w.alloc (.cells #[.string ⟨#[118,97,114,105,110,116]⟩,.iface 63 (.int .i64 1)] 120):=by
 have HM:=zh (meas_z4 b off len cap x0 x1 x2 x3 w hlen hl c0 r0 c1 r1 c2 r2 c3 g0 g1 g2 p0)
 unfold maxLen at hlen
 subst p0
 go_enter Tryz.func50,Tryz.ntmps50
 go_wp2_with (go_at_call 78;refine (uh HM).mono ?_;rintro e w' ⟨rfl,rfl⟩)
 go_ret3
 exact⟨rfl,rfl⟩
theorem get_o4 (b off len cap:Nat) (x0 x1 x2 x3:Int) (w:World) (hlen:len<=maxLen) (hl:3 < len) (c0:w.cell? ⟨b,off,none⟩=some (.int .u8 x0)) (r0:0<=x0/\x0<=255) (c1:w.cell? ⟨b,off+1,none⟩=some (.int .u8 x1)) (r1:0<=x1/\x1<=255) (c2:w.cell? ⟨b,off+2,none⟩=some (.int .u8 x2)) (r2:0<=x2/\x2<=255) (c3:w.cell? ⟨b,off+3,none⟩=some (.int .u8 x3)) (g0:128<=x0) (g1:128<=x1) (g2:128<=x2) (p0:1<=x3) (p1:x3 < 128) :
  Calls Tryz.prog 50 #[.slice (some ⟨b,off,none⟩) len cap] w fun e w'=>e=.returned (.tuple #[.int .i64 ((x0 - 128)+(x1 - 128) * 128+(x2 - 128) * 16384+x3 * 2097152),.int .i64 4,.nilIface])/\w'=w:=by
 have HM:=zh (meas_o4 b off len cap x0 x1 x2 x3 w hlen hl c0 r0 c1 r1 c2 r2 c3 g0 g1 g2 p0 p1)
 unfold maxLen at hlen
 have k0:=and127_hi x0 g0 r0.2
 have k1:=and127_hi x1 g1 r1.2
 have k2:=and127_hi x2 g2 r2.2
 have k3:=and127_lo x3 (by omega) p1
 go_enter Tryz.func50,Tryz.ntmps50
 go_wp2_with (go_at_call 78;refine (uh HM).mono ?_;rintro e w' ⟨rfl,rfl⟩)
 go_ret3
 refine⟨congrArg (fun z:Int=>Ending.returned (.tuple #[.int .i64 z,.int .i64 4,.nilIface])) ?_,rfl⟩
 rw[or_zero (x3 * 2097152) (by omega) (by omega),or_hi 21 (x3 * 2097152) ((x2 - 128) * 16384) (by omega) (by omega) (by omega) (by omega) (by omega) (by omega),or_hi 14 (x3 * 2097152+(x2 - 128) * 16384) ((x1 - 128) * 128) (by omega) (by omega) (by omega) (by omega) (by omega) (by omega),or_hi 7 (x3 * 2097152+(x2 - 128) * 16384+(x1 - 128) * 128) ((x0 - 128)) (by omega) (by omega) (by omega) (by omega) (by omega) (by omega)]
 omega
theorem get_l4 (b off len cap:Nat) (x0 x1 x2 x3:Int) (w:World) (hlen:len<=maxLen) (hl:3 < len) (c0:w.cell? ⟨b,off,none⟩=some (.int .u8 x0)) (r0:0<=x0/\x0<=255) (c1:w.cell? ⟨b,off+1,none⟩=some (.int .u8 x1)) (r1:0<=x1/\x1<=255) (c2:w.cell? ⟨b,off+2,none⟩=some (.int .u8 x2)) (r2:0<=x2/\x2<=255) (c3:w.cell? ⟨b,off+3,none⟩=some (.int .u8 x3)) (r3:0<=x3/\x3<=255) (g0:128<=x0) (g1:128<=x1) (g2:128<=x2) (g3:128<=x3) :
  Calls Tryz.prog 50 #[.slice (some ⟨b,off,none⟩) len cap] w fun e w'=>e=.returned (.tuple #[.int .i64 0,.int .i64 0,.iface 118 (.pointer (some ⟨w.heap.size,0,none⟩))])/\w'=w.alloc (.cells #[.string ⟨#[118,97,114,105,110,116]⟩,.iface 63 (.int .i64 1)] 120):=by
 have HM:=zh (meas_l4 b off len cap x0 x1 x2 x3 w hlen hl c0 r0 c1 r1 c2 r2 c3 r3 g0 g1 g2 g3)
 unfold maxLen at hlen
 go_enter Tryz.func50,Tryz.ntmps50
 go_wp2_with (go_at_call 78;refine (uh HM).mono ?_;rintro e w' ⟨rfl,rfl⟩)
 go_ret3
 exact⟨rfl,rfl⟩
end Go.Proofs.YtpheelbbpiieiaaGreatDoor.V
