/- Proved here: helpers, one text behind the other. -/
import Derived.Test.YtpheelbbpiieiaaGreatDoorZC2
import Derived.Test.YtpheelbbpiieiaaGreatDoorZC1
import Derived.Laws.BitsAllLaws
import Derived.Test.YtpheelbbpiieiaaGreatDoorProg
import Derived.Lib.AppendStr
set_option maxHeartbeats 20000000
namespace Go.Proofs.YtpheelbbpiieiaaGreatDoor
open Go.RowKit Go.Extern.Stop Go.Stop Go.Extern
def ErrIs (w:World) (v:Value) (n:Int):Prop :=
 (n=0/\v=.nilIface)\/(∃ b,v=.iface 118 (.pointer (some ⟨b,0,none⟩))/\w.cell? ⟨b,1,none⟩=some (.iface 63 (.int .i64 n)))
theorem Laid.below {w w':World} {B:Nat} (h:Laid w) (hb:Below B w w') (hB:0 < B):Laid w':=by
 unfold Laid at *
 rw[hb.cell (p:=⟨0,0,none⟩) hB];exact h
theorem Laid.pos {w:World} (h:Laid w):0 < w.heap.size:=by
 unfold Laid at h
 rcases Nat.eq_zero_or_pos w.heap.size with h0 | h1
 ·simp[World.cell?,h0]at h
 ·exact h1
theorem ErrIs.below {w w':World} {v:Value} {n:Int} (h:ErrIs w v n) (hb:Below w.heap.size w w'):ErrIs w' v n:=by
 rcases h with h | ⟨b,h1,h2⟩
 ·exact .inl h
 ·exact .inr ⟨b,h1,by rw[hb.cell (p:=⟨b,1,none⟩) (cell_lt h2)];exact h2⟩
theorem ErrIs.drewN {w:World} {v:Value} {n:Int} (h:ErrIs w v n) (k:Nat):ErrIs (w.drewN k) v n:=by
 rcases h with h | ⟨b,h1,h2⟩
 ·exact .inl h
 ·exact .inr ⟨b,h1,by rw[World.cell?_drewN];exact h2⟩
theorem num_nil (w:World):Calls Tryz.prog 32 #[.nilIface] w fun e w'=>e=.returned (.int .i64 0)/\w'=w:=by
 go_enter Tryz.func32,Tryz.ntmps32
 go_wp2
 go_ret
 exact⟨rfl,rfl⟩
end Go.Proofs.YtpheelbbpiieiaaGreatDoor
namespace Go.Proofs.YtpheelbbpiieiaaGreatDoor
def cont (x:Int):Bool:=decide (128<=x) && decide (x < 192)
def pv2 (a b:Int):Int:=a % 32 * 64+b % 64
def pv3 (a b c:Int):Int:=(a % 16 * 64+b % 64) * 64+c % 64
def pv4 (a b c d:Int):Int:=((a % 8 * 64+b % 64) * 64+c % 64) * 64+d % 64
def ok2 (a b:Int):Bool:=cont b && decide (128<=pv2 a b)
def ok3 (a b c:Int):Bool:=cont b && cont c && decide (2048<=pv3 a b c) && !(decide (55296<=pv3 a b c) && decide (pv3 a b c<=57343))
def ok4 (a b c d:Int):Bool:=cont b && cont c && cont d && decide (65536<=pv4 a b c d) && decide (pv4 a b c d<=1114111)
def pt (l:List Int):Nat :=
 if l.getD 0 0 < 128 then (if 0 < l.getD 0 0 then 1 else 0)
 else if l.getD 0 0 < 192 then 0
 else if l.getD 0 0 < 224 then (if 2<=l.length/\ok2 (l.getD 0 0) (l.getD 1 0)=true then 2 else 0)
 else if l.getD 0 0 < 240 then (if 3<=l.length/\ok3 (l.getD 0 0) (l.getD 1 0) (l.getD 2 0)=true then 3 else 0)
 else if l.getD 0 0 < 248 then (if 4<=l.length/\ok4 (l.getD 0 0) (l.getD 1 0) (l.getD 2 0) (l.getD 3 0)=true then 4 else 0)
 else 0
theorem pt_nil:pt []=0:=by simp[pt]
theorem pt_le (l:List Int):pt l<=l.length:=by
 cases l with
 | nil=>simp[pt_nil]
 | cons a r =>
  unfold pt
  have:1<=(a :: r).length:=by simp
  generalize (a :: r)=l at *
  repeat' split
  all_goals omega
theorem pt_le4 (l:List Int):pt l<=4:=by
 unfold pt
 repeat' split
 all_goals omega
def utfF:Nat->List Int->Bool
 | 0,l=>l.isEmpty
 | f+1,l=>l.isEmpty || (decide (pt l≠0) && utfF f (l.drop (pt l)))
def utf (l:List Int):Bool:=utfF l.length l
theorem utfF_nil:∀ f,utfF f []=true
 | 0=>rfl
 | _+1=>rfl
theorem not_nil {l:List Int} (h:0 < l.length):l.isEmpty=false:=by
 rcases l with _ | ⟨a,r⟩
 ·simp at h
 ·rfl
theorem utfF_more (f:Nat):∀ (g:Nat) (l:List Int),l.length<=f->l.length<=g->utfF f l=utfF g l:=by
 induction f with
 | zero =>
  intro g l h _
  obtain rfl:l=[]:=List.length_eq_zero_iff.1 (by omega)
  rw[utfF_nil,utfF_nil]
 | succ f ih =>
  intro g l hf hg
  by_cases h0:l.length=0
  ·obtain rfl:l=[]:=List.length_eq_zero_iff.1 h0
   rw[utfF_nil,utfF_nil]
  ·cases g with
   | zero=>omega
   | succ g =>
    simp only[utfF]
    by_cases h1:pt l=0
    ·simp[h1]
    ·rw[ih g (l.drop (pt l)) (by rw[List.length_drop];omega) (by rw[List.length_drop];omega)]
theorem utf_step (l:List Int) (h:0 < l.length):utf l=(decide (pt l≠0) && utf (l.drop (pt l))):=by
 obtain⟨n,hn⟩:∃ n,l.length=n+1:=⟨l.length - 1,by omega⟩
 unfold utf
 rw[hn]
 simp only[utfF,not_nil h,Bool.false_or]
 by_cases h1:pt l=0
 ·simp[h1]
 ·rw[utfF_more n (l.drop (pt l)).length (l.drop (pt l)) (by rw[List.length_drop];omega) (Nat.le_refl _)]
theorem utf_drop (l:List Int) (k:Nat) (hk:k < l.length) (h0:pt (l.drop k)≠0):utf (l.drop k)=utf (l.drop (k+pt (l.drop k))):=by
 rw[utf_step (l.drop k) (by rw[List.length_drop];omega),List.drop_drop]
 simp[h0]
theorem utf_not (l:List Int) (k:Nat) (hk:k < l.length) (h0:pt (l.drop k)=0):utf (l.drop k)=false:=by
 rw[utf_step (l.drop k) (by rw[List.length_drop];omega)]
 simp[h0]
def chk (l:List Int):Int:=if utf l=true then (if l.length<=65535 then 0 else 2) else 1
def sb (s:ByteArray):List Int:=s.data.toList.map fun b=>(b.toNat:Int)
def bs (l:List Int):ByteArray:=⟨(l.map fun n=>UInt8.ofNat n.toNat).toArray⟩
theorem sb_length (s:ByteArray):(sb s).length=s.size:=by
 rw[sb,List.length_map,Array.length_toList];rfl
theorem sb_range (s:ByteArray):∀ j,0<=(sb s).getD j 0/\(sb s).getD j 0<=255:=by
 intro j
 unfold sb
 rw[List.getD_eq_getElem?_getD,List.getElem?_map]
 cases s.data.toList[j]? with
 | none=>simp
 | some b=>simp;have:=b.toNat_lt;omega
theorem sb_bs (l:List Int) (h:∀ j,0<=l.getD j 0/\l.getD j 0<=255):sb (bs l)=l:=by
 unfold sb bs
 rw[List.map_map]
 apply List.ext_getElem (by simp)
 intro i h1 h2
 have:=h i
 rw[List.getD_eq_getElem?_getD,List.getElem?_eq_getElem h2]at this
 simp only[Option.getD_some]at this
 simp only[List.getElem_map,Function.comp,UInt8.toNat_ofNat']
 omega
theorem sb_get (s:ByteArray) (k:Nat) (h:k < s.size):(s[k].toNat:Int)=(sb s).getD k 0:=by
 unfold sb
 rw[List.getD_eq_getElem?_getD,List.getElem?_map,List.getElem?_eq_getElem (by simpa using h)]
 rfl
theorem sb_drop (s:ByteArray) (k:Nat):sb (s.extract k s.size)=(sb s).drop k:=by
 unfold sb
 rw[<- List.map_drop]
 congr 1
 simp only[ByteArray.data_extract,Array.toList_extract,List.extract_eq_take_drop]
 rw[List.take_of_length_le (by rw[List.length_drop,Array.length_toList];exact Nat.le_refl _)]
theorem sb_take (s:ByteArray) (k:Nat):sb (s.extract 0 k)=(sb s).take k:=by
 unfold sb
 rw[<- List.map_take]
 congr 1
 simp[ByteArray.data_extract]
end Go.Proofs.YtpheelbbpiieiaaGreatDoor
namespace Go.Proofs.YtpheelbbpiieiaaGreatDoor
open Go.RowKit
theorem ofInt_64 (a:Nat) (ha:a < 18446744073709551616):(BitVec.ofInt 64 (a:Int)).toNat=a:=by
 rw[BitVec.ofInt_natCast,BitVec.toNat_ofNat];exact Nat.mod_eq_of_lt (by omega)
theorem ofInt_32 (a:Nat) (ha:a < 4294967296):(BitVec.ofInt 32 (a:Int)).toNat=a:=by
 rw[BitVec.ofInt_natCast,BitVec.toNat_ofNat];exact Nat.mod_eq_of_lt (by omega)
theorem i64_or_nat (a b:Nat) (ha:a < 4611686018427387904) (hb:b < 4611686018427387904):bits .or .i64 (a:Int) (b:Int)=((a ||| b:Nat):Int):=by
 have hx:a ||| b < 2 ^ 62:=Nat.or_lt_two_pow (by omega) (by omega)
 show IntKind.i64.wrap ((BitVec.ofInt 64 (a:Int) ||| BitVec.ofInt 64 (b:Int)).toNat:Int)=_
 rw[BitVec.toNat_or,ofInt_64 a (by omega),ofInt_64 b (by omega),IntKind.wrap_i64]
 omega
theorem i32_or_nat (a b:Nat) (ha:a < 1073741824) (hb:b < 1073741824):bits .or .i32 (a:Int) (b:Int)=((a ||| b:Nat):Int):=by
 have hx:a ||| b < 2 ^ 30:=Nat.or_lt_two_pow (by omega) (by omega)
 show IntKind.i32.wrap ((BitVec.ofInt 32 (a:Int) ||| BitVec.ofInt 32 (b:Int)).toNat:Int)=_
 rw[BitVec.toNat_or,ofInt_32 a (by omega),ofInt_32 b (by omega)]
 have h32:(2:Int) ^ IntKind.i32.bits=4294967296:=rfl
 have h31:(2:Int) ^ (IntKind.i32.bits - 1)=2147483648:=rfl
 have hsg:IntKind.i32.signed=true:=rfl
 simp only[IntKind.wrap,h32,h31,hsg,Bool.true_and,decide_eq_true_eq]
 rw[if_neg (by omega)]
 omega
theorem or_i64 (x y:Int) (i:Nat) (hx0:0<=x) (hx1:x < 4611686018427387904) (hy0:0<=y) (hy1:y < 4611686018427387904) (hm:x.toNat % 2 ^ i=0) (hy:y.toNat < 2 ^ i):bits .or .i64 x y=x+y:=by
 obtain⟨a,rfl⟩:=Int.eq_ofNat_of_zero_le hx0
 obtain⟨b,rfl⟩:=Int.eq_ofNat_of_zero_le hy0
 rw[i64_or_nat a b (by omega) (by omega),nat_join i a b (by simpa using hm) (by simpa using hy)]
 omega
theorem or_i32 (x y:Int) (i:Nat) (hx0:0<=x) (hx1:x < 1073741824) (hy0:0<=y) (hy1:y < 1073741824) (hm:x.toNat % 2 ^ i=0) (hy:y.toNat < 2 ^ i):bits .or .i32 x y=x+y:=by
 obtain⟨a,rfl⟩:=Int.eq_ofNat_of_zero_le hx0
 obtain⟨b,rfl⟩:=Int.eq_ofNat_of_zero_le hy0
 rw[i32_or_nat a b (by omega) (by omega),nat_join i a b (by simpa using hm) (by simpa using hy)]
 omega
theorem a63_all:∀ x:Fin 256,bits .and .u8 (x.val:Int) 63=(x.val:Int) % 64:=by decide +kernel
theorem a192_all:∀ x:Fin 256,(bits .and .u8 (x.val:Int) 192 == 128)=cont (x.val:Int):=by decide +kernel
theorem a7_all:∀ x:Fin 256,bits .and .i64 (x.val:Int) 7=(x.val:Int) % 8:=by decide +kernel
theorem a15_all:∀ x:Fin 256,bits .and .i64 (x.val:Int) 15=(x.val:Int) % 16:=by decide +kernel
theorem a31_all:∀ x:Fin 256,bits .and .i64 (x.val:Int) 31=(x.val:Int) % 32:=by decide +kernel
theorem b7_all:∀ x:Fin 256,bits .and .i32 (x.val:Int) 7=(x.val:Int) % 8:=by decide +kernel
theorem b15_all:∀ x:Fin 256,bits .and .i32 (x.val:Int) 15=(x.val:Int) % 16:=by decide +kernel
theorem b31_all:∀ x:Fin 256,bits .and .i32 (x.val:Int) 31=(x.val:Int) % 32:=by decide +kernel
theorem of_fin {p:Int->Prop} (h:∀ x:Fin 256,p (x.val:Int)) (x:Int) (h0:0<=x) (h1:x<=255):p x:=by
 have:=h ⟨x.toNat,by omega⟩
 simpa only[Int.toNat_of_nonneg h0] using this
theorem a63 (x:Int) (h0:0<=x) (h1:x<=255):bits .and .u8 x 63=x % 64:=of_fin (p:=fun x=>bits .and .u8 x 63=x % 64) a63_all x h0 h1
theorem a192 (x:Int) (h0:0<=x) (h1:x<=255):(bits .and .u8 x 192 == 128)=cont x:=of_fin (p:=fun x=>(bits .and .u8 x 192 == 128)=cont x) a192_all x h0 h1
theorem a7 (x:Int) (h0:0<=x) (h1:x<=255):bits .and .i64 x 7=x % 8:=of_fin (p:=fun x=>bits .and .i64 x 7=x % 8) a7_all x h0 h1
theorem a15 (x:Int) (h0:0<=x) (h1:x<=255):bits .and .i64 x 15=x % 16:=of_fin (p:=fun x=>bits .and .i64 x 15=x % 16) a15_all x h0 h1
theorem a31 (x:Int) (h0:0<=x) (h1:x<=255):bits .and .i64 x 31=x % 32:=of_fin (p:=fun x=>bits .and .i64 x 31=x % 32) a31_all x h0 h1
theorem b7 (x:Int) (h0:0<=x) (h1:x<=255):bits .and .i32 x 7=x % 8:=of_fin (p:=fun x=>bits .and .i32 x 7=x % 8) b7_all x h0 h1
theorem b15 (x:Int) (h0:0<=x) (h1:x<=255):bits .and .i32 x 15=x % 16:=of_fin (p:=fun x=>bits .and .i32 x 15=x % 16) b15_all x h0 h1
theorem b31 (x:Int) (h0:0<=x) (h1:x<=255):bits .and .i32 x 31=x % 32:=of_fin (p:=fun x=>bits .and .i32 x 31=x % 32) b31_all x h0 h1
def szf (c:Int):Int:=if c < 128 then 1 else if c < 192 then 0 else if c < 224 then 2 else if c < 240 then 3 else if c < 248 then 4 else 0
theorem szf_any (c:Int) (w:World):Calls Tryz.prog 166 #[.int .u8 c] w fun e w'=>e=.returned (.int .i64 (szf c))/\w'=w:=by
 have fin:∀ x:Int,szf c=x->∀ w':World,w'=w->Ending.returned (.int .i64 x)=.returned (.int .i64 (szf c))/\w'=w:=fun x h w' hw=>⟨by rw[h],hw⟩
 by_cases h1:c < 128
 ·have hz:Hid (szf c=1):=by show szf c=1;simp[szf,h1]
  go_enter Tryz.func166,Tryz.ntmps166
  go_wp2
  go_ret
  exact fin _ (uh hz) _ rfl
 ·by_cases h2:c < 192
  ·have hz:Hid (szf c=0):=by show szf c=0;simp[szf,h1,h2]
   go_enter Tryz.func166,Tryz.ntmps166
   go_wp2
   go_ret
   exact fin _ (uh hz) _ rfl
  ·by_cases h3:c < 224
   ·have hz:Hid (szf c=2):=by show szf c=2;simp[szf,h1,h2,h3]
    go_enter Tryz.func166,Tryz.ntmps166
    go_wp2
    go_ret
    exact fin _ (uh hz) _ rfl
   ·by_cases h4:c < 240
    ·have hz:Hid (szf c=3):=by show szf c=3;simp[szf,h1,h2,h3,h4]
     go_enter Tryz.func166,Tryz.ntmps166
     go_wp2
     go_ret
     exact fin _ (uh hz) _ rfl
    ·by_cases h5:c < 248
     ·have hz:Hid (szf c=4):=by show szf c=4;simp[szf,h1,h2,h3,h4,h5]
      go_enter Tryz.func166,Tryz.ntmps166
      go_wp2
      go_ret
      exact fin _ (uh hz) _ rfl
     ·have hz:Hid (szf c=0):=by show szf c=0;simp[szf,h1,h2,h3,h4,h5]
      go_enter Tryz.func166,Tryz.ntmps166
      go_wp2
      go_ret
      exact fin _ (uh hz) _ rfl
theorem least_1 (w:World):Calls Tryz.prog 173 #[.int .i64 1] w fun e w'=>e=.returned (.int .i32 1)/\w'=w:=by
 go_enter Tryz.func173,Tryz.ntmps173
 go_wp2
 go_ret
 exact⟨rfl,rfl⟩
theorem least_2 (w:World):Calls Tryz.prog 173 #[.int .i64 2] w fun e w'=>e=.returned (.int .i32 128)/\w'=w:=by
 go_enter Tryz.func173,Tryz.ntmps173
 go_wp2
 go_ret
 exact⟨rfl,rfl⟩
theorem least_3 (w:World):Calls Tryz.prog 173 #[.int .i64 3] w fun e w'=>e=.returned (.int .i32 2048)/\w'=w:=by
 go_enter Tryz.func173,Tryz.ntmps173
 go_wp2
 go_ret
 exact⟨rfl,rfl⟩
theorem least_4 (w:World):Calls Tryz.prog 173 #[.int .i64 4] w fun e w'=>e=.returned (.int .i32 65536)/\w'=w:=by
 go_enter Tryz.func173,Tryz.ntmps173
 go_wp2
 go_ret
 exact⟨rfl,rfl⟩
theorem mayBe_any (p n L:Int) (w:World) (hL:∀ w,Calls Tryz.prog 173 #[.int .i64 n] w fun e w'=>e=.returned (.int .i32 L)/\w'=w) (b:Bool)
  (hb:Hid (b=(!(decide (55296<=p) && decide (p<=57343)) && (decide (L<=p) && decide (p<=1114111))))) :
  Calls Tryz.prog 167 #[.int .i32 p,.int .i64 n] w fun e w'=>e=.returned (.bool b)/\w'=w:=by
 by_cases h1:55296<=p
 ·by_cases h2:p<=57343
  ·obtain rfl:b=false:=by rw[uh hb];simp[h1,h2]
   go_enter Tryz.func167,Tryz.ntmps167
   go_wp2
   go_ret
   exact⟨rfl,rfl⟩
  ·by_cases h3:L<=p
   ·by_cases h4:p<=1114111
    ·obtain rfl:b=true:=by rw[uh hb];simp[h2,h3,h4]
     go_enter Tryz.func167,Tryz.ntmps167
     go_wp2_with (go_at_call 173;refine (hL _).mono ?_;rintro e w' ⟨rfl,rfl⟩)
     go_ret
     exact⟨rfl,rfl⟩
    ·obtain rfl:b=false:=by rw[uh hb];simp[h4]
     have h4':decide (p<=1114111)=false:=by simpa using h4
     go_enter Tryz.func167,Tryz.ntmps167
     go_wp2_with (go_at_call 173;refine (hL _).mono ?_;rintro e w' ⟨rfl,rfl⟩)
     go_ret
     exact⟨rfl,rfl⟩
   ·obtain rfl:b=false:=by rw[uh hb];simp[h3]
    go_enter Tryz.func167,Tryz.ntmps167
    go_wp2_with (go_at_call 173;refine (hL _).mono ?_;rintro e w' ⟨rfl,rfl⟩)
    go_ret
    exact⟨rfl,rfl⟩
 ·by_cases h3:L<=p
  ·have h4:p<=1114111:=by omega
   obtain rfl:b=true:=by rw[uh hb];simp[h1,h3,h4]
   go_enter Tryz.func167,Tryz.ntmps167
   go_wp2_with (go_at_call 173;refine (hL _).mono ?_;rintro e w' ⟨rfl,rfl⟩)
   go_ret
   exact⟨rfl,rfl⟩
  ·obtain rfl:b=false:=by rw[uh hb];simp[h3]
   go_enter Tryz.func167,Tryz.ntmps167
   go_wp2_with (go_at_call 173;refine (hL _).mono ?_;rintro e w' ⟨rfl,rfl⟩)
   go_ret
   exact⟨rfl,rfl⟩
theorem ret_int {k:IntKind} {a b:Int} (h:a=b):Ending.returned (.int k a)=.returned (.int k b):=by rw[h]
theorem ret_bool {a b:Bool} (h:a=b):Ending.returned (.bool a)=.returned (.bool b):=by rw[h]
theorem w32 (x:Int) (h0:0<=x) (h1:x < 2147483648):wrap32 x=x:=by unfold wrap32;omega
theorem p2_eq (a b:Int) (a0:0<=a) (a1:a<=255) (b0:0<=b) (b1:b<=255):bits .or .i32 (wrap32 (bits .and .i32 (wrap32 a) 31 * 64)) (wrap32 (bits .and .u8 b 63))=pv2 a b:=by
 rw[w32 a (by omega) (by omega),b31 a a0 a1,a63 b b0 b1,w32 (a % 32 * 64) (by omega) (by omega),w32 (b % 64) (by omega) (by omega),or_i32 _ _ 6 (by omega) (by omega) (by omega) (by omega) (by omega) (by omega)]
 rfl
theorem p3_eq (a b c:Int) (a0:0<=a) (a1:a<=255) (b0:0<=b) (b1:b<=255) (c0:0<=c) (c1:c<=255):bits .or .i32 (wrap32 (bits .or .i32 (wrap32 (bits .and .i32 (wrap32 a) 15 * 64)) (wrap32 (bits .and .u8 b 63)) * 64)) (wrap32 (bits .and .u8 c 63))=pv3 a b c:=by
 rw[w32 a (by omega) (by omega),b15 a a0 a1,a63 b b0 b1,a63 c c0 c1,w32 (a % 16 * 64) (by omega) (by omega),w32 (b % 64) (by omega) (by omega),w32 (c % 64) (by omega) (by omega),
  or_i32 (a % 16 * 64) (b % 64) 6 (by omega) (by omega) (by omega) (by omega) (by omega) (by omega),w32 ((a % 16 * 64+b % 64) * 64) (by omega) (by omega),or_i32 _ (c % 64) 6 (by omega) (by omega) (by omega) (by omega) (by omega) (by omega)]
 rfl
theorem p4_eq (a b c d:Int) (a0:0<=a) (a1:a<=255) (b0:0<=b) (b1:b<=255) (c0:0<=c) (c1:c<=255) (d0:0<=d) (d1:d<=255):bits .or .i32 (wrap32 (bits .or .i32 (wrap32 (bits .or .i32 (wrap32 (bits .and .i32 (wrap32 a) 7 * 64)) (wrap32 (bits .and .u8 b 63)) * 64)) (wrap32 (bits .and .u8 c 63)) * 64)) (wrap32 (bits .and .u8 d 63))=pv4 a b c d:=by
 rw[w32 a (by omega) (by omega),b7 a a0 a1,a63 b b0 b1,a63 c c0 c1,a63 d d0 d1,w32 (a % 8 * 64) (by omega) (by omega),w32 (b % 64) (by omega) (by omega),w32 (c % 64) (by omega) (by omega),w32 (d % 64) (by omega) (by omega),
  or_i32 (a % 8 * 64) (b % 64) 6 (by omega) (by omega) (by omega) (by omega) (by omega) (by omega),w32 ((a % 8 * 64+b % 64) * 64) (by omega) (by omega),or_i32 _ (c % 64) 6 (by omega) (by omega) (by omega) (by omega) (by omega) (by omega),
  w32 (((a % 8 * 64+b % 64) * 64+c % 64) * 64) (by omega) (by omega),or_i32 _ (d % 64) 6 (by omega) (by omega) (by omega) (by omega) (by omega) (by omega)]
 rfl
theorem u8_le (b:UInt8):0<=(b.toNat:Int)/\(b.toNat:Int)<=255:=⟨by omega,by have:=b.toNat_lt;omega⟩
theorem point_1 (s:ByteArray) (w:World) (hs:s.size=1):Calls Tryz.prog 168 #[.string s] w fun e w'=>e=.returned (.int .i32 ((sb s).getD 0 0))/\w'=w:=by
 go_enter Tryz.func168,Tryz.ntmps168
 go_wp2
 go_ret
 refine⟨ret_int ?_,rfl⟩
 rw[<- sb_get s 0 (by omega)]
 exact w32 _ (u8_le _).1 (by have:=(u8_le s[0]).2;omega)
theorem point_2 (s:ByteArray) (w:World) (hs:s.size=2):Calls Tryz.prog 168 #[.string s] w fun e w'=>e=.returned (.int .i32 (pv2 ((sb s).getD 0 0) ((sb s).getD 1 0)))/\w'=w:=by
 go_enter Tryz.func168,Tryz.ntmps168
 go_wp2
 go_ret
 refine⟨ret_int ?_,rfl⟩
 rw[<- sb_get s 0 (by omega),<- sb_get s 1 (by omega)]
 exact p2_eq _ _ (u8_le _).1 (u8_le _).2 (u8_le _).1 (u8_le _).2
theorem point_3 (s:ByteArray) (w:World) (hs:s.size=3):Calls Tryz.prog 168 #[.string s] w fun e w'=>e=.returned (.int .i32 (pv3 ((sb s).getD 0 0) ((sb s).getD 1 0) ((sb s).getD 2 0)))/\w'=w:=by
 go_enter Tryz.func168,Tryz.ntmps168
 go_wp2
 go_ret
 refine⟨ret_int ?_,rfl⟩
 rw[<- sb_get s 0 (by omega),<- sb_get s 1 (by omega),<- sb_get s 2 (by omega)]
 exact p3_eq _ _ _ (u8_le _).1 (u8_le _).2 (u8_le _).1 (u8_le _).2 (u8_le _).1 (u8_le _).2
theorem point_4 (s:ByteArray) (w:World) (hs:s.size=4):Calls Tryz.prog 168 #[.string s] w fun e w'=>e=.returned (.int .i32 (pv4 ((sb s).getD 0 0) ((sb s).getD 1 0) ((sb s).getD 2 0) ((sb s).getD 3 0)))/\w'=w:=by
 go_enter Tryz.func168,Tryz.ntmps168
 go_wp2
 go_ret
 refine⟨ret_int ?_,rfl⟩
 rw[<- sb_get s 0 (by omega),<- sb_get s 1 (by omega),<- sb_get s 2 (by omega),<- sb_get s 3 (by omega)]
 exact p4_eq _ _ _ _ (u8_le _).1 (u8_le _).2 (u8_le _).1 (u8_le _).2 (u8_le _).1 (u8_le _).2 (u8_le _).1 (u8_le _).2
def pvn (n:Nat) (l:List Int):Int:=if n=1 then l.getD 0 0 else if n=2 then pv2 (l.getD 0 0) (l.getD 1 0) else if n=3 then pv3 (l.getD 0 0) (l.getD 1 0) (l.getD 2 0) else pv4 (l.getD 0 0) (l.getD 1 0) (l.getD 2 0) (l.getD 3 0)
def lstn (n:Nat):Int:=if n=1 then 1 else if n=2 then 128 else if n=3 then 2048 else 65536
def mbn (n:Nat) (l:List Int):Bool:=!(decide (55296<=pvn n l) && decide (pvn n l<=57343)) && (decide (lstn n<=pvn n l) && decide (pvn n l<=1114111))
theorem szf_cases (c:Int):(c < 128/\szf c=1)\/(128<=c/\c < 192/\szf c=0)\/(192<=c/\c < 224/\szf c=2)\/(224<=c/\c < 240/\szf c=3)\/(240<=c/\c < 248/\szf c=4)\/(248<=c/\szf c=0):=by
 unfold szf
 split
 ·omega
 ·split
  ·omega
  ·split
   ·omega
   ·split
    ·omega
    ·split <;> omega
theorem pt_1 (l:List Int) (h:l.getD 0 0 < 128):pt l=if 0 < l.getD 0 0 then 1 else 0:=by unfold pt;rw[if_pos h]
theorem pt_2 (l:List Int) (h:192<=l.getD 0 0) (h':l.getD 0 0 < 224):pt l=if 2<=l.length/\ok2 (l.getD 0 0) (l.getD 1 0)=true then 2 else 0:=by
 unfold pt;rw[if_neg (by omega),if_neg (by omega),if_pos h']
theorem pt_3 (l:List Int) (h:224<=l.getD 0 0) (h':l.getD 0 0 < 240):pt l=if 3<=l.length/\ok3 (l.getD 0 0) (l.getD 1 0) (l.getD 2 0)=true then 3 else 0:=by
 unfold pt;rw[if_neg (by omega),if_neg (by omega),if_neg (by omega),if_pos h']
theorem pt_4 (l:List Int) (h:240<=l.getD 0 0) (h':l.getD 0 0 < 248):pt l=if 4<=l.length/\ok4 (l.getD 0 0) (l.getD 1 0) (l.getD 2 0) (l.getD 3 0)=true then 4 else 0:=by
 unfold pt;rw[if_neg (by omega),if_neg (by omega),if_neg (by omega),if_neg (by omega),if_pos h']
theorem pt_0 (l:List Int) (h:szf (l.getD 0 0)=0):pt l=0:=by
 rcases szf_cases (l.getD 0 0)with h1 | h1 | h1 | h1 | h1 | h1
 all_goals first | omega | skip
 ·unfold pt;rw[if_neg (by omega),if_pos (by omega)]
 ·unfold pt;rw[if_neg (by omega),if_neg (by omega),if_neg (by omega),if_neg (by omega),if_neg (by omega)]
theorem pt_short (l:List Int) (n:Nat) (hn:szf (l.getD 0 0)=n) (h0:1<=l.length) (h:l.length < n):pt l=0:=by
 rcases szf_cases (l.getD 0 0)with h1 | h1 | h1 | h1 | h1 | h1
 all_goals first | omega | skip
 ·rw[pt_2 l h1.1 h1.2.1,if_neg (by omega)]
 ·rw[pt_3 l h1.1 h1.2.1,if_neg (by omega)]
 ·rw[pt_4 l h1.1 h1.2.1,if_neg (by omega)]
theorem pt_cont (l:List Int) (n:Nat) (hn:szf (l.getD 0 0)=n) (j:Nat) (hj1:1<=j) (hj:j < n) (hc:cont (l.getD j 0)=false):pt l=0:=by
 rcases szf_cases (l.getD 0 0)with h1 | h1 | h1 | h1 | h1 | h1
 all_goals first | omega | skip
 ·obtain rfl:j=1:=by omega
  rw[pt_2 l h1.1 h1.2.1,if_neg (by unfold ok2;rw[hc];simp)]
 ·rw[pt_3 l h1.1 h1.2.1,if_neg]
  rintro⟨_,h2⟩
  unfold ok3 at h2
  obtain rfl | rfl:j=1\/j=2:=by omega
  ·rw[hc]at h2;simp at h2
  ·rw[hc]at h2;simp at h2
 ·rw[pt_4 l h1.1 h1.2.1,if_neg]
  rintro⟨_,h2⟩
  unfold ok4 at h2
  obtain rfl | rfl | rfl:j=1\/j=2\/j=3:=by omega
  ·rw[hc]at h2;simp at h2
  ·rw[hc]at h2;simp at h2
  ·rw[hc]at h2;simp at h2
theorem if_iff {p q:Prop} [Decidable p] [Decidable q] {a b:Nat} (h:p ↔ q):(if p then a else b)=if q then a else b:=by
 by_cases hp:p
 ·rw[if_pos hp,if_pos (h.1 hp)]
 ·rw[if_neg hp,if_neg (fun hq=>hp (h.2 hq))]
theorem pt_mb (l:List Int) (n:Nat) (hn:szf (l.getD 0 0)=n) (h0:1<=n) (hl:n<=l.length) (hc:∀ j,1<=j->j < n->cont (l.getD j 0)=true):pt l=if mbn n l=true then n else 0:=by
 unfold mbn
 simp only[Bool.and_eq_true,Bool.not_eq_true',Bool.and_eq_false_iff,decide_eq_true_eq,decide_eq_false_iff_not]
 rcases szf_cases (l.getD 0 0)with h1 | h1 | h1 | h1 | h1 | h1
 all_goals first | omega | skip
 ·obtain rfl:n=1:=by omega
  rw[pt_1 l h1.1]
  refine if_iff ?_
  have e:pvn 1 l=l.getD 0 0:=rfl
  have e2:lstn 1=1:=rfl
  rw[e,e2]
  omega
 ·obtain rfl:n=2:=by omega
  rw[pt_2 l h1.1 h1.2.1]
  refine if_iff ?_
  have e:pvn 2 l=pv2 (l.getD 0 0) (l.getD 1 0):=rfl
  have e2:lstn 2=128:=rfl
  rw[e,e2]
  unfold ok2
  simp only[hc 1 (by omega) (by omega),Bool.true_and,decide_eq_true_eq]
  have:0<=pv2 (l.getD 0 0) (l.getD 1 0)/\pv2 (l.getD 0 0) (l.getD 1 0) < 2048:=by unfold pv2;omega
  omega
 ·obtain rfl:n=3:=by omega
  rw[pt_3 l h1.1 h1.2.1]
  refine if_iff ?_
  have e:pvn 3 l=pv3 (l.getD 0 0) (l.getD 1 0) (l.getD 2 0):=rfl
  have e2:lstn 3=2048:=rfl
  rw[e,e2]
  unfold ok3
  simp only[hc 1 (by omega) (by omega),hc 2 (by omega) (by omega),Bool.true_and,Bool.and_eq_true,Bool.not_eq_true',Bool.and_eq_false_iff,decide_eq_true_eq,decide_eq_false_iff_not]
  have:0<=pv3 (l.getD 0 0) (l.getD 1 0) (l.getD 2 0)/\pv3 (l.getD 0 0) (l.getD 1 0) (l.getD 2 0) < 65536:=by unfold pv3;omega
  omega
 ·obtain rfl:n=4:=by omega
  rw[pt_4 l h1.1 h1.2.1]
  refine if_iff ?_
  have e:pvn 4 l=pv4 (l.getD 0 0) (l.getD 1 0) (l.getD 2 0) (l.getD 3 0):=rfl
  have e2:lstn 4=65536:=rfl
  rw[e,e2]
  unfold ok4
  simp only[hc 1 (by omega) (by omega),hc 2 (by omega) (by omega),hc 3 (by omega) (by omega),Bool.true_and,Bool.and_eq_true,decide_eq_true_eq]
  omega
theorem getD_take (l:List Int) (n j:Nat) (h:j < n):(l.take n).getD j 0=l.getD j 0:=by
 rw[List.getD_eq_getElem?_getD,List.getElem?_take,if_pos h,<- List.getD_eq_getElem?_getD]
theorem pvn_take (n:Nat) (l:List Int) (h1:1<=n) (h4:n<=4):pvn n (l.take n)=pvn n l:=by
 obtain rfl | rfl | rfl | rfl:n=1\/n=2\/n=3\/n=4:=by omega
 ·simp only[pvn,if_true];rw[getD_take _ _ _ (by omega)]
 ·show pv2 _ _=pv2 _ _
  rw[getD_take _ _ _ (by omega),getD_take _ _ _ (by omega)]
 ·show pv3 _ _ _=pv3 _ _ _
  rw[getD_take _ _ _ (by omega),getD_take _ _ _ (by omega),getD_take _ _ _ (by omega)]
 ·show pv4 _ _ _ _=pv4 _ _ _ _
  rw[getD_take _ _ _ (by omega),getD_take _ _ _ (by omega),getD_take _ _ _ (by omega),getD_take _ _ _ (by omega)]
theorem point_any (s:ByteArray) (n:Nat) (w:World) (h1:1<=n) (h4:n<=4) (hn:n<=s.size):Calls Tryz.prog 168 #[.string (s.extract 0 n)] w fun e w'=>e=.returned (.int .i32 (pvn n (sb s)))/\w'=w:=by
 have hz:(s.extract 0 n).size=n:=by rw[ByteArray.size_extract];omega
 rw[<- pvn_take n (sb s) h1 h4,<- sb_take]
 obtain rfl | rfl | rfl | rfl:n=1\/n=2\/n=3\/n=4:=by omega
 ·exact point_1 _ w hz
 ·exact point_2 _ w hz
 ·exact point_3 _ w hz
 ·exact point_4 _ w hz
theorem least_any (n:Nat) (h1:1<=n) (h4:n<=4) (w:World):Calls Tryz.prog 173 #[.int .i64 n] w fun e w'=>e=.returned (.int .i32 (lstn n))/\w'=w:=by
 obtain rfl | rfl | rfl | rfl:n=1\/n=2\/n=3\/n=4:=by omega
 ·exact least_1 w
 ·exact least_2 w
 ·exact least_3 w
 ·exact least_4 w
theorem ps_0 (s:ByteArray) (w:World) (h:0 < s.size) (hz:szf (s[0].toNat:Int)=0):Calls Tryz.prog 157 #[.string s] w fun e w'=>e=.returned (.int .i64 0)/\w'=w:=by
 go_enter Tryz.func157,Tryz.ntmps157
 go_wp2_with (go_at_call 166;refine (szf_any _ _).mono ?_;rintro e w' ⟨rfl,rfl⟩)
 go_ret
 exact⟨rfl,rfl⟩
theorem ps_short (s:ByteArray) (n:Nat) (w:World) (h:0 < s.size) (hz:szf (s[0].toNat:Int)=n) (hn:s.size < n):Calls Tryz.prog 157 #[.string s] w fun e w'=>e=.returned (.int .i64 0)/\w'=w:=by
 have hn0:((n:Int) == 0)=false:=beq_eq_false_iff_ne.2 (by omega)
 go_enter Tryz.func157,Tryz.ntmps157
 go_wp2_with (go_at_call 166;refine (szf_any _ _).mono ?_;rintro e w' ⟨rfl,rfl⟩)
 go_ret
 exact⟨rfl,rfl⟩
set_option maxRecDepth 100000 in
theorem ps_good (s:ByteArray) (n:Nat) (w:World) (h:0 < s.size) (hz:szf (s[0].toNat:Int)=n) (h1:1<=n) (hn:n<=s.size) (h4:n<=4):Calls Tryz.prog 157 #[.string s] w fun e w'=>e=.returned (.int .i64 (pt (sb s)))/\w'=w:=by
 have hn0:((n:Int) == 0)=false:=beq_eq_false_iff_ne.2 (by omega)
 have hz':Hid (szf ((sb s).getD 0 0)=n):=by show _=_;rw[<- sb_get s 0 h];exact hz
 have hl:Hid (n<=(sb s).length):=by show _<=_;rw[sb_length];exact hn
 go_enter Tryz.func157,Tryz.ntmps157
 go_wp2_with (first | (go_at_call 166;refine (szf_any _ _).mono ?_;rintro e w' ⟨rfl,rfl⟩))
 go_loop [4] (fun i=>∃ k:Nat,1<=k/\k<=n/\i=.int .i64 k/\Hid (∀ j,1<=j->j < k->cont ((sb s).getD j 0)=true)) (fun i=>n - (intOf i).toNat)
 case atStart=>exact⟨1,by omega,by omega,rfl,fun j h1 h2=>by omega⟩
 case round =>
  obtain⟨k,hk1,hkn,rfl,hall⟩:=hrel
  by_cases hlt:k < n
  ·have hks:k < s.size:=by omega
   have hcs:Hid ((bits .and .u8 (s[k].toNat:Int) 192 == 128)=cont ((sb s).getD k 0)):=by show _=_;rw[<- sb_get s k hks];exact a192 _ (u8_le _).1 (u8_le _).2
   by_cases hc:cont ((sb s).getD k 0)=true
   ·have hb:(bits .and .u8 (s[k].toNat:Int) 192 == 128)=true:=(uh hcs).trans hc
    have HC:=zh hc
    clear hc
    go_wp2
    go_round
    case rel=>exact⟨k+1,by omega,by omega,by go_num,fun j h1 h2=>by
     rcases Nat.lt_succ_iff_lt_or_eq.1 h2 with h | h
     ·exact (uh hall) j h1 h
     ·rw[h];exact uh HC⟩
    case measure=>simp[intOf];omega
   ·have hb:(bits .and .u8 (s[k].toNat:Int) 192 == 128)=false:=by rw[uh hcs];simpa using hc
    have HC:=zh hc
    clear hc
    go_wp2
    go_ret
    refine⟨ret_int ?_,rfl⟩
    rw[pt_cont (sb s) n (uh hz') k hk1 hlt (by simpa using uh HC)]
    rfl
  ·obtain rfl:k=n:=by omega
   have hpt:=zh (pt_mb (sb s) k (uh hz') h1 (uh hl) (uh hall))
   by_cases hm:mbn k (sb s)=true
   ·have hr:Hid (pt (sb s)=k):=by show _=_;rw[uh hpt,if_pos hm]
    have hm':Hid (true=mbn k (sb s)):=hm.symm
    clear hm hpt
    go_wp2_with (first | (go_at_call 168;refine (point_any s k _ h1 h4 hn).mono ?_;rintro e w' ⟨rfl,rfl⟩) | (go_at_call 167;refine (mayBe_any _ _ (lstn k) _ (least_any k h1 h4) true hm').mono ?_;rintro e w' ⟨rfl,rfl⟩))
    go_ret
    refine⟨ret_int ?_,rfl⟩
    rw[uh hr]
   ·have hr:Hid (pt (sb s)=0):=by show _=_;rw[uh hpt,if_neg hm]
    have hm':Hid (false=mbn k (sb s)):=by show _=_;cases h:mbn k (sb s)with | false=>rfl | true=>exact absurd h hm
    clear hm hpt
    go_wp2_with (first | (go_at_call 168;refine (point_any s k _ h1 h4 hn).mono ?_;rintro e w' ⟨rfl,rfl⟩) | (go_at_call 167;refine (mayBe_any _ _ (lstn k) _ (least_any k h1 h4) false hm').mono ?_;rintro e w' ⟨rfl,rfl⟩))
    go_ret
    refine⟨ret_int ?_,rfl⟩
    rw[uh hr]
    rfl
theorem szf_nat (c:Int):∃ n:Nat,szf c=n/\n<=4:=by
 rcases szf_cases c with h1 | h1 | h1 | h1 | h1 | h1
 ·exact⟨1,by omega,by omega⟩
 ·exact⟨0,by omega,by omega⟩
 ·exact⟨2,by omega,by omega⟩
 ·exact⟨3,by omega,by omega⟩
 ·exact⟨4,by omega,by omega⟩
 ·exact⟨0,by omega,by omega⟩
theorem ps_any (s:ByteArray) (w:World) (h:0 < s.size):Calls Tryz.prog 157 #[.string s] w fun e w'=>e=.returned (.int .i64 (pt (sb s)))/\w'=w:=by
 obtain⟨n,hn,h4⟩:=szf_nat (s[0].toNat:Int)
 have hz':szf ((sb s).getD 0 0)=n:=by rw[<- sb_get s 0 h];exact hn
 by_cases h0:n=0
 ·subst h0
  rw[pt_0 _ hz']
  exact ps_0 s w h hn
 ·by_cases hs:s.size < n
  ·rw[pt_short (sb s) n hz' (by rw[sb_length];exact h) (by rw[sb_length];exact hs)]
   exact ps_short s n w h hn hs
  ·exact ps_good s n w h hn (by omega) (by omega) h4
abbrev faultW (n:Int) (w:World):World:=w.alloc (.cells #[.string ⟨#[116,101,120,116]⟩,.iface 63 (.int .i64 n)] 120)
theorem fault_any (n:Int) (w:World):Calls Tryz.prog 143 #[.int .i64 n] w fun e w'=>e=.returned (.iface 118 (.pointer (some ⟨w.heap.size,0,none⟩)))/\w'=faultW n w:=by
 go_enter Tryz.func143,Tryz.ntmps143
 go_wp2
 go_ret
 exact⟨rfl,rfl⟩
theorem fault_is (n:Int) (w:World):ErrIs (faultW n w) (.iface 118 (.pointer (some ⟨w.heap.size,0,none⟩))) n:=.inr ⟨_,rfl,by simp⟩
theorem fault_below (n:Int) (w:World):Below w.heap.size w (faultW n w):=bal _ _
def ChkPost (l:List Int) (w:World) (e:Ending) (w':World):Prop :=
 (chk l=0/\e=.returned .nilIface/\w'=w)\/(∃ n,chk l=n/\n≠0/\e=.returned (.iface 118 (.pointer (some ⟨w.heap.size,0,none⟩)))/\w'=faultW n w)
set_option maxRecDepth 100000 in
theorem check_core (s:ByteArray) (w:World) (hs:s.size<=4611686018427387904):Calls Tryz.prog 142 #[.string s] w (ChkPost (sb s) w):=by
 have HL:=zh (sb_length s)
 go_enter Tryz.func142,Tryz.ntmps142
 go_wp2
 go_loop [3] (fun i=>∃ k:Nat,k<=s.size/\i=.int .i64 k/\Hid (utf ((sb s).drop k)=utf (sb s))) (fun i=>s.size - (intOf i).toNat)
 case atStart=>exact⟨0,Nat.zero_le _,rfl,rfl⟩
 case round =>
  obtain⟨k,hk,rfl,hu⟩:=hrel
  by_cases hlt:k < s.size
  ·have hps:∀ w,Calls Tryz.prog 157 #[.string (s.extract k s.size)] w fun e w'=>e=.returned (.int .i64 (pt ((sb s).drop k)))/\w'=w:=fun w=>by
    rw[<- sb_drop]
    exact ps_any _ w (by rw[ByteArray.size_extract];omega)
   have HPS:=zh hps
   clear hps
   have h4:=pt_le4 ((sb s).drop k)
   have hle:pt ((sb s).drop k)+k<=s.size:=by
    have:=pt_le ((sb s).drop k)
    rw[List.length_drop,uh HL]at this
    omega
   have hnot:=zh (utf_not (sb s) k (by rw[uh HL];exact hlt))
   have hyes:=zh (utf_drop (sb s) k (by rw[uh HL];exact hlt))
   generalize pt ((sb s).drop k)=p at HPS h4 hle hnot hyes
   by_cases hp:p=0
   ·subst hp
    have hc:Hid (chk (sb s)=1):=by show _=_;unfold chk;rw[if_neg];rw[<- uh hu,(uh hnot) rfl];simp
    clear hyes
    go_wp2_with (first | (go_at_call 157;refine ((uh HPS) _).mono ?_;rintro e w' ⟨rfl,rfl⟩) | (go_at_call 143;refine (fault_any _ _).mono ?_;rintro e w' ⟨rfl,rfl⟩))
    go_ret
    exact .inr ⟨1,uh hc,by omega,rfl,rfl⟩
   ·have hp0:((p:Int) == 0)=false:=beq_eq_false_iff_ne.2 (by omega)
    have hu':Hid (utf ((sb s).drop (k+p))=utf (sb s)):=by show _=_;rw[<- (uh hyes) hp];exact uh hu
    clear hnot hyes
    go_wp2_with (first | (go_at_call 157;refine ((uh HPS) _).mono ?_;rintro e w' ⟨rfl,rfl⟩))
    go_round
    case rel=>exact⟨k+p,by omega,by go_num,hu'⟩
    case measure=>simp[intOf];omega
  ·obtain rfl:k=s.size:=by omega
   have ht:utf (sb s)=true:=by rw[<- uh hu,List.drop_of_length_le (by rw[uh HL];exact Nat.le_refl _)];rfl
   by_cases hm:s.size<=65535
   ·have hc:Hid (chk (sb s)=0):=by show _=_;unfold chk;rw[if_pos ht,if_pos (by rw[uh HL];exact hm)]
    clear ht
    go_wp2
    go_ret
    exact .inl ⟨uh hc,rfl,rfl⟩
   ·have hc:Hid (chk (sb s)=2):=by show _=_;unfold chk;rw[if_pos ht,if_neg (by rw[uh HL];exact hm)]
    clear ht
    go_wp2_with (go_at_call 143;refine (fault_any _ _).mono ?_;rintro e w' ⟨rfl,rfl⟩)
    go_ret
    exact .inr ⟨2,uh hc,by omega,rfl,rfl⟩
theorem check_ok (s:ByteArray) (w:World) (hs:s.size<=4611686018427387904) (h:chk (sb s)=0):Calls Tryz.prog 142 #[.string s] w fun e w'=>e=.returned .nilIface/\w'=w:=by
 refine (check_core s w hs).mono ?_
 rintro e w' (⟨_,h1⟩ | ⟨n,h1,h2,_⟩)
 ·exact h1
 ·exact absurd (h1.symm.trans h) h2
theorem check_bad (s:ByteArray) (n:Int) (w:World) (hs:s.size<=4611686018427387904) (h:chk (sb s)=n) (h0:n≠0):Calls Tryz.prog 142 #[.string s] w fun e w'=>e=.returned (.iface 118 (.pointer (some ⟨w.heap.size,0,none⟩)))/\w'=faultW n w:=by
 refine (check_core s w hs).mono ?_
 rintro e w' (⟨h1,_⟩ | ⟨m,h1,_,h3⟩)
 ·exact absurd (h.symm.trans h1) h0
 ·obtain rfl:m=n:=h1.symm.trans h
  exact h3
theorem Tryz.infoU8:(Tryz.prog.info? 5).map (fun i=>(i.zero,i.size,i.bytes))=some (some (.int .u8 0),1,1):=by kernel_rfl
theorem strCells_sb (s:ByteArray):Lib.strCells s=(sb s).map (Value.int .u8):=by unfold Lib.strCells sb;rw[List.map_map];rfl
def tx (s:ByteArray):List Int:=[(s.size:Int) / 256,(s.size:Int) % 256]++sb s
theorem tx_length (s:ByteArray):(tx s).length=2+s.size:=by unfold tx;rw[List.length_append,sb_length];rfl
theorem two_cell (w:World) (y z:Value) (t:TypeId):∀ j u,[y,z][j]?=some u->(w.alloc (.cells #[y,z] t)).cell? ((⟨w.heap.size,0,none⟩:Addr).add j)=some u:=by
 intro j u hj
 match j,hj with
 | 0,hj=>simp at hj;subst hj;simp[Addr.add]
 | 1,hj=>simp at hj;subst hj;simp[Addr.add]
theorem two_one (k:IntKind) (y z:Int):∀ u ∈ [Value.int k y,Value.int k z],u.oneCell'=true:=by
 intro u hu;simp at hu;rcases hu with rfl | rfl <;> rfl
set_option maxRecDepth 100000 in
theorem wl_any (s:ByteArray) (w:World) (hs:s.size<=65535):Calls Tryz.prog 164 #[.string s] w fun e w'=>∃ v,e=.returned v/\Hid (w'.ownsRow w.heap.size 5 1 v (2+s.size) ((tx s).map (Value.int .u8)))/\Below w.heap.size w w':=by
 obtain⟨i0,hi,hz0,hz1,hz2⟩:=info_parts Tryz.infoU8
 go_enter Tryz.func164,Tryz.ntmps164
 go_wp2_with (first
  | (at_make;refine wpList_make_own _ rfl _ _ 30 rfl w.heap.size 5 i0 (.int .u8 0) 1 Tryz.underlying30 hi hz0 hz1 .i64 .i64 _ (2+s.size) rfl rfl (by omega) (by rw[hz2];omega) (by unfold maxLen;omega) (Nat.le_refl _) ?_;intro w0 hown0 hgrow0)
  | (at_builtin;refine wpList_append_own _ rfl _ _ 30 rfl w.heap.size 5 i0 (.int .u8 0) 1 1 Tryz.underlying30 hi hz0 hz1 hz2 rfl (by decide) _ _ _ rfl (hown0.alloc _) ⟨w0.heap.size,0,none⟩ 2 2 [.int .u8 ((s.size:Int) / 256),.int .u8 ((s.size:Int) % 256)] rfl rfl (two_cell _ _ _ _) (two_one _ _ _) (by unfold maxLen;omega) (by omega) (by have:=hgrow0.size;simp;omega) ?_)
  | go_in)
 intro v1 w1 hown1 hgrow1 _
 have hb0:Below w.heap.size w w0:=(Below.refl _ _).grown hgrow0 (Nat.le_refl _) (fun k hk=>by cases hk)
 have hb1:Below w.heap.size w w1:=(hb0.alloc hb0.size _).grown hgrow1 (by have:=hb0.size;simp;omega) (fun k hk=>(hown0.lt k hk).1)
 clear hgrow0 hgrow1 hown0 hb0
 go_wp2_with (first
  | (at_builtin;refine Lib.wpList_append_own_string _ rfl _ _ 30 9 rfl w.heap.size 5 i0 Tryz.underlying30 Tryz.underlying9 hi hz0 hz1 hz2 _ _ _ rfl hown1 s rfl (by unfold maxLen;omega) (by omega) hb1.size ?_)
  | go_in)
 intro v2 w2 hown2 hgrow2 _
 have hb2:Below w.heap.size w w2:=hb1.grown hgrow2 hb1.size (fun k hk=>(hown1.lt k hk).1)
 have hown3:Hid (w2.ownsRow w.heap.size 5 1 v2 (2+s.size) ((tx s).map (Value.int .u8))):=by
  unfold tx
  rw[List.map_append,<- strCells_sb]
  show World.ownsRow _ _ _ _ _ _ _
  simpa using hown2
 clear hgrow2 hown1 hb1 hown2
 go_wp2
 go_ret
 exact⟨_,rfl,hown3,hb2⟩
def TxPost (s:ByteArray) (w:World) (e:Ending) (w':World):Prop :=
 ∃ v,e=.returned (.tuple #[v,.nilIface])/\Hid (w'.ownsRow w.heap.size 5 1 v (2+s.size) ((tx s).map (Value.int .u8)))/\Below w.heap.size w w'
def FaPost (n:Int) (w:World) (e:Ending) (w':World):Prop :=
 e=.returned (.tuple #[.slice none 0 0,.iface 118 (.pointer (some ⟨w.heap.size,0,none⟩))])/\w'=faultW n w
theorem chk_0 {l:List Int} (h:chk l=0):l.length<=65535:=by
 unfold chk at h
 by_cases h1:utf l=true
 ·rw[if_pos h1]at h
  by_cases h2:l.length<=65535
  ·exact h2
  ·rw[if_neg h2]at h;omega
 ·rw[if_neg h1]at h;omega
theorem put_ok (s:ByteArray) (w:World) (hc:chk (sb s)=0):Calls Tryz.prog 152 #[.string s] w (TxPost s w):=by
 have hs:s.size<=65535:=by have:=chk_0 hc;rw[sb_length]at this;exact this
 unfold TxPost
 have HC:=zh hc
 clear hc
 go_enter Tryz.func152,Tryz.ntmps152
 go_wp2_with (first | (go_at_call 142;refine (check_ok s _ (by omega) (uh HC)).mono ?_;rintro e w' ⟨rfl,rfl⟩) | (go_at_call 164;refine (wl_any s _ hs).mono ?_;rintro e w' ⟨v,rfl,hown,hb⟩))
 go_ret2
 exact⟨_,rfl,hown,hb⟩
theorem put_bad (s:ByteArray) (n:Int) (w:World) (hs:s.size<=4611686018427387904) (hc:chk (sb s)=n) (hn:n≠0):Calls Tryz.prog 152 #[.string s] w (FaPost n w):=by
 unfold FaPost
 have HC:=zh hc
 clear hc
 go_enter Tryz.func152,Tryz.ntmps152
 go_wp2_with (first | (go_at_call 142;refine (check_bad s n _ hs (uh HC) hn).mono ?_;rintro e w' ⟨rfl,rfl⟩))
 go_ret2
 exact⟨rfl,rfl⟩
theorem putBin_ok (s:ByteArray) (w:World) (hs:s.size<=65535):Calls Tryz.prog 153 #[.string s] w (TxPost s w):=by
 unfold TxPost
 go_enter Tryz.func153,Tryz.ntmps153
 go_wp2_with (go_at_call 164;refine (wl_any s _ hs).mono ?_;rintro e w' ⟨v,rfl,hown,hb⟩)
 go_ret2
 exact⟨_,rfl,hown,hb⟩
theorem putBin_bad (s:ByteArray) (w:World) (hs:65535 < s.size):Calls Tryz.prog 153 #[.string s] w (FaPost 2 w):=by
 unfold FaPost
 go_enter Tryz.func153,Tryz.ntmps153
 go_wp2_with (go_at_call 143;refine (fault_any _ _).mono ?_;rintro e w' ⟨rfl,rfl⟩)
 go_ret2
 exact⟨rfl,rfl⟩
theorem tx_range (s:ByteArray) (hs:s.size<=65535):∀ j,0<=(tx s).getD j 0/\(tx s).getD j 0<=255:=by
 intro j
 unfold tx
 rcases j with _ | _ | j
 ·simp;omega
 ·simp;omega
 ·simpa using sb_range s j
end Go.Proofs.YtpheelbbpiieiaaGreatDoor
