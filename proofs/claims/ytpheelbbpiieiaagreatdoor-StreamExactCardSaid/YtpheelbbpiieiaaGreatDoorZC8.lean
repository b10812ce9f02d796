/- Proved here: helpers, one text behind the other. -/
import Derived.Test.YtpheelbbpiieiaaGreatDoorZC3
import Derived.Lib.AppendStr
import Derived.Test.YtpheelbbpiieiaaGreatDoorProg
import Derived.Laws.StructEq
import Derived.Test.YtpheelbbpiieiaaGreatDoorZC1
set_option maxHeartbeats 20000000
namespace Go.Proofs.YtpheelbbpiieiaaGreatDoor
open Go.RowKit
set_option maxRecDepth 100000 in
theorem rutf_any (v:Value) (l:List Int) (w:World) (hv:Byt w v l):Calls Tryz.prog 125 #[v] w fun e w'=>e=.returned (.bool (utf l))/\w'=w:=by
 go_enter Tryz.func125,Tryz.ntmps125
 go_wp2
 go_loop [0] (fun b=>∃ k:Nat,k<=l.length/\Hid (Byt w b (l.drop k))/\Hid (utf (l.drop k)=utf l)) (fun b=>match b with | .slice _ n _=>n | _=>0)
 case atStart=>exact⟨0,Nat.zero_le _,hv,rfl⟩
 case round =>
  obtain⟨k,hk,hby,hu⟩:=hrel
  by_cases hlt:k < l.length
  ·obtain⟨b,off,cap,rfl,hc1,hc2⟩:=(uh hby).form1 (by rw[List.length_drop];omega)
   have hps:=zh (rp_any _ _ w (uh hby) (by intro h;have:=congrArg List.length h;simp at this;omega))
   have h4:=pt_le (l.drop k)
   have hnot:=zh (utf_not l k hlt)
   have hyes:=zh (utf_drop l k hlt)
   have hdr:=zh (fun p=>(uh hby).drop' p)
   rw[List.length_drop]at h4 hc1 hps hdr |-
   have hdd:Hid (∀ p,(l.drop k).drop p=l.drop (k+p)):=fun p=>List.drop_drop
   generalize pt (l.drop k)=p at hps h4 hnot hyes
   generalize hm:l.length - k=m at hps h4 hc1 hdr
   unfold maxLen at hc2
   by_cases hp:p=0
   ·subst hp
    have hf:=zh ((uh hnot) rfl)
    go_wp2_with (go_at_call 151;refine (uh hps).mono ?_;rintro e w' ⟨rfl,rfl⟩)
    go_ret
    exact⟨ret_bool (by rw[<- uh hu,uh hf]),rfl⟩
   ·have hp0:((p:Int) == 0)=false:=beq_eq_false_iff_ne.2 (by omega)
    go_wp2_with (go_at_call 151;refine (uh hps).mono ?_;rintro e w' ⟨rfl,rfl⟩)
    go_round
    case rel=>exact⟨k+p,by omega,by show Byt _ _ _;rw[<- (uh hdd) p];exact (uh hdr) p h4,by show _=_;rw[<- (uh hyes) hp];exact uh hu⟩
    case measure=>simp;omega
  ·obtain rfl:k=l.length:=by omega
   have hn:l.drop l.length=[]:=List.drop_of_length_le (Nat.le_refl _)
   rw[hn]at hby hu
   obtain⟨ao,cap,rfl,_⟩:=(uh hby).form
   have hu':Hid (utf l=true):=(uh hu).symm
   clear hn hu
   go_wp2
   go_ret
   exact⟨ret_bool (uh hu').symm,rfl⟩
abbrev faultW (n:Int) (w:World):World:=w.alloc (.cells #[.string ⟨#[116,101,120,116]⟩,.iface 63 (.int .i64 n)] 120)
theorem fault_any (n:Int) (w:World):Calls Tryz.prog 143 #[.int .i64 n] w fun e w'=>e=.returned (.iface 118 (.pointer (some ⟨w.heap.size,0,none⟩)))/\w'=faultW n w:=by
 go_enter Tryz.func143,Tryz.ntmps143
 go_wp2
 go_ret
 exact⟨rfl,rfl⟩
theorem fault_is (n:Int) (w:World):ErrIs (faultW n w) (.iface 118 (.pointer (some ⟨w.heap.size,0,none⟩))) n:=.inr ⟨_,rfl,by simp⟩
theorem fault_below (n:Int) (w:World):Below w.heap.size w (faultW n w):=bal _ _
def ChkPost (l:List Int) (w:World) (e:Ending) (w':World):Prop :=
 (chk l=0/\e=.returned .nilIface/\w'=w)\/(∃ n,chk l=n/\n≠0/\e=.returned (.iface 118 (.pointer (some ⟨w.heap.size,0,none⟩)))/\w'=faultW n w)
set_option maxRecDepth 100000 in
theorem check_core (s:ByteArray) (w:World) (hs:s.size<=4611686018427387904):Calls Tryz.prog 142 #[.string s] w (ChkPost (sb s) w):=by
 have HL:=zh (sb_length s)
 go_enter Tryz.func142,Tryz.ntmps142
 go_wp2
 go_loop [3] (fun i=>∃ k:Nat,k<=s.size/\i=.int .i64 k/\Hid (utf ((sb s).drop k)=utf (sb s))) (fun i=>s.size - (intOf i).toNat)
 case atStart=>exact⟨0,Nat.zero_le _,rfl,rfl⟩
 case round =>
  obtain⟨k,hk,rfl,hu⟩:=hrel
  by_cases hlt:k < s.size
  ·have hps:∀ w,Calls Tryz.prog 157 #[.string (s.extract k s.size)] w fun e w'=>e=.returned (.int .i64 (pt ((sb s).drop k)))/\w'=w:=fun w=>by
    rw[<- sb_drop]
    exact ps_any _ w (by rw[ByteArray.size_extract];omega)
   have HPS:=zh hps
   clear hps
   have h4:=pt_le4 ((sb s).drop k)
   have hle:pt ((sb s).drop k)+k<=s.size:=by
    have:=pt_le ((sb s).drop k)
    rw[List.length_drop,uh HL]at this
    omega
   have hnot:=zh (utf_not (sb s) k (by rw[uh HL];exact hlt))
   have hyes:=zh (utf_drop (sb s) k (by rw[uh HL];exact hlt))
   generalize pt ((sb s).drop k)=p at HPS h4 hle hnot hyes
   by_cases hp:p=0
   ·subst hp
    have hc:Hid (chk (sb s)=1):=by show _=_;unfold chk;rw[if_neg];rw[<- uh hu,(uh hnot) rfl];simp
    clear hyes
    go_wp2_with (first | (go_at_call 157;refine ((uh HPS) _).mono ?_;rintro e w' ⟨rfl,rfl⟩) | (go_at_call 143;refine (fault_any _ _).mono ?_;rintro e w' ⟨rfl,rfl⟩))
    go_ret
    exact .inr ⟨1,uh hc,by omega,rfl,rfl⟩
   ·have hp0:((p:Int) == 0)=false:=beq_eq_false_iff_ne.2 (by omega)
    have hu':Hid (utf ((sb s).drop (k+p))=utf (sb s)):=by show _=_;rw[<- (uh hyes) hp];exact uh hu
    clear hnot hyes
    go_wp2_with (first | (go_at_call 157;refine ((uh HPS) _).mono ?_;rintro e w' ⟨rfl,rfl⟩))
    go_round
    case rel=>exact⟨k+p,by omega,by go_num,hu'⟩
    case measure=>simp[intOf];omega
  ·obtain rfl:k=s.size:=by omega
   have ht:utf (sb s)=true:=by rw[<- uh hu,List.drop_of_length_le (by rw[uh HL];exact Nat.le_refl _)];rfl
   by_cases hm:s.size<=65535
   ·have hc:Hid (chk (sb s)=0):=by show _=_;unfold chk;rw[if_pos ht,if_pos (by rw[uh HL];exact hm)]
    clear ht
    go_wp2
    go_ret
    exact .inl ⟨uh hc,rfl,rfl⟩
   ·have hc:Hid (chk (sb s)=2):=by show _=_;unfold chk;rw[if_pos ht,if_neg (by rw[uh HL];exact hm)]
    clear ht
    go_wp2_with (go_at_call 143;refine (fault_any _ _).mono ?_;rintro e w' ⟨rfl,rfl⟩)
    go_ret
    exact .inr ⟨2,uh hc,by omega,rfl,rfl⟩
theorem check_ok (s:ByteArray) (w:World) (hs:s.size<=4611686018427387904) (h:chk (sb s)=0):Calls Tryz.prog 142 #[.string s] w fun e w'=>e=.returned .nilIface/\w'=w:=by
 refine (check_core s w hs).mono ?_
 rintro e w' (⟨_,h1⟩ | ⟨n,h1,h2,_⟩)
 ·exact h1
 ·exact absurd (h1.symm.trans h) h2
theorem check_bad (s:ByteArray) (n:Int) (w:World) (hs:s.size<=4611686018427387904) (h:chk (sb s)=n) (h0:n≠0):Calls Tryz.prog 142 #[.string s] w fun e w'=>e=.returned (.iface 118 (.pointer (some ⟨w.heap.size,0,none⟩)))/\w'=faultW n w:=by
 refine (check_core s w hs).mono ?_
 rintro e w' (⟨h1,_⟩ | ⟨m,h1,_,h3⟩)
 ·exact absurd (h.symm.trans h1) h0
 ·obtain rfl:m=n:=h1.symm.trans h
  exact h3
theorem Tryz.infoU8:(Tryz.prog.info? 5).map (fun i=>(i.zero,i.size,i.bytes))=some (some (.int .u8 0),1,1):=by kernel_rfl
theorem strCells_sb (s:ByteArray):Lib.strCells s=(sb s).map (Value.int .u8):=by unfold Lib.strCells sb;rw[List.map_map];rfl
def tx (s:ByteArray):List Int:=[(s.size:Int) / 256,(s.size:Int) % 256]++sb s
theorem tx_length (s:ByteArray):(tx s).length=2+s.size:=by unfold tx;rw[List.length_append,sb_length];rfl
theorem two_cell (w:World) (y z:Value) (t:TypeId):∀ j u,[y,z][j]?=some u->(w.alloc (.cells #[y,z] t)).cell? ((⟨w.heap.size,0,none⟩:Addr).add j)=some u:=by
 intro j u hj
 match j,hj with
 | 0,hj=>simp at hj;subst hj;simp[Addr.add]
 | 1,hj=>simp at hj;subst hj;simp[Addr.add]
theorem two_one (k:IntKind) (y z:Int):∀ u ∈ [Value.int k y,Value.int k z],u.oneCell'=true:=by
 intro u hu;simp at hu;rcases hu with rfl | rfl <;> rfl
set_option maxRecDepth 100000 in
theorem wl_any (s:ByteArray) (w:World) (hs:s.size<=65535):Calls Tryz.prog 164 #[.string s] w fun e w'=>∃ v,e=.returned v/\Hid (w'.ownsRow w.heap.size 5 1 v (2+s.size) ((tx s).map (Value.int .u8)))/\Below w.heap.size w w':=by
 obtain⟨i0,hi,hz0,hz1,hz2⟩:=info_parts Tryz.infoU8
 go_enter Tryz.func164,Tryz.ntmps164
 go_wp2_with (first
  | (at_make;refine wpList_make_own _ rfl _ _ 30 rfl w.heap.size 5 i0 (.int .u8 0) 1 Tryz.underlying30 hi hz0 hz1 .i64 .i64 _ (2+s.size) rfl rfl (by omega) (by rw[hz2];omega) (by unfold maxLen;omega) (Nat.le_refl _) ?_;intro w0 hown0 hgrow0)
  | (at_builtin;refine wpList_append_own _ rfl _ _ 30 rfl w.heap.size 5 i0 (.int .u8 0) 1 1 Tryz.underlying30 hi hz0 hz1 hz2 rfl (by decide) _ _ _ rfl (hown0.alloc _) ⟨w0.heap.size,0,none⟩ 2 2 [.int .u8 ((s.size:Int) / 256),.int .u8 ((s.size:Int) % 256)] rfl rfl (two_cell _ _ _ _) (two_one _ _ _) (by unfold maxLen;omega) (by omega) (by have:=hgrow0.size;simp;omega) ?_)
  | go_in)
 intro v1 w1 hown1 hgrow1 _
 have hb0:Below w.heap.size w w0:=(Below.refl _ _).grown hgrow0 (Nat.le_refl _) (fun k hk=>by cases hk)
 have hb1:Below w.heap.size w w1:=(hb0.alloc hb0.size _).grown hgrow1 (by have:=hb0.size;simp;omega) (fun k hk=>(hown0.lt k hk).1)
 clear hgrow0 hgrow1 hown0 hb0
 go_wp2_with (first
  | (at_builtin;refine Lib.wpList_append_own_string _ rfl _ _ 30 9 rfl w.heap.size 5 i0 Tryz.underlying30 Tryz.underlying9 hi hz0 hz1 hz2 _ _ _ rfl hown1 s rfl (by unfold maxLen;omega) (by omega) hb1.size ?_)
  | go_in)
 intro v2 w2 hown2 hgrow2 _
 have hb2:Below w.heap.size w w2:=hb1.grown hgrow2 hb1.size (fun k hk=>(hown1.lt k hk).1)
 have hown3:Hid (w2.ownsRow w.heap.size 5 1 v2 (2+s.size) ((tx s).map (Value.int .u8))):=by
  unfold tx
  rw[List.map_append,<- strCells_sb]
  show World.ownsRow _ _ _ _ _ _ _
  simpa using hown2
 clear hgrow2 hown1 hb1 hown2
 go_wp2
 go_ret
 exact⟨_,rfl,hown3,hb2⟩
def TxPost (s:ByteArray) (w:World) (e:Ending) (w':World):Prop :=
 ∃ v,e=.returned (.tuple #[v,.nilIface])/\Hid (w'.ownsRow w.heap.size 5 1 v (2+s.size) ((tx s).map (Value.int .u8)))/\Below w.heap.size w w'
def FaPost (n:Int) (w:World) (e:Ending) (w':World):Prop :=
 e=.returned (.tuple #[.slice none 0 0,.iface 118 (.pointer (some ⟨w.heap.size,0,none⟩))])/\w'=faultW n w
theorem chk_0 {l:List Int} (h:chk l=0):l.length<=65535:=by
 unfold chk at h
 by_cases h1:utf l=true
 ·rw[if_pos h1]at h
  by_cases h2:l.length<=65535
  ·exact h2
  ·rw[if_neg h2]at h;omega
 ·rw[if_neg h1]at h;omega
theorem put_ok (s:ByteArray) (w:World) (hc:chk (sb s)=0):Calls Tryz.prog 152 #[.string s] w (TxPost s w):=by
 have hs:s.size<=65535:=by have:=chk_0 hc;rw[sb_length]at this;exact this
 unfold TxPost
 have HC:=zh hc
 clear hc
 go_enter Tryz.func152,Tryz.ntmps152
 go_wp2_with (first | (go_at_call 142;refine (check_ok s _ (by omega) (uh HC)).mono ?_;rintro e w' ⟨rfl,rfl⟩) | (go_at_call 164;refine (wl_any s _ hs).mono ?_;rintro e w' ⟨v,rfl,hown,hb⟩))
 go_ret2
 exact⟨_,rfl,hown,hb⟩
theorem put_bad (s:ByteArray) (n:Int) (w:World) (hs:s.size<=4611686018427387904) (hc:chk (sb s)=n) (hn:n≠0):Calls Tryz.prog 152 #[.string s] w (FaPost n w):=by
 unfold FaPost
 have HC:=zh hc
 clear hc
 go_enter Tryz.func152,Tryz.ntmps152
 go_wp2_with (first | (go_at_call 142;refine (check_bad s n _ hs (uh HC) hn).mono ?_;rintro e w' ⟨rfl,rfl⟩))
 go_ret2
 exact⟨rfl,rfl⟩
theorem putBin_ok (s:ByteArray) (w:World) (hs:s.size<=65535):Calls Tryz.prog 153 #[.string s] w (TxPost s w):=by
 unfold TxPost
 go_enter Tryz.func153,Tryz.ntmps153
 go_wp2_with (go_at_call 164;refine (wl_any s _ hs).mono ?_;rintro e w' ⟨v,rfl,hown,hb⟩)
 go_ret2
 exact⟨_,rfl,hown,hb⟩
theorem putBin_bad (s:ByteArray) (w:World) (hs:65535 < s.size):Calls Tryz.prog 153 #[.string s] w (FaPost 2 w):=by
 unfold FaPost
 go_enter Tryz.func153,Tryz.ntmps153
 go_wp2_with (go_at_call 143;refine (fault_any _ _).mono ?_;rintro e w' ⟨rfl,rfl⟩)
 go_ret2
 exact⟨rfl,rfl⟩
theorem tx_range (s:ByteArray) (hs:s.size<=65535):∀ j,0<=(tx s).getD j 0/\(tx s).getD j 0<=255:=by
 intro j
 unfold tx
 rcases j with _ | _ | j
 ·simp;omega
 ·simp;omega
 ·simpa using sb_range s j
end Go.Proofs.YtpheelbbpiieiaaGreatDoor
namespace Go.Proofs.YtpheelbbpiieiaaGreatDoor.K
open Go.RowKit
theorem text_ext {x y:ByteArray} (h:x.toList=y.toList):x=y:=by
 rw[ByteArray.toList_eq,ByteArray.toList_eq]at h
 exact ByteArray.ext (Array.toList_inj.1 h)
def Txs (w:World) (v:Value) (l:List ByteArray):Prop :=
 ∃ ao cap,v=.slice ao l.length cap/\(l.length<=cap/\cap<=maxLen)/\(l=[]\/∃ b off,ao=some ⟨b,off,none⟩/\∀ j,j < l.length->w.cell? ⟨b,off+j,none⟩=some (.string (l.getD j ⟨#[]⟩)))
theorem txs_of_owns {w:World} {B:Nat} {e:TypeId} {v:Value} {l:List ByteArray} (h:w.ownsRow B e 1 v l.length (l.map (Value.string))):Txs w v l:=by
 rcases h.2 with⟨rfl,h1⟩ | ⟨g,cap,cur,rfl,hB,hg,h1,h2,h3,h4⟩
 ·have:l=[]:=List.length_eq_zero_iff.1 h1
  subst this
  exact⟨none,0,rfl,by simp,.inl rfl⟩
 ·refine⟨_,cap,rfl,⟨h1,h2⟩,.inr ⟨g,0,rfl,fun j hj=>?_⟩⟩
  rw[Nat.zero_add,h.cellAt j (by omega),List.getElem?_map,List.getElem?_eq_getElem hj,List.getD_eq_getElem?_getD,List.getElem?_eq_getElem hj]
  rfl
theorem eqs_len (ao bo:Option Addr) (n m ca cb:Nat) (w:World) (h:n≠m) :
  Calls Tryz.prog 35 #[.slice ao n ca,.slice bo m cb] w fun e w'=>e=.returned (.bool false)/\w'=w:=by
 have h1:((n:Int) == (m:Int))=false:=beq_eq_false_iff_ne.2 (by omega)
 go_enter Tryz.func35,Tryz.ntmps35
 go_wp2
 go_ret
 exact⟨rfl,rfl⟩
theorem eqs_nil (ao bo:Option Addr) (ca cb:Nat) (w:World) :
  Calls Tryz.prog 35 #[.slice ao 0 ca,.slice bo 0 cb] w fun e w'=>e=.returned (.bool true)/\w'=w:=by
 go_enter Tryz.func35,Tryz.ntmps35
 go_wp2
 refine wp_loop_rounds 1 ?_
 rw[rounds_succ]
 go_wp2
 go_ret
 exact⟨rfl,rfl⟩
theorem eqs_core (ba oa bb ob n ca cb:Nat) (f g:Nat->ByteArray) (w:World) (hn:n<=maxLen)
  (hf:∀ j,j < n->w.cell? ⟨ba,oa+j,none⟩=some (.string (f j))) (hg:∀ j,j < n->w.cell? ⟨bb,ob+j,none⟩=some (.string (g j))) :
  Calls Tryz.prog 35 #[.slice (some ⟨ba,oa,none⟩) n ca,.slice (some ⟨bb,ob,none⟩) n cb] w fun e w'=>(∃ b,e=.returned (.bool b)/\(b=true ↔ ∀ j,j < n->f j=g j))/\∃ k,w'=w.drewN k:=by
 unfold maxLen at hn
 have HF:=zh hf
 have HG:=zh hg
 clear hf hg
 go_enter Tryz.func35,Tryz.ntmps35
 go_wp2
 go_loopw [5] (fun i wr=>∃ k q:Nat,k<=n/\i=.int .i64 k/\wr=w.drewN q/\∀ j,j < k->f j=g j) (fun i _=>n - (intOf i).toNat)
 case atStart=>exact⟨0,0,Nat.zero_le _,rfl,rfl,fun j hj=>absurd hj (Nat.not_lt_zero j)⟩
 case round =>
  obtain⟨k,q,hk,rfl,rfl,hall⟩:=hrel
  have HA:=zh hall
  clear hall
  by_cases hlt:k < n
  ·have hfk:=(uh HF) k hlt
   have hgk:=(uh HG) k hlt
   generalize hx:f k=x at hfk
   generalize hy:g k=y at hgk
   have HX:=zh hx
   have HY:=zh hy
   clear hx hy
   by_cases hxy:x=y
   ·have hb:(x.toList == y.toList)=true:=by rw[hxy];exact beq_self_eq_true _
    have HE:=zh hxy
    clear hxy
    go_wp2
    go_quiet (fail)
    go_wp2
    go_roundw
    case rel=>exact⟨k+1,_,by omega,by go_num,rfl,fun j hj=>by
     rcases Nat.lt_succ_iff_lt_or_eq.1 hj with h | h
     ·exact (uh HA) j h
     ·rw[h,uh HX,uh HY];exact uh HE⟩
    case measure=>simp[intOf];omega
   ·have hb:(x.toList == y.toList)=false:=beq_eq_false_iff_ne.2 (fun e=>hxy (text_ext e))
    go_wp2
    go_quiet (fail)
    go_wp2
    go_ret
    refine⟨⟨_,rfl,?_⟩,q+nq,drewN_drewN _ _ _⟩
    constructor
    ·intro h;cases h
    ·intro h;exact absurd ((uh HX).symm.trans ((h k hlt).trans (uh HY))) hxy
  ·go_wp2
   go_ret
   exact⟨⟨_,rfl,fun _ j hj=>(uh HA) j (by omega),fun _=>rfl⟩,_,rfl⟩
theorem eqs_any (va vb:Value) (xs ys:List ByteArray) (w:World) (ha:Txs w va xs) (hb:Txs w vb ys) :
  Calls Tryz.prog 35 #[va,vb] w fun e w'=>e=.returned (.bool (decide (xs=ys)))/\∃ k,w'=w.drewN k:=by
 obtain⟨ao,ca,rfl,hla,ha⟩:=ha
 obtain⟨bo,cb,rfl,_,hb⟩:=hb
 by_cases hl:xs.length=ys.length
 ·rcases ha with rfl | ⟨ba,oa,rfl,hca⟩
  ·have hb0:ys=[]:=List.length_eq_zero_iff.1 hl.symm
   subst hb0
   refine (eqs_nil _ _ _ _ _).mono ?_
   rintro e w' ⟨rfl,rfl⟩
   exact⟨by simp,0,rfl⟩
  ·rcases hb with rfl | ⟨bb,ob,rfl,hcb⟩
   ·have ha0:xs=[]:=List.length_eq_zero_iff.1 hl
    subst ha0
    refine (eqs_nil _ _ _ _ _).mono ?_
    rintro e w' ⟨rfl,rfl⟩
    exact⟨by simp,0,rfl⟩
   ·rw[<- hl]at hcb |-
    refine (eqs_core ba oa bb ob xs.length ca cb (fun j=>xs.getD j ⟨#[]⟩) (fun j=>ys.getD j ⟨#[]⟩) w (Nat.le_trans hla.1 hla.2) hca hcb).mono ?_
    rintro e w' ⟨⟨b,rfl,hbb⟩,k,rfl⟩
    refine⟨?_,k,rfl⟩
    have:(b=true) ↔ xs=ys:=by
     rw[hbb]
     constructor
     ·intro h
      apply List.ext_getElem hl
      intro i h1 h2
      have:=h i h1
      rw[List.getD_eq_getElem?_getD,List.getD_eq_getElem?_getD,List.getElem?_eq_getElem h1,List.getElem?_eq_getElem h2]at this
      exact this
     ·rintro rfl j _;rfl
    rw[show b=decide (xs=ys) from by rw[Bool.eq_iff_iff,this];simp]
 ·refine (eqs_len ao bo xs.length ys.length ca cb w hl).mono ?_
  rintro e w' ⟨rfl,rfl⟩
  refine⟨?_,0,rfl⟩
  rw[show decide (xs=ys)=false from decide_eq_false (fun h=>hl (by rw[h]))]
def Nms (w:World) (v:Value) (l:List Int):Prop :=
 ∃ ao cap,v=.slice ao l.length cap/\(l.length<=cap/\cap<=maxLen)/\(l=[]\/∃ b off,ao=some ⟨b,off,none⟩/\∀ j,j < l.length->w.cell? ⟨b,off+j,none⟩=some (.int .i64 (l.getD j 0)))
theorem nms_of_owns {w:World} {B:Nat} {e:TypeId} {v:Value} {l:List Int} (h:w.ownsRow B e 1 v l.length (l.map (Value.int .i64))):Nms w v l:=by
 rcases h.2 with⟨rfl,h1⟩ | ⟨g,cap,cur,rfl,hB,hg,h1,h2,h3,h4⟩
 ·have:l=[]:=List.length_eq_zero_iff.1 h1
  subst this
  exact⟨none,0,rfl,by simp,.inl rfl⟩
 ·refine⟨_,cap,rfl,⟨h1,h2⟩,.inr ⟨g,0,rfl,fun j hj=>?_⟩⟩
  rw[Nat.zero_add,h.cellAt j (by omega),List.getElem?_map,List.getElem?_eq_getElem hj,List.getD_eq_getElem?_getD,List.getElem?_eq_getElem hj]
  rfl
theorem eqn_len (ao bo:Option Addr) (n m ca cb:Nat) (w:World) (h:n≠m) :
  Calls Tryz.prog 37 #[.slice ao n ca,.slice bo m cb] w fun e w'=>e=.returned (.bool false)/\w'=w:=by
 have h1:((n:Int) == (m:Int))=false:=beq_eq_false_iff_ne.2 (by omega)
 go_enter Tryz.func37,Tryz.ntmps37
 go_wp2
 go_ret
 exact⟨rfl,rfl⟩
theorem eqn_nil (ao bo:Option Addr) (ca cb:Nat) (w:World) :
  Calls Tryz.prog 37 #[.slice ao 0 ca,.slice bo 0 cb] w fun e w'=>e=.returned (.bool true)/\w'=w:=by
 go_enter Tryz.func37,Tryz.ntmps37
 go_wp2
 refine wp_loop_rounds 1 ?_
 rw[rounds_succ]
 go_wp2
 go_ret
 exact⟨rfl,rfl⟩
theorem eqn_core (ba oa bb ob n ca cb:Nat) (f g:Nat->Int) (w:World) (hn:n<=maxLen)
  (hf:∀ j,j < n->w.cell? ⟨ba,oa+j,none⟩=some (.int .i64 (f j))) (hg:∀ j,j < n->w.cell? ⟨bb,ob+j,none⟩=some (.int .i64 (g j))) :
  Calls Tryz.prog 37 #[.slice (some ⟨ba,oa,none⟩) n ca,.slice (some ⟨bb,ob,none⟩) n cb] w fun e w'=>(∃ b,e=.returned (.bool b)/\(b=true ↔ ∀ j,j < n->f j=g j))/\∃ k,w'=w.drewN k:=by
 unfold maxLen at hn
 have HF:=zh hf
 have HG:=zh hg
 clear hf hg
 go_enter Tryz.func37,Tryz.ntmps37
 go_wp2
 go_loopw [5] (fun i wr=>∃ k q:Nat,k<=n/\i=.int .i64 k/\wr=w.drewN q/\∀ j,j < k->f j=g j) (fun i _=>n - (intOf i).toNat)
 case atStart=>exact⟨0,0,Nat.zero_le _,rfl,rfl,fun j hj=>absurd hj (Nat.not_lt_zero j)⟩
 case round =>
  obtain⟨k,q,hk,rfl,rfl,hall⟩:=hrel
  have HA:=zh hall
  clear hall
  by_cases hlt:k < n
  ·have hfk:=(uh HF) k hlt
   have hgk:=(uh HG) k hlt
   generalize hx:f k=x at hfk
   generalize hy:g k=y at hgk
   have HX:=zh hx
   have HY:=zh hy
   clear hx hy
   by_cases hxy:x=y
   ·have hb:(x == y)=true:=beq_iff_eq.2 hxy
    have HE:=zh hxy
    clear hxy
    go_wp2
    go_quiet (fail)
    go_wp2
    go_roundw
    case rel=>exact⟨k+1,_,by omega,by go_num,rfl,fun j hj=>by
     rcases Nat.lt_succ_iff_lt_or_eq.1 hj with h | h
     ·exact (uh HA) j h
     ·rw[h,uh HX,uh HY];exact uh HE⟩
    case measure=>simp[intOf];omega
   ·have hb:(x == y)=false:=beq_eq_false_iff_ne.2 hxy
    go_wp2
    go_quiet (fail)
    go_wp2
    go_ret
    refine⟨⟨_,rfl,?_⟩,q+nq,drewN_drewN _ _ _⟩
    constructor
    ·intro h;cases h
    ·intro h;exact absurd ((uh HX).symm.trans ((h k hlt).trans (uh HY))) hxy
  ·go_wp2
   go_ret
   exact⟨⟨_,rfl,fun _ j hj=>(uh HA) j (by omega),fun _=>rfl⟩,_,rfl⟩
theorem eqn_any (va vb:Value) (xs ys:List Int) (w:World) (ha:Nms w va xs) (hb:Nms w vb ys) :
  Calls Tryz.prog 37 #[va,vb] w fun e w'=>e=.returned (.bool (decide (xs=ys)))/\∃ k,w'=w.drewN k:=by
 obtain⟨ao,ca,rfl,hla,ha⟩:=ha
 obtain⟨bo,cb,rfl,_,hb⟩:=hb
 by_cases hl:xs.length=ys.length
 ·rcases ha with rfl | ⟨ba,oa,rfl,hca⟩
  ·have hb0:ys=[]:=List.length_eq_zero_iff.1 hl.symm
   subst hb0
   refine (eqn_nil _ _ _ _ _).mono ?_
   rintro e w' ⟨rfl,rfl⟩
   exact⟨by simp,0,rfl⟩
  ·rcases hb with rfl | ⟨bb,ob,rfl,hcb⟩
   ·have ha0:xs=[]:=List.length_eq_zero_iff.1 hl
    subst ha0
    refine (eqn_nil _ _ _ _ _).mono ?_
    rintro e w' ⟨rfl,rfl⟩
    exact⟨by simp,0,rfl⟩
   ·rw[<- hl]at hcb |-
    refine (eqn_core ba oa bb ob xs.length ca cb (fun j=>xs.getD j 0) (fun j=>ys.getD j 0) w (Nat.le_trans hla.1 hla.2) hca hcb).mono ?_
    rintro e w' ⟨⟨b,rfl,hbb⟩,k,rfl⟩
    refine⟨?_,k,rfl⟩
    have:(b=true) ↔ xs=ys:=by
     rw[hbb]
     constructor
     ·intro h
      apply List.ext_getElem hl
      intro i h1 h2
      have:=h i h1
      rw[List.getD_eq_getElem?_getD,List.getD_eq_getElem?_getD,List.getElem?_eq_getElem h1,List.getElem?_eq_getElem h2]at this
      exact this
     ·rintro rfl j _;rfl
    rw[show b=decide (xs=ys) from by rw[Bool.eq_iff_iff,this];simp]
 ·refine (eqn_len ao bo xs.length ys.length ca cb w hl).mono ?_
  rintro e w' ⟨rfl,rfl⟩
  refine⟨?_,0,rfl⟩
  rw[show decide (xs=ys)=false from decide_eq_false (fun h=>hl (by rw[h]))]
end Go.Proofs.YtpheelbbpiieiaaGreatDoor.K
