/- Helpers of the proof. -/
import Derived.Test.YtmpijpjlbhfccaaGreatDoorZC3
import Derived.Test.YtmpijpjlbhfccaaGreatDoorProg
import Derived.Laws.StructEq
import Derived.Test.YtmpijpjlbhfccaaGreatDoorZC1
import Derived.WalkKit
import Derived.Laws.BitsAllLaws
set_option maxHeartbeats 20000000
namespace Go.Proofs.YtmpijpjlbhfccaaGreatDoor
open Go.RowKit
set_option maxRecDepth 100000 in
theorem rutf_any (v:Value) (l:List Int) (w:World) (hv:Byt w v l):Calls Tryz.prog 142 #[v] w fun e w'=>e=.returned (.bool (utf l))/\w'=w:=by
 go_enter Tryz.func142,Tryz.ntmps142
 go_wp2
 go_loop [0] (fun b=>∃ k:Nat,k<=l.length/\Hid (Byt w b (l.drop k))/\Hid (utf (l.drop k)=utf l)) (fun b=>match b with | .slice _ n _=>n|_=>0)
 case atStart=>exact⟨0,Nat.zero_le _,hv,rfl⟩
 case round =>
  obtain⟨k,hk,hby,hu⟩:=hrel
  by_cases hlt:k<l.length
  ·obtain⟨b,off,cap,rfl,hc1,hc2⟩:=(uh hby).form1 (by rw[List.length_drop];omega)
   have hps:=zh (rp_any _ _ w (uh hby) (by intro h;have:=congrArg List.length h;simp at this;omega))
   have h4:=pt_le (l.drop k)
   have hnot:=zh (utf_not l k hlt)
   have hyes:=zh (utf_drop l k hlt)
   have hdr:=zh (fun p=>(uh hby).drop' p)
   rw[List.length_drop]at h4 hc1 hps hdr |-
   have hdd:Hid (∀ p,(l.drop k).drop p=l.drop (k+p)):=fun p=>List.drop_drop
   generalize pt (l.drop k)=p at hps h4 hnot hyes
   generalize hm:l.length-k=m at hps h4 hc1 hdr
   unfold maxLen at hc2
   by_cases hp:p=0
   ·subst hp
    have hf:=zh ((uh hnot) rfl)
    go_wp2_with (go_at_call 162;refine (uh hps).mono ?_;rintro e w' ⟨rfl,rfl⟩)
    go_ret
    exact⟨ret_bool (by rw[<- uh hu,uh hf]),rfl⟩
   ·have hp0:((p:Int)==0)=false:=beq_eq_false_iff_ne.2 (by omega)
    go_wp2_with (go_at_call 162;refine (uh hps).mono ?_;rintro e w' ⟨rfl,rfl⟩)
    go_round
    case rel=>exact⟨k+p,by omega,by show Byt _ _ _;rw[<- (uh hdd) p];exact (uh hdr) p h4,by show _=_;rw[<- (uh hyes) hp];exact uh hu⟩
    case measure=>simp;omega
  ·obtain rfl:k=l.length:=by omega
   have hn:l.drop l.length=[]:=List.drop_of_length_le (Nat.le_refl _)
   rw[hn]at hby hu
   obtain⟨ao,cap,rfl,_⟩:=(uh hby).form
   have hu':Hid (utf l=true):=(uh hu).symm
   clear hn hu
   go_wp2
   go_ret
   exact⟨ret_bool (uh hu').symm,rfl⟩
end Go.Proofs.YtmpijpjlbhfccaaGreatDoor
namespace Go.Proofs.YtmpijpjlbhfccaaGreatDoor.K
open Go.RowKit
theorem text_ext {x y:ByteArray} (h:x.toList=y.toList):x=y:=by
 rw[ByteArray.toList_eq,ByteArray.toList_eq]at h
 exact ByteArray.ext (Array.toList_inj.1 h)
def Txs (w:World) (v:Value) (l:List ByteArray):Prop :=
 ∃ ao cap,v=.slice ao l.length cap/\(l.length<=cap/\cap<=maxLen)/\(l=[]\/∃ b off,ao=some ⟨b,off,none⟩/\∀ j,j<l.length->w.cell? ⟨b,off+j,none⟩=some (.string (l.getD j ⟨#[]⟩)))
theorem txs_of_owns {w:World} {B:Nat} {e:TypeId} {v:Value} {l:List ByteArray} (h:w.ownsRow B e 1 v l.length (l.map (Value.string))):Txs w v l:=by
 rcases h.2 with⟨rfl,h1⟩|⟨g,cap,cur,rfl,hB,hg,h1,h2,h3,h4⟩
 ·have:l=[]:=List.length_eq_zero_iff.1 h1
  subst this
  exact⟨none,0,rfl,by simp,.inl rfl⟩
 ·refine⟨_,cap,rfl,⟨h1,h2⟩,.inr ⟨g,0,rfl,fun j hj=>?_⟩⟩
  rw[Nat.zero_add,h.cellAt j (by omega),List.getElem?_map,List.getElem?_eq_getElem hj,List.getD_eq_getElem?_getD,List.getElem?_eq_getElem hj]
  rfl
theorem eqs_len (ao bo:Option Addr) (n m ca cb:Nat) (w:World) (h:n≠m) :
  Calls Tryz.prog 37 #[.slice ao n ca,.slice bo m cb] w fun e w'=>e=.returned (.bool false)/\w'=w:=by
 have h1:((n:Int)==(m:Int))=false:=beq_eq_false_iff_ne.2 (by omega)
 go_enter Tryz.func37,Tryz.ntmps37
 go_wp2
 go_ret
 exact⟨rfl,rfl⟩
theorem eqs_nil (ao bo:Option Addr) (ca cb:Nat) (w:World) :
  Calls Tryz.prog 37 #[.slice ao 0 ca,.slice bo 0 cb] w fun e w'=>e=.returned (.bool true)/\w'=w:=by
 go_enter Tryz.func37,Tryz.ntmps37
 go_wp2
 refine wp_loop_rounds 1 ?_
 rw[rounds_succ]
 go_wp2
 go_ret
 exact⟨rfl,rfl⟩
theorem eqs_core (ba oa bb ob n ca cb:Nat) (f g:Nat->ByteArray) (w:World) (hn:n<=maxLen)
  (hf:∀ j,j<n->w.cell? ⟨ba,oa+j,none⟩=some (.string (f j))) (hg:∀ j,j<n->w.cell? ⟨bb,ob+j,none⟩=some (.string (g j))) :
  Calls Tryz.prog 37 #[.slice (some ⟨ba,oa,none⟩) n ca,.slice (some ⟨bb,ob,none⟩) n cb] w fun e w'=>(∃ b,e=.returned (.bool b)/\(b=true ↔ ∀ j,j<n->f j=g j))/\∃ k,w'=w.drewN k:=by
 unfold maxLen at hn
 have HF:=zh hf
 have HG:=zh hg
 clear hf hg
 go_enter Tryz.func37,Tryz.ntmps37
 go_wp2
 go_loopw [5] (fun i wr=>∃ k q:Nat,k<=n/\i=.int .i64 k/\wr=w.drewN q/\∀ j,j<k->f j=g j) (fun i _=>n-(intOf i).toNat)
 case atStart=>exact⟨0,0,Nat.zero_le _,rfl,rfl,fun j hj=>absurd hj (Nat.not_lt_zero j)⟩
 case round =>
  obtain⟨k,q,hk,rfl,rfl,hall⟩:=hrel
  have HA:=zh hall
  clear hall
  by_cases hlt:k<n
  ·have hfk:=(uh HF) k hlt
   have hgk:=(uh HG) k hlt
   generalize hx:f k=x at hfk
   generalize hy:g k=y at hgk
   have HX:=zh hx
   have HY:=zh hy
   clear hx hy
   by_cases hxy:x=y
   ·have hb:(x.toList==y.toList)=true:=by rw[hxy];exact beq_self_eq_true _
    have HE:=zh hxy
    clear hxy
    go_wp2
    go_quiet (fail)
    go_wp2
    go_roundw
    case rel=>exact⟨k+1,_,by omega,by go_num,rfl,fun j hj=>by
     rcases Nat.lt_succ_iff_lt_or_eq.1 hj with h|h
     ·exact (uh HA) j h
     ·rw[h,uh HX,uh HY];exact uh HE⟩
    case measure=>simp[intOf];omega
   ·have hb:(x.toList==y.toList)=false:=beq_eq_false_iff_ne.2 (fun e=>hxy (text_ext e))
    go_wp2
    go_quiet (fail)
    go_wp2
    go_ret
    refine⟨⟨_,rfl,?_⟩,q+nq,drewN_drewN _ _ _⟩
    constructor
    ·intro h;cases h
    ·intro h;exact absurd ((uh HX).symm.trans ((h k hlt).trans (uh HY))) hxy
  ·go_wp2
   go_ret
   exact⟨⟨_,rfl,fun _ j hj=>(uh HA) j (by omega),fun _=>rfl⟩,_,rfl⟩
theorem eqs_any (va vb:Value) (xs ys:List ByteArray) (w:World) (ha:Txs w va xs) (hb:Txs w vb ys) :
  Calls Tryz.prog 37 #[va,vb] w fun e w'=>e=.returned (.bool (decide (xs=ys)))/\∃ k,w'=w.drewN k:=by
 obtain⟨ao,ca,rfl,hla,ha⟩:=ha
 obtain⟨bo,cb,rfl,_,hb⟩:=hb
 by_cases hl:xs.length=ys.length
 ·rcases ha with rfl|⟨ba,oa,rfl,hca⟩
  ·have hb0:ys=[]:=List.length_eq_zero_iff.1 hl.symm
   subst hb0
   refine (eqs_nil _ _ _ _ _).mono ?_
   rintro e w' ⟨rfl,rfl⟩
   exact⟨by simp,0,rfl⟩
  ·rcases hb with rfl|⟨bb,ob,rfl,hcb⟩
   ·have ha0:xs=[]:=List.length_eq_zero_iff.1 hl
    subst ha0
    refine (eqs_nil _ _ _ _ _).mono ?_
    rintro e w' ⟨rfl,rfl⟩
    exact⟨by simp,0,rfl⟩
   ·rw[<- hl]at hcb |-
    refine (eqs_core ba oa bb ob xs.length ca cb (fun j=>xs.getD j ⟨#[]⟩) (fun j=>ys.getD j ⟨#[]⟩) w (Nat.le_trans hla.1 hla.2) hca hcb).mono ?_
    rintro e w' ⟨⟨b,rfl,hbb⟩,k,rfl⟩
    refine⟨?_,k,rfl⟩
    have:(b=true) ↔ xs=ys:=by
     rw[hbb]
     constructor
     ·intro h
      apply List.ext_getElem hl
      intro i h1 h2
      have:=h i h1
      rw[List.getD_eq_getElem?_getD,List.getD_eq_getElem?_getD,List.getElem?_eq_getElem h1,List.getElem?_eq_getElem h2]at this
      exact this
     ·rintro rfl j _;rfl
    rw[show b=decide (xs=ys) from by rw[Bool.eq_iff_iff,this];simp]
 ·refine (eqs_len ao bo xs.length ys.length ca cb w hl).mono ?_
  rintro e w' ⟨rfl,rfl⟩
  refine⟨?_,0,rfl⟩
  rw[show decide (xs=ys)=false from decide_eq_false (fun h=>hl (by rw[h]))]
theorem ofInt_64 (a:Nat) (ha:a<18446744073709551616):(BitVec.ofInt 64 (a:Int)).toNat=a:=by
 rw[BitVec.ofInt_natCast,BitVec.toNat_ofNat];exact Nat.mod_eq_of_lt (by omega)
theorem i64_or_nat (a b:Nat) (ha:a<4611686018427387904) (hb:b<4611686018427387904):bits .or .i64 (a:Int) (b:Int)=((a ||| b:Nat):Int):=by
 have hx:a ||| b<2^62:=Nat.or_lt_two_pow (by omega) (by omega)
 show IntKind.i64.wrap ((BitVec.ofInt 64 (a:Int) ||| BitVec.ofInt 64 (b:Int)).toNat:Int)=_
 rw[BitVec.toNat_or,ofInt_64 a (by omega),ofInt_64 b (by omega),IntKind.wrap_i64]
 omega
theorem or_hi (i:Nat) (x y:Int) (hx0:0<=x) (hx1:x<4611686018427387904) (hy0:0<=y) (hy1:y<4611686018427387904) (hm:x.toNat % 2^i=0) (hy:y.toNat<2^i):bits .or .i64 x y=x+y:=by
 obtain⟨a,rfl⟩:=Int.eq_ofNat_of_zero_le hx0
 obtain⟨b,rfl⟩:=Int.eq_ofNat_of_zero_le hy0
 rw[i64_or_nat a b (by omega) (by omega),nat_join i a b (by simpa using hm) (by simpa using hy)]
 omega
theorem or_256 (x y:Int) (hx0:0<=x) (hx1:x<16777216) (hy0:0<=y) (hy1:y<=255):bits .or .i64 (x*256) y=x*256+y:=or_hi 8 _ _ (by omega) (by omega) hy0 (by omega) (by omega) (by omega)
def Nms (w:World) (v:Value) (l:List Int):Prop :=
 ∃ ao cap,v=.slice ao l.length cap/\(l.length<=cap/\cap<=maxLen)/\(l=[]\/∃ b off,ao=some ⟨b,off,none⟩/\∀ j,j<l.length->w.cell? ⟨b,off+j,none⟩=some (.int .i64 (l.getD j 0)))
theorem nms_of_owns {w:World} {B:Nat} {e:TypeId} {v:Value} {l:List Int} (h:w.ownsRow B e 1 v l.length (l.map (Value.int .i64))):Nms w v l:=by
 rcases h.2 with⟨rfl,h1⟩|⟨g,cap,cur,rfl,hB,hg,h1,h2,h3,h4⟩
 ·have:l=[]:=List.length_eq_zero_iff.1 h1
  subst this
  exact⟨none,0,rfl,by simp,.inl rfl⟩
 ·refine⟨_,cap,rfl,⟨h1,h2⟩,.inr ⟨g,0,rfl,fun j hj=>?_⟩⟩
  rw[Nat.zero_add,h.cellAt j (by omega),List.getElem?_map,List.getElem?_eq_getElem hj,List.getD_eq_getElem?_getD,List.getElem?_eq_getElem hj]
  rfl
theorem eqn_len (ao bo:Option Addr) (n m ca cb:Nat) (w:World) (h:n≠m) :
  Calls Tryz.prog 39 #[.slice ao n ca,.slice bo m cb] w fun e w'=>e=.returned (.bool false)/\w'=w:=by
 have h1:((n:Int)==(m:Int))=false:=beq_eq_false_iff_ne.2 (by omega)
 go_enter Tryz.func39,Tryz.ntmps39
 go_wp2
 go_ret
 exact⟨rfl,rfl⟩
theorem eqn_nil (ao bo:Option Addr) (ca cb:Nat) (w:World) :
  Calls Tryz.prog 39 #[.slice ao 0 ca,.slice bo 0 cb] w fun e w'=>e=.returned (.bool true)/\w'=w:=by
 go_enter Tryz.func39,Tryz.ntmps39
 go_wp2
 refine wp_loop_rounds 1 ?_
 rw[rounds_succ]
 go_wp2
 go_ret
 exact⟨rfl,rfl⟩
theorem eqn_core (ba oa bb ob n ca cb:Nat) (f g:Nat->Int) (w:World) (hn:n<=maxLen)
  (hf:∀ j,j<n->w.cell? ⟨ba,oa+j,none⟩=some (.int .i64 (f j))) (hg:∀ j,j<n->w.cell? ⟨bb,ob+j,none⟩=some (.int .i64 (g j))) :
  Calls Tryz.prog 39 #[.slice (some ⟨ba,oa,none⟩) n ca,.slice (some ⟨bb,ob,none⟩) n cb] w fun e w'=>(∃ b,e=.returned (.bool b)/\(b=true ↔ ∀ j,j<n->f j=g j))/\∃ k,w'=w.drewN k:=by
 unfold maxLen at hn
 have HF:=zh hf
 have HG:=zh hg
 clear hf hg
 go_enter Tryz.func39,Tryz.ntmps39
 go_wp2
 go_loopw [5] (fun i wr=>∃ k q:Nat,k<=n/\i=.int .i64 k/\wr=w.drewN q/\∀ j,j<k->f j=g j) (fun i _=>n-(intOf i).toNat)
 case atStart=>exact⟨0,0,Nat.zero_le _,rfl,rfl,fun j hj=>absurd hj (Nat.not_lt_zero j)⟩
 case round =>
  obtain⟨k,q,hk,rfl,rfl,hall⟩:=hrel
  have HA:=zh hall
  clear hall
  by_cases hlt:k<n
  ·have hfk:=(uh HF) k hlt
   have hgk:=(uh HG) k hlt
   generalize hx:f k=x at hfk
   generalize hy:g k=y at hgk
   have HX:=zh hx
   have HY:=zh hy
   clear hx hy
   by_cases hxy:x=y
   ·have hb:(x==y)=true:=beq_iff_eq.2 hxy
    have HE:=zh hxy
    clear hxy
    go_wp2
    go_quiet (fail)
    go_wp2
    go_roundw
    case rel=>exact⟨k+1,_,by omega,by go_num,rfl,fun j hj=>by
     rcases Nat.lt_succ_iff_lt_or_eq.1 hj with h|h
     ·exact (uh HA) j h
     ·rw[h,uh HX,uh HY];exact uh HE⟩
    case measure=>simp[intOf];omega
   ·have hb:(x==y)=false:=beq_eq_false_iff_ne.2 hxy
    go_wp2
    go_quiet (fail)
    go_wp2
    go_ret
    refine⟨⟨_,rfl,?_⟩,q+nq,drewN_drewN _ _ _⟩
    constructor
    ·intro h;cases h
    ·intro h;exact absurd ((uh HX).symm.trans ((h k hlt).trans (uh HY))) hxy
  ·go_wp2
   go_ret
   exact⟨⟨_,rfl,fun _ j hj=>(uh HA) j (by omega),fun _=>rfl⟩,_,rfl⟩
theorem eqn_any (va vb:Value) (xs ys:List Int) (w:World) (ha:Nms w va xs) (hb:Nms w vb ys) :
  Calls Tryz.prog 39 #[va,vb] w fun e w'=>e=.returned (.bool (decide (xs=ys)))/\∃ k,w'=w.drewN k:=by
 obtain⟨ao,ca,rfl,hla,ha⟩:=ha
 obtain⟨bo,cb,rfl,_,hb⟩:=hb
 by_cases hl:xs.length=ys.length
 ·rcases ha with rfl|⟨ba,oa,rfl,hca⟩
  ·have hb0:ys=[]:=List.length_eq_zero_iff.1 hl.symm
   subst hb0
   refine (eqn_nil _ _ _ _ _).mono ?_
   rintro e w' ⟨rfl,rfl⟩
   exact⟨by simp,0,rfl⟩
  ·rcases hb with rfl|⟨bb,ob,rfl,hcb⟩
   ·have ha0:xs=[]:=List.length_eq_zero_iff.1 hl
    subst ha0
    refine (eqn_nil _ _ _ _ _).mono ?_
    rintro e w' ⟨rfl,rfl⟩
    exact⟨by simp,0,rfl⟩
   ·rw[<- hl]at hcb |-
    refine (eqn_core ba oa bb ob xs.length ca cb (fun j=>xs.getD j 0) (fun j=>ys.getD j 0) w (Nat.le_trans hla.1 hla.2) hca hcb).mono ?_
    rintro e w' ⟨⟨b,rfl,hbb⟩,k,rfl⟩
    refine⟨?_,k,rfl⟩
    have:(b=true) ↔ xs=ys:=by
     rw[hbb]
     constructor
     ·intro h
      apply List.ext_getElem hl
      intro i h1 h2
      have:=h i h1
      rw[List.getD_eq_getElem?_getD,List.getD_eq_getElem?_getD,List.getElem?_eq_getElem h1,List.getElem?_eq_getElem h2]at this
      exact this
     ·rintro rfl j _;rfl
    rw[show b=decide (xs=ys) from by rw[Bool.eq_iff_iff,this];simp]
 ·refine (eqn_len ao bo xs.length ys.length ca cb w hl).mono ?_
  rintro e w' ⟨rfl,rfl⟩
  refine⟨?_,0,rfl⟩
  rw[show decide (xs=ys)=false from decide_eq_false (fun h=>hl (by rw[h]))]
end Go.Proofs.YtmpijpjlbhfccaaGreatDoor.K
namespace Go.Proofs.YtmpijpjlbhfccaaGreatDoor
open Go.RowKit
theorem eq_len (ao bo:Option Addr) (n m ca cb:Nat) (w:World) (h:n≠m) :
  Calls Tryz.prog 10 #[.slice ao n ca,.slice bo m cb] w fun e w'=>e=.returned (.bool false)/\w'=w:=by
 have h1:((n:Int)==(m:Int))=false:=beq_eq_false_iff_ne.2 (by omega)
 go_enter Tryz.func10,Tryz.ntmps10
 go_wp2
 go_ret
 exact⟨rfl,rfl⟩
theorem eq_nil (ao bo:Option Addr) (ca cb:Nat) (w:World) :
  Calls Tryz.prog 10 #[.slice ao 0 ca,.slice bo 0 cb] w fun e w'=>e=.returned (.bool true)/\w'=w:=by
 go_enter Tryz.func10,Tryz.ntmps10
 go_wp2
 refine wp_loop_rounds 1 ?_
 rw[rounds_succ]
 go_wp2
 go_ret
 exact⟨rfl,rfl⟩
theorem eq_core (ba oa bb ob n ca cb:Nat) (f g:Nat->Int) (w:World) (hn:n<=maxLen)
  (hf:∀ j,j<n->w.cell? ⟨ba,oa+j,none⟩=some (.int .u8 (f j))) (hg:∀ j,j<n->w.cell? ⟨bb,ob+j,none⟩=some (.int .u8 (g j))) :
  Calls Tryz.prog 10 #[.slice (some ⟨ba,oa,none⟩) n ca,.slice (some ⟨bb,ob,none⟩) n cb] w fun e w'=>(∃ b,e=.returned (.bool b)/\(b=true ↔ ∀ j,j<n->f j=g j))/\∃ k,w'=w.drewN k:=by
 unfold maxLen at hn
 have HF:=zh hf
 have HG:=zh hg
 clear hf hg
 go_enter Tryz.func10,Tryz.ntmps10
 go_wp2
 go_loopw [5] (fun i wr=>∃ k q:Nat,k<=n/\i=.int .i64 k/\wr=w.drewN q/\∀ j,j<k->f j=g j) (fun i _=>n-(intOf i).toNat)
 case atStart=>exact⟨0,0,Nat.zero_le _,rfl,rfl,fun j hj=>absurd hj (Nat.not_lt_zero j)⟩
 case round =>
  obtain⟨k,q,hk,rfl,rfl,hall⟩:=hrel
  have HA:=zh hall
  clear hall
  by_cases hlt:k<n
  ·have hfk:=(uh HF) k hlt
   have hgk:=(uh HG) k hlt
   generalize hx:f k=x at hfk
   generalize hy:g k=y at hgk
   have HX:=zh hx
   have HY:=zh hy
   clear hx hy
   by_cases hxy:x=y
   ·have hb:(x==y)=true:=beq_iff_eq.2 hxy
    have HE:=zh hxy
    clear hxy
    go_wp2
    go_quiet (fail)
    go_wp2
    go_roundw
    case rel=>exact⟨k+1,_,by omega,by go_num,rfl,fun j hj=>by
     rcases Nat.lt_succ_iff_lt_or_eq.1 hj with h|h
     ·exact (uh HA) j h
     ·rw[h,uh HX,uh HY];exact uh HE⟩
    case measure=>simp[intOf];omega
   ·have hb:(x==y)=false:=beq_eq_false_iff_ne.2 hxy
    go_wp2
    go_quiet (fail)
    go_wp2
    go_ret
    refine⟨⟨_,rfl,?_⟩,q+nq,drewN_drewN _ _ _⟩
    constructor
    ·intro h;cases h
    ·intro h;exact absurd ((uh HX).symm.trans ((h k hlt).trans (uh HY))) hxy
  ·go_wp2
   go_ret
   exact⟨⟨_,rfl,fun _ j hj=>(uh HA) j (by omega),fun _=>rfl⟩,_,rfl⟩
theorem eq_any (va vb:Value) (xs ys:List Int) (w:World) (ha:Byt w va xs) (hb:Byt w vb ys) :
  Calls Tryz.prog 10 #[va,vb] w fun e w'=>e=.returned (.bool (decide (xs=ys)))/\∃ k,w'=w.drewN k:=by
 obtain⟨ao,ca,rfl,hla,_,ha⟩:=ha
 obtain⟨bo,cb,rfl,_,_,hb⟩:=hb
 by_cases hl:xs.length=ys.length
 ·rcases ha with rfl|⟨ba,oa,rfl,hca⟩
  ·have hb0:ys=[]:=List.length_eq_zero_iff.1 hl.symm
   subst hb0
   refine (eq_nil _ _ _ _ _).mono ?_
   rintro e w' ⟨rfl,rfl⟩
   exact⟨by simp,0,rfl⟩
  ·rcases hb with rfl|⟨bb,ob,rfl,hcb⟩
   ·have ha0:xs=[]:=List.length_eq_zero_iff.1 hl
    subst ha0
    refine (eq_nil _ _ _ _ _).mono ?_
    rintro e w' ⟨rfl,rfl⟩
    exact⟨by simp,0,rfl⟩
   ·rw[<- hl]at hcb |-
    refine (eq_core ba oa bb ob xs.length ca cb (fun j=>xs.getD j 0) (fun j=>ys.getD j 0) w (Nat.le_trans hla.1 hla.2) hca hcb).mono ?_
    rintro e w' ⟨⟨b,rfl,hbb⟩,k,rfl⟩
    refine⟨?_,k,rfl⟩
    have:(b=true) ↔ xs=ys:=by
     rw[hbb]
     constructor
     ·intro h
      apply List.ext_getElem hl
      intro i h1 h2
      have:=h i h1
      rw[List.getD_eq_getElem?_getD,List.getD_eq_getElem?_getD,List.getElem?_eq_getElem h1,List.getElem?_eq_getElem h2]at this
      exact this
     ·rintro rfl j _;rfl
    rw[show b=decide (xs=ys) from by rw[Bool.eq_iff_iff,this];simp]
 ·refine (eq_len ao bo xs.length ys.length ca cb w hl).mono ?_
  rintro e w' ⟨rfl,rfl⟩
  refine⟨?_,0,rfl⟩
  rw[show decide (xs=ys)=false from decide_eq_false (fun h=>hl (by rw[h]))]
end Go.Proofs.YtmpijpjlbhfccaaGreatDoor
