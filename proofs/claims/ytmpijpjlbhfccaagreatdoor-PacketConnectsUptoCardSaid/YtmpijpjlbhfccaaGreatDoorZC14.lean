/- Helpers of the proof. -/
import Derived.Laws.StructEq
import Derived.Test.YtmpijpjlbhfccaaGreatDoorZC13
import Derived.Handy
import Derived.Test.YtmpijpjlbhfccaaGreatDoorZC11
set_option maxHeartbeats 20000000
namespace Go.Proofs.YtmpijpjlbhfccaaGreatDoor
open Go.RowKit
set_option maxRecDepth 100000
def pcs (l:List Pr):List Value:=l.flatMap fun p=>[.int .i64 p.1,.int .i64 p.2.1,.string p.2.2.1,.string p.2.2.2]
theorem Tryz.infoProp:(Tryz.prog.info? 88).map (fun i=>(i.zero,i.size,i.bytes))=some (some (.agg #[.int .i64 0,.int .i64 0,.string ⟨#[]⟩,.string ⟨#[]⟩]),4,48):=by kernel_rfl
theorem pcs_get (l:List Pr):∀ k,k<l.length->(pcs l)[k*4]?=some (.int .i64 (at0 l k).1)/\(pcs l)[k*4+1]?=some (.int .i64 (at0 l k).2.1)/\(pcs l)[k*4+2]?=some (.string (at0 l k).2.2.1)/\(pcs l)[k*4+3]?=some (.string (at0 l k).2.2.2):=by
 induction l with
 | nil=>intro k hk;simp at hk
 | cons p l ih =>
  intro k hk
  have e:pcs (p::l)=[.int .i64 p.1,.int .i64 p.2.1,.string p.2.2.1,.string p.2.2.2]++pcs l:=rfl
  rw[e]
  rcases k with _|k
  ·exact⟨rfl,rfl,rfl,rfl⟩
  ·have h:=ih k (by simpa using hk)
   have ea:at0 (p::l) (k+1)=at0 l k:=by unfold at0;rw[List.getD_cons_succ]
   rw[ea]
   refine⟨?_,?_,?_,?_⟩
   ·rw[List.getElem?_append_right (by simp;omega)];rw[show (k+1)*4-[Value.int .i64 p.1,.int .i64 p.2.1,.string p.2.2.1,.string p.2.2.2].length=k*4 from by simp;omega];exact h.1
   ·rw[List.getElem?_append_right (by simp;omega)];rw[show (k+1)*4+1-[Value.int .i64 p.1,.int .i64 p.2.1,.string p.2.2.1,.string p.2.2.2].length=k*4+1 from by simp;omega];exact h.2.1
   ·rw[List.getElem?_append_right (by simp;omega)];rw[show (k+1)*4+2-[Value.int .i64 p.1,.int .i64 p.2.1,.string p.2.2.1,.string p.2.2.2].length=k*4+2 from by simp;omega];exact h.2.2.1
   ·rw[List.getElem?_append_right (by simp;omega)];rw[show (k+1)*4+3-[Value.int .i64 p.1,.int .i64 p.2.1,.string p.2.2.1,.string p.2.2.2].length=k*4+3 from by simp;omega];exact h.2.2.2
theorem prp_of_owns {w:World} {B:Nat} {e:TypeId} {v:Value} {l:List Pr} (h:w.ownsRow B e 4 v l.length (pcs l)):Prp w v l:=by
 rcases h.2 with⟨rfl,h1⟩|⟨g,cap,cur,rfl,hB,hg,rest⟩
 ·have:l=[]:=List.length_eq_zero_iff.1 h1
  subst this
  exact⟨none,0,rfl,.inl rfl⟩
 ·refine⟨_,cap,rfl,.inr ⟨g,0,rfl,fun k hk=>?_⟩⟩
  obtain⟨h0,h1,h2,h3⟩:=pcs_get l k hk
  refine⟨?_,?_,?_,?_⟩
  ·rw[Nat.zero_add,h.cellAt (k*4) (by omega)];exact h0
  ·rw[Nat.zero_add,h.cellAt (k*4+1) (by omega)];exact h1
  ·rw[Nat.zero_add,h.cellAt (k*4+2) (by omega)];exact h2
  ·rw[Nat.zero_add,h.cellAt (k*4+3) (by omega)];exact h3
theorem pcs_snoc (l:List Pr) (k:Nat) (h:k<l.length):pcs (l.take (k+1))=pcs (l.take k)++[.int .i64 (at0 l k).1,.int .i64 (at0 l k).2.1,.string (at0 l k).2.2.1,.string (at0 l k).2.2.2]:=by
 rw[take_snoc0 l k h]
 unfold pcs
 rw[List.flatMap_append]
 rfl
theorem four_cell (w:World) (a b c d:Value) (t:TypeId):∀ j u,[a,b,c,d][j]?=some u->(w.alloc (.cells #[a,b,c,d] t)).cell? ((⟨w.heap.size,0,none⟩:Addr).add j)=some u:=by
 intro j u hj
 match j,hj with
 | 0,hj=>simp at hj;subst hj;simp[Addr.add]
 | 1,hj=>simp at hj;subst hj;simp[Addr.add]
 | 2,hj=>simp at hj;subst hj;simp[Addr.add]
 | 3,hj=>simp at hj;subst hj;simp[Addr.add]
theorem four_one (a b:Int) (c d:ByteArray):∀ u∈[Value.int .i64 a,.int .i64 b,.string c,.string d],u.oneCell'=true:=by
 intro u hu;simp at hu;rcases hu with rfl|rfl|rfl|rfl<;>rfl
theorem copyp_core (b off cap:Nat) (l:List Pr) (len:Nat) (w:World) (hlen:l.length=len) (hmx:len<=1000000) (hl:PrAt w b off l) :
  Calls Tryz.prog 16 #[.slice (some ⟨b,off,none⟩) len cap] w fun e w'=>∃ v,e=.returned v/\Hid (w'.ownsRow w.heap.size 88 4 v len (pcs l))/\Below w.heap.size w w':=by
 obtain⟨i0,hi,hz0,hz1,hz2⟩:=info_parts Tryz.infoProp
 have HL:=zh hl
 have HLEN:=zh hlen
 clear hl hlen
 go_enter Tryz.func16,Tryz.ntmps16
 go_wp2
 go_loopw [3,4] (fun v i wr=>∃ k:Nat,k<=len/\i=.int .i64 k/\Hid (wr.ownsRow w.heap.size 88 4 v k (pcs (l.take k)))/\Below w.heap.size w wr) (fun _ i _=>len-(intOf i).toNat)
 case atStart=>exact⟨0,Nat.zero_le _,rfl,World.ownsRow_nil _ _ _ _,Below.refl _ _⟩
 case round =>
  obtain⟨k,hk,rfl,HOWN,hbel⟩:=hrel
  by_cases hlt:k<len
  ·have HLTk:Hid (k<l.length):=by show _<_;rw[uh HLEN];exact hlt
   obtain⟨h0,h1,h2,h3⟩:=((uh HL).below hbel) k (uh HLTk)
   have HPS:=zh (pcs_snoc l k (uh HLTk))
   obtain⟨id,n,s,t,hp⟩:∃ id n s t,at0 l k=(id,n,s,t):=⟨_,_,_,_,rfl⟩
   rw[hp]at h0 h1 h2 h3 HPS
   simp only at h0 h1 h2 h3
   have HBEL:=zh hbel
   have hsz:=hbel.size
   clear hp hbel
   go_wp2_with (first
    | (at_builtin;refine wpList_append_own _ rfl _ _ 25 rfl w.heap.size 88 i0 _ 4 48 Tryz.underlying25 hi hz0 hz1 hz2 rfl (by decide) _ _ _ rfl ((uh HOWN).alloc _) ⟨wr.heap.size,0,none⟩ 1 1 [.int .i64 id,.int .i64 n,.string s,.string t] rfl rfl (four_cell _ _ _ _ _ _) (four_one _ _ _ _) (by unfold maxLen;omega) (by omega) (by simp;omega) ?_)
    | go_in)
   intro v' w1 hown' hgrow _
   have HB1:Hid (Below w.heap.size w w1):=((uh HBEL).alloc hsz _).grown hgrow (by simp;omega) (fun k hk=>((uh HOWN).lt k hk).1)
   have HO1:Hid (w1.ownsRow w.heap.size 88 4 v' (k+1) (pcs (l.take (k+1)))):=by show World.ownsRow _ _ _ _ _ _ _;rw[uh HPS];exact hown'
   clear hgrow hown'
   go_wp2
   go_roundw
   case rel=>exact⟨k+1,by omega,by go_num,HO1,uh HB1⟩
   case measure=>simp[intOf];omega
  ·obtain rfl:k=len:=by omega
   have HO1:Hid (wr.ownsRow w.heap.size 88 4 u3 k (pcs l)):=by
    show World.ownsRow _ _ _ _ _ _ _
    have:=uh HOWN
    rw[List.take_of_length_le (Nat.le_of_eq (uh HLEN))]at this
    exact this
   go_wp2
   go_ret
   exact⟨_,rfl,HO1,hbel⟩
theorem copyp_nil (ao:Option Addr) (cap:Nat) (w:World):Calls Tryz.prog 16 #[.slice ao 0 cap] w fun e w'=>e=.returned (.slice none 0 0)/\w'=w:=by
 go_enter Tryz.func16,Tryz.ntmps16
 go_wp2
 refine wp_loop_rounds 1 ?_
 rw[rounds_succ]
 go_wp2
 go_ret
 exact⟨rfl,rfl⟩
theorem Tryz.eqgP:Tryz.prog.eqGuardType Tryz.prog.depth 88=false:=by kernel_rfl
theorem Tryz.stoodP:Tryz.prog.stoodInHeld 88=false:=by kernel_rfl
theorem Tryz.undP:Tryz.prog.underlying 88=some (.struct (Tryz.prog.fieldsOf 88)):=by kernel_rfl
def same (p q:Pr):Bool:=(p.1==q.1&&p.2.1==q.2.1&&p.2.2.1.toList==q.2.2.1.toList&&p.2.2.2.toList==q.2.2.2.toList)
theorem neqP (id n id' n':Int) (s t s' t':ByteArray) (w:World):(binOp .neq 88 (.agg #[.int .i64 id,.int .i64 n,.string s,.string t]) (.agg #[.int .i64 id',.int .i64 n',.string s',.string t'])).run Tryz.prog w=.ok (.bool (!(same (id,n,s,t) (id',n',s',t')))) w:=by
 rw[run_neq_struct,run_equalIn_struct w 9999 88 _ _ Tryz.undP Tryz.stoodP]
 rw[show Tryz.prog.fieldsOf 88=_ from rfl]
 simp[Program.fieldsOf,Tryz.underlying88,Op.eqFields,go_sem]
 unfold same
 by_cases h1:id=id'
 ·by_cases h2:n=n'
  ·by_cases h3:s.toList=s'.toList
   ·by_cases h4:t.toList=t'.toList
    ·simp[h1,h2,h3,h4]
    ·simp[h1,h2,h3,h4]
   ·simp[h1,h2,h3]
  ·simp[h1,h2]
 ·simp[h1]
theorem toList_inj {a b:ByteArray} (h:a.toList=b.toList):a=b:=by
 rw[ByteArray.toList_eq,ByteArray.toList_eq]at h
 obtain⟨⟨x⟩⟩:=a
 obtain⟨⟨y⟩⟩:=b
 simp at h
 rw[h]
theorem same_iff (p q:Pr):same p q=true ↔ p=q:=by
 obtain⟨a,b,c,d⟩:=p
 obtain⟨a',b',c',d'⟩:=q
 unfold same
 constructor
 ·intro h
  simp only[Bool.and_eq_true,beq_iff_eq]at h
  obtain⟨⟨⟨h1,h2⟩,h3⟩,h4⟩:=h
  rw[h1,h2,toList_inj h3,toList_inj h4]
 ·rintro h
  injection h with h1 h
  injection h with h2 h
  injection h with h3 h4
  subst h1 h2 h3 h4
  simp
theorem eqp_core (ba oa bb ob ca cb:Nat) (l m:List Pr) (len:Nat) (w:World) (hl:l.length=len) (hm:m.length=len) (hmx:len<=1000000000) (ha:PrAt w ba oa l) (hb:PrAt w bb ob m) :
  Calls Tryz.prog 35 #[.slice (some ⟨ba,oa,none⟩) len ca,.slice (some ⟨bb,ob,none⟩) len cb] w fun e w'=>(∃ b,e=.returned (.bool b)/\(b=true ↔ ∀ j,j<len->at0 l j=at0 m j))/\∃ k,w'=w.drewN k:=by
 have HL:=zh hl
 have HM:=zh hm
 have HA:=zh ha
 have HB:=zh hb
 clear hl hm ha hb
 go_enter Tryz.func35,Tryz.ntmps35
 go_wp2
 go_loopw [5] (fun i wr=>∃ k q:Nat,k<=len/\i=.int .i64 k/\wr=w.drewN q/\Hid (∀ j,j<k->at0 l j=at0 m j)) (fun i _=>len-(intOf i).toNat)
 case atStart=>exact⟨0,0,Nat.zero_le _,rfl,rfl,fun j hj=>absurd hj (Nat.not_lt_zero j)⟩
 case round =>
  obtain⟨k,q,hk,rfl,rfl,HALL⟩:=hrel
  by_cases hlt:k<len
  ·obtain⟨h0,h1,h2,h3⟩:=(uh HA) k (by rw[uh HL];exact hlt)
   obtain⟨g0,g1,g2,g3⟩:=(uh HB) k (by rw[uh HM];exact hlt)
   obtain⟨id,n,s,t,hp⟩:∃ id n s t,at0 l k=(id,n,s,t):=⟨_,_,_,_,rfl⟩
   obtain⟨id',n',s',t',hp'⟩:∃ id n s t,at0 m k=(id,n,s,t):=⟨_,_,_,_,rfl⟩
   rw[hp]at h0 h1 h2 h3
   rw[hp']at g0 g1 g2 g3
   simp only at h0 h1 h2 h3 g0 g1 g2 g3
   have HP:=zh hp
   have HP':=zh hp'
   clear hp hp'
   have qg:=Tryz.eqgP
   have qn:=fun W=>neqP id n id' n' s t s' t' W
   generalize hsb:same (id,n,s,t) (id',n',s',t')=sb at qn
   have HSB:=zh hsb
   clear hsb
   cases sb
   ·have HNE:Hid (at0 l k≠at0 m k):=fun e=>by
     rw[uh HP,uh HP']at e
     have:=(same_iff _ _).2 e
     rw[uh HSB]at this
     cases this
    go_wp2
    go_quiet (fail)
    go_wp2
    go_ret
    refine⟨⟨_,rfl,?_⟩,q+nq,drewN_drewN _ _ _⟩
    constructor
    ·intro h;cases h
    ·intro h;exact absurd (h k hlt) (uh HNE)
   ·have HE:Hid (at0 l k=at0 m k):=by
     show _=_
     rw[uh HP,uh HP']
     exact (same_iff _ _).1 (uh HSB)
    go_wp2
    go_quiet (fail)
    go_wp2
    go_roundw
    case rel=>exact⟨k+1,_,by omega,by go_num,rfl,fun j hj=>by
     rcases Nat.lt_succ_iff_lt_or_eq.1 hj with h|h
     ·exact (uh HALL) j h
     ·rw[h];exact uh HE⟩
    case measure=>simp[intOf];omega
  ·go_wp2
   go_ret
   exact⟨⟨_,rfl,fun _ j hj=>(uh HALL) j (by omega),fun _=>rfl⟩,_,rfl⟩
theorem eqp_len (ao bo:Option Addr) (n m ca cb:Nat) (w:World) (h:n≠m) :
  Calls Tryz.prog 35 #[.slice ao n ca,.slice bo m cb] w fun e w'=>e=.returned (.bool false)/\w'=w:=by
 have h1:((n:Int)==(m:Int))=false:=beq_eq_false_iff_ne.2 (by omega)
 go_enter Tryz.func35,Tryz.ntmps35
 go_wp2
 go_ret
 exact⟨rfl,rfl⟩
theorem eqp_nil (ao bo:Option Addr) (ca cb:Nat) (w:World) :
  Calls Tryz.prog 35 #[.slice ao 0 ca,.slice bo 0 cb] w fun e w'=>e=.returned (.bool true)/\w'=w:=by
 go_enter Tryz.func35,Tryz.ntmps35
 go_wp2
 refine wp_loop_rounds 1 ?_
 rw[rounds_succ]
 go_wp2
 go_ret
 exact⟨rfl,rfl⟩
theorem at0_ext {l m:List Pr} (hl:l.length=m.length) (h:∀ j,j<l.length->at0 l j=at0 m j):l=m:=by
 apply List.ext_getElem hl
 intro i h1 h2
 have:=h i h1
 unfold at0 at this
 rw[List.getD_eq_getElem?_getD,List.getD_eq_getElem?_getD,List.getElem?_eq_getElem h1,List.getElem?_eq_getElem h2]at this
 exact this
end Go.Proofs.YtmpijpjlbhfccaaGreatDoor
namespace Go.Proofs.YtmpijpjlbhfccaaGreatDoor.K
open Go.RowKit
theorem eqp_any (va vb:Value) (l m:List Pr) (w:World) (ha:Prp w va l) (hb:Prp w vb m) (hmx:l.length<=1000000000) :
  Calls Tryz.prog 35 #[va,vb] w fun e w'=>(∃ b,e=.returned (.bool b)/\(b=true ↔ l=m))/\∃ k,w'=w.drewN k:=by
 obtain⟨ao,ca,rfl,ha⟩:=ha
 obtain⟨bo,cb,rfl,hb⟩:=hb
 by_cases hl:l.length=m.length
 ·rcases ha with rfl|⟨ba,oa,rfl,hca⟩
  ·obtain rfl:m=[]:=List.length_eq_zero_iff.1 hl.symm
   refine (eqp_nil _ _ _ _ _).mono ?_
   rintro e w' ⟨rfl,rfl⟩
   exact⟨⟨true,rfl,by simp⟩,0,rfl⟩
  ·rcases hb with rfl|⟨bb,ob,rfl,hcb⟩
   ·obtain rfl:l=[]:=List.length_eq_zero_iff.1 hl
    refine (eqp_nil _ _ _ _ _).mono ?_
    rintro e w' ⟨rfl,rfl⟩
    exact⟨⟨true,rfl,by simp⟩,0,rfl⟩
   ·rw[<- hl]
    refine (eqp_core ba oa bb ob ca cb l m l.length w rfl hl.symm hmx hca hcb).mono ?_
    rintro e w' ⟨⟨b,rfl,hbb⟩,k,rfl⟩
    exact⟨⟨b,rfl,hbb.trans ⟨fun h=>at0_ext hl h,fun h j _=>by rw[h]⟩⟩,k,rfl⟩
 ·refine (eqp_len ao bo l.length m.length ca cb w hl).mono ?_
  rintro e w' ⟨rfl,rfl⟩
  exact⟨⟨false,rfl,by constructor;(intro h;cases h);(intro h;exact absurd (by rw[h]) hl)⟩,0,rfl⟩
set_option maxRecDepth 100000
theorem eqw_any (t t' p p':ByteArray) (q q':Int) (r r':Bool) (ao ao':Option Addr) (n n' cap cap':Nat) (l l':List Pr) (w:World) (ha:Prp w (.slice ao n cap) l) (hb:Prp w (.slice ao' n' cap') l') (hmx:l.length<=1000000000) :
  Calls Tryz.prog 85 #[.agg #[.string t,.string p,.int .i64 q,.bool r,.slice ao n cap],.agg #[.string t',.string p',.int .i64 q',.bool r',.slice ao' n' cap']] w fun e w'=>(∃ b,e=.returned (.bool b)/\(b=true ↔ (t=t'/\p=p'/\q=q'/\r=r'/\l=l')))/\Below w.heap.size w w':=by
 have HA:=zh ha
 have HB:=zh hb
 clear ha hb
 by_cases h0:t=t'
 ·have k0:(t.toList==t'.toList)=true:=by rw[h0];exact beq_self_eq_true _
  have H0:=zh h0
  clear h0
  by_cases h1:p=p'
  ·have k1:(p.toList==p'.toList)=true:=by rw[h1];exact beq_self_eq_true _
   have H1:=zh h1
   clear h1
   by_cases h2:q=q'
   ·have k2:(q==q')=true:=by rw[h2];exact beq_self_eq_true _
    have H2:=zh h2
    clear h2
    by_cases h3:r=r'
    ·have k3:(r==r')=true:=by rw[h3];exact beq_self_eq_true _
     have H3:=zh h3
     clear h3
     go_enter Tryz.func85,Tryz.ntmps85
     go_wp2_with fail
     refine (eqp_any _ _ l l' _ ((uh HA).below (by go_grown)) ((uh HB).below (by go_grown)) hmx).mono ?_
     rintro e w1 ⟨⟨b,rfl,hbb⟩,k,rfl⟩
     have HBB:=zh hbb
     clear hbb
     cases b
     ·go_wp2
      go_ret
      exact⟨⟨false,rfl,by constructor;(intro h;cases h);(intro h;exact (uh HBB).2 h.2.2.2.2)⟩,below_drewN (by go_grown) k⟩
     ·go_wp2
      go_ret
      exact⟨⟨true,rfl,fun _=>⟨uh H0,uh H1,uh H2,uh H3,(uh HBB).1 trivial⟩,fun _=>rfl⟩,below_drewN (by go_grown) k⟩
    ·have k3:(r==r')=false:=beq_eq_false_iff_ne.2 (h3)
     have H3:=zh h3
     clear h3
     go_enter Tryz.func85,Tryz.ntmps85
     go_wp2
     go_ret
     exact⟨⟨false,rfl,by constructor;(intro h;cases h);(intro h;exact absurd h.2.2.2.1 (uh H3))⟩,by go_grown⟩
   ·have k2:(q==q')=false:=beq_eq_false_iff_ne.2 (h2)
    have H2:=zh h2
    clear h2
    go_enter Tryz.func85,Tryz.ntmps85
    go_wp2
    go_ret
    exact⟨⟨false,rfl,by constructor;(intro h;cases h);(intro h;exact absurd h.2.2.1 (uh H2))⟩,by go_grown⟩
  ·have k1:(p.toList==p'.toList)=false:=beq_eq_false_iff_ne.2 (fun e=>h1 (text_ext e))
   have H1:=zh h1
   clear h1
   go_enter Tryz.func85,Tryz.ntmps85
   go_wp2
   go_ret
   exact⟨⟨false,rfl,by constructor;(intro h;cases h);(intro h;exact absurd h.2.1 (uh H1))⟩,by go_grown⟩
 ·have k0:(t.toList==t'.toList)=false:=beq_eq_false_iff_ne.2 (fun e=>h0 (text_ext e))
  have H0:=zh h0
  clear h0
  go_enter Tryz.func85,Tryz.ntmps85
  go_wp2
  go_ret
  exact⟨⟨false,rfl,by constructor;(intro h;cases h);(intro h;exact absurd h.1 (uh H0))⟩,by go_grown⟩
end Go.Proofs.YtmpijpjlbhfccaaGreatDoor.K
