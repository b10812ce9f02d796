/- Proved here: helpers, one text behind the other. -/
import Derived.Test.YtccnjdgaldbgnaaGreatDoorZC19
import Derived.Laws.StructEq
set_option maxHeartbeats 20000000
namespace Go.Proofs.YtccnjdgaldbgnaaGreatDoor
open Go.RowKit
set_option maxRecDepth 100000
def Prp (w:World) (v:Value) (l:List Pr):Prop:=∃ ao cap,v=.slice ao l.length cap/\(l=[]\/∃ b off,ao=some ⟨b,off,none⟩/\PrAt w b off l)
theorem Prp.below {w w':World} {v:Value} {l:List Pr} (h:Prp w v l) (hb:Below w.heap.size w w'):Prp w' v l:=by
 obtain⟨ao,cap,h1,h2⟩:=h
 refine⟨ao,cap,h1,?_⟩
 rcases h2 with h2 | ⟨b,off,e,hc⟩
 ·exact .inl h2
 ·exact .inr ⟨b,off,e,hc.below hb⟩
theorem Prp.form {w:World} {v:Value} {l:List Pr} (h:Prp w v l):∃ ao cap,v=.slice ao l.length cap:=by
 obtain⟨ao,cap,h1,_⟩:=h
 exact⟨ao,cap,h1⟩
theorem tell_nil (ao:Option Addr) (cap:Nat) (place:Int) (w:World):Calls Tryz.prog 79 #[.slice ao 0 cap,.int .i64 place] w (TellPost place [] w):=by
 go_enter Tryz.func79,Tryz.ntmps79
 iterate 19 go_step
 refine wpList_value rfl (row_build _ _ _ _ _ _ place rfl _) ?_
 simp only[Act.put,List.setIfInBounds_toArray,List.set_cons_zero,List.set_cons_succ]
 refine wpList_value rfl (row_alloc _ _ _ _ _ _) ?_
 simp only[Act.put,List.setIfInBounds_toArray,List.set_cons_zero,List.set_cons_succ]
 refine wpList_skip rfl (row_store _ _ _ _ _ _ _ place _ rfl rfl) ?_
 simp only[Act.put]
 go_wp2
 refine wp_loop_rounds 1 ?_
 rw[rounds_succ]
 go_wp2
 go_ret3
 exact .inl ⟨okTo_zero _ _,_,rfl,⟨none,0,rfl,⟨Nat.le_refl _,by unfold maxLen;omega⟩,fun j=>by simp[body],.inl rfl⟩,bal _ _⟩
theorem tell_any (v:Value) (l:List Pr) (place:Int) (w:World) (h:Prp w v l) (h200:l.length<=4398046511104) (hsm:Small l):Calls Tryz.prog 79 #[v,.int .i64 place] w (TellPost place l w):=by
 obtain⟨ao,cap,rfl,hc⟩:=h
 rcases hc with rfl | ⟨b,off,rfl,hc⟩
 ·exact tell_nil ao cap place w
 ·exact tell_core b off cap l _ place w rfl h200 hsm hc
def pbz (place:Int) (l:List Pr):List Int:=if chkP place l=0 then pbs l else []
theorem put_own (v:Value) (l:List Pr) (place:Int) (w:World) (h:Prp w v l) (h200:l.length<=200) (hsm:Small l) :
  Calls Tryz.prog 64 #[v,.int .i64 place] w fun e w'=>∃ v E,e=.returned (.tuple #[v,E])/\Hid (Byt w' v (pbz place l))/\Hid (ErrP w' E (chkP place l))/\Below w.heap.size w w'/\Hid (chkP place l=0->w'.ownsRow w.heap.size 5 1 v (pbz place l).length ((pbz place l).map (Value.int .u8))/\E=.nilIface)/\Hid (chkP place l≠0->v=.slice none 0 0/\∃ x,E=.iface 62 x):=by
 have HT:=zh (tell_any v l place w h (by omega) hsm)
 obtain⟨ao,cap,hv⟩:=h.form
 subst hv
 clear h hsm
 generalize hn:l.length=len at h200 HT
 have HN:=zh hn
 clear hn
 have hbad:∀ (W:World),chkP place l≠0->Byt W (.slice none 0 0) (pbz place l):=fun W hc=>by
  unfold pbz
  rw[if_neg hc]
  exact⟨none,0,rfl,⟨Nat.le_refl _,by unfold maxLen;omega⟩,fun j=>by simp,.inl rfl⟩
 have HBAD:=zh hbad
 clear hbad
 go_enter Tryz.func64,Tryz.ntmps64
 go_wp2_with fail
 refine (uh HT).mono ?_
 rintro e w1 (⟨hok,v1,rfl,hy,hb1⟩ | ⟨hc,E,rfl,hE,hb1⟩)
 ·have hle:=body_le l place len (by rw[uh HN];exact Nat.le_refl _) (by rw[uh HN]at hok;exact hok)
  rw[List.take_of_length_le (Nat.le_of_eq (uh HN))]at hle
  have HOK:=zh hok
  have HB1:=zh hb1
  clear hb1 hok
  generalize hS:(body l).length=SZ at hle
  have HS:=zh hS
  clear hS
  go_wp2_with fail
  refine (vput_use SZ _ (by omega) (by omega)).mono ?_
  rintro e w2 ⟨v2,rfl,hown2,hy2,hb2⟩
  have HB2:Hid (Below w.heap.size w w2):=(uh HB1).trans (hb2.mono (uh HB1).size)
  have HO2:Hid (w2.ownsRow w.heap.size 5 1 v2 (V.put SZ).length ((V.put SZ).map (Value.int .u8))):=owns_mono (uh hown2) (uh HB1).size
  have HY1:Hid (Byt w2 v1 (body (l.take 32))):=(uh hy).below hb2
  clear hb2 hown2 hy HB1
  rcases Nat.lt_or_ge 32 len with h32 | h32
  ·have HC:Hid (chkP place l=2):=chkP_lim place l (uh HOK) (by rw[uh HN];exact h32)
   go_wp2_with fail
   refine (few_bad len _ (by omega)).mono ?_
   rintro e w3 ⟨E,rfl,hE,hb3⟩
   go_wp2
   go_ret2
   exact⟨_,_,rfl,(uh HBAD) _ (by rw[uh HC];omega),by rw[uh HC];exact hE,(uh HB2).trans (hb3.mono (uh HB2).size),fun k=>(by rw[uh HC]at k;cases k),fun _=>⟨rfl,_,rfl⟩⟩
  ·have HC:Hid (chkP place l=0):=chkP_ok place l (uh HOK) (by rw[uh HN];exact h32)
   have HZ:Hid (pbz place l=V.put SZ++body l):=by show pbz _ _=_;unfold pbz pbs;rw[if_pos (uh HC),uh HS]
   have HL:=zh (V.put_len SZ)
   have HT32:Hid (l.take 32=l):=List.take_of_length_le (by rw[uh HN];exact h32)
   rw[uh HT32]at HY1
   go_wp2_with fail
   refine (few_ok len _ (by omega)).mono ?_
   rintro e w3 ⟨rfl,hw⟩
   obtain rfl:=hw.symm
   clear hw
   go_wp2_with (first
    | (at_builtin;refine wpList_append_byt _ rfl _ _ rfl w.heap.size _ (V.put SZ).length (V.put SZ) rfl (uh HO2) v1 (body l) rfl (uh HY1) (by have:=uh HL;have:=uh HS;omega) (uh HB2).size ?_)
    | go_in)
   intro v4 w4 hown4 hgrow4
   have HB4:Hid (Below w.heap.size w w4):=(uh HB2).grown hgrow4 (uh HB2).size (fun g hg=>((uh HO2).lt g hg).1)
   have HY4:Hid (Byt w4 v4 (pbz place l)):=by
    show Byt _ _ _
    rw[uh HZ]
    exact byt_of_owns (by rw[List.map_append];exact hown4) (range_app (uh hy2).range (uh HY1).range)
   have HO4:Hid (chkP place l=0->w4.ownsRow w.heap.size 5 1 v4 (pbz place l).length ((pbz place l).map (Value.int .u8))):=fun _=>by
    rw[uh HZ,List.length_append,List.map_append]
    exact hown4
   clear hown4 hgrow4
   go_wp2
   go_ret2
   exact⟨_,_,rfl,HY4,by rw[uh HC];exact ErrP.nil _,uh HB4,fun k=>⟨(uh HO4) k,rfl⟩,fun k=>absurd (uh HC) k⟩
 ·have HC:=zh hc
  clear hc
  go_wp2
  go_ret2
  exact⟨_,_,rfl,(uh HBAD) _ (by rw[uh HC];omega),by rw[uh HC];exact hE,hb1,fun k=>(by rw[uh HC]at k;cases k),fun _=>⟨rfl,_,rfl⟩⟩
theorem put_big (v:Value) (l:List Pr) (place:Int) (w:World) (h:Prp w v l) (h32:32 < l.length) (hmx:l.length<=4398046511104) (hsm:Small l) :
  Calls Tryz.prog 64 #[v,.int .i64 place] w fun e w'=>∃ x n,e=.returned (.tuple #[.slice none 0 0,.iface 62 x])/\Hid (ErrP w' (.iface 62 x) n/\n≠0)/\Below w.heap.size w w':=by
 have HT:=zh (tell_any v l place w h hmx hsm)
 obtain⟨ao,cap,hv⟩:=h.form
 subst hv
 clear h hsm
 generalize hn:l.length=len at h32 hmx HT
 have HN:=zh hn
 clear hn
 go_enter Tryz.func64,Tryz.ntmps64
 go_wp2_with fail
 refine (uh HT).mono ?_
 rintro e w1 (⟨hok,v1,rfl,hy,hb1⟩ | ⟨hc,E,rfl,hE,hb1⟩)
 ·have HB1:=zh hb1
  clear hb1 hok
  generalize (body l).length=SZ
  by_cases hs:SZ<=268435455
  ·go_wp2_with fail
   refine (vput_use SZ _ (by omega) (by omega)).mono ?_
   rintro e w2 ⟨v2,rfl,hown2,hy2,hb2⟩
   have HB2:Hid (Below w.heap.size w w2):=(uh HB1).trans (hb2.mono (uh HB1).size)
   clear hb2 hown2 hy HB1
   go_wp2_with fail
   refine (few_bad len _ (by omega)).mono ?_
   rintro e w3 ⟨E,rfl,hE,hb3⟩
   go_wp2
   go_ret2
   exact⟨_,2,rfl,⟨uh hE,by decide⟩,(uh HB2).trans (hb3.mono (uh HB2).size)⟩
  ·go_wp2_with fail
   refine (V.put_bad SZ _ (.inr (by omega))).mono ?_
   rintro e w2 ⟨rfl,hw2⟩
   have HI:Hid (Inn w2 (.iface 62 (.pointer (some ⟨w1.heap.size,0,none⟩))) 1):=.inr ⟨_,rfl,by rw[hw2];simp⟩
   have HB2:Hid (Below w.heap.size w w2):=by rw[hw2];exact (uh HB1).alloc (uh HB1).size _
   clear hw2 HB1 hy
   go_wp2_with fail
   refine (wrap_use _ 1 _ (uh HI)).mono ?_
   rintro e w3 ⟨E,rfl,hE,hb3⟩
   go_wp2
   go_ret2
   exact⟨_,1,rfl,⟨uh hE,by decide⟩,(uh HB2).trans (hb3.mono (uh HB2).size)⟩
 ·go_wp2
  go_ret2
  exact⟨_,1,rfl,⟨uh hE,by decide⟩,hb1⟩
def pcs (l:List Pr):List Value:=l.flatMap fun p=>[.int .i64 p.1,.int .i64 p.2.1,.string p.2.2.1,.string p.2.2.2]
theorem Tryz.infoProp:(Tryz.prog.info? 117).map (fun i=>(i.zero,i.size,i.bytes))=some (some (.agg #[.int .i64 0,.int .i64 0,.string ⟨#[]⟩,.string ⟨#[]⟩]),4,48):=by kernel_rfl
theorem pcs_get (l:List Pr):∀ k,k < l.length->(pcs l)[k * 4]?=some (.int .i64 (at0 l k).1)/\(pcs l)[k * 4+1]?=some (.int .i64 (at0 l k).2.1)/\(pcs l)[k * 4+2]?=some (.string (at0 l k).2.2.1)/\(pcs l)[k * 4+3]?=some (.string (at0 l k).2.2.2):=by
 induction l with
 | nil=>intro k hk;simp at hk
 | cons p l ih =>
  intro k hk
  have e:pcs (p :: l)=[.int .i64 p.1,.int .i64 p.2.1,.string p.2.2.1,.string p.2.2.2]++pcs l:=rfl
  rw[e]
  rcases k with _ | k
  ·exact⟨rfl,rfl,rfl,rfl⟩
  ·have h:=ih k (by simpa using hk)
   have ea:at0 (p :: l) (k+1)=at0 l k:=by unfold at0;rw[List.getD_cons_succ]
   rw[ea]
   refine⟨?_,?_,?_,?_⟩
   ·rw[List.getElem?_append_right (by simp;omega)];rw[show (k+1) * 4 - [Value.int .i64 p.1,.int .i64 p.2.1,.string p.2.2.1,.string p.2.2.2].length=k * 4 from by simp;omega];exact h.1
   ·rw[List.getElem?_append_right (by simp;omega)];rw[show (k+1) * 4+1 - [Value.int .i64 p.1,.int .i64 p.2.1,.string p.2.2.1,.string p.2.2.2].length=k * 4+1 from by simp;omega];exact h.2.1
   ·rw[List.getElem?_append_right (by simp;omega)];rw[show (k+1) * 4+2 - [Value.int .i64 p.1,.int .i64 p.2.1,.string p.2.2.1,.string p.2.2.2].length=k * 4+2 from by simp;omega];exact h.2.2.1
   ·rw[List.getElem?_append_right (by simp;omega)];rw[show (k+1) * 4+3 - [Value.int .i64 p.1,.int .i64 p.2.1,.string p.2.2.1,.string p.2.2.2].length=k * 4+3 from by simp;omega];exact h.2.2.2
theorem prp_of_owns {w:World} {B:Nat} {e:TypeId} {v:Value} {l:List Pr} (h:w.ownsRow B e 4 v l.length (pcs l)):Prp w v l:=by
 rcases h.2 with⟨rfl,h1⟩ | ⟨g,cap,cur,rfl,hB,hg,rest⟩
 ·have:l=[]:=List.length_eq_zero_iff.1 h1
  subst this
  exact⟨none,0,rfl,.inl rfl⟩
 ·refine⟨_,cap,rfl,.inr ⟨g,0,rfl,fun k hk=>?_⟩⟩
  obtain⟨h0,h1,h2,h3⟩:=pcs_get l k hk
  refine⟨?_,?_,?_,?_⟩
  ·rw[Nat.zero_add,h.cellAt (k * 4) (by omega)];exact h0
  ·rw[Nat.zero_add,h.cellAt (k * 4+1) (by omega)];exact h1
  ·rw[Nat.zero_add,h.cellAt (k * 4+2) (by omega)];exact h2
  ·rw[Nat.zero_add,h.cellAt (k * 4+3) (by omega)];exact h3
theorem four_cell (w:World) (a b c d:Value) (t:TypeId):∀ j u,[a,b,c,d][j]?=some u->(w.alloc (.cells #[a,b,c,d] t)).cell? ((⟨w.heap.size,0,none⟩:Addr).add j)=some u:=by
 intro j u hj
 match j,hj with
 | 0,hj=>simp at hj;subst hj;simp[Addr.add]
 | 1,hj=>simp at hj;subst hj;simp[Addr.add]
 | 2,hj=>simp at hj;subst hj;simp[Addr.add]
 | 3,hj=>simp at hj;subst hj;simp[Addr.add]
theorem four_one (a b:Int) (c d:ByteArray):∀ u ∈ [Value.int .i64 a,.int .i64 b,.string c,.string d],u.oneCell'=true:=by
 intro u hu;simp at hu;rcases hu with rfl | rfl | rfl | rfl <;> rfl
theorem Tryz.eqgP:Tryz.prog.eqGuardType Tryz.prog.depth 117=false:=by kernel_rfl
theorem Tryz.stoodP:Tryz.prog.stoodInHeld 117=false:=by kernel_rfl
theorem Tryz.undP:Tryz.prog.underlying 117=some (.struct (Tryz.prog.fieldsOf 117)):=by kernel_rfl
def same (p q:Pr):Bool:=(p.1 == q.1 && p.2.1 == q.2.1 && p.2.2.1.toList == q.2.2.1.toList && p.2.2.2.toList == q.2.2.2.toList)
theorem neqP (id n id' n':Int) (s t s' t':ByteArray) (w:World):(binOp .neq 117 (.agg #[.int .i64 id,.int .i64 n,.string s,.string t]) (.agg #[.int .i64 id',.int .i64 n',.string s',.string t'])).run Tryz.prog w=.ok (.bool (!(same (id,n,s,t) (id',n',s',t')))) w:=by
 rw[run_neq_struct,run_equalIn_struct w 9999 117 _ _ Tryz.undP Tryz.stoodP]
 rw[show Tryz.prog.fieldsOf 117=_ from rfl]
 simp[Program.fieldsOf,Tryz.underlying117,Op.eqFields,go_sem]
 unfold same
 by_cases h1:id=id'
 ·by_cases h2:n=n'
  ·by_cases h3:s.toList=s'.toList
   ·by_cases h4:t.toList=t'.toList
    ·simp[h1,h2,h3,h4]
    ·simp[h1,h2,h3,h4]
   ·simp[h1,h2,h3]
  ·simp[h1,h2]
 ·simp[h1]
theorem toList_inj {a b:ByteArray} (h:a.toList=b.toList):a=b:=by
 rw[ByteArray.toList_eq,ByteArray.toList_eq]at h
 obtain⟨⟨x⟩⟩:=a
 obtain⟨⟨y⟩⟩:=b
 simp at h
 rw[h]
theorem same_iff (p q:Pr):same p q=true ↔ p=q:=by
 obtain⟨a,b,c,d⟩:=p
 obtain⟨a',b',c',d'⟩:=q
 unfold same
 constructor
 ·intro h
  simp only[Bool.and_eq_true,beq_iff_eq]at h
  obtain⟨⟨⟨h1,h2⟩,h3⟩,h4⟩:=h
  rw[h1,h2,toList_inj h3,toList_inj h4]
 ·rintro h
  injection h with h1 h
  injection h with h2 h
  injection h with h3 h4
  subst h1 h2 h3 h4
  simp
theorem eqp_core (ba oa bb ob ca cb:Nat) (l m:List Pr) (len:Nat) (w:World) (hl:l.length=len) (hm:m.length=len) (hmx:len<=1000000000) (ha:PrAt w ba oa l) (hb:PrAt w bb ob m) :
  Calls Tryz.prog 27 #[.slice (some ⟨ba,oa,none⟩) len ca,.slice (some ⟨bb,ob,none⟩) len cb] w fun e w'=>(∃ b,e=.returned (.bool b)/\(b=true ↔ ∀ j,j < len->at0 l j=at0 m j))/\∃ k,w'=w.drewN k:=by
 have HL:=zh hl
 have HM:=zh hm
 have HA:=zh ha
 have HB:=zh hb
 clear hl hm ha hb
 go_enter Tryz.func27,Tryz.ntmps27
 go_wp2
 go_loopw [5] (fun i wr=>∃ k q:Nat,k<=len/\i=.int .i64 k/\wr=w.drewN q/\Hid (∀ j,j < k->at0 l j=at0 m j)) (fun i _=>len - (intOf i).toNat)
 case atStart=>exact⟨0,0,Nat.zero_le _,rfl,rfl,fun j hj=>absurd hj (Nat.not_lt_zero j)⟩
 case round =>
  obtain⟨k,q,hk,rfl,rfl,HALL⟩:=hrel
  by_cases hlt:k < len
  ·obtain⟨h0,h1,h2,h3⟩:=(uh HA) k (by rw[uh HL];exact hlt)
   obtain⟨g0,g1,g2,g3⟩:=(uh HB) k (by rw[uh HM];exact hlt)
   obtain⟨id,n,s,t,hp⟩:∃ id n s t,at0 l k=(id,n,s,t):=⟨_,_,_,_,rfl⟩
   obtain⟨id',n',s',t',hp'⟩:∃ id n s t,at0 m k=(id,n,s,t):=⟨_,_,_,_,rfl⟩
   rw[hp]at h0 h1 h2 h3
   rw[hp']at g0 g1 g2 g3
   simp only at h0 h1 h2 h3 g0 g1 g2 g3
   have HP:=zh hp
   have HP':=zh hp'
   clear hp hp'
   have qg:=Tryz.eqgP
   have qn:=fun W=>neqP id n id' n' s t s' t' W
   generalize hsb:same (id,n,s,t) (id',n',s',t')=sb at qn
   have HSB:=zh hsb
   clear hsb
   cases sb
   ·have HNE:Hid (at0 l k≠at0 m k):=fun e=>by
     rw[uh HP,uh HP']at e
     have:=(same_iff _ _).2 e
     rw[uh HSB]at this
     cases this
    go_wp2
    go_quiet (fail)
    go_wp2
    go_ret
    refine⟨⟨_,rfl,?_⟩,q+nq,drewN_drewN _ _ _⟩
    constructor
    ·intro h;cases h
    ·intro h;exact absurd (h k hlt) (uh HNE)
   ·have HE:Hid (at0 l k=at0 m k):=by
     show _=_
     rw[uh HP,uh HP']
     exact (same_iff _ _).1 (uh HSB)
    go_wp2
    go_quiet (fail)
    go_wp2
    go_roundw
    case rel=>exact⟨k+1,_,by omega,by go_num,rfl,fun j hj=>by
     rcases Nat.lt_succ_iff_lt_or_eq.1 hj with h | h
     ·exact (uh HALL) j h
     ·rw[h];exact uh HE⟩
    case measure=>simp[intOf];omega
  ·go_wp2
   go_ret
   exact⟨⟨_,rfl,fun _ j hj=>(uh HALL) j (by omega),fun _=>rfl⟩,_,rfl⟩
theorem eqp_len (ao bo:Option Addr) (n m ca cb:Nat) (w:World) (h:n≠m) :
  Calls Tryz.prog 27 #[.slice ao n ca,.slice bo m cb] w fun e w'=>e=.returned (.bool false)/\w'=w:=by
 have h1:((n:Int) == (m:Int))=false:=beq_eq_false_iff_ne.2 (by omega)
 go_enter Tryz.func27,Tryz.ntmps27
 go_wp2
 go_ret
 exact⟨rfl,rfl⟩
theorem eqp_nil (ao bo:Option Addr) (ca cb:Nat) (w:World) :
  Calls Tryz.prog 27 #[.slice ao 0 ca,.slice bo 0 cb] w fun e w'=>e=.returned (.bool true)/\w'=w:=by
 go_enter Tryz.func27,Tryz.ntmps27
 go_wp2
 refine wp_loop_rounds 1 ?_
 rw[rounds_succ]
 go_wp2
 go_ret
 exact⟨rfl,rfl⟩
theorem at0_ext {l m:List Pr} (hl:l.length=m.length) (h:∀ j,j < l.length->at0 l j=at0 m j):l=m:=by
 apply List.ext_getElem hl
 intro i h1 h2
 have:=h i h1
 unfold at0 at this
 rw[List.getD_eq_getElem?_getD,List.getD_eq_getElem?_getD,List.getElem?_eq_getElem h1,List.getElem?_eq_getElem h2]at this
 exact this
def lenOf:Value->Nat
 | .slice _ n _=>n
 | _=>0
def ReadPost (place:Int) (l:List Int) (w:World) (e:Ending) (w':World):Prop :=
 (∃ q v,parse l=some q/\okTo place q q.length/\e=.returned (.tuple #[v,.int .i64 q.length,.nilIface])/\Hid (w'.ownsRow w.heap.size 117 4 v (min q.length 32) (pcs (q.take 32)))/\Below w.heap.size w w') \/
 (rdn place l=1/\∃ E,e=.returned (.tuple #[.slice none 0 0,.int .i64 0,.iface 62 E])/\Hid (ErrP w' (.iface 62 E) 1)/\Below w.heap.size w w')
theorem pcs_app (d:List Pr) (p:Pr):pcs (d++[p])=pcs d++[.int .i64 p.1,.int .i64 p.2.1,.string p.2.2.1,.string p.2.2.2]:=by unfold pcs;simp
theorem okTo_snoc (place:Int) (d:List Pr) (p:Pr) (h:okTo place d d.length) (hp:okAt place (d++[p]) d.length=true):okTo place (d++[p]) (d++[p]).length:=by
 intro i hi
 rw[List.length_append,List.length_singleton]at hi
 rcases Nat.lt_or_ge i d.length with a | a
 ·rw[okAt_app place d [p] i a];exact h i a
 ·obtain rfl:i=d.length:=by omega
  exact hp
theorem read_any (v:Value) (l:List Int) (place:Int) (w:World) (h:Byt w v l) :
  Calls Tryz.prog 118 #[v,.int .i64 place] w (ReadPost place l w):=by
 obtain⟨i0,hi,hz0,hz1,hz2⟩:=info_parts Tryz.infoProp
 obtain⟨ao,cap,rfl,hc1,hc2⟩:=h.form
 unfold maxLen at hc2
 have HV:=zh h
 clear h
 generalize hn:l.length=n at hc1 HV
 have HN:=zh hn
 clear hn
 go_enter Tryz.func118,Tryz.ntmps118
 iterate 19 go_step
 refine wpList_value rfl (row_build _ _ _ _ _ _ place rfl _) ?_
 simp only[Act.put,List.setIfInBounds_toArray,List.set_cons_zero,List.set_cons_succ]
 refine wpList_value rfl (row_alloc _ _ _ _ _ _) ?_
 simp only[Act.put,List.setIfInBounds_toArray,List.set_cons_zero,List.set_cons_succ]
 refine wpList_skip rfl (row_store _ _ _ _ _ _ _ place _ rfl rfl) ?_
 simp only[Act.put]
 go_wp2
 have hR0:Hid (RowAt (w.alloc (.cells (rowA place) 165)) w.heap.size place (fun _=>false)):=rowAt_new w place
 go_loopw [0,4,5] (fun b0 l0 c0 wr=>∃ (bv lv:Value) (rest:List Int) (d:List Pr) (k m:Nat),b0=bv/\l0=lv/\c0=.int .i64 k/\m+k<=n/\Hid (d.length=k)/\Hid (rest.length=m)/\Hid (Byt w bv rest)/\Hid (parse l=(parse rest).map (d++·))/\Hid (okTo place d d.length)/\Hid (RowAt wr w.heap.size place (fun j=>sn d j))/\Hid (wr.ownsRow (w.heap.size+1) 117 4 lv (min k 32) (pcs (d.take 32)))/\Below w.heap.size w wr) (fun b0 _ _ _=>lenOf b0)
 case atStart =>
  refine⟨_,_,l,[],0,n,rfl,rfl,rfl,by omega,rfl,uh HN,uh HV,?_,okTo_zero _ _,(uh hR0).congr (fun j _=>rfl),?_,bal _ _⟩
  ·show parse l=_
   cases parse l <;> simp
  ·exact World.ownsRow_nil _ _ _ _
 case round =>
  obtain⟨_,_,rest,d,k,m,rfl,rfl,rfl,hmk,HD,HM,HY,HP,HOK,HROW,HOWN,hbel⟩:=hrel
  clear hR0
  have hsz:=hbel.size
  have hRl:=(uh HROW).lt
  obtain⟨ao2,cap2,hu0,hcc1,hcc2⟩:=(uh HY).form
  unfold maxLen at hcc2
  rw[uh HM]at hu0 hcc1
  by_cases hm0:m=0
  ·subst hu0
   subst hm0
   have HPA:Hid (parse l=some d):=by
    have hr0:rest=[]:=List.length_eq_zero_iff.1 (uh HM)
    have:=uh HP
    rw[hr0,parse_nil]at this
    show parse l=some d
    simpa using this
   have HO2:Hid (wr.ownsRow w.heap.size 117 4 u4 (min d.length 32) (pcs (d.take 32))):=by
    show World.ownsRow _ _ _ _ _ _ _
    rw[uh HD]
    exact owns_mono (uh HOWN) (by omega)
   have HDD:Hid ((k:Int)=(d.length:Int)):=by show _=_;rw[uh HD]
   go_wp2
   go_returns
   exact .inl ⟨d,_,uh HPA,uh HOK,by rw[<- uh HDD];rfl,HO2,hbel⟩
  ·have HNE:Hid (rest≠[]):=by
    intro e
    have:=uh HM
    rw[e]at this
    simp at this
    omega
   have hbel':=zh hbel
   have HY':Hid (Byt wr u0 rest):=(uh HY).below hbel
   have HYW:Hid (Byt w u0 rest):=HY
   obtain⟨b,off,cap3,hu1,-,-⟩:=(uh HY).form1 (by rw[uh HM];omega)
   rw[hu0]at hu1
   simp only[Value.slice.injEq]at hu1
   obtain⟨rfl,-,rfl⟩:=hu1
   subst hu0
   clear hbel HY
   cases hgk:gok rest
   ·have HC:Hid (rdn place l=1):=rdn_none place l (by rw[uh HP,parse_no rest (uh HNE) hgk];rfl)
    have HGK:=zh hgk
    clear hgk
    go_wp2_with fail
    refine (getOne_fail _ rest _ (uh HY') (uh HGK)).mono ?_
    rintro e w2 ⟨i2,n2,s2,t2,k2,ty2,x2,m2,rfl,hin2,hb2⟩
    have HB2:Hid (Below w.heap.size w w2):=(uh hbel').trans (hb2.mono hsz)
    have hs2:=(uh HB2).size
    go_wp2_with fail
    refine (broken_use _ m2 _ ((uh hin2).below (bal _ _))).mono ?_
    rintro e w4 ⟨E,rfl,hE,hb4⟩
    go_wp2
    go_returns
    exact .inr ⟨uh HC,_,rfl,hE,((uh HB2).alloc hs2 _).trans (hb4.mono (by simp;omega))⟩
   ·have hr:=(uh HY').range
    obtain⟨hg1,hg2,hg3,hg4⟩:=gok_le rest hr hgk
    rw[uh HM]at hg2
    have HTX:=zh (gpr_txo rest hr hgk)
    have HPY:=zh (parse_yes rest (uh HNE) hr hgk)
    have HG1:=zh (getOne_good _ rest _ (uh HY') hgk)
    clear hr hgk
    generalize hz:gsz rest=z at hg1 hg2 HPY HG1
    clear hz
    obtain⟨id,N,s,t,hp⟩:∃ id N s t,gpr rest=(id,N,s,t):=⟨_,_,_,_,rfl⟩
    have hid:id=gid rest:=by have:=congrArg Prod.fst hp;exact this.symm
    rw[<- hid]at hg3 hg4
    rw[hp]at HTX HPY HG1
    clear hp hid
    have HP2:Hid (parse l=(parse (rest.drop z)).map ((d++[(id,N,s,t)])++·)):=by
     show _=_
     rw[uh HP,uh HPY,Option.map_map]
     congr 1
     funext x
     simp
    clear HPY HP
    go_wp2_with fail
    refine (uh HG1).mono ?_
    rintro e w2 ⟨rfl,hb2⟩
    have HB2:Hid (Below w.heap.size w w2):=(uh hbel').trans (hb2.mono hsz)
    have hs2:=(uh HB2).size
    have HROW2:Hid (RowAt w2 w.heap.size place (fun j=>sn d j)):=(uh HROW).below hb2
    have HOWN2:Hid (w2.ownsRow (w.heap.size+1) 117 4 u4 (min k 32) (pcs (d.take 32))):=owns_below (uh HOWN) hb2
    have hRl2:=(uh HROW2).lt
    clear hb2 HROW HOWN HY' hbel' HG1
    have HOT:=zh (okAt_mid place d [] (id,N,s,t))
    cases htk:tk place id N s t (sn d id)
    ·have HC:Hid (rdn place l=1):=rdn_bad place l _ d _ (uh HP2) ((uh HOT).trans (by simp only[htk,Bool.false_and]))
     have HTK:=zh (tk_toNat (sn d) htk)
     clear htk HOT
     go_wp2_with fail
     refine (take_bad w.heap.size place id N s t (fun j=>sn d j) _ ((uh HROW2).below (bal _ _)) (uh HTK)).mono ?_
     rintro e w3 ⟨E,rfl,hE,hb3⟩
     go_wp2
     go_returns
     exact .inr ⟨uh HC,_,rfl,hE,((uh HB2).alloc hs2 _).trans (hb3.mono (by simp;omega))⟩
    ·obtain⟨hmst,hfit⟩:=tk_mst htk
     obtain⟨hi1,hi2⟩:=id_range id place hmst
     obtain⟨q,rfl⟩:∃ q:Nat,id=q:=⟨id.toNat,by omega⟩
     have HOKM:Hid (okAt place (d++[((q:Int),N,s,t)]) d.length=true):=(uh HOT).trans (by simp only[htk,Bool.true_and];exact (uh HTX).1)
     have HOK2:Hid (okTo place (d++[((q:Int),N,s,t)]) (d++[((q:Int),N,s,t)]).length):=okTo_snoc place d _ (uh HOK) (uh HOKM)
     have HTK:=zh htk
     have HG:Hid (∀ j:Nat,j<=42->(sn d (j:Int) || decide (q=j))=sn (d++[((q:Int),N,s,t)]) (j:Int)):=fun j _=>by
      rw[sn_snoc,show decide (((q:Int),N,s,t).1=(j:Int))=decide (q=j) from by rw[decide_eq_decide];constructor <;> intro h <;> omega]
     clear htk hmst hfit HOT HOKM HOK
     go_wp2_with fail
     refine (take_use w.heap.size q place N s t (fun j=>sn d j) (fun j=>sn (d++[((q:Int),N,s,t)]) j) _ (by omega) ((uh HROW2).below (bal _ _)) (uh HTK) (uh HG) w.heap.size (Nat.le_refl _)).mono ?_
     rintro e w3 ⟨rfl,HROW3,hb3,HOWT,HCT⟩
     have d0:w3.cell? ⟨w2.heap.size,0,none⟩=some (.int .i64 (q:Int)):=((uh HCT) w2.heap.size 0 (by omega) (by simp)).trans (by simp)
     have d1:w3.cell? ⟨w2.heap.size,1,none⟩=some (.int .i64 N):=((uh HCT) w2.heap.size 1 (by omega) (by simp)).trans (by simp)
     have d2:w3.cell? ⟨w2.heap.size,2,none⟩=some (.string s):=((uh HCT) w2.heap.size 2 (by omega) (by simp)).trans (by simp)
     have d3:w3.cell? ⟨w2.heap.size,3,none⟩=some (.string t):=((uh HCT) w2.heap.size 3 (by omega) (by simp)).trans (by simp)
     have HOWN3:Hid (w3.ownsRow (w.heap.size+1) 117 4 u4 (min k 32) (pcs (d.take 32))):=(uh HOWT) _ _ _ _ _ _ (by omega) ((uh HOWN2).alloc _)
     have HB3:Hid (Below w.heap.size w w3):=((uh HB2).alloc hs2 _).trans hb3
     have hs3:w.heap.size+1<=w3.heap.size:=by have:=(uh HROW3).lt;omega
     clear hb3 HOWT HCT HOWN2 HROW2 HG HTK HB2
     have HLEN2:Hid ((d++[((q:Int),N,s,t)]).length=k+1):=by show _=_;rw[List.length_append,uh HD];rfl
     by_cases h32:k < 32
     ·have HM1:Hid (min k 32=k):=Nat.min_eq_left (by omega)
      have HM2:Hid (min (k+1) 32=k+1):=Nat.min_eq_left (by omega)
      have HT1:Hid (d.take 32=d):=List.take_of_length_le (by rw[uh HD];omega)
      have HT2:Hid ((d++[((q:Int),N,s,t)]).take 32=d++[((q:Int),N,s,t)]):=List.take_of_length_le (by rw[uh HLEN2];omega)
      rw[uh HM1,uh HT1]at HOWN3
      go_wp2_with (first
       | (at_builtin;refine wpList_append_own _ rfl _ _ 39 rfl (w.heap.size+1) 117 i0 _ 4 48 Tryz.underlying39 hi hz0 hz1 hz2 rfl (by decide) _ _ _ rfl ((uh HOWN3).alloc _) ⟨w3.heap.size,0,none⟩ 1 1 [.int .i64 (q:Int),.int .i64 N,.string s,.string t] rfl rfl (four_cell _ _ _ _ _ _) (four_one _ _ _ _) (by unfold maxLen;omega) (by omega) (by simp;omega) ?_)
       | go_in)
      intro v4 w4 hown4 hgrow4 _
      have HB4:Hid (Below w.heap.size w w4):=((uh HB3).alloc (uh HB3).size _).grown hgrow4 (by simp;omega) (fun g hg=>by have:=((uh HOWN3).lt g hg).1;omega)
      have HROW4:Hid (RowAt w4 w.heap.size place (fun j=>sn (d++[((q:Int),N,s,t)]) j)):=row_grown ((uh HROW3).below (bal _ _)) hgrow4 (fun g hg=>by have:=((uh HOWN3).lt g hg).1;omega)
      have HOWN4:Hid (w4.ownsRow (w.heap.size+1) 117 4 v4 (min (k+1) 32) (pcs ((d++[((q:Int),N,s,t)]).take 32))):=by
       show World.ownsRow _ _ _ _ _ _ _
       rw[uh HM2,uh HT2,pcs_app]
       exact hown4
      clear hown4 hgrow4 HOWN3 HROW3 d0 d1 d2 d3
      by_cases hcz:cap2=z
      ·have hm1:m=cap2:=by omega
       have hm2:m=z:=by omega
       clear hcz
       subst hm1
       subst hm2
       have HBD:Hid (Byt w (.slice (some ⟨b,off,none⟩) 0 0) (rest.drop m)):=by
        show Byt _ _ _
        have:=(uh HYW).drop' m (Nat.le_refl _)
        rw[if_pos rfl,Nat.sub_self]at this
        exact this
       have HML:Hid ((rest.drop m).length=0):=by show _=_;rw[List.length_drop,uh HM];omega
       clear HYW HM
       go_wp2
       go_roundw
       case rel=>exact⟨_,_,_,_,k+1,0,rfl,rfl,by go_num,by omega,HLEN2,HML,HBD,HP2,HOK2,HROW4,HOWN4,uh HB4⟩
       case measure=>simp[lenOf];omega
      ·have HBD:Hid (Byt w (.slice (some ⟨b,off+z,none⟩) (m - z) (cap2 - z)) (rest.drop z)):=by
        show Byt _ _ _
        have:=(uh HYW).drop' z hg2
        rw[if_neg hcz]at this
        exact this
       have HML:Hid ((rest.drop z).length=m - z):=by show _=_;rw[List.length_drop,uh HM]
       clear HYW HM
       go_wp2
       go_roundw
       case rel=>exact⟨_,_,_,_,k+1,m - z,rfl,rfl,by go_num,by omega,HLEN2,HML,HBD,HP2,HOK2,HROW4,HOWN4,uh HB4⟩
       case measure=>simp[lenOf];omega
     ·have HM1:Hid (min k 32=min (k+1) 32):=by show _=_;omega
      have HT1:Hid (d.take 32=(d++[((q:Int),N,s,t)]).take 32):=by show _=_;rw[List.take_append_of_le_length (by rw[uh HD];omega)]
      rw[uh HM1,uh HT1]at HOWN3
      by_cases hcz:cap2=z
      ·have hm1:m=cap2:=by omega
       have hm2:m=z:=by omega
       clear hcz
       subst hm1
       subst hm2
       have HBD:Hid (Byt w (.slice (some ⟨b,off,none⟩) 0 0) (rest.drop m)):=by
        show Byt _ _ _
        have:=(uh HYW).drop' m (Nat.le_refl _)
        rw[if_pos rfl,Nat.sub_self]at this
        exact this
       have HML:Hid ((rest.drop m).length=0):=by show _=_;rw[List.length_drop,uh HM];omega
       clear HYW HM
       go_wp2
       go_roundw
       case rel=>exact⟨_,_,_,_,k+1,0,rfl,rfl,by go_num,by omega,HLEN2,HML,HBD,HP2,HOK2,HROW3,HOWN3,uh HB3⟩
       case measure=>simp[lenOf];omega
      ·have HBD:Hid (Byt w (.slice (some ⟨b,off+z,none⟩) (m - z) (cap2 - z)) (rest.drop z)):=by
        show Byt _ _ _
        have:=(uh HYW).drop' z hg2
        rw[if_neg hcz]at this
        exact this
       have HML:Hid ((rest.drop z).length=m - z):=by show _=_;rw[List.length_drop,uh HM]
       clear HYW HM
       go_wp2
       go_roundw
       case rel=>exact⟨_,_,_,_,k+1,m - z,rfl,rfl,by go_num,by omega,HLEN2,HML,HBD,HP2,HOK2,HROW3,HOWN3,uh HB3⟩
       case measure=>simp[lenOf];omega
def pbd (l:List Int):List Int:=(l.drop (ghd l)).take (gid l).toNat
def pgt (place:Int) (l:List Int):Int:=if (V.vget l).2.2≠0 then (V.vget l).2.2 else if l.length < ghd l+(gid l).toNat then 3 else rdn place (pbd l)
def plist (place:Int) (l:List Int):List Pr:=if pgt place l=0 then (parse (pbd l)).getD [] else []
def psz (place:Int) (l:List Int):Int:=if pgt place l=0 then ghd l+(gid l).toNat else 0
def GetPost2 (place:Int) (l:List Int) (w:World) (e:Ending) (w':World):Prop :=
 ∃ v E,e=.returned (.tuple #[v,.int .i64 (psz place l),E])/\Hid (w'.ownsRow w.heap.size 117 4 v (plist place l).length (pcs (plist place l)))/\Hid (ErrP w' E (pgt place l))/\Below w.heap.size w w'/\(pgt place l=0->E=.nilIface)
theorem get_post_bad (place:Int) (l:List Int) (w w':World) (n:Int) (hp:pgt place l=n) (hn:n≠0) (x:Value) (hE:Hid (ErrP w' (.iface 62 x) n)) (hb:Below w.heap.size w w'):GetPost2 place l w (.returned (.tuple #[.slice none 0 0,.int .i64 0,.iface 62 x])) w':=by
 refine⟨.slice none 0 0,.iface 62 x,?_,?_,by rw[hp];exact hE,hb,fun h0=>absurd (hp.symm.trans h0) hn⟩
 ·unfold psz
  rw[if_neg (by rw[hp];exact hn)]
 ·show World.ownsRow _ _ _ _ _ _ _
  unfold plist
  rw[if_neg (by rw[hp];exact hn)]
  exact World.ownsRow_nil _ _ _ _
theorem ghd_le (l:List Int) (h2:ghd l<=l.length) (h:V.put (gid l)=l.take (ghd l)):ghd l<=4:=by
 have a:=congrArg List.length h
 rw[List.length_take,Nat.min_eq_left h2]at a
 have:=(V.put_len (gid l)).2
 omega
theorem get3_bad1 (v:Value) (l:List Int) (place:Int) (w:World) (h:Byt w v l) (hv:(V.vget l).2.2≠0):Calls Tryz.prog 108 #[v,.int .i64 place] w (GetPost2 place l w):=by
 have hp:pgt place l=(V.vget l).2.2:=by unfold pgt;rw[if_pos hv]
 obtain⟨ao,cap,rfl,hc1,hc2⟩:=h.form
 have HV:=zh h
 have HP:=zh hp
 clear h hp
 generalize hm:(V.vget l).2.2=m at hv HP
 generalize hn:l.length=n at hc1 HV
 have HM:=zh hm
 clear hn hm
 go_enter Tryz.func108,Tryz.ntmps108
 go_wp2_with fail
 refine (vget_fail _ l _ (uh HV) m (uh HM) hv).mono ?_
 rintro e w1 ⟨a,b,x,rfl,hi,hb1⟩
 have HB1:=zh hb1
 clear hb1
 go_wp2_with fail
 refine (wrap_use _ m _ (uh hi)).mono ?_
 rintro e w2 ⟨E,rfl,hE,hb2⟩
 go_wp2
 go_returns
 exact get_post_bad place l w _ m (uh HP) hv _ hE ((uh HB1).trans (hb2.mono (uh HB1).size))
theorem get3_short (v:Value) (l:List Int) (place:Int) (w:World) (h:Byt w v l) (hv:(V.vget l).2.2=0) (hs:l.length < ghd l+(gid l).toNat):Calls Tryz.prog 108 #[v,.int .i64 place] w (GetPost2 place l w):=by
 have hp:pgt place l=3:=by unfold pgt;rw[if_neg (by rw[hv];decide),if_pos hs]
 obtain⟨hv',h1,h2,h3,h4,h5⟩:=vget_is l h.range hv
 have hQ4:=ghd_le l h2 h5
 clear h5
 obtain⟨ao,cap,rfl,hc1,hc2⟩:=h.form
 unfold maxLen at hc2
 have HV:=zh h
 have HP:=zh hp
 clear h hp hv
 obtain⟨N,hN⟩:∃ N:Nat,gid l=N:=⟨(gid l).toNat,by omega⟩
 rw[hN,Int.toNat_natCast]at hs
 rw[hN]at hv' h3 h4
 generalize ghd l=Q at hQ4 hv' h1 h2 hs
 have Hv:=zh hv'
 generalize hn:l.length=n at hc1 HV h2 hs
 clear hn hv' hN
 go_enter Tryz.func108,Tryz.ntmps108
 go_wp2_with fail
 refine (vget_good _ l _ (uh HV) N Q (uh Hv)).mono ?_
 rintro e w1 ⟨rfl,hb1⟩
 have HB1:=zh hb1
 clear hb1
 go_wp2_with fail
 refine (pfault_use 3 _).mono ?_
 rintro e w2 ⟨E,rfl,hE,hb2⟩
 go_wp2
 go_returns
 exact get_post_bad place l w _ 3 (uh HP) (by decide) _ hE ((uh HB1).trans (hb2.mono (uh HB1).size))
theorem Byt.mid {w:World} {b off n cap:Nat} {l:List Int} (h:Byt w (.slice (some ⟨b,off,none⟩) n cap) l) (p q:Nat) (hq:p+q<=n):Byt w (.slice (if cap=p then some ⟨b,off,none⟩ else some ⟨b,off+p,none⟩) q (cap - p)) ((l.drop p).take q) :=
 (h.drop' p (by omega)).take q (by omega)
theorem get3_read (v:Value) (l:List Int) (place:Int) (w:World) (h:Byt w v l) (hv:(V.vget l).2.2=0) (hs:ghd l+(gid l).toNat<=l.length):Calls Tryz.prog 108 #[v,.int .i64 place] w (GetPost2 place l w):=by
 have hp:pgt place l=rdn place (pbd l):=by unfold pgt;rw[if_neg (by rw[hv];decide),if_neg (by omega)]
 have hsz:∀ q,parse (pbd l)=some q->pgt place l=0->plist place l=q/\psz place l=((ghd l+(gid l).toNat:Nat):Int):=fun q hq h0=>by
  unfold plist psz
  rw[if_pos h0,if_pos h0,hq]
  exact⟨rfl,by omega⟩
 obtain⟨hv',h1,h2,h3,h4,h5⟩:=vget_is l h.range hv
 have hQ4:=ghd_le l h2 h5
 clear h5
 obtain⟨b,off,cap,rfl,hc1,hc2⟩:=h.form1 (by omega)
 unfold maxLen at hc2
 have HV:=zh h
 have HP:=zh hp
 have HSZ:=zh hsz
 clear h hp hv hsz
 have hpb:pbd l=(l.drop (ghd l)).take (gid l).toNat:=rfl
 obtain⟨N,hN⟩:∃ N:Nat,gid l=N:=⟨(gid l).toNat,by omega⟩
 rw[hN,Int.toNat_natCast]at hs HSZ hpb
 rw[hN]at hv' h3 h4
 generalize ghd l=Q at hQ4 hv' h1 h2 hs HSZ hpb
 generalize pbd l=L at HP HSZ hpb
 have Hv:=zh hv'
 generalize hn:l.length=n at hc1 HV h2 hs
 have HPB:=zh hpb
 clear hn hv' hN hpb
 by_cases hcQ:cap=Q
 ·have e1:Q=cap:=hcQ.symm
  clear hcQ
  subst e1
  have e2:Q=n:=by omega
  subst e2
  obtain rfl:N=0:=by omega
  have HD:Hid (Byt w (.slice (some ⟨b,off,none⟩) 0 0) L):=by
   show Byt _ _ _
   have:=(uh HV).mid Q 0 (by omega)
   rw[if_pos rfl,Nat.sub_self,<- uh HPB]at this
   exact this
  go_enter Tryz.func108,Tryz.ntmps108
  go_wp2_with fail
  refine (vget_good _ l _ (uh HV) 0 Q (uh Hv)).mono ?_
  rintro e w1 ⟨rfl,hb1⟩
  have HB1:=zh hb1
  clear hb1
  go_wp2_with fail
  refine (read_any _ L place _ ((uh HD).below (uh HB1))).mono ?_
  rintro e w2 (⟨q,v2,hpar,hok,rfl,hown,hb2⟩ | ⟨hc,E,rfl,hE,hb2⟩)
  ·have HPAR:=zh hpar
   have HOK:=zh hok
   have HB2:Hid (Below w.heap.size w w2):=(uh HB1).trans (hb2.mono (uh HB1).size)
   have HOWN:Hid (w2.ownsRow w.heap.size 117 4 v2 (min q.length 32) (pcs (q.take 32))):=owns_mono (uh hown) (uh HB1).size
   have HRD:Hid (pgt place l=chkP place q):=(uh HP).trans (rdn_some place L q hpar)
   clear hpar hok hb2 hown
   generalize hk:q.length=k at HOWN
   have HK:=zh hk
   clear hk
   rcases Nat.lt_or_ge 32 k with h32 | h32
   ·have HC:Hid (pgt place l=2):=(uh HRD).trans (chkP_lim place q (uh HOK) (by rw[uh HK];exact h32))
    go_wp2_with fail
    refine (few_bad k _ (by omega)).mono ?_
    rintro e w3 ⟨E,rfl,hE,hb3⟩
    go_wp2
    go_returns
    exact get_post_bad place l w _ 2 (uh HC) (by decide) _ hE ((uh HB2).trans (hb3.mono (uh HB2).size))
   ·have HC:Hid (pgt place l=0):=(uh HRD).trans (chkP_ok place q (uh HOK) (by rw[uh HK];exact h32))
    have HLS:=zh ((uh HSZ) q (uh HPAR) (uh HC))
    go_wp2_with fail
    refine (few_ok k _ (by omega)).mono ?_
    rintro e w3 ⟨rfl,hw⟩
    obtain rfl:=hw.symm
    clear hw
    go_wp2
    go_returns
    refine⟨_,_,by rw[(uh HLS).2];exact (by go_num),?_,by rw[uh HC];exact ErrP.nil _,uh HB2,fun _=>rfl⟩
    show World.ownsRow _ _ _ _ _ _ _
    rw[(uh HLS).1,uh HK]
    have:=uh HOWN
    rw[Nat.min_eq_left h32,List.take_of_length_le (by rw[uh HK];exact h32)]at this
    exact this
  ·have HC:Hid (pgt place l=1):=(uh HP).trans hc
   clear hc
   go_wp2
   go_returns
   exact get_post_bad place l w _ 1 (uh HC) (by decide) _ hE ((uh HB1).trans (hb2.mono (uh HB1).size))
 ·have HD:Hid (Byt w (.slice (some ⟨b,off+Q,none⟩) N (cap - Q)) L):=by
   show Byt _ _ _
   have:=(uh HV).mid Q N (by omega)
   rw[if_neg hcQ,<- uh HPB]at this
   exact this
  go_enter Tryz.func108,Tryz.ntmps108
  go_wp2_with fail
  refine (vget_good _ l _ (uh HV) N Q (uh Hv)).mono ?_
  rintro e w1 ⟨rfl,hb1⟩
  have HB1:=zh hb1
  clear hb1
  go_wp2_with fail
  refine (read_any _ L place _ ((uh HD).below (uh HB1))).mono ?_
  rintro e w2 (⟨q,v2,hpar,hok,rfl,hown,hb2⟩ | ⟨hc,E,rfl,hE,hb2⟩)
  ·have HPAR:=zh hpar
   have HOK:=zh hok
   have HB2:Hid (Below w.heap.size w w2):=(uh HB1).trans (hb2.mono (uh HB1).size)
   have HOWN:Hid (w2.ownsRow w.heap.size 117 4 v2 (min q.length 32) (pcs (q.take 32))):=owns_mono (uh hown) (uh HB1).size
   have HRD:Hid (pgt place l=chkP place q):=(uh HP).trans (rdn_some place L q hpar)
   clear hpar hok hb2 hown
   generalize hk:q.length=k at HOWN
   have HK:=zh hk
   clear hk
   rcases Nat.lt_or_ge 32 k with h32 | h32
   ·have HC:Hid (pgt place l=2):=(uh HRD).trans (chkP_lim place q (uh HOK) (by rw[uh HK];exact h32))
    go_wp2_with fail
    refine (few_bad k _ (by omega)).mono ?_
    rintro e w3 ⟨E,rfl,hE,hb3⟩
    go_wp2
    go_returns
    exact get_post_bad place l w _ 2 (uh HC) (by decide) _ hE ((uh HB2).trans (hb3.mono (uh HB2).size))
   ·have HC:Hid (pgt place l=0):=(uh HRD).trans (chkP_ok place q (uh HOK) (by rw[uh HK];exact h32))
    have HLS:=zh ((uh HSZ) q (uh HPAR) (uh HC))
    go_wp2_with fail
    refine (few_ok k _ (by omega)).mono ?_
    rintro e w3 ⟨rfl,hw⟩
    obtain rfl:=hw.symm
    clear hw
    go_wp2
    go_returns
    refine⟨_,_,by rw[(uh HLS).2];exact (by go_num),?_,by rw[uh HC];exact ErrP.nil _,uh HB2,fun _=>rfl⟩
    show World.ownsRow _ _ _ _ _ _ _
    rw[(uh HLS).1,uh HK]
    have:=uh HOWN
    rw[Nat.min_eq_left h32,List.take_of_length_le (by rw[uh HK];exact h32)]at this
    exact this
  ·have HC:Hid (pgt place l=1):=(uh HP).trans hc
   clear hc
   go_wp2
   go_returns
   exact get_post_bad place l w _ 1 (uh HC) (by decide) _ hE ((uh HB1).trans (hb2.mono (uh HB1).size))
theorem get3_two (v:Value) (l:List Int) (place:Int) (w:World) (h:Byt w v l):Calls Tryz.prog 108 #[v,.int .i64 place] w (GetPost2 place l w):=by
 by_cases hv:(V.vget l).2.2=0
 ·rcases Nat.lt_or_ge l.length (ghd l+(gid l).toNat)with hs | hs
  ·exact get3_short v l place w h hv hs
  ·exact get3_read v l place w h hv hs
 ·exact get3_bad1 v l place w h hv
end Go.Proofs.YtccnjdgaldbgnaaGreatDoor
