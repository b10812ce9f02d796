/- Helpers of the proof. -/
import Derived.Deep.RegionHeld3
import Derived.Test.YtmpijpjlbhfccaaGreatDoorZC14
import Derived.Test.YtmpijpjlbhfccaaGreatDoorZC21
import Derived.Test.YtmpijpjlbhfccaaGreatDoorZC11
import Derived.Test.YtmpijpjlbhfccaaGreatDoorZC5
import Derived.Lib.SliceRun
import Derived.Test.YtmpijpjlbhfccaaGreatDoorZC16
import Derived.Test.YtmpijpjlbhfccaaGreatDoorZC12
set_option maxHeartbeats 20000000
namespace Go.Proofs.YtmpijpjlbhfccaaGreatDoor.K
open Go.RowKit
set_option maxRecDepth 100000
abbrev wl0:Wl:=⟨⟨#[]⟩,⟨#[]⟩,0,false,[]⟩
def WlIs (w:World) (b off:Nat) (u:Wl):Prop:=∃ ao n cap,(w.cell? ⟨b,off,none⟩=some (.string u.topic)/\w.cell? ⟨b,off+1,none⟩=some (.string u.payload)/\w.cell? ⟨b,off+2,none⟩=some (.int .i64 u.qos)/\w.cell? ⟨b,off+3,none⟩=some (.bool u.retain)/\w.cell? ⟨b,off+4,none⟩=some (.slice ao n cap))/\Prp w (.slice ao n cap) u.props/\u.props.length<=1000000000
def WlAt (w:World) (b off:Nat) (us:List Wl):Prop:=∀ k,k<us.length->WlIs w b (off+k*5) (us.getD k wl0)
theorem WlIs.below {w w':World} {b off:Nat} {u:Wl} (h:WlIs w b off u) (hb:Below w.heap.size w w'):WlIs w' b off u:=by
 obtain⟨ao,n,cap,⟨h0,h1,h2,h3,h4⟩,h5,h6⟩:=h
 have hl:b<w.heap.size:=cell_lt h0
 exact⟨ao,n,cap,⟨(hb.cell hl).trans h0,(hb.cell hl).trans h1,(hb.cell hl).trans h2,(hb.cell hl).trans h3,(hb.cell hl).trans h4⟩,h5.below hb,h6⟩
theorem wl_eq (u v:Wl):u=v ↔ (u.topic=v.topic/\u.payload=v.payload/\u.qos=v.qos/\u.retain=v.retain/\u.props=v.props):=by
 obtain⟨a,b,c,d,e⟩:=u
 obtain⟨a',b',c',d',e'⟩:=v
 simp
theorem eqws_core (ba oa bb ob ca cb:Nat) (l m:List Wl) (len:Nat) (w:World) (hl:l.length=len) (hm:m.length=len) (hmx:len<=1000000000) (ha:WlAt w ba oa l) (hb:WlAt w bb ob m) :
  Calls Tryz.prog 36 #[.slice (some ⟨ba,oa,none⟩) len ca,.slice (some ⟨bb,ob,none⟩) len cb] w fun e w'=>(∃ b,e=.returned (.bool b)/\(b=true ↔ ∀ j,j<len->l.getD j wl0=m.getD j wl0))/\Below w.heap.size w w':=by
 have HL:=zh hl
 have HM:=zh hm
 have HA:=zh ha
 have HB:=zh hb
 clear hl hm ha hb
 go_enter Tryz.func36,Tryz.ntmps36
 go_wp2
 go_loopw [5] (fun i wr=>∃ k:Nat,k<=len/\i=.int .i64 k/\Hid (∀ j,j<k->l.getD j wl0=m.getD j wl0)/\Hid (Below w.heap.size w wr)) (fun i _=>len-(intOf i).toNat)
 case atStart=>exact⟨0,Nat.zero_le _,rfl,fun j hj=>absurd hj (Nat.not_lt_zero j),Below.refl _ _⟩
 case round =>
  obtain⟨k,hk,rfl,HALL,HBEL⟩:=hrel
  by_cases hlt:k<len
  ·have hx:=((uh HA) k (by rw[uh HL];exact hlt)).below (uh HBEL)
   have hy:=((uh HB) k (by rw[uh HM];exact hlt)).below (uh HBEL)
   have hwl:=wl_eq (l.getD k wl0) (m.getD k wl0)
   generalize hu:l.getD k wl0=u at hx hwl
   generalize hv:m.getD k wl0=v at hy hwl
   have HU:=zh hu
   have HV:=zh hv
   have HWL:=zh hwl
   clear hu hv hwl
   obtain⟨ao,n,cap,hc,hp,hq⟩:=hx
   obtain⟨ao',n',cap',hc',hp',hq'⟩:=hy
   have HP:=zh hp
   have HP':=zh hp'
   have HC:=zh hc
   have HC':=zh hc'
   have hlb:ba<wr.heap.size:=cell_lt hc.1
   have hlb':bb<wr.heap.size:=cell_lt hc'.1
   obtain⟨x1,x2,x3,x4,x5⟩:=hc
   obtain⟨y1,y2,y3,y4,y5⟩:=hc'
   clear hp hp'
   have HK:Hid (∀ W:World,Below wr.heap.size wr W->(fun w'=>(w'.cell? ⟨ba,oa+k*5,none⟩=some (.string u.topic)/\w'.cell? ⟨ba,oa+k*5+1,none⟩=some (.string u.payload)/\w'.cell? ⟨ba,oa+k*5+2,none⟩=some (.int .i64 u.qos)/\w'.cell? ⟨ba,oa+k*5+3,none⟩=some (.bool u.retain)/\w'.cell? ⟨ba,oa+k*5+4,none⟩=some (.slice ao n cap))/\(w'.cell? ⟨bb,ob+k*5,none⟩=some (.string v.topic)/\w'.cell? ⟨bb,ob+k*5+1,none⟩=some (.string v.payload)/\w'.cell? ⟨bb,ob+k*5+2,none⟩=some (.int .i64 v.qos)/\w'.cell? ⟨bb,ob+k*5+3,none⟩=some (.bool v.retain)/\w'.cell? ⟨bb,ob+k*5+4,none⟩=some (.slice ao' n' cap'))) W):=by
    intro W hW
    obtain⟨x1,x2,x3,x4,x5⟩:=uh HC
    obtain⟨y1,y2,y3,y4,y5⟩:=uh HC'
    exact⟨⟨(hW.cell hlb).trans x1,(hW.cell hlb).trans x2,(hW.cell hlb).trans x3,(hW.cell hlb).trans x4,(hW.cell hlb).trans x5⟩,(hW.cell hlb').trans y1,(hW.cell hlb').trans y2,(hW.cell hlb').trans y3,(hW.cell hlb').trans y4,(hW.cell hlb').trans y5⟩
   go_wp2_with fail
   go_region_held3 (fun w'=>(w'.cell? ⟨ba,oa+k*5,none⟩=some (.string u.topic)/\w'.cell? ⟨ba,oa+k*5+1,none⟩=some (.string u.payload)/\w'.cell? ⟨ba,oa+k*5+2,none⟩=some (.int .i64 u.qos)/\w'.cell? ⟨ba,oa+k*5+3,none⟩=some (.bool u.retain)/\w'.cell? ⟨ba,oa+k*5+4,none⟩=some (.slice ao n cap))/\(w'.cell? ⟨bb,ob+k*5,none⟩=some (.string v.topic)/\w'.cell? ⟨bb,ob+k*5+1,none⟩=some (.string v.payload)/\w'.cell? ⟨bb,ob+k*5+2,none⟩=some (.int .i64 v.qos)/\w'.cell? ⟨bb,ob+k*5+3,none⟩=some (.bool v.retain)/\w'.cell? ⟨bb,ob+k*5+4,none⟩=some (.slice ao' n' cap')))
    (first|exact (uh HK) _ (below_drewN (Below.refl _ _) 1)|exact (uh HK) _ (uh HB2)|exact (uh HK) _ (Below.refl _ _))
    (first|(go_at_call 85;refine (eqw_any u.topic v.topic u.payload v.payload u.qos v.qos u.retain v.retain ao ao' n n' cap cap' u.props v.props _ ((uh HP).below (below_drewN (Below.refl _ _) 1)) ((uh HP').below (below_drewN (Below.refl _ _) 1)) hq).mono ?_;rintro e w2 ⟨⟨bo,rfl,hbo⟩,hb2⟩;have HBO:=zh hbo;have HB2:Hid (Below wr.heap.size wr w2):=(below_drewN (Below.refl _ _) 1).trans hb2;clear hbo hb2)|fail)
   have HB3:Hid (Below w.heap.size w w2):=(uh HBEL).trans ((uh HB2).mono (uh HBEL).size)
   clear HK HC HC' x1 x2 x3 x4 x5 y1 y2 y3 y4 y5 HB2
   have HUV:Hid ((bo=true) ↔ u=v):=(uh HBO).trans (uh HWL).symm
   clear HBO HWL
   cases bo
   ·have HNE:Hid (l.getD k wl0≠m.getD k wl0):=fun e=>by
     rw[uh HU,uh HV]at e
     have:=(uh HUV).2 e
     cases this
    go_wp2
    go_ret
    refine⟨⟨_,rfl,?_⟩,uh HB3⟩
    constructor
    ·intro h;cases h
    ·intro h;exact absurd (h k hlt) (uh HNE)
   ·have HE:Hid (l.getD k wl0=m.getD k wl0):=by
     show _=_
     rw[uh HU,uh HV]
     exact (uh HUV).1 rfl
    go_wp2
    go_roundw
    case rel=>exact⟨k+1,by omega,by go_num,fun j hj=>by
     rcases Nat.lt_succ_iff_lt_or_eq.1 hj with h|h
     ·exact (uh HALL) j h
     ·rw[h];exact uh HE,HB3⟩
    case measure=>simp[intOf];omega
  ·go_wp2
   go_ret
   exact⟨⟨_,rfl,fun _ j hj=>(uh HALL) j (by omega),fun _=>rfl⟩,uh HBEL⟩
theorem eqws_len (ao bo:Option Addr) (n m ca cb:Nat) (w:World) (h:n≠m) :
  Calls Tryz.prog 36 #[.slice ao n ca,.slice bo m cb] w fun e w'=>e=.returned (.bool false)/\w'=w:=by
 have h1:((n:Int)==(m:Int))=false:=beq_eq_false_iff_ne.2 (by omega)
 go_enter Tryz.func36,Tryz.ntmps36
 go_wp2
 go_ret
 exact⟨rfl,rfl⟩
theorem eqws_nil (ao bo:Option Addr) (ca cb:Nat) (w:World) :
  Calls Tryz.prog 36 #[.slice ao 0 ca,.slice bo 0 cb] w fun e w'=>e=.returned (.bool true)/\w'=w:=by
 go_enter Tryz.func36,Tryz.ntmps36
 go_wp2
 refine wp_loop_rounds 1 ?_
 rw[rounds_succ]
 go_wp2
 go_ret
 exact⟨rfl,rfl⟩
def Wls (w:World) (v:Value) (l:List Wl):Prop:=∃ ao cap,v=.slice ao l.length cap/\(l.length<=cap/\cap<=maxLen)/\(l=[]\/∃ b off,ao=some ⟨b,off,none⟩/\WlAt w b off l)
theorem wl_ext {l m:List Wl} (hl:l.length=m.length) (h:∀ j,j<l.length->l.getD j wl0=m.getD j wl0):l=m:=by
 apply List.ext_getElem hl
 intro i h1 h2
 have:=h i h1
 rw[List.getD_eq_getElem?_getD,List.getD_eq_getElem?_getD,List.getElem?_eq_getElem h1,List.getElem?_eq_getElem h2]at this
 exact this
theorem eqws_any (va vb:Value) (l m:List Wl) (w:World) (ha:Wls w va l) (hb:Wls w vb m) (hmx:l.length<=1000000000) :
  Calls Tryz.prog 36 #[va,vb] w fun e w'=>(∃ b,e=.returned (.bool b)/\(b=true ↔ l=m))/\Below w.heap.size w w':=by
 obtain⟨ao,ca,rfl,_,ha⟩:=ha
 obtain⟨bo,cb,rfl,_,hb⟩:=hb
 by_cases hl:l.length=m.length
 ·rcases ha with rfl|⟨ba,oa,rfl,hca⟩
  ·obtain rfl:m=[]:=List.length_eq_zero_iff.1 hl.symm
   refine (eqws_nil _ _ _ _ _).mono ?_
   rintro e w' ⟨rfl,rfl⟩
   exact⟨⟨true,rfl,by simp⟩,Below.refl _ _⟩
  ·rcases hb with rfl|⟨bb,ob,rfl,hcb⟩
   ·obtain rfl:l=[]:=List.length_eq_zero_iff.1 hl
    refine (eqws_nil _ _ _ _ _).mono ?_
    rintro e w' ⟨rfl,rfl⟩
    exact⟨⟨true,rfl,by simp⟩,Below.refl _ _⟩
   ·rw[<- hl]
    refine (eqws_core ba oa bb ob ca cb l m l.length w rfl hl.symm hmx hca hcb).mono ?_
    rintro e w' ⟨⟨b,rfl,hbb⟩,hbel⟩
    exact⟨⟨b,rfl,hbb.trans ⟨fun h=>wl_ext hl h,fun h j _=>by rw[h]⟩⟩,hbel⟩
 ·refine (eqws_len ao bo l.length m.length ca cb w hl).mono ?_
  rintro e w' ⟨rfl,rfl⟩
  exact⟨⟨false,rfl,by constructor;(intro h;cases h);(intro h;exact absurd (by rw[h]) hl)⟩,Below.refl _ _⟩
abbrev sb0:Sb:=⟨⟨#[]⟩,0,false,false,0⟩
def SbAt (w:World) (b off:Nat) (l:List Sb):Prop:=∀ k,k<l.length->w.cell? ⟨b,off+k*5,none⟩=some (.string (l.getD k sb0).filter)/\w.cell? ⟨b,off+k*5+1,none⟩=some (.int .i64 (l.getD k sb0).qos)/\w.cell? ⟨b,off+k*5+2,none⟩=some (.bool (l.getD k sb0).nolocal)/\w.cell? ⟨b,off+k*5+3,none⟩=some (.bool (l.getD k sb0).aspub)/\w.cell? ⟨b,off+k*5+4,none⟩=some (.int .i64 (l.getD k sb0).handling)
def Sbs (w:World) (v:Value) (l:List Sb):Prop:=∃ ao cap,v=.slice ao l.length cap/\(l.length<=cap/\cap<=maxLen)/\(l=[]\/∃ b off,ao=some ⟨b,off,none⟩/\SbAt w b off l)
theorem Tryz.eqgB:Tryz.prog.eqGuardType Tryz.prog.depth 93=false:=by kernel_rfl
theorem Tryz.stoodB:Tryz.prog.stoodInHeld 93=false:=by kernel_rfl
theorem Tryz.undB:Tryz.prog.underlying 93=some (.struct (Tryz.prog.fieldsOf 93)):=by kernel_rfl
def sameB (p q:Sb):Bool:=(p.filter.toList==q.filter.toList&&p.qos==q.qos&&p.nolocal==q.nolocal&&p.aspub==q.aspub&&p.handling==q.handling)
theorem neqB (f f':ByteArray) (q q' h h':Int) (n n' a a':Bool) (w:World):(binOp .neq 93 (.agg #[.string f,.int .i64 q,.bool n,.bool a,.int .i64 h]) (.agg #[.string f',.int .i64 q',.bool n',.bool a',.int .i64 h'])).run Tryz.prog w=.ok (.bool (!(sameB ⟨f,q,n,a,h⟩ ⟨f',q',n',a',h'⟩))) w:=by
 rw[run_neq_struct,run_equalIn_struct w 9999 93 _ _ Tryz.undB Tryz.stoodB]
 rw[show Tryz.prog.fieldsOf 93=_ from rfl]
 simp[Program.fieldsOf,Tryz.underlying93,Op.eqFields,go_sem]
 unfold sameB
 by_cases h1:f.toList=f'.toList
 ·by_cases h2:q=q'
  ·by_cases h3:n=n'
   ·by_cases h4:a=a'
    ·by_cases h5:h=h'
     ·simp[h1,h2,h3,h4,h5]
     ·simp[h1,h2,h3,h4,h5]
    ·simp[h1,h2,h3,h4]
   ·simp[h1,h2,h3]
  ·simp[h1,h2]
 ·simp[h1]
theorem sameB_iff (p q:Sb):sameB p q=true ↔ p=q:=by
 obtain⟨a,b,c,d,e⟩:=p
 obtain⟨a',b',c',d',e'⟩:=q
 unfold sameB
 constructor
 ·intro h
  simp only[Bool.and_eq_true,beq_iff_eq]at h
  obtain⟨⟨⟨⟨h1,h2⟩,h3⟩,h4⟩,h5⟩:=h
  rw[text_ext h1,h2,h3,h4,h5]
 ·rintro h
  cases h
  simp
theorem eqb_core (ba oa bb ob ca cb:Nat) (l m:List Sb) (len:Nat) (w:World) (hl:l.length=len) (hm:m.length=len) (hmx:len<=1000000000) (ha:SbAt w ba oa l) (hb:SbAt w bb ob m) :
  Calls Tryz.prog 38 #[.slice (some ⟨ba,oa,none⟩) len ca,.slice (some ⟨bb,ob,none⟩) len cb] w fun e w'=>(∃ b,e=.returned (.bool b)/\(b=true ↔ ∀ j,j<len->l.getD j sb0=m.getD j sb0))/\∃ k,w'=w.drewN k:=by
 have HL:=zh hl
 have HM:=zh hm
 have HA:=zh ha
 have HB:=zh hb
 clear hl hm ha hb
 go_enter Tryz.func38,Tryz.ntmps38
 go_wp2
 go_loopw [5] (fun i wr=>∃ k q:Nat,k<=len/\i=.int .i64 k/\wr=w.drewN q/\Hid (∀ j,j<k->l.getD j sb0=m.getD j sb0)) (fun i _=>len-(intOf i).toNat)
 case atStart=>exact⟨0,0,Nat.zero_le _,rfl,rfl,fun j hj=>absurd hj (Nat.not_lt_zero j)⟩
 case round =>
  obtain⟨k,q,hk,rfl,rfl,HALL⟩:=hrel
  by_cases hlt:k<len
  ·obtain⟨h0,h1,h2,h3,h4⟩:=(uh HA) k (by rw[uh HL];exact hlt)
   obtain⟨g0,g1,g2,g3,g4⟩:=(uh HB) k (by rw[uh HM];exact hlt)
   obtain⟨x1,x2,x3,x4,x5,hp⟩:∃ a b c d e,l.getD k sb0=⟨a,b,c,d,e⟩:=⟨_,_,_,_,_,rfl⟩
   obtain⟨y1,y2,y3,y4,y5,hp'⟩:∃ a b c d e,m.getD k sb0=⟨a,b,c,d,e⟩:=⟨_,_,_,_,_,rfl⟩
   rw[hp]at h0 h1 h2 h3 h4
   rw[hp']at g0 g1 g2 g3 g4
   simp only at h0 h1 h2 h3 h4 g0 g1 g2 g3 g4
   have HP:=zh hp
   have HP':=zh hp'
   clear hp hp'
   have qg:=Tryz.eqgB
   have qn:=fun W=>neqB x1 y1 x2 y2 x5 y5 x3 y3 x4 y4 W
   generalize hsb:sameB ⟨x1,x2,x3,x4,x5⟩ ⟨y1,y2,y3,y4,y5⟩=sb at qn
   have HSB:=zh hsb
   clear hsb
   cases sb
   ·have HNE:Hid (l.getD k sb0≠m.getD k sb0):=fun e=>by
     rw[uh HP,uh HP']at e
     have:=(sameB_iff _ _).2 e
     rw[uh HSB]at this
     cases this
    go_wp2
    go_quiet (fail)
    go_wp2
    go_ret
    refine⟨⟨_,rfl,?_⟩,q+nq,drewN_drewN _ _ _⟩
    constructor
    ·intro h;cases h
    ·intro h;exact absurd (h k hlt) (uh HNE)
   ·have HE:Hid (l.getD k sb0=m.getD k sb0):=by
     show _=_
     rw[uh HP,uh HP']
     exact (sameB_iff _ _).1 (uh HSB)
    go_wp2
    go_quiet (fail)
    go_wp2
    go_roundw
    case rel=>exact⟨k+1,_,by omega,by go_num,rfl,fun j hj=>by
     rcases Nat.lt_succ_iff_lt_or_eq.1 hj with h|h
     ·exact (uh HALL) j h
     ·rw[h];exact uh HE⟩
    case measure=>simp[intOf];omega
  ·go_wp2
   go_ret
   exact⟨⟨_,rfl,fun _ j hj=>(uh HALL) j (by omega),fun _=>rfl⟩,_,rfl⟩
theorem eqb_len (ao bo:Option Addr) (n m ca cb:Nat) (w:World) (h:n≠m) :
  Calls Tryz.prog 38 #[.slice ao n ca,.slice bo m cb] w fun e w'=>e=.returned (.bool false)/\w'=w:=by
 have h1:((n:Int)==(m:Int))=false:=beq_eq_false_iff_ne.2 (by omega)
 go_enter Tryz.func38,Tryz.ntmps38
 go_wp2
 go_ret
 exact⟨rfl,rfl⟩
theorem eqb_nil (ao bo:Option Addr) (ca cb:Nat) (w:World) :
  Calls Tryz.prog 38 #[.slice ao 0 ca,.slice bo 0 cb] w fun e w'=>e=.returned (.bool true)/\w'=w:=by
 go_enter Tryz.func38,Tryz.ntmps38
 go_wp2
 refine wp_loop_rounds 1 ?_
 rw[rounds_succ]
 go_wp2
 go_ret
 exact⟨rfl,rfl⟩
theorem sb_ext {l m:List Sb} (hl:l.length=m.length) (h:∀ j,j<l.length->l.getD j sb0=m.getD j sb0):l=m:=by
 apply List.ext_getElem hl
 intro i h1 h2
 have:=h i h1
 rw[List.getD_eq_getElem?_getD,List.getD_eq_getElem?_getD,List.getElem?_eq_getElem h1,List.getElem?_eq_getElem h2]at this
 exact this
theorem eqb_any (va vb:Value) (l m:List Sb) (w:World) (ha:Sbs w va l) (hb:Sbs w vb m) (hmx:l.length<=1000000000) :
  Calls Tryz.prog 38 #[va,vb] w fun e w'=>(∃ b,e=.returned (.bool b)/\(b=true ↔ l=m))/\∃ k,w'=w.drewN k:=by
 obtain⟨ao,ca,rfl,_,ha⟩:=ha
 obtain⟨bo,cb,rfl,_,hb⟩:=hb
 by_cases hl:l.length=m.length
 ·rcases ha with rfl|⟨ba,oa,rfl,hca⟩
  ·obtain rfl:m=[]:=List.length_eq_zero_iff.1 hl.symm
   refine (eqb_nil _ _ _ _ _).mono ?_
   rintro e w' ⟨rfl,rfl⟩
   exact⟨⟨true,rfl,by simp⟩,0,rfl⟩
  ·rcases hb with rfl|⟨bb,ob,rfl,hcb⟩
   ·obtain rfl:l=[]:=List.length_eq_zero_iff.1 hl
    refine (eqb_nil _ _ _ _ _).mono ?_
    rintro e w' ⟨rfl,rfl⟩
    exact⟨⟨true,rfl,by simp⟩,0,rfl⟩
   ·rw[<- hl]
    refine (eqb_core ba oa bb ob ca cb l m l.length w rfl hl.symm hmx hca hcb).mono ?_
    rintro e w' ⟨⟨b,rfl,hbb⟩,k,rfl⟩
    exact⟨⟨b,rfl,hbb.trans ⟨fun h=>sb_ext hl h,fun h j _=>by rw[h]⟩⟩,k,rfl⟩
 ·refine (eqb_len ao bo l.length m.length ca cb w hl).mono ?_
  rintro e w' ⟨rfl,rfl⟩
  exact⟨⟨false,rfl,by constructor;(intro h;cases h);(intro h;exact absurd (by rw[h]) hl)⟩,0,rfl⟩
theorem Nms.below {w w':World} {v:Value} {l:List Int} (h:Nms w v l) (hb:Below w.heap.size w w'):Nms w' v l:=by
 obtain⟨ao,cap,h1,h2,h3⟩:=h
 refine⟨ao,cap,h1,h2,?_⟩
 rcases h3 with h3|⟨b,off,e,hc⟩
 ·exact .inl h3
 ·exact .inr ⟨b,off,e,fun j hj=>(hb.cell (p:=⟨b,off+j,none⟩) (cell_lt (hc j hj))).trans (hc j hj)⟩
theorem Txs.below {w w':World} {v:Value} {l:List ByteArray} (h:Txs w v l) (hb:Below w.heap.size w w'):Txs w' v l:=by
 obtain⟨ao,cap,h1,h2,h3⟩:=h
 refine⟨ao,cap,h1,h2,?_⟩
 rcases h3 with h3|⟨b,off,e,hc⟩
 ·exact .inl h3
 ·exact .inr ⟨b,off,e,fun j hj=>(hb.cell (p:=⟨b,off+j,none⟩) (cell_lt (hc j hj))).trans (hc j hj)⟩
theorem Sbs.below {w w':World} {v:Value} {l:List Sb} (h:Sbs w v l) (hb:Below w.heap.size w w'):Sbs w' v l:=by
 obtain⟨ao,cap,h1,h2,h3⟩:=h
 refine⟨ao,cap,h1,h2,?_⟩
 rcases h3 with h3|⟨b,off,e,hc⟩
 ·exact .inl h3
 ·refine .inr ⟨b,off,e,fun j hj=>?_⟩
  obtain⟨x1,x2,x3,x4,x5⟩:=hc j hj
  have hl:b<w.heap.size:=cell_lt x1
  exact⟨(hb.cell hl).trans x1,(hb.cell hl).trans x2,(hb.cell hl).trans x3,(hb.cell hl).trans x4,(hb.cell hl).trans x5⟩
theorem Wls.below {w w':World} {v:Value} {l:List Wl} (h:Wls w v l) (hb:Below w.heap.size w w'):Wls w' v l:=by
 obtain⟨ao,cap,h1,h2,h3⟩:=h
 refine⟨ao,cap,h1,h2,?_⟩
 rcases h3 with h3|⟨b,off,e,hc⟩
 ·exact .inl h3
 ·exact .inr ⟨b,off,e,fun j hj=>(hc j hj).below hb⟩
theorem tells_props {w:World} {va vb:Value} {l m:List Pr} (ha:Prp w va l) (hb:Prp w vb m) (hmx:l.length<=1000000000) (c:Bool) (hc:c=true ↔ l=m):Tells w 35 va vb c:=fun W hW=>by
 refine (eqp_any va vb l m W (ha.below hW) (hb.below hW) hmx).mono ?_
 rintro e w' ⟨⟨b,rfl,hbb⟩,k,rfl⟩
 obtain rfl:b=c:=Bool.eq_iff_iff.2 (hbb.trans hc.symm)
 exact⟨rfl,below_drewN (Below.refl _ _) k⟩
theorem tells_subs {w:World} {va vb:Value} {l m:List Sb} (ha:Sbs w va l) (hb:Sbs w vb m) (hmx:l.length<=1000000000) (c:Bool) (hc:c=true ↔ l=m):Tells w 38 va vb c:=fun W hW=>by
 refine (eqb_any va vb l m W (ha.below hW) (hb.below hW) hmx).mono ?_
 rintro e w' ⟨⟨b,rfl,hbb⟩,k,rfl⟩
 obtain rfl:b=c:=Bool.eq_iff_iff.2 (hbb.trans hc.symm)
 exact⟨rfl,below_drewN (Below.refl _ _) k⟩
theorem tells_wills {w:World} {va vb:Value} {l m:List Wl} (ha:Wls w va l) (hb:Wls w vb m) (hmx:l.length<=1000000000) (c:Bool) (hc:c=true ↔ l=m):Tells w 36 va vb c:=fun W hW=>by
 refine (eqws_any va vb l m W (ha.below hW) (hb.below hW) hmx).mono ?_
 rintro e w' ⟨⟨b,rfl,hbb⟩,hb'⟩
 obtain rfl:b=c:=Bool.eq_iff_iff.2 (hbb.trans hc.symm)
 exact⟨rfl,hb'⟩
theorem tells_strs {w:World} {va vb:Value} {l m:List ByteArray} (ha:Txs w va l) (hb:Txs w vb m) (c:Bool) (hc:c=true ↔ l=m):Tells w 37 va vb c:=fun W hW=>by
 refine (eqs_any va vb l m W (ha.below hW) (hb.below hW)).mono ?_
 rintro e w' ⟨rfl,k,rfl⟩
 exact⟨by rw[show c=decide (l=m) from Bool.eq_iff_iff.2 (hc.trans (decide_eq_true_iff).symm)],below_drewN (Below.refl _ _) k⟩
theorem tells_nums {w:World} {va vb:Value} {l m:List Int} (ha:Nms w va l) (hb:Nms w vb m) (c:Bool) (hc:c=true ↔ l=m):Tells w 39 va vb c:=fun W hW=>by
 refine (eqn_any va vb l m W (ha.below hW) (hb.below hW)).mono ?_
 rintro e w' ⟨rfl,k,rfl⟩
 exact⟨by rw[show c=decide (l=m) from Bool.eq_iff_iff.2 (hc.trans (decide_eq_true_iff).symm)],below_drewN (Below.refl _ _) k⟩
structure RPk (w:World) (p:Pkv) (P:Pa):Prop where
 sc:p.kind=P.kind/\p.dup=P.dup/\p.qos=P.qos/\p.retain=P.retain/\p.topic=P.topic/\p.id=P.id/\p.payload=P.payload/\p.client=P.client/\p.clean=P.clean/\p.keep=P.keep/\p.code=P.code/\p.session=P.session
 props:Prp w p.props.val P.props
 wills:Wls w p.wills.val P.wills
 user:Txs w p.user.val P.user
 pass:Txs w p.pass.val P.pass
 subs:Sbs w p.subs.val P.subs
 filters:Txs w p.filters.val P.filters
 codes:Nms w p.codes.val P.codes
theorem RPk.below {w w':World} {p:Pkv} {P:Pa} (h:RPk w p P) (hb:Below w.heap.size w w'):RPk w' p P :=
 ⟨h.sc,h.props.below hb,h.wills.below hb,h.user.below hb,h.pass.below hb,h.subs.below hb,h.filters.below hb,h.codes.below hb⟩
structure Small (P:Pa):Prop where
 props:P.props.length<=1000000000
 wills:P.wills.length<=1000000000
 subs:P.subs.length<=1000000000
theorem eqpk_same (p q:Pkv) (P:Pa) (w:World) (hp:RPk w p P) (hq:RPk w q P) (hs:Small P) :
  Calls Tryz.prog 12 #[p.val,q.val] w fun e w'=>e=.returned (.bool true)/\Below w.heap.size w w':=by
 obtain⟨x0,x1,x2,x3,x4,x5,x6,x7,x8,x9,x10,x11⟩:=hp.sc
 obtain⟨y0,y1,y2,y3,y4,y5,y6,y7,y8,y9,y10,y11⟩:=hq.sc
 exact eqpk_yes _ _ _ _ _ _ _ _ _ _ _ _ _ _ _ _ _ _ _ _ _ _ _ _ _ _ _ _ _ _ _ _ _ _ _ _ _ _ w
  (by rw[x0,y0];simp) (by rw[x1,y1];simp) (by rw[x2,y2];simp) (by rw[x3,y3];simp) (by rw[x4,y4];simp) (by rw[x5,y5];simp) (by rw[x6,y6];simp)
  (tells_props hp.props hq.props hs.props true (by simp)) (by rw[x7,y7];simp) (by rw[x8,y8];simp) (by rw[x9,y9];simp) (tells_wills hp.wills hq.wills hs.wills true (by simp))
  (tells_strs hp.user hq.user true (by simp)) (tells_strs hp.pass hq.pass true (by simp)) (by rw[x10,y10];simp) (by rw[x11,y11];simp) (tells_subs hp.subs hq.subs hs.subs true (by simp)) (tells_strs hp.filters hq.filters true (by simp)) (tells_nums hp.codes hq.codes true (by simp))
theorem scs_get2 (d:List Sb):∀ (i:Nat) (u:Sb),d[i]?=some u->∀ j,j<5->(scs d)[i*5+j]?=u.cells[j]?:=by
 induction d with
 | nil=>intro i u h;simp at h
 | cons v us ih =>
  intro i u h j hj
  cases i with
  | zero =>
   simp at h
   subst h
   unfold scs
   rw[List.flatMap_cons,Nat.zero_mul,Nat.zero_add,List.getElem?_append_left (by simp[Sb.cells];omega)]
  | succ i =>
   simp at h
   have:=ih i u h j hj
   unfold scs at *
   rw[List.flatMap_cons,List.getElem?_append_right (by simp[Sb.cells];omega),<- this]
   congr 1
   simp[Sb.cells]
   omega
theorem row_form2 {w:World} {B:Nat} {e:TypeId} {s:Nat} {v:Value} {n:Nat} {xs:List Value} (h:w.ownsRow B e s v n xs):∃ ao cap,v=.slice ao n cap/\(n<=cap/\cap<=maxLen)/\(n=0\/∃ b,ao=some ⟨b,0,none⟩/\∀ j,j<n*s->w.cell? ⟨b,j,none⟩=xs[j]?):=by
 have hl:=h.1
 rcases h.2 with⟨rfl,rfl⟩|⟨g,cap,cur,rfl,hB,hg,h1,h2,h3,h4⟩
 ·exact⟨none,0,rfl,⟨Nat.le_refl _,by simp⟩,.inl rfl⟩
 ·exact⟨_,cap,rfl,⟨h1,h2⟩,.inr ⟨g,rfl,fun j hj=>h.cellAt j hj⟩⟩
theorem sbs_own {w:World} {B:Nat} {e:TypeId} {v:Value} {l:List Sb} (h:w.ownsRow B e 5 v l.length (scs l)):Sbs w v l:=by
 obtain⟨ao,cap,rfl,hc,h0|⟨b,rfl,hcell⟩⟩:=row_form2 h
 ·exact⟨ao,cap,rfl,hc,.inl (List.length_eq_zero_iff.1 h0)⟩
 ·refine⟨_,cap,rfl,hc,.inr ⟨b,0,rfl,fun k hk=>?_⟩⟩
  have hu:l[k]?=some (l.getD k sb0):=by rw[List.getD_eq_getElem?_getD,List.getElem?_eq_getElem hk];rfl
  have key:∀ j,j<5->w.cell? ⟨b,k*5+j,none⟩=(l.getD k sb0).cells[j]?:=fun j hj=>(hcell (k*5+j) (by omega)).trans (scs_get2 l k _ hu j hj)
  simp only[Nat.zero_add]
  exact⟨key 0 (by omega),key 1 (by omega),key 2 (by omega),key 3 (by omega),key 4 (by omega)⟩
theorem take_snocD {α:Type} (l:List α) (d:α) (k:Nat) (h:k<l.length):l.take (k+1)=l.take k++[l.getD k d]:=by
 rw[List.take_succ_eq_append_getElem h,List.getD_eq_getElem?_getD,List.getElem?_eq_getElem h];rfl
theorem cell5 (w:World) (a b c d e:Value) (t:TypeId):∀ j u,[a,b,c,d,e][j]?=some u->(w.alloc (.cells #[a,b,c,d,e] t)).cell? ((⟨w.heap.size,0,none⟩:Addr).add j)=some u:=by
 intro j u hj
 match j,hj with
 | 0,hj=>simp at hj;subst hj;simp[Addr.add]
 | 1,hj=>simp at hj;subst hj;simp[Addr.add]
 | 2,hj=>simp at hj;subst hj;simp[Addr.add]
 | 3,hj=>simp at hj;subst hj;simp[Addr.add]
 | 4,hj=>simp at hj;subst hj;simp[Addr.add]
theorem one5 (f:ByteArray) (q:Int) (n a:Bool) (h:Int):∀ u∈[Value.string f,.int .i64 q,.bool n,.bool a,.int .i64 h],u.oneCell'=true:=by
 intro u hu;simp at hu;rcases hu with rfl|rfl|rfl|rfl|rfl<;>rfl
theorem infoN:(Tryz.prog.info? 3).map (fun i=>(i.zero,i.size,i.bytes))=some (some (.int .i64 0),1,8):=by kernel_rfl
theorem infoS:(Tryz.prog.info? 9).map (fun i=>(i.zero,i.size,i.bytes))=some (some (.string ⟨#[]⟩),1,16):=by kernel_rfl
theorem infoB:(Tryz.prog.info? 93).map (fun i=>(i.zero,i.size,i.bytes))=some (some (.agg #[.string ⟨#[]⟩,.int .i64 0,.bool false,.bool false,.int .i64 0]),5,40):=by kernel_rfl
theorem cpn_core (b off cap:Nat) (l:List Int) (len:Nat) (w:World) (hlen:l.length=len) (hmx:len<=2932031007317) (hl:∀ j,j<l.length->w.cell? ⟨b,off+j,none⟩=some (.int .i64 (l.getD j 0))) :
  Calls Tryz.prog 20 #[.slice (some ⟨b,off,none⟩) len cap] w fun e w'=>∃ v,e=.returned v/\Hid (w'.ownsRow w.heap.size 3 1 v len (l.map (Value.int .i64)))/\Below w.heap.size w w':=by
 obtain⟨i0,hi,hz0,hz1,hz2⟩:=info_parts infoN
 have HL:=zh hl
 have HLEN:=zh hlen
 clear hl hlen
 go_enter Tryz.func20,Tryz.ntmps20
 go_wp2
 go_loopw [3,4] (fun v i wr=>∃ k:Nat,k<=len/\i=.int .i64 k/\Hid (wr.ownsRow w.heap.size 3 1 v k ((l.take k).map (Value.int .i64)))/\Below w.heap.size w wr) (fun _ i _=>len-(intOf i).toNat)
 case atStart=>exact⟨0,Nat.zero_le _,rfl,World.ownsRow_nil _ _ _ _,Below.refl _ _⟩
 case round =>
  obtain⟨k,hk,rfl,HOWN,hbel⟩:=hrel
  by_cases hlt:k<len
  ·have HLTk:Hid (k<l.length):=by show _<_;rw[uh HLEN];exact hlt
   have hat:=(uh HL) k (uh HLTk)
   have HPS:Hid ((l.take (k+1)).map (Value.int .i64)=(l.take k).map (Value.int .i64)++[.int .i64 (l.getD k 0)]):=by show _=_;rw[take_snocD l 0 k (uh HLTk)];rw[List.map_append];rfl
   have hc1:=(hbel.cell (p:=⟨b,off+k,none⟩) (cell_lt hat)).trans hat
   generalize l.getD k 0=x at hc1 HPS hat
   have HBEL:=zh hbel
   have hsz:=hbel.size
   clear hat hbel
   go_wp2_with (first
    | (at_builtin;refine wpList_append_own _ rfl _ _ 29 rfl w.heap.size 3 i0 _ 1 8 Tryz.underlying29 hi hz0 hz1 hz2 rfl (by decide) _ _ _ rfl ((uh HOWN).alloc _) ⟨wr.heap.size,0,none⟩ 1 1 [.int .i64 x] rfl rfl (one_cell _ _ _) (fun u hu=>by simp at hu;subst hu;rfl) (by unfold maxLen;omega) (by omega) (by simp;omega) ?_)
    | go_in)
   intro v' w1 hown' hgrow _
   have HB1:Hid (Below w.heap.size w w1):=((uh HBEL).alloc hsz _).grown hgrow (by simp;omega) (fun k hk=>((uh HOWN).lt k hk).1)
   have HO1:Hid (w1.ownsRow w.heap.size 3 1 v' (k+1) ((l.take (k+1)).map (Value.int .i64))):=by show World.ownsRow _ _ _ _ _ _ _;rw[uh HPS];first|exact hown'|(rw[List.map_take];exact hown')
   clear hgrow hown'
   go_wp2
   go_roundw
   case rel=>exact⟨k+1,by omega,by go_num,HO1,uh HB1⟩
   case measure=>simp[intOf];omega
  ·obtain rfl:k=len:=by omega
   have HO1:Hid (wr.ownsRow w.heap.size 3 1 u3 k (l.map (Value.int .i64))):=by
    show World.ownsRow _ _ _ _ _ _ _
    have:=uh HOWN
    rw[List.take_of_length_le (Nat.le_of_eq (uh HLEN))]at this
    exact this
   go_wp2
   go_ret
   exact⟨_,rfl,HO1,hbel⟩
theorem cpn_nil (ao:Option Addr) (cap:Nat) (w:World):Calls Tryz.prog 20 #[.slice ao 0 cap] w fun e w'=>e=.returned (.slice none 0 0)/\w'=w:=by
 go_enter Tryz.func20,Tryz.ntmps20
 go_wp2
 refine wp_loop_rounds 1 ?_
 rw[rounds_succ]
 go_wp2
 go_ret
 exact⟨rfl,rfl⟩
theorem cps_core (b off cap:Nat) (l:List ByteArray) (len:Nat) (w:World) (hlen:l.length=len) (hmx:len<=2932031007317) (hl:∀ j,j<l.length->w.cell? ⟨b,off+j,none⟩=some (.string (l.getD j ⟨#[]⟩))) :
  Calls Tryz.prog 18 #[.slice (some ⟨b,off,none⟩) len cap] w fun e w'=>∃ v,e=.returned v/\Hid (w'.ownsRow w.heap.size 9 1 v len (l.map Value.string))/\Below w.heap.size w w':=by
 obtain⟨i0,hi,hz0,hz1,hz2⟩:=info_parts infoS
 have HL:=zh hl
 have HLEN:=zh hlen
 clear hl hlen
 go_enter Tryz.func18,Tryz.ntmps18
 go_wp2
 go_loopw [3,4] (fun v i wr=>∃ k:Nat,k<=len/\i=.int .i64 k/\Hid (wr.ownsRow w.heap.size 9 1 v k ((l.take k).map Value.string))/\Below w.heap.size w wr) (fun _ i _=>len-(intOf i).toNat)
 case atStart=>exact⟨0,Nat.zero_le _,rfl,World.ownsRow_nil _ _ _ _,Below.refl _ _⟩
 case round =>
  obtain⟨k,hk,rfl,HOWN,hbel⟩:=hrel
  by_cases hlt:k<len
  ·have HLTk:Hid (k<l.length):=by show _<_;rw[uh HLEN];exact hlt
   have hat:=(uh HL) k (uh HLTk)
   have HPS:Hid ((l.take (k+1)).map Value.string=(l.take k).map Value.string++[.string (l.getD k ⟨#[]⟩)]):=by show _=_;rw[take_snocD l ⟨#[]⟩ k (uh HLTk)];rw[List.map_append];rfl
   have hc1:=(hbel.cell (p:=⟨b,off+k,none⟩) (cell_lt hat)).trans hat
   generalize l.getD k ⟨#[]⟩=x at hc1 HPS hat
   have HBEL:=zh hbel
   have hsz:=hbel.size
   clear hat hbel
   go_wp2_with (first
    | (at_builtin;refine wpList_append_own _ rfl _ _ 27 rfl w.heap.size 9 i0 _ 1 16 Tryz.underlying27 hi hz0 hz1 hz2 rfl (by decide) _ _ _ rfl ((uh HOWN).alloc _) ⟨wr.heap.size,0,none⟩ 1 1 [.string x] rfl rfl (one_cell _ _ _) (fun u hu=>by simp at hu;subst hu;rfl) (by unfold maxLen;omega) (by omega) (by simp;omega) ?_)
    | go_in)
   intro v' w1 hown' hgrow _
   have HB1:Hid (Below w.heap.size w w1):=((uh HBEL).alloc hsz _).grown hgrow (by simp;omega) (fun k hk=>((uh HOWN).lt k hk).1)
   have HO1:Hid (w1.ownsRow w.heap.size 9 1 v' (k+1) ((l.take (k+1)).map Value.string)):=by show World.ownsRow _ _ _ _ _ _ _;rw[uh HPS];first|exact hown'|(rw[List.map_take];exact hown')
   clear hgrow hown'
   go_wp2
   go_roundw
   case rel=>exact⟨k+1,by omega,by go_num,HO1,uh HB1⟩
   case measure=>simp[intOf];omega
  ·obtain rfl:k=len:=by omega
   have HO1:Hid (wr.ownsRow w.heap.size 9 1 u3 k (l.map Value.string)):=by
    show World.ownsRow _ _ _ _ _ _ _
    have:=uh HOWN
    rw[List.take_of_length_le (Nat.le_of_eq (uh HLEN))]at this
    exact this
   go_wp2
   go_ret
   exact⟨_,rfl,HO1,hbel⟩
theorem cps_nil (ao:Option Addr) (cap:Nat) (w:World):Calls Tryz.prog 18 #[.slice ao 0 cap] w fun e w'=>e=.returned (.slice none 0 0)/\w'=w:=by
 go_enter Tryz.func18,Tryz.ntmps18
 go_wp2
 refine wp_loop_rounds 1 ?_
 rw[rounds_succ]
 go_wp2
 go_ret
 exact⟨rfl,rfl⟩
theorem cpb_core (b off cap:Nat) (l:List Sb) (len:Nat) (w:World) (hlen:l.length=len) (hmx:len<=2932031007317) (hl:SbAt w b off l) :
  Calls Tryz.prog 19 #[.slice (some ⟨b,off,none⟩) len cap] w fun e w'=>∃ v,e=.returned v/\Hid (w'.ownsRow w.heap.size 93 5 v len (scs l))/\Below w.heap.size w w':=by
 obtain⟨i0,hi,hz0,hz1,hz2⟩:=info_parts infoB
 have HL:=zh hl
 have HLEN:=zh hlen
 clear hl hlen
 go_enter Tryz.func19,Tryz.ntmps19
 go_wp2
 go_loopw [3,4] (fun v i wr=>∃ k:Nat,k<=len/\i=.int .i64 k/\Hid (wr.ownsRow w.heap.size 93 5 v k (scs (l.take k)))/\Below w.heap.size w wr) (fun _ i _=>len-(intOf i).toNat)
 case atStart=>exact⟨0,Nat.zero_le _,rfl,World.ownsRow_nil _ _ _ _,Below.refl _ _⟩
 case round =>
  obtain⟨k,hk,rfl,HOWN,hbel⟩:=hrel
  by_cases hlt:k<len
  ·have HLTk:Hid (k<l.length):=by show _<_;rw[uh HLEN];exact hlt
   have hat:=(uh HL) k (uh HLTk)
   have HPS:Hid (scs (l.take (k+1))=scs (l.take k)++(l.getD k sb0).cells):=by show _=_;rw[take_snocD l sb0 k (uh HLTk)];unfold scs;rw[List.flatMap_append];simp
   obtain⟨d0,d1,d2,d3,d4⟩:=hat
   have hbl:b<w.heap.size:=cell_lt d0
   have e0:=(hbel.cell hbl).trans d0
   have e1:=(hbel.cell hbl).trans d1
   have e2:=(hbel.cell hbl).trans d2
   have e3:=(hbel.cell hbl).trans d3
   have e4:=(hbel.cell hbl).trans d4
   clear d0 d1 d2 d3 d4
   obtain⟨f,q,n,a,h,hp⟩:∃ f q n a h,l.getD k sb0=⟨f,q,n,a,h⟩:=⟨_,_,_,_,_,rfl⟩
   rw[hp]at e0 e1 e2 e3 e4 HPS
   simp only at e0 e1 e2 e3 e4
   clear hp
   have HBEL:=zh hbel
   have hsz:=hbel.size
   clear hbel
   go_wp2_with (first
    | (at_builtin;refine wpList_append_own _ rfl _ _ 28 rfl w.heap.size 93 i0 _ 5 40 Tryz.underlying28 hi hz0 hz1 hz2 rfl (by decide) _ _ _ rfl ((uh HOWN).alloc _) ⟨wr.heap.size,0,none⟩ 1 1 [.string f,.int .i64 q,.bool n,.bool a,.int .i64 h] rfl rfl (cell5 _ _ _ _ _ _ _) (one5 _ _ _ _ _) (by unfold maxLen;omega) (by omega) (by simp;omega) ?_)
    | go_in)
   intro v' w1 hown' hgrow _
   have HB1:Hid (Below w.heap.size w w1):=((uh HBEL).alloc hsz _).grown hgrow (by simp;omega) (fun k hk=>((uh HOWN).lt k hk).1)
   have HO1:Hid (w1.ownsRow w.heap.size 93 5 v' (k+1) (scs (l.take (k+1)))):=by show World.ownsRow _ _ _ _ _ _ _;rw[uh HPS];first|exact hown'|(rw[List.map_take];exact hown')
   clear hgrow hown'
   go_wp2
   go_roundw
   case rel=>exact⟨k+1,by omega,by go_num,HO1,uh HB1⟩
   case measure=>simp[intOf];omega
  ·obtain rfl:k=len:=by omega
   have HO1:Hid (wr.ownsRow w.heap.size 93 5 u3 k (scs l)):=by
    show World.ownsRow _ _ _ _ _ _ _
    have:=uh HOWN
    rw[List.take_of_length_le (Nat.le_of_eq (uh HLEN))]at this
    exact this
   go_wp2
   go_ret
   exact⟨_,rfl,HO1,hbel⟩
theorem cpb_nil (ao:Option Addr) (cap:Nat) (w:World):Calls Tryz.prog 19 #[.slice ao 0 cap] w fun e w'=>e=.returned (.slice none 0 0)/\w'=w:=by
 go_enter Tryz.func19,Tryz.ntmps19
 go_wp2
 refine wp_loop_rounds 1 ?_
 rw[rounds_succ]
 go_wp2
 go_ret
 exact⟨rfl,rfl⟩
end Go.Proofs.YtmpijpjlbhfccaaGreatDoor.K
namespace Go.Proofs.YtmpijpjlbhfccaaGreatDoor.K.W
open Go.RowKit
open Go.Proofs.YtmpijpjlbhfccaaGreatDoor.K
set_option maxRecDepth 100000
theorem copyp_own (v:Value) (l:List Pr) (w:World) (h:Prp w v l) (hmx:l.length<=1000000):Calls Tryz.prog 16 #[v] w fun e w'=>∃ v,e=.returned v/\Hid (w'.ownsRow w.heap.size 88 4 v l.length (pcs l))/\Below w.heap.size w w':=by
 obtain⟨ao,cap,rfl,hc⟩:=h
 rcases hc with rfl|⟨b,off,rfl,hc⟩
 ·refine (copyp_nil ao cap w).mono ?_
  rintro e w' ⟨rfl,rfl⟩
  exact⟨_,rfl,World.ownsRow_nil _ _ _ _,Below.refl _ _⟩
 ·exact copyp_core b off cap l _ w rfl hmx hc
theorem cell_set (w:World) (p q:Addr) (v:Value) (h:(w.cell? q).isSome=true):(w.setCell p v).cell? q=if p=q then some v else w.cell? q:=by
 by_cases e:p=q
 ·subst e
  rw[if_pos rfl]
  exact World.cell?_setCell_same' w p v h
 ·rw[if_neg e]
  exact World.cell?_setCell_other _ _ _ _ e
theorem cell_new (w:World) (cs:Array Value) (t:TypeId) (k j:Nat) (v:Value) (h:cs[j]?=some v) (e:k=w.heap.size):(w.alloc (.cells cs t)).cell? ⟨k,j,none⟩=some v:=by
 subst e
 simp[h]
theorem frz_new (w:World) (cs:Array Value) (t:TypeId) (k j:Nat) (e:k=w.heap.size):(w.alloc (.cells cs t)).frozen? ⟨k,j,none⟩=false:=by
 subst e
 simp
theorem frz_old (w:World) (o:Obj) (k j:Nat) (e:k<w.heap.size) (h:w.frozen? ⟨k,j,none⟩=false):(w.alloc o).frozen? ⟨k,j,none⟩=false:=(World.frozen?_alloc_old _ _ _ (Nat.ne_of_lt e)).trans h
theorem owns_slice {w:World} {B:Nat} {e:TypeId} {s:Nat} {v:Value} {n:Nat} {xs:List Value} (h:w.ownsRow B e s v n xs):∃ ao cap,v=.slice ao n cap:=by
 rcases h.2 with⟨h1,h2⟩|⟨g,cap,cur,hv,rest⟩
 ·exact⟨none,0,by rw[h1,h2]⟩
 ·exact⟨_,cap,hv⟩
theorem owns_low {w:World} {B:Nat} {e:TypeId} {s:Nat} {v u:Value} {n:Nat} {xs:List Value} {p:Addr} (h:w.ownsRow B e s v n xs) (hp:p.block<B):(w.setCell p u).ownsRow B e s v n xs:=by
 refine⟨h.1,?_⟩
 rcases h.2 with h1|⟨g,cap,cur,hv,hB,hg,rest⟩
 ·exact .inl h1
 ·exact .inr ⟨g,cap,cur,hv,hB,(Below.heap_setCell _ _ _ _ (by omega)).trans hg,rest⟩
theorem res_w {fn:Func} {a:Tmp} (h:fn.results=#[.cell a 90]) {tmps:Array Value} {w:World} {B:Nat} {v0 v1 v2 v3 v4:Value} (ha:tmps[a]?.getD undef=.pointer (some ⟨B,0,none⟩)) (c0:w.cell? ⟨B,0,none⟩=some v0) (c1:w.cell? ⟨B,1,none⟩=some v1) (c2:w.cell? ⟨B,2,none⟩=some v2) (c3:w.cell? ⟨B,3,none⟩=some v3) (c4:w.cell? ⟨B,4,none⟩=some v4) :
  (results fn tmps).run Tryz.prog w=.ok (.agg #[v0,v1,v2,v3,v4]) w:=by
 simp[results,h,ha,go_sem,c0,c1,c2,c3,c4]
theorem bnxw {w a b:World} (h:Below w.heap.size w a) (h2:Below a.heap.size a b):Below w.heap.size w b:=h.trans (h2.mono h.size)
theorem cpw_any (t p:ByteArray) (q:Int) (r:Bool) (l:List Pr) (ao:Option Addr) (cap:Nat) (w:World) (h:Prp w (.slice ao l.length cap) l) (hmx:l.length<=1000000) :
  Calls Tryz.prog 42 #[.agg #[.string t,.string p,.int .i64 q,.bool r,.slice ao l.length cap]] w fun e w'=>∃ so sc,e=.returned (.agg #[.string t,.string p,.int .i64 q,.bool r,.slice so l.length sc])/\Hid (w'.ownsRow w.heap.size 88 4 (.slice so l.length sc) l.length (pcs l))/\Below w.heap.size w w':=by
 have HA:=zh h
 clear h
 go_enter Tryz.func42,Tryz.ntmps42
 go_wp2_with fail
 refine (copyp_own _ l _ ((uh HA).below (by go_grown)) hmx).mono ?_
 rintro e w1 ⟨sv,rfl,HS,hb1⟩
 have HB1:Hid (Below w.heap.size w w1):=bnxw (by go_grown) hb1
 have q0:w1.cell? ⟨w.heap.size+1+1,0,none⟩=some (.string t):=(hb1.cell (p:=⟨w.heap.size+1+1,0,none⟩) (by simp<;>omega)).trans (cell_new _ _ _ _ _ _ rfl (by simp))
 have q1:w1.cell? ⟨w.heap.size+1+1,1,none⟩=some (.string p):=(hb1.cell (p:=⟨w.heap.size+1+1,1,none⟩) (by simp<;>omega)).trans (cell_new _ _ _ _ _ _ rfl (by simp))
 have q2:w1.cell? ⟨w.heap.size+1+1,2,none⟩=some (.int .i64 q):=(hb1.cell (p:=⟨w.heap.size+1+1,2,none⟩) (by simp<;>omega)).trans (cell_new _ _ _ _ _ _ rfl (by simp))
 have q3:w1.cell? ⟨w.heap.size+1+1,3,none⟩=some (.bool r):=(hb1.cell (p:=⟨w.heap.size+1+1,3,none⟩) (by simp<;>omega)).trans (cell_new _ _ _ _ _ _ rfl (by simp))
 have q4:w1.cell? ⟨w.heap.size+1+1,4,none⟩=some (.slice ao l.length cap):=(hb1.cell (p:=⟨w.heap.size+1+1,4,none⟩) (by simp<;>omega)).trans (cell_new _ _ _ _ _ _ rfl (by simp))
 have z0:w1.cell? ⟨w.heap.size+1,0,none⟩=some (.string ⟨#[]⟩):=(hb1.cell (p:=⟨w.heap.size+1,0,none⟩) (by simp<;>omega)).trans (Lib.cell?_alloc_some _ (cell_new _ _ _ _ _ _ rfl (by simp)))
 have f0:w1.frozen? ⟨w.heap.size+1,0,none⟩=false:=(hb1.frozen (p:=⟨w.heap.size+1,0,none⟩) (by simp<;>omega)).trans (frz_old _ _ _ _ (by simp<;>omega) (frz_new _ _ _ _ _ (by simp)))
 have z1:w1.cell? ⟨w.heap.size+1,1,none⟩=some (.string ⟨#[]⟩):=(hb1.cell (p:=⟨w.heap.size+1,1,none⟩) (by simp<;>omega)).trans (Lib.cell?_alloc_some _ (cell_new _ _ _ _ _ _ rfl (by simp)))
 have f1:w1.frozen? ⟨w.heap.size+1,1,none⟩=false:=(hb1.frozen (p:=⟨w.heap.size+1,1,none⟩) (by simp<;>omega)).trans (frz_old _ _ _ _ (by simp<;>omega) (frz_new _ _ _ _ _ (by simp)))
 have z2:w1.cell? ⟨w.heap.size+1,2,none⟩=some (.int .i64 0):=(hb1.cell (p:=⟨w.heap.size+1,2,none⟩) (by simp<;>omega)).trans (Lib.cell?_alloc_some _ (cell_new _ _ _ _ _ _ rfl (by simp)))
 have f2:w1.frozen? ⟨w.heap.size+1,2,none⟩=false:=(hb1.frozen (p:=⟨w.heap.size+1,2,none⟩) (by simp<;>omega)).trans (frz_old _ _ _ _ (by simp<;>omega) (frz_new _ _ _ _ _ (by simp)))
 have z3:w1.cell? ⟨w.heap.size+1,3,none⟩=some (.bool false):=(hb1.cell (p:=⟨w.heap.size+1,3,none⟩) (by simp<;>omega)).trans (Lib.cell?_alloc_some _ (cell_new _ _ _ _ _ _ rfl (by simp)))
 have f3:w1.frozen? ⟨w.heap.size+1,3,none⟩=false:=(hb1.frozen (p:=⟨w.heap.size+1,3,none⟩) (by simp<;>omega)).trans (frz_old _ _ _ _ (by simp<;>omega) (frz_new _ _ _ _ _ (by simp)))
 have z4:w1.cell? ⟨w.heap.size+1,4,none⟩=some (.slice none 0 0):=(hb1.cell (p:=⟨w.heap.size+1,4,none⟩) (by simp<;>omega)).trans (Lib.cell?_alloc_some _ (cell_new _ _ _ _ _ _ rfl (by simp)))
 have f4:w1.frozen? ⟨w.heap.size+1,4,none⟩=false:=(hb1.frozen (p:=⟨w.heap.size+1,4,none⟩) (by simp<;>omega)).trans (frz_old _ _ _ _ (by simp<;>omega) (frz_new _ _ _ _ _ (by simp)))
 have g4:w1.frozen? ⟨w.heap.size+1+1,4,none⟩=false:=(hb1.frozen (p:=⟨w.heap.size+1+1,4,none⟩) (by simp<;>omega)).trans (frz_new _ _ _ _ _ (by simp))
 have HS2:Hid (w1.ownsRow (w.heap.size+3) 88 4 sv l.length (pcs l)):=by have:=uh HS;show World.ownsRow _ _ _ _ _ _ _;simpa [Nat.add_assoc] using this
 clear hb1 HS
 obtain⟨so,sc,rfl⟩:=owns_slice (uh HS2)
 go_wp2
 (try simp only[Exit.inBlock,Exit.then])
 refine bodyPost_ret (res_w (B:=w.heap.size+1) (v0:=.string t) (v1:=.string p) (v2:=.int .i64 q) (v3:=.bool r) (v4:=.slice so l.length sc) rfl rfl ?c0 ?c1 ?c2 ?c3 ?c4) rfl ?_
 case c0=>simp (maxDischargeDepth:=16) [cell_set,z0]
 case c1=>simp (maxDischargeDepth:=16) [cell_set,z1]
 case c2=>simp (maxDischargeDepth:=16) [cell_set,z2]
 case c3=>simp (maxDischargeDepth:=16) [cell_set,z3]
 case c4=>simp (maxDischargeDepth:=16) [cell_set,z4]
 exact⟨_,_,rfl,owns_mono (owns_low (owns_low (owns_low (owns_low (owns_low (owns_low (uh HS2) (by simp<;>omega)) (by simp<;>omega)) (by simp<;>omega)) (by simp<;>omega)) (by simp<;>omega)) (by simp<;>omega)) (by omega),by have:=uh HB1;go_grown⟩
end Go.Proofs.YtmpijpjlbhfccaaGreatDoor.K.W
namespace Go.Proofs.YtmpijpjlbhfccaaGreatDoor.K.W
open Go.RowKit
open Go.Proofs.YtmpijpjlbhfccaaGreatDoor.K
set_option maxRecDepth 100000
abbrev wcl (u:Wl) (s:Value):List Value:=[.string u.topic,.string u.payload,.int .i64 u.qos,.bool u.retain,s]
theorem infoW:(Tryz.prog.info? 90).map (fun i=>(i.zero,i.size,i.bytes))=some (some (.agg #[.string ⟨#[]⟩,.string ⟨#[]⟩,.int .i64 0,.bool false,.slice none 0 0]),5,72):=by kernel_rfl
theorem w_one (m:Wl) (ao:Option Addr) (n c:Nat):∀ u∈wcl m (.slice ao n c),u.oneCell'=true:=by
 intro u hu;simp at hu;rcases hu with rfl|rfl|rfl|rfl|rfl<;>rfl
theorem prp_lenw {w:World} {a:Option Addr} {n c:Nat} {l:List Pr} (h:Prp w (.slice a n c) l):l.length=n:=by
 obtain⟨ao,cap,h1,_⟩:=h
 cases h1
 rfl
abbrev Wq:=Wl×Value
def wrow (qs:List Wq):List Value:=qs.flatMap fun q=>wcl q.1 q.2
structure OwnWs (w:World) (B:Nat) (v:Value) (qs:List Wq):Prop where
 row:w.ownsRow B 90 5 v qs.length (wrow qs)
 prp:∀ q∈qs,w.ownsRow B 88 4 q.2 q.1.props.length (pcs q.1.props)/\q.1.props.length<=1000000
theorem OwnWs.nil (w:World) (B:Nat):OwnWs w B (.slice none 0 0) []:=⟨World.ownsRow_nil _ _ _ _,fun q h=>by simp at h⟩
theorem OwnWs.below {w w':World} {B:Nat} {v:Value} {qs:List Wq} (h:OwnWs w B v qs) (hb:Below w.heap.size w w'):OwnWs w' B v qs:=⟨owns_below h.row hb,fun q hq=>⟨owns_below (h.prp q hq).1 hb,(h.prp q hq).2⟩⟩
theorem OwnWs.blk {w:World} {B:Nat} {v:Value} {qs:List Wq} (h:OwnWs w B v qs):∀ g,v.ownBlock=some g->B<=g/\∃ cur fz,w.heap[g]?=some (.cells cur 90 fz):=by
 intro g hg
 rcases h.row.2 with⟨rfl,_⟩|⟨g',cap,cur,rfl,hB,hgg,_⟩
 ·cases hg
 ·cases hg
  exact⟨hB,cur,_,hgg⟩
theorem owns_ty {w w':World} {B:Nat} {e t:TypeId} {s:Nat} {v:Value} {n:Nat} {xs:List Value} {row:Option Nat} (h:w.ownsRow B e s v n xs) (hg:w.grownBy w' row) (ht:∀ g,row=some g->∃ cur fz,w.heap[g]?=some (.cells cur t fz)) (hne:e≠t):w'.ownsRow B e s v n xs:=by
 refine⟨h.1,?_⟩
 rcases h.2 with h1|⟨g,cap,cur,hv,hB,hgg,rest⟩
 ·exact .inl h1
 ·refine .inr ⟨g,cap,cur,hv,hB,?_,rest⟩
  rw[hg.block g (Array.getElem?_eq_some_iff.1 hgg).1 (fun er=>by
   obtain⟨cur',fz,k⟩:=ht g er.symm
   rw[hgg]at k
   simp only[Option.some.injEq,Obj.cells.injEq]at k
   exact hne k.2.1)]
  exact hgg
theorem wrow_app (a b:List Wq):wrow (a++b)=wrow a++wrow b:=by unfold wrow;rw[List.flatMap_append]
theorem OwnWs.app {w w':World} {B:Nat} {v v':Value} {qs ps:List Wq} (h:OwnWs w B v qs) (hp:∀ q∈ps,w.ownsRow B 88 4 q.2 q.1.props.length (pcs q.1.props)/\q.1.props.length<=1000000) (hg:w.grownBy w' v.ownBlock) (ho:w'.ownsRow B 90 5 v' (qs.length+ps.length) (wrow qs++wrow ps)):OwnWs w' B v' (qs++ps):=by
 have ht:∀ g,v.ownBlock=some g->∃ cur fz,w.heap[g]?=some (.cells cur 90 fz):=fun g e=>(h.blk g e).2
 refine⟨?_,fun q hq=>?_⟩
 ·rw[List.length_append,wrow_app]
  exact ho
 ·rcases List.mem_append.1 hq with hq|hq
  ·exact⟨owns_ty (h.prp q hq).1 hg ht (by decide),(h.prp q hq).2⟩
  ·exact⟨owns_ty (hp q hq).1 hg ht (by decide),(hp q hq).2⟩
theorem wrow_get (qs:List Wq):∀ k q,qs[k]?=some q->∀ j,j<5->(wrow qs)[k*5+j]?=(wcl q.1 q.2)[j]?:=by
 induction qs with
 | nil=>intro k q hk;simp at hk
 | cons p l ih =>
  intro k q hk j hj
  have e:wrow (p::l)=wcl p.1 p.2++wrow l:=rfl
  rw[e]
  rcases k with _|k
  ·simp at hk
   subst hk
   rw[List.getElem?_append_left (by simp;omega)]
   simp
  ·have hl:(wcl p.1 p.2).length=5:=rfl
   rw[List.getElem?_append_right (by omega),hl,show (k+1)*5+j-5=k*5+j from by omega]
   exact ih k q (by simpa using hk) j hj
theorem take_snoc (l:List Wl) (k:Nat) (h:k<l.length):l.take (k+1)=l.take k++[l.getD k wl0]:=by
 rw[List.take_add_one,List.getD_eq_getElem?_getD,List.getElem?_eq_getElem h];rfl
theorem cpws_core (b off cap:Nat) (l:List Wl) (len:Nat) (w:World) (hlen:l.length=len) (hmx:len<=1000000000) (hl:WlAt w b off l) (hpl:∀ k,k<l.length->(l.getD k wl0).props.length<=1000000) :
  Calls Tryz.prog 17 #[.slice (some ⟨b,off,none⟩) len cap] w fun e w'=>∃ v qs,e=.returned v/\Hid (OwnWs w' w.heap.size v qs/\qs.map (·.1)=l)/\Below w.heap.size w w':=by
 obtain⟨i0,hi,hz0,hz1,hz2⟩:=info_parts infoW
 have HL:=zh hl
 have HPL:=zh hpl
 have HLEN:=zh hlen
 clear hl hlen hpl
 go_enter Tryz.func17,Tryz.ntmps17
 go_wp2
 go_loopw [3,4] (fun v i wr=>∃ (k:Nat) (qs:List Wq),k<=len/\i=.int .i64 k/\Hid (OwnWs wr w.heap.size v qs/\qs.map (·.1)=l.take k/\qs.length=k)/\Hid (Below w.heap.size w wr)) (fun _ i _=>len-(intOf i).toNat)
 case atStart=>exact⟨0,[],Nat.zero_le _,rfl,⟨OwnWs.nil _ _,rfl,rfl⟩,Below.refl _ _⟩
 case round =>
  obtain⟨k,qs,hk,rfl,HOWN,HBEL⟩:=hrel
  by_cases hlt:k<len
  ·have HLTk:Hid (k<l.length):=by show _<_;rw[uh HLEN];exact hlt
   obtain⟨ao,n0,c,⟨h0,h1,h2,h3,h4⟩,hp1,-⟩:=((uh HL) k (uh HLTk)).below (uh HBEL)
   have hpk:=(uh HPL) k (uh HLTk)
   obtain rfl:=prp_lenw hp1
   have hp:=And.intro hp1 hpk
   have HTS:=zh (take_snoc l k (uh HLTk))
   generalize l.getD k wl0=u at h0 h1 h2 h3 h4 hp1 hpk hp HTS
   have HP:=zh hp
   clear hp hp1 hpk
   have hsz:=(uh HBEL).size
   have hql:qs.length=k:=(uh HOWN).2.2
   have HQL:=zh hql
   clear hql
   go_wp2_with (first
    | (go_at_call 42;refine (cpw_any u.topic u.payload u.qos u.retain u.props ao c _ (uh HP).1 (uh HP).2).mono ?_;rintro e w2 ⟨so,sc,rfl,HS,hb2⟩;have HO2:=zh ((uh HOWN).1.below hb2);have hsz2:=hb2.size;have HB2:=zh hb2;clear hb2)
    | (at_builtin;refine wpList_append_own _ rfl _ _ 26 rfl w.heap.size 90 i0 _ 5 72 Tryz.underlying26 hi hz0 hz1 hz2 rfl (by decide) _ _ _ rfl ((uh HO2).row.alloc _) ⟨w2.heap.size,0,none⟩ 1 1 (wcl u (.slice so u.props.length sc)) rfl rfl (cell5 _ _ _ _ _ _ _) (w_one _ _ _ _) (by rw[uh HQL];unfold maxLen;omega) (by rw[uh HQL];omega) (by simp;omega) ?_)
    | go_in)
   intro v' w1 hown' hgrow _
   have HB1:Hid (Below w.heap.size w w1):=(((uh HBEL).trans ((uh HB2).mono hsz)).alloc (by omega) _).grown hgrow (by simp;omega) (fun k hk=>((uh HO2).blk k hk).1)
   have HO1:Hid (OwnWs w1 w.heap.size v' (qs++[(u,Value.slice so u.props.length sc)])/\(qs++[(u,Value.slice so u.props.length sc)]).map (·.1)=l.take (k+1)/\(qs++[(u,Value.slice so u.props.length sc)]).length=k+1):=by
    refine⟨OwnWs.app ((uh HO2).below (bal _ _)) ?_ hgrow (by simpa [wrow] using hown'),?_,?_⟩
    ·intro q hq
     obtain rfl:=List.mem_singleton.1 hq
     exact⟨owns_mono ((uh HS).alloc _) (by omega),(uh HP).2⟩
    ·rw[uh HTS,List.map_append,(uh HOWN).2.1];rfl
    ·simp[uh HQL]
   clear hgrow hown'
   go_wp2
   go_roundw
   case rel=>exact⟨k+1,_,by omega,by go_num,HO1,HB1⟩
   case measure=>simp[intOf];omega
  ·obtain rfl:k=len:=by omega
   have HO1:Hid (OwnWs wr w.heap.size u3 qs/\qs.map (·.1)=l):=by
    refine⟨(uh HOWN).1,?_⟩
    rw[(uh HOWN).2.1,List.take_of_length_le (Nat.le_of_eq (uh HLEN))]
   go_wp2
   go_ret
   exact⟨_,_,rfl,HO1,uh HBEL⟩
theorem OwnWs.wls {w:World} {B:Nat} {v:Value} {qs:List Wq} (h:OwnWs w B v qs):Wls w v (qs.map (·.1)):=by
 rcases h.row.2 with⟨rfl,h1⟩|⟨g,cap,cur,rfl,hB,hg,hnc,hcm,hcs,htake⟩
 ·have:qs=[]:=List.length_eq_zero_iff.1 h1
  subst this
  exact⟨none,0,rfl,by simp,.inl rfl⟩
 ·refine⟨_,cap,by rw[List.length_map],⟨by rw[List.length_map];exact hnc,hcm⟩,.inr ⟨g,0,rfl,fun k hk=>?_⟩⟩
  rw[List.length_map]at hk
  obtain⟨q,hq⟩:∃ q,qs[k]?=some q:=⟨_,List.getElem?_eq_getElem hk⟩
  have e:(qs.map (·.1)).getD k wl0=q.1:=by rw[List.getD_eq_getElem?_getD,List.getElem?_map,hq];rfl
  rw[e]
  have hp:=h.prp q (List.mem_of_getElem? hq)
  obtain⟨ao,c,hs⟩:=owns_slice hp.1
  refine⟨ao,q.1.props.length,c,?_,by rw[<- hs];exact Go.Proofs.YtmpijpjlbhfccaaGreatDoor.prp_of_owns hp.1,by have:=hp.2;omega⟩
  have key:∀ j u,j<5->(wcl q.1 q.2)[j]?=some u->w.cell? ⟨g,0+k*5+j,none⟩=some u:=fun j u hj hu=>by
   rw[Nat.zero_add,h.row.cellAt (k*5+j) (by omega),wrow_get qs k q hq j hj];exact hu
  refine⟨key 0 _ (by omega) rfl,key 1 _ (by omega) rfl,key 2 _ (by omega) rfl,key 3 _ (by omega) rfl,?_⟩
  rw[<- hs]
  exact key 4 _ (by omega) rfl
theorem cpws_nil (ao:Option Addr) (cap:Nat) (w:World):Calls Tryz.prog 17 #[.slice ao 0 cap] w fun e w'=>e=.returned (.slice none 0 0)/\w'=w:=by
 go_enter Tryz.func17,Tryz.ntmps17
 go_wp2
 refine wp_loop_rounds 1 ?_
 rw[rounds_succ]
 go_wp2
 go_ret
 exact⟨rfl,rfl⟩
end Go.Proofs.YtmpijpjlbhfccaaGreatDoor.K.W
namespace Go.Proofs.YtmpijpjlbhfccaaGreatDoor.K
open Go.RowKit
set_option maxRecDepth 100000
structure WS (w:World) (W:Nat) (bv:Value) (sz:Nat) (T:List Int) (E:Value):Prop where
 wt:Wtr w W bv sz E
 row:w.ownsRow (W+1) 5 1 bv T.length (T.map (Value.int .u8))
 rng:∀ j,0<=T.getD j 0/\T.getD j 0<=255
theorem WS.below {w w':World} {W:Nat} {bv:Value} {sz:Nat} {T:List Int} {E:Value} (h:WS w W bv sz T E) (hb:Below w.heap.size w w'):WS w' W bv sz T E:=by
 obtain⟨⟨a1,a2⟩,⟨b1,b2⟩,c1,c2⟩:=h.wt
 have hW:W<w.heap.size:=cell_lt a1
 exact⟨⟨⟨(hb.cell hW).trans a1,(hb.frozen hW).trans a2⟩,⟨(hb.cell hW).trans b1,(hb.frozen hW).trans b2⟩,(hb.cell hW).trans c1,(hb.frozen hW).trans c2⟩,owns_below h.row hb,h.rng⟩
theorem WS.bx {w w':World} {W:Nat} {bv:Value} {sz sz':Nat} {T:List Int} {E E':Value} {may:Nat->Prop} (h:WS w W bv sz T E) (hx:BX W may w w') (hw:Wtr w' W bv sz' E'):WS w' W bv sz' T E' :=
 ⟨hw,owns_bx h.row hx (Nat.lt_succ_self _),h.rng⟩
def EV (E:Value):Prop:=E=.nilIface\/∃ t x,E=.iface t x
def fst? (E e:Value):Value:=match E with
 | .nilIface=>e
 | _=>E
theorem wfail_gen (W:Nat) (bv E e:Value) (sz:Int) (w:World) (h:Wtr w W bv sz E) (hE:EV E) (he:EV e):Calls Tryz.prog 109 #[.pointer (some ⟨W,0,none⟩),e] w fun r w'=>r=.returned (.tuple #[])/\Wtr w' W bv sz (fst? E e)/\BX W is21 w w':=by
 rcases hE with rfl|⟨t,x,rfl⟩
 ·rcases he with rfl|⟨t,x,rfl⟩
  ·exact wfail_nil W bv sz w h
  ·exact wfail_new W bv sz t x w h
 ·refine (wfail_old W bv e sz t x w h).mono ?_
  rintro r w' ⟨rfl,rfl⟩
  exact⟨rfl,h,BX.refl _ _ _⟩
theorem fst_ev {E e:Value} (hE:EV E) (he:EV e):EV (fst? E e):=by
 rcases hE with rfl|⟨t,x,rfl⟩
 ·exact he
 ·exact .inr ⟨t,x,rfl⟩
def AddPost (W:Nat) (bv:Value) (sz:Nat) (T ys:List Int) (E:Value) (w:World) (e:Ending) (w':World):Prop :=
 ∃ bv',e=.returned (.tuple #[])/\WS w' W bv' (sz+ys.length) (if sz+ys.length<=65536 then T++ys else T) E/\(bv'.ownBlock=bv.ownBlock\/∀ g,bv'.ownBlock=some g->w.heap.size<=g)/\FW W bv.ownBlock w w'/\(¬ sz+ys.length<=65536->bv'=bv)
theorem wadd_any (W:Nat) (bv E er:Value) (sz:Nat) (T ys:List Int) (vb:Value) (w:World) (h:WS w W bv sz T E) (hE:EV E) (he:EV er) (hy:∀ w',BX W isT w w'->Byt w' vb ys) (hs:sz<=4611686018427387904) (hl:ys.length<=140737488351232) (hT:T.length<=65536) :
  Calls Tryz.prog 102 #[.pointer (some ⟨W,0,none⟩),vb,er] w (AddPost W bv sz T ys (fst? E er) w):=by
 have hW:W<w.heap.size:=cell_lt h.wt.1.1
 obtain⟨ao,cap,rfl,-,-⟩:=(hy w (BX.refl _ _ _)).form
 have HS:=zh h
 have HY:=zh hy
 have HF:=zh (wfail_gen W bv E er sz w h.wt hE he)
 clear h hy
 go_enter Tryz.func102,Tryz.ntmps102
 go_wp2_with fail
 refine (uh HF).mono ?_
 rintro e w1 ⟨rfl,hw1,hx1⟩
 have HS1:=zh ((uh HS).bx hx1 hw1)
 have HX1:=zh hx1
 have hz1:=hx1.size
 have HR:=zh (room_any W bv (fst? E er) sz ys.length w1 hw1 (by omega) (by omega) (by omega) (by omega))
 clear hw1 hx1 HF HS
 go_wp2_with fail
 refine (uh HR).mono ?_
 rintro e w2 ⟨rfl,hw2,hx2⟩
 have HS2:Hid (WS w2 W bv (sz+ys.length) T (fst? E er)):=(uh HS1).bx hx2 (by have k:=hw2;rw[<- Int.natCast_add]at k;exact k)
 have HX2:Hid (BX W isT w w2):=((uh HX1).weak (fun j (e:j=21)=>by subst e;decide)).trans (hx2.weak (fun j (e:j=20)=>by subst e;decide))
 have hz2:=hx2.size
 have HY2:=zh ((uh HY) w2 (uh HX2))
 clear hw2 hx2 HR HS1 HX1 HY
 by_cases hr:sz+ys.length<=65536
 ·have hd:decide ((sz:Int)+(ys.length:Int)<=65536)=true:=decide_eq_true (by omega)
  obtain⟨⟨k1,kf1⟩,-,-⟩:=(uh HS2).wt
  have HBR:=zh (owns_blk (uh HS2).row)
  have hW2:W<w2.heap.size:=by omega
  go_wp2_with (first
   | (at_builtin;refine wpList_append_byt_at _ rfl _ _ rfl (W+1) bv T.length T rfl (uh HS2).row (.slice ao ys.length cap) ys rfl (uh HY2) (by omega) (by omega) ?_)
   | go_in)
  intro v3 w3 hown3 hg3 hv3
  have hne:some W≠bv.ownBlock:=fun e=>by have:=(uh HBR) W e.symm;omega
  have hb3:w3.heap[W]?=w2.heap[W]?:=hg3.block W hW2 hne
  have hc:∀ j,w3.cell? ⟨W,j,none⟩=w2.cell? ⟨W,j,none⟩:=fun j=>World.cell?_of_block hb3
  have hfz:∀ j,w3.frozen? ⟨W,j,none⟩=w2.frozen? ⟨W,j,none⟩:=fun j=>World.frozen?_of_block hb3
  have c3:w3.cell? ⟨W,19,none⟩=some bv:=(hc 19).trans k1
  have f3:w3.frozen? ⟨W,19,none⟩=false:=(hfz 19).trans kf1
  have HP:Hid (AddPost W bv sz T ys (fst? E er) w (.returned (.tuple #[])) (w3.setCell ⟨W,19,none⟩ v3)):=by
   obtain⟨-,⟨b1,b2⟩,d1,d2⟩:=(uh HS2).wt
   refine⟨v3,rfl,?_,?_,?_,fun k=>absurd hr k⟩
   ·rw[if_pos hr]
    refine⟨⟨⟨World.cell?_setCell_same _ _ _ c3,by rw[World.frozen?_setCell];exact f3⟩,⟨(World.cell?_setCell_other _ _ _ _ (fun e=>by simp at e)).trans ((hc 20).trans b1),by rw[World.frozen?_setCell];exact (hfz 20).trans b2⟩,(World.cell?_setCell_other _ _ _ _ (fun e=>by simp at e)).trans ((hc 21).trans d1),by rw[World.frozen?_setCell];exact (hfz 21).trans d2⟩,?_,?_⟩
    ·rw[List.length_append,List.map_append]
     exact owns_out (by rw[<- List.map_append]at hown3 |-;exact hown3) (Nat.lt_succ_self _)
    ·intro j
     have r1:=(uh HS2).rng j
     have r2:=(uh HY2).range (j-T.length)
     by_cases hj:j<T.length
     ·rw[List.getD_eq_getElem?_getD,List.getElem?_append_left hj,<- List.getD_eq_getElem?_getD];exact r1
     ·rw[List.getD_eq_getElem?_getD,List.getElem?_append_right (by omega),<- List.getD_eq_getElem?_getD];exact r2
   ·rcases hv3 with e|e
    ·exact .inl e
    ·exact .inr (fun g k=>by rw[e]at k;cases k;omega)
   ·exact ((FW.of_bx (uh HX2) (fun _ e=>e)).trans (FW.of_grown hg3 hW2 hne) (fun g e=>.inl e)).trans (row':=none) (FW.of_bx ((BX.refl W isT w3).set 19 v3 (Nat.le_refl _)) (fun _ e=>e)) (fun g e=>by cases e)
  obtain⟨a3,n3,p3,rfl⟩:∃ a n p,v3=.slice a n p:=by
   rcases hown3.2 with⟨rfl,_⟩|⟨g,cap,cur,rfl,_⟩
   ·exact⟨_,_,_,rfl⟩
   ·exact⟨_,_,_,rfl⟩
  clear hown3 hg3 hv3 hb3 hc hfz hne HS2 HY2 HBR HX2 k1 kf1
  go_wp2
  go_end0
  exact uh HP
 ·have hd:decide ((sz:Int)+(ys.length:Int)<=65536)=false:=decide_eq_false (by omega)
  have HP:Hid (AddPost W bv sz T ys (fst? E er) w (.returned (.tuple #[])) w2):=⟨bv,rfl,by rw[if_neg hr];exact uh HS2,.inl rfl,FW.of_bx (uh HX2) (fun _ e=>e),fun _=>rfl⟩
  go_wp2
  go_end0
  exact uh HP
theorem wpList_append_none (w:World) {ops:Array Oper} {rest:List Oper} {o:Oper} {a:Act} {Q:Exit->Act->World->Prop} (hgd:o.guard=none) (s x:Operand)
  (ho:o.op=.call { callee:=.builtin .append,args:=#[s,x],argTypes:=#[33,33] })
  (base:Nat) (v:Value) (n:Nat) (xs:List Value) (hs:a.eval s=v) (hown:w.ownsRow base 5 1 v n xs) (hx:a.eval x=.slice none 0 0)
  (h:wpList Tryz.prog ops Q rest (a.put o.dst v) w):wpList Tryz.prog ops Q (o::rest) a w:=by
 refine wpList_plain hgd fun K hK=>?_
 obtain⟨i0,hi,hz0,hz1,hz2⟩:=info_parts Tryz.infoU8
 have hr:=run_append_owned_none (P:=Tryz.prog) (w:=w) base 33 o.type 5 i0 1 Tryz.underlying33 hi v n xs hown
 unfold Oper.wp execOp
 simp only[ho,resolve,invoke,builtin,Sem.run_bind,Sem.run_pure,Result.andThen_ok,List.map_toArray,List.map_cons,List.map_nil,hs,hx,hr]
 exact hK _ _ h
theorem wadd_bad (W:Nat) (bv E:Value) (t:TypeId) (x:Value) (sz:Nat) (T:List Int) (w:World) (h:WS w W bv sz T E) (hE:EV E) (hs:sz<=4611686018427387904) :
  Calls Tryz.prog 102 #[.pointer (some ⟨W,0,none⟩),.slice none 0 0,.iface t x] w fun e w'=>e=.returned (.tuple #[])/\WS w' W bv sz T (fst? E (.iface t x))/\BX W isT w w':=by
 have HS:=zh h
 have HF:=zh (wfail_gen W bv E (.iface t x) sz w h.wt hE (.inr ⟨_,_,rfl⟩))
 obtain⟨a3,n3,p3,rfl⟩:∃ a n p,bv=.slice a n p:=by
  rcases h.row.2 with⟨rfl,_⟩|⟨g,cap,cur,rfl,_⟩
  ·exact⟨_,_,_,rfl⟩
  ·exact⟨_,_,_,rfl⟩
 clear h
 go_enter Tryz.func102,Tryz.ntmps102
 go_wp2_with fail
 refine (uh HF).mono ?_
 rintro e w1 ⟨rfl,hw1,hx1⟩
 have HS1:=zh ((uh HS).bx hx1 hw1)
 have HX1:=zh hx1
 have HR:=zh (room_any W _ (fst? E (.iface t x)) sz 0 w1 hw1 (by omega) (by omega) (by omega) (by omega))
 clear hw1 hx1 HF HS
 go_wp2_with fail
 refine (uh HR).mono ?_
 rintro e w2 ⟨rfl,hw2,hx2⟩
 have HS2:Hid (WS w2 W (.slice a3 n3 p3) sz T (fst? E (.iface t x))):=(uh HS1).bx hx2 (by have k:=hw2;rw[Int.add_zero]at k;exact k)
 have HX2:Hid (BX W isT w w2):=((uh HX1).weak (fun j (e:j=21)=>by subst e;decide)).trans (hx2.weak (fun j (e:j=20)=>by subst e;decide))
 clear hw2 hx2 HR HS1 HX1
 by_cases hr:(sz:Int)+0<=65536
 ·have hd:decide ((sz:Int)+0<=65536)=true:=decide_eq_true hr
  obtain⟨⟨k1,kf1⟩,-,-⟩:=(uh HS2).wt
  have HP:Hid (WS (w2.setCell ⟨W,19,none⟩ (.slice a3 n3 p3)) W (.slice a3 n3 p3) sz T (fst? E (.iface t x))/\BX W isT w (w2.setCell ⟨W,19,none⟩ (.slice a3 n3 p3))):=by
   have hx:BX W isT w2 (w2.setCell ⟨W,19,none⟩ (.slice a3 n3 p3)):=(BX.refl W isT w2).set 19 _ (Nat.le_refl _)
   obtain⟨⟨a1,a2⟩,⟨b1,b2⟩,d1,d2⟩:=(uh HS2).wt
   exact⟨(uh HS2).bx hx ⟨⟨World.cell?_setCell_same _ _ _ a1,by rw[World.frozen?_setCell];exact a2⟩,⟨(World.cell?_setCell_other _ _ _ _ (fun e=>by simp at e)).trans b1,by rw[World.frozen?_setCell];exact b2⟩,(World.cell?_setCell_other _ _ _ _ (fun e=>by simp at e)).trans d1,by rw[World.frozen?_setCell];exact d2⟩,(uh HX2).trans hx⟩
  go_wp2_with (first
   | (at_builtin;refine wpList_append_none _ rfl _ _ rfl (W+1) (.slice a3 n3 p3) T.length _ rfl (uh HS2).row rfl ?_)
   | go_in)
  go_end0
  exact⟨rfl,uh HP⟩
 ·have hd:decide ((sz:Int)+0<=65536)=false:=decide_eq_false hr
  go_wp2
  go_end0
  exact⟨rfl,uh HS2,uh HX2⟩
end Go.Proofs.YtmpijpjlbhfccaaGreatDoor.K
