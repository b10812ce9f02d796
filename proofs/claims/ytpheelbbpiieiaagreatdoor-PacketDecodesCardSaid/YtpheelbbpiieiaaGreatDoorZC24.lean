/- Proved here: helpers, one text behind the other. -/
import Derived.Deep.RegionHeld3
import Derived.Test.YtpheelbbpiieiaaGreatDoorZC14
import Derived.Test.YtpheelbbpiieiaaGreatDoorZC23
import Derived.Test.YtpheelbbpiieiaaGreatDoorZC11
import Derived.Test.YtpheelbbpiieiaaGreatDoorZC5
import Derived.Test.YtpheelbbpiieiaaGreatDoorZC21
import Derived.Test.YtpheelbbpiieiaaGreatDoorZC6
import Derived.Laws.AppendOwn
import Derived.Test.YtpheelbbpiieiaaGreatDoorZC13
set_option maxHeartbeats 20000000
namespace Go.Proofs.YtpheelbbpiieiaaGreatDoor.K
open Go.RowKit
set_option maxRecDepth 100000
abbrev wl0:Wl:=⟨⟨#[]⟩,⟨#[]⟩,0,false,[]⟩
def WlIs (w:World) (b off:Nat) (u:Wl):Prop:=∃ ao n cap,(w.cell? ⟨b,off,none⟩=some (.string u.topic)/\w.cell? ⟨b,off+1,none⟩=some (.string u.payload)/\w.cell? ⟨b,off+2,none⟩=some (.int .i64 u.qos)/\w.cell? ⟨b,off+3,none⟩=some (.bool u.retain)/\w.cell? ⟨b,off+4,none⟩=some (.slice ao n cap))/\Prp w (.slice ao n cap) u.props/\u.props.length<=1000000000
def WlAt (w:World) (b off:Nat) (us:List Wl):Prop:=∀ k,k < us.length->WlIs w b (off+k * 5) (us.getD k wl0)
theorem WlIs.below {w w':World} {b off:Nat} {u:Wl} (h:WlIs w b off u) (hb:Below w.heap.size w w'):WlIs w' b off u:=by
 obtain⟨ao,n,cap,⟨h0,h1,h2,h3,h4⟩,h5,h6⟩:=h
 have hl:b < w.heap.size:=cell_lt h0
 exact⟨ao,n,cap,⟨(hb.cell hl).trans h0,(hb.cell hl).trans h1,(hb.cell hl).trans h2,(hb.cell hl).trans h3,(hb.cell hl).trans h4⟩,h5.below hb,h6⟩
theorem wl_eq (u v:Wl):u=v ↔ (u.topic=v.topic/\u.payload=v.payload/\u.qos=v.qos/\u.retain=v.retain/\u.props=v.props):=by
 obtain⟨a,b,c,d,e⟩:=u
 obtain⟨a',b',c',d',e'⟩:=v
 simp
theorem eqws_core (ba oa bb ob ca cb:Nat) (l m:List Wl) (len:Nat) (w:World) (hl:l.length=len) (hm:m.length=len) (hmx:len<=1000000000) (ha:WlAt w ba oa l) (hb:WlAt w bb ob m) :
  Calls Tryz.prog 34 #[.slice (some ⟨ba,oa,none⟩) len ca,.slice (some ⟨bb,ob,none⟩) len cb] w fun e w'=>(∃ b,e=.returned (.bool b)/\(b=true ↔ ∀ j,j < len->l.getD j wl0=m.getD j wl0))/\Below w.heap.size w w':=by
 have HL:=zh hl
 have HM:=zh hm
 have HA:=zh ha
 have HB:=zh hb
 clear hl hm ha hb
 go_enter Tryz.func34,Tryz.ntmps34
 go_wp2
 go_loopw [5] (fun i wr=>∃ k:Nat,k<=len/\i=.int .i64 k/\Hid (∀ j,j < k->l.getD j wl0=m.getD j wl0)/\Hid (Below w.heap.size w wr)) (fun i _=>len - (intOf i).toNat)
 case atStart=>exact⟨0,Nat.zero_le _,rfl,fun j hj=>absurd hj (Nat.not_lt_zero j),Below.refl _ _⟩
 case round =>
  obtain⟨k,hk,rfl,HALL,HBEL⟩:=hrel
  by_cases hlt:k < len
  ·have hx:=((uh HA) k (by rw[uh HL];exact hlt)).below (uh HBEL)
   have hy:=((uh HB) k (by rw[uh HM];exact hlt)).below (uh HBEL)
   have hwl:=wl_eq (l.getD k wl0) (m.getD k wl0)
   generalize hu:l.getD k wl0=u at hx hwl
   generalize hv:m.getD k wl0=v at hy hwl
   have HU:=zh hu
   have HV:=zh hv
   have HWL:=zh hwl
   clear hu hv hwl
   obtain⟨ao,n,cap,hc,hp,hq⟩:=hx
   obtain⟨ao',n',cap',hc',hp',hq'⟩:=hy
   have HP:=zh hp
   have HP':=zh hp'
   have HC:=zh hc
   have HC':=zh hc'
   have hlb:ba < wr.heap.size:=cell_lt hc.1
   have hlb':bb < wr.heap.size:=cell_lt hc'.1
   obtain⟨x1,x2,x3,x4,x5⟩:=hc
   obtain⟨y1,y2,y3,y4,y5⟩:=hc'
   clear hp hp'
   have HK:Hid (∀ W:World,Below wr.heap.size wr W->(fun w'=>(w'.cell? ⟨ba,oa+k * 5,none⟩=some (.string u.topic)/\w'.cell? ⟨ba,oa+k * 5+1,none⟩=some (.string u.payload)/\w'.cell? ⟨ba,oa+k * 5+2,none⟩=some (.int .i64 u.qos)/\w'.cell? ⟨ba,oa+k * 5+3,none⟩=some (.bool u.retain)/\w'.cell? ⟨ba,oa+k * 5+4,none⟩=some (.slice ao n cap))/\(w'.cell? ⟨bb,ob+k * 5,none⟩=some (.string v.topic)/\w'.cell? ⟨bb,ob+k * 5+1,none⟩=some (.string v.payload)/\w'.cell? ⟨bb,ob+k * 5+2,none⟩=some (.int .i64 v.qos)/\w'.cell? ⟨bb,ob+k * 5+3,none⟩=some (.bool v.retain)/\w'.cell? ⟨bb,ob+k * 5+4,none⟩=some (.slice ao' n' cap'))) W):=by
    intro W hW
    obtain⟨x1,x2,x3,x4,x5⟩:=uh HC
    obtain⟨y1,y2,y3,y4,y5⟩:=uh HC'
    exact⟨⟨(hW.cell hlb).trans x1,(hW.cell hlb).trans x2,(hW.cell hlb).trans x3,(hW.cell hlb).trans x4,(hW.cell hlb).trans x5⟩,(hW.cell hlb').trans y1,(hW.cell hlb').trans y2,(hW.cell hlb').trans y3,(hW.cell hlb').trans y4,(hW.cell hlb').trans y5⟩
   go_wp2_with fail
   go_region_held3 (fun w'=>(w'.cell? ⟨ba,oa+k * 5,none⟩=some (.string u.topic)/\w'.cell? ⟨ba,oa+k * 5+1,none⟩=some (.string u.payload)/\w'.cell? ⟨ba,oa+k * 5+2,none⟩=some (.int .i64 u.qos)/\w'.cell? ⟨ba,oa+k * 5+3,none⟩=some (.bool u.retain)/\w'.cell? ⟨ba,oa+k * 5+4,none⟩=some (.slice ao n cap))/\(w'.cell? ⟨bb,ob+k * 5,none⟩=some (.string v.topic)/\w'.cell? ⟨bb,ob+k * 5+1,none⟩=some (.string v.payload)/\w'.cell? ⟨bb,ob+k * 5+2,none⟩=some (.int .i64 v.qos)/\w'.cell? ⟨bb,ob+k * 5+3,none⟩=some (.bool v.retain)/\w'.cell? ⟨bb,ob+k * 5+4,none⟩=some (.slice ao' n' cap')))
    (first | exact (uh HK) _ (below_drewN (Below.refl _ _) 1) | exact (uh HK) _ (uh HB2) | exact (uh HK) _ (Below.refl _ _))
    (first | (go_at_call 70;refine (eqw_any u.topic v.topic u.payload v.payload u.qos v.qos u.retain v.retain ao ao' n n' cap cap' u.props v.props _ ((uh HP).below (below_drewN (Below.refl _ _) 1)) ((uh HP').below (below_drewN (Below.refl _ _) 1)) hq).mono ?_;rintro e w2 ⟨⟨bo,rfl,hbo⟩,hb2⟩;have HBO:=zh hbo;have HB2:Hid (Below wr.heap.size wr w2):=(below_drewN (Below.refl _ _) 1).trans hb2;clear hbo hb2) | fail)
   have HB3:Hid (Below w.heap.size w w2):=(uh HBEL).trans ((uh HB2).mono (uh HBEL).size)
   clear HK HC HC' x1 x2 x3 x4 x5 y1 y2 y3 y4 y5 HB2
   have HUV:Hid ((bo=true) ↔ u=v):=(uh HBO).trans (uh HWL).symm
   clear HBO HWL
   cases bo
   ·have HNE:Hid (l.getD k wl0≠m.getD k wl0):=fun e=>by
     rw[uh HU,uh HV]at e
     have:=(uh HUV).2 e
     cases this
    go_wp2
    go_ret
    refine⟨⟨_,rfl,?_⟩,uh HB3⟩
    constructor
    ·intro h;cases h
    ·intro h;exact absurd (h k hlt) (uh HNE)
   ·have HE:Hid (l.getD k wl0=m.getD k wl0):=by
     show _=_
     rw[uh HU,uh HV]
     exact (uh HUV).1 rfl
    go_wp2
    go_roundw
    case rel=>exact⟨k+1,by omega,by go_num,fun j hj=>by
     rcases Nat.lt_succ_iff_lt_or_eq.1 hj with h | h
     ·exact (uh HALL) j h
     ·rw[h];exact uh HE,HB3⟩
    case measure=>simp[intOf];omega
  ·go_wp2
   go_ret
   exact⟨⟨_,rfl,fun _ j hj=>(uh HALL) j (by omega),fun _=>rfl⟩,uh HBEL⟩
theorem eqws_len (ao bo:Option Addr) (n m ca cb:Nat) (w:World) (h:n≠m) :
  Calls Tryz.prog 34 #[.slice ao n ca,.slice bo m cb] w fun e w'=>e=.returned (.bool false)/\w'=w:=by
 have h1:((n:Int) == (m:Int))=false:=beq_eq_false_iff_ne.2 (by omega)
 go_enter Tryz.func34,Tryz.ntmps34
 go_wp2
 go_ret
 exact⟨rfl,rfl⟩
theorem eqws_nil (ao bo:Option Addr) (ca cb:Nat) (w:World) :
  Calls Tryz.prog 34 #[.slice ao 0 ca,.slice bo 0 cb] w fun e w'=>e=.returned (.bool true)/\w'=w:=by
 go_enter Tryz.func34,Tryz.ntmps34
 go_wp2
 refine wp_loop_rounds 1 ?_
 rw[rounds_succ]
 go_wp2
 go_ret
 exact⟨rfl,rfl⟩
def Wls (w:World) (v:Value) (l:List Wl):Prop:=∃ ao cap,v=.slice ao l.length cap/\(l.length<=cap/\cap<=maxLen)/\(l=[]\/∃ b off,ao=some ⟨b,off,none⟩/\WlAt w b off l)
theorem wl_ext {l m:List Wl} (hl:l.length=m.length) (h:∀ j,j < l.length->l.getD j wl0=m.getD j wl0):l=m:=by
 apply List.ext_getElem hl
 intro i h1 h2
 have:=h i h1
 rw[List.getD_eq_getElem?_getD,List.getD_eq_getElem?_getD,List.getElem?_eq_getElem h1,List.getElem?_eq_getElem h2]at this
 exact this
theorem eqws_any (va vb:Value) (l m:List Wl) (w:World) (ha:Wls w va l) (hb:Wls w vb m) (hmx:l.length<=1000000000) :
  Calls Tryz.prog 34 #[va,vb] w fun e w'=>(∃ b,e=.returned (.bool b)/\(b=true ↔ l=m))/\Below w.heap.size w w':=by
 obtain⟨ao,ca,rfl,_,ha⟩:=ha
 obtain⟨bo,cb,rfl,_,hb⟩:=hb
 by_cases hl:l.length=m.length
 ·rcases ha with rfl | ⟨ba,oa,rfl,hca⟩
  ·obtain rfl:m=[]:=List.length_eq_zero_iff.1 hl.symm
   refine (eqws_nil _ _ _ _ _).mono ?_
   rintro e w' ⟨rfl,rfl⟩
   exact⟨⟨true,rfl,by simp⟩,Below.refl _ _⟩
  ·rcases hb with rfl | ⟨bb,ob,rfl,hcb⟩
   ·obtain rfl:l=[]:=List.length_eq_zero_iff.1 hl
    refine (eqws_nil _ _ _ _ _).mono ?_
    rintro e w' ⟨rfl,rfl⟩
    exact⟨⟨true,rfl,by simp⟩,Below.refl _ _⟩
   ·rw[<- hl]
    refine (eqws_core ba oa bb ob ca cb l m l.length w rfl hl.symm hmx hca hcb).mono ?_
    rintro e w' ⟨⟨b,rfl,hbb⟩,hbel⟩
    exact⟨⟨b,rfl,hbb.trans ⟨fun h=>wl_ext hl h,fun h j _=>by rw[h]⟩⟩,hbel⟩
 ·refine (eqws_len ao bo l.length m.length ca cb w hl).mono ?_
  rintro e w' ⟨rfl,rfl⟩
  exact⟨⟨false,rfl,by constructor;(intro h;cases h);(intro h;exact absurd (by rw[h]) hl)⟩,Below.refl _ _⟩
abbrev sb0:Sb:=⟨⟨#[]⟩,0,false,false,0⟩
def SbAt (w:World) (b off:Nat) (l:List Sb):Prop:=∀ k,k < l.length->w.cell? ⟨b,off+k * 5,none⟩=some (.string (l.getD k sb0).filter)/\w.cell? ⟨b,off+k * 5+1,none⟩=some (.int .i64 (l.getD k sb0).qos)/\w.cell? ⟨b,off+k * 5+2,none⟩=some (.bool (l.getD k sb0).nolocal)/\w.cell? ⟨b,off+k * 5+3,none⟩=some (.bool (l.getD k sb0).aspub)/\w.cell? ⟨b,off+k * 5+4,none⟩=some (.int .i64 (l.getD k sb0).handling)
def Sbs (w:World) (v:Value) (l:List Sb):Prop:=∃ ao cap,v=.slice ao l.length cap/\(l.length<=cap/\cap<=maxLen)/\(l=[]\/∃ b off,ao=some ⟨b,off,none⟩/\SbAt w b off l)
theorem Tryz.eqgB:Tryz.prog.eqGuardType Tryz.prog.depth 114=false:=by kernel_rfl
theorem Tryz.stoodB:Tryz.prog.stoodInHeld 114=false:=by kernel_rfl
theorem Tryz.undB:Tryz.prog.underlying 114=some (.struct (Tryz.prog.fieldsOf 114)):=by kernel_rfl
def sameB (p q:Sb):Bool:=(p.filter.toList == q.filter.toList && p.qos == q.qos && p.nolocal == q.nolocal && p.aspub == q.aspub && p.handling == q.handling)
theorem neqB (f f':ByteArray) (q q' h h':Int) (n n' a a':Bool) (w:World):(binOp .neq 114 (.agg #[.string f,.int .i64 q,.bool n,.bool a,.int .i64 h]) (.agg #[.string f',.int .i64 q',.bool n',.bool a',.int .i64 h'])).run Tryz.prog w=.ok (.bool (!(sameB ⟨f,q,n,a,h⟩ ⟨f',q',n',a',h'⟩))) w:=by
 rw[run_neq_struct,run_equalIn_struct w 9999 114 _ _ Tryz.undB Tryz.stoodB]
 rw[show Tryz.prog.fieldsOf 114=_ from rfl]
 simp[Program.fieldsOf,Tryz.underlying114,Op.eqFields,go_sem]
 unfold sameB
 by_cases h1:f.toList=f'.toList
 ·by_cases h2:q=q'
  ·by_cases h3:n=n'
   ·by_cases h4:a=a'
    ·by_cases h5:h=h'
     ·simp[h1,h2,h3,h4,h5]
     ·simp[h1,h2,h3,h4,h5]
    ·simp[h1,h2,h3,h4]
   ·simp[h1,h2,h3]
  ·simp[h1,h2]
 ·simp[h1]
theorem sameB_iff (p q:Sb):sameB p q=true ↔ p=q:=by
 obtain⟨a,b,c,d,e⟩:=p
 obtain⟨a',b',c',d',e'⟩:=q
 unfold sameB
 constructor
 ·intro h
  simp only[Bool.and_eq_true,beq_iff_eq]at h
  obtain⟨⟨⟨⟨h1,h2⟩,h3⟩,h4⟩,h5⟩:=h
  rw[text_ext h1,h2,h3,h4,h5]
 ·rintro h
  cases h
  simp
theorem eqb_core (ba oa bb ob ca cb:Nat) (l m:List Sb) (len:Nat) (w:World) (hl:l.length=len) (hm:m.length=len) (hmx:len<=1000000000) (ha:SbAt w ba oa l) (hb:SbAt w bb ob m) :
  Calls Tryz.prog 36 #[.slice (some ⟨ba,oa,none⟩) len ca,.slice (some ⟨bb,ob,none⟩) len cb] w fun e w'=>(∃ b,e=.returned (.bool b)/\(b=true ↔ ∀ j,j < len->l.getD j sb0=m.getD j sb0))/\∃ k,w'=w.drewN k:=by
 have HL:=zh hl
 have HM:=zh hm
 have HA:=zh ha
 have HB:=zh hb
 clear hl hm ha hb
 go_enter Tryz.func36,Tryz.ntmps36
 go_wp2
 go_loopw [5] (fun i wr=>∃ k q:Nat,k<=len/\i=.int .i64 k/\wr=w.drewN q/\Hid (∀ j,j < k->l.getD j sb0=m.getD j sb0)) (fun i _=>len - (intOf i).toNat)
 case atStart=>exact⟨0,0,Nat.zero_le _,rfl,rfl,fun j hj=>absurd hj (Nat.not_lt_zero j)⟩
 case round =>
  obtain⟨k,q,hk,rfl,rfl,HALL⟩:=hrel
  by_cases hlt:k < len
  ·obtain⟨h0,h1,h2,h3,h4⟩:=(uh HA) k (by rw[uh HL];exact hlt)
   obtain⟨g0,g1,g2,g3,g4⟩:=(uh HB) k (by rw[uh HM];exact hlt)
   obtain⟨x1,x2,x3,x4,x5,hp⟩:∃ a b c d e,l.getD k sb0=⟨a,b,c,d,e⟩:=⟨_,_,_,_,_,rfl⟩
   obtain⟨y1,y2,y3,y4,y5,hp'⟩:∃ a b c d e,m.getD k sb0=⟨a,b,c,d,e⟩:=⟨_,_,_,_,_,rfl⟩
   rw[hp]at h0 h1 h2 h3 h4
   rw[hp']at g0 g1 g2 g3 g4
   simp only at h0 h1 h2 h3 h4 g0 g1 g2 g3 g4
   have HP:=zh hp
   have HP':=zh hp'
   clear hp hp'
   have qg:=Tryz.eqgB
   have qn:=fun W=>neqB x1 y1 x2 y2 x5 y5 x3 y3 x4 y4 W
   generalize hsb:sameB ⟨x1,x2,x3,x4,x5⟩ ⟨y1,y2,y3,y4,y5⟩=sb at qn
   have HSB:=zh hsb
   clear hsb
   cases sb
   ·have HNE:Hid (l.getD k sb0≠m.getD k sb0):=fun e=>by
     rw[uh HP,uh HP']at e
     have:=(sameB_iff _ _).2 e
     rw[uh HSB]at this
     cases this
    go_wp2
    go_quiet (fail)
    go_wp2
    go_ret
    refine⟨⟨_,rfl,?_⟩,q+nq,drewN_drewN _ _ _⟩
    constructor
    ·intro h;cases h
    ·intro h;exact absurd (h k hlt) (uh HNE)
   ·have HE:Hid (l.getD k sb0=m.getD k sb0):=by
     show _=_
     rw[uh HP,uh HP']
     exact (sameB_iff _ _).1 (uh HSB)
    go_wp2
    go_quiet (fail)
    go_wp2
    go_roundw
    case rel=>exact⟨k+1,_,by omega,by go_num,rfl,fun j hj=>by
     rcases Nat.lt_succ_iff_lt_or_eq.1 hj with h | h
     ·exact (uh HALL) j h
     ·rw[h];exact uh HE⟩
    case measure=>simp[intOf];omega
  ·go_wp2
   go_ret
   exact⟨⟨_,rfl,fun _ j hj=>(uh HALL) j (by omega),fun _=>rfl⟩,_,rfl⟩
theorem eqb_len (ao bo:Option Addr) (n m ca cb:Nat) (w:World) (h:n≠m) :
  Calls Tryz.prog 36 #[.slice ao n ca,.slice bo m cb] w fun e w'=>e=.returned (.bool false)/\w'=w:=by
 have h1:((n:Int) == (m:Int))=false:=beq_eq_false_iff_ne.2 (by omega)
 go_enter Tryz.func36,Tryz.ntmps36
 go_wp2
 go_ret
 exact⟨rfl,rfl⟩
theorem eqb_nil (ao bo:Option Addr) (ca cb:Nat) (w:World) :
  Calls Tryz.prog 36 #[.slice ao 0 ca,.slice bo 0 cb] w fun e w'=>e=.returned (.bool true)/\w'=w:=by
 go_enter Tryz.func36,Tryz.ntmps36
 go_wp2
 refine wp_loop_rounds 1 ?_
 rw[rounds_succ]
 go_wp2
 go_ret
 exact⟨rfl,rfl⟩
theorem sb_ext {l m:List Sb} (hl:l.length=m.length) (h:∀ j,j < l.length->l.getD j sb0=m.getD j sb0):l=m:=by
 apply List.ext_getElem hl
 intro i h1 h2
 have:=h i h1
 rw[List.getD_eq_getElem?_getD,List.getD_eq_getElem?_getD,List.getElem?_eq_getElem h1,List.getElem?_eq_getElem h2]at this
 exact this
theorem eqb_any (va vb:Value) (l m:List Sb) (w:World) (ha:Sbs w va l) (hb:Sbs w vb m) (hmx:l.length<=1000000000) :
  Calls Tryz.prog 36 #[va,vb] w fun e w'=>(∃ b,e=.returned (.bool b)/\(b=true ↔ l=m))/\∃ k,w'=w.drewN k:=by
 obtain⟨ao,ca,rfl,_,ha⟩:=ha
 obtain⟨bo,cb,rfl,_,hb⟩:=hb
 by_cases hl:l.length=m.length
 ·rcases ha with rfl | ⟨ba,oa,rfl,hca⟩
  ·obtain rfl:m=[]:=List.length_eq_zero_iff.1 hl.symm
   refine (eqb_nil _ _ _ _ _).mono ?_
   rintro e w' ⟨rfl,rfl⟩
   exact⟨⟨true,rfl,by simp⟩,0,rfl⟩
  ·rcases hb with rfl | ⟨bb,ob,rfl,hcb⟩
   ·obtain rfl:l=[]:=List.length_eq_zero_iff.1 hl
    refine (eqb_nil _ _ _ _ _).mono ?_
    rintro e w' ⟨rfl,rfl⟩
    exact⟨⟨true,rfl,by simp⟩,0,rfl⟩
   ·rw[<- hl]
    refine (eqb_core ba oa bb ob ca cb l m l.length w rfl hl.symm hmx hca hcb).mono ?_
    rintro e w' ⟨⟨b,rfl,hbb⟩,k,rfl⟩
    exact⟨⟨b,rfl,hbb.trans ⟨fun h=>sb_ext hl h,fun h j _=>by rw[h]⟩⟩,k,rfl⟩
 ·refine (eqb_len ao bo l.length m.length ca cb w hl).mono ?_
  rintro e w' ⟨rfl,rfl⟩
  exact⟨⟨false,rfl,by constructor;(intro h;cases h);(intro h;exact absurd (by rw[h]) hl)⟩,0,rfl⟩
theorem Nms.below {w w':World} {v:Value} {l:List Int} (h:Nms w v l) (hb:Below w.heap.size w w'):Nms w' v l:=by
 obtain⟨ao,cap,h1,h2,h3⟩:=h
 refine⟨ao,cap,h1,h2,?_⟩
 rcases h3 with h3 | ⟨b,off,e,hc⟩
 ·exact .inl h3
 ·exact .inr ⟨b,off,e,fun j hj=>(hb.cell (p:=⟨b,off+j,none⟩) (cell_lt (hc j hj))).trans (hc j hj)⟩
theorem Txs.below {w w':World} {v:Value} {l:List ByteArray} (h:Txs w v l) (hb:Below w.heap.size w w'):Txs w' v l:=by
 obtain⟨ao,cap,h1,h2,h3⟩:=h
 refine⟨ao,cap,h1,h2,?_⟩
 rcases h3 with h3 | ⟨b,off,e,hc⟩
 ·exact .inl h3
 ·exact .inr ⟨b,off,e,fun j hj=>(hb.cell (p:=⟨b,off+j,none⟩) (cell_lt (hc j hj))).trans (hc j hj)⟩
theorem Sbs.below {w w':World} {v:Value} {l:List Sb} (h:Sbs w v l) (hb:Below w.heap.size w w'):Sbs w' v l:=by
 obtain⟨ao,cap,h1,h2,h3⟩:=h
 refine⟨ao,cap,h1,h2,?_⟩
 rcases h3 with h3 | ⟨b,off,e,hc⟩
 ·exact .inl h3
 ·refine .inr ⟨b,off,e,fun j hj=>?_⟩
  obtain⟨x1,x2,x3,x4,x5⟩:=hc j hj
  have hl:b < w.heap.size:=cell_lt x1
  exact⟨(hb.cell hl).trans x1,(hb.cell hl).trans x2,(hb.cell hl).trans x3,(hb.cell hl).trans x4,(hb.cell hl).trans x5⟩
theorem Wls.below {w w':World} {v:Value} {l:List Wl} (h:Wls w v l) (hb:Below w.heap.size w w'):Wls w' v l:=by
 obtain⟨ao,cap,h1,h2,h3⟩:=h
 refine⟨ao,cap,h1,h2,?_⟩
 rcases h3 with h3 | ⟨b,off,e,hc⟩
 ·exact .inl h3
 ·exact .inr ⟨b,off,e,fun j hj=>(hc j hj).below hb⟩
theorem tells_props {w:World} {va vb:Value} {l m:List Pr} (ha:Prp w va l) (hb:Prp w vb m) (hmx:l.length<=1000000000) (c:Bool) (hc:c=true ↔ l=m):Tells w 33 va vb c:=fun W hW=>by
 refine (eqp_any va vb l m W (ha.below hW) (hb.below hW) hmx).mono ?_
 rintro e w' ⟨⟨b,rfl,hbb⟩,k,rfl⟩
 obtain rfl:b=c:=Bool.eq_iff_iff.2 (hbb.trans hc.symm)
 exact⟨rfl,below_drewN (Below.refl _ _) k⟩
theorem tells_subs {w:World} {va vb:Value} {l m:List Sb} (ha:Sbs w va l) (hb:Sbs w vb m) (hmx:l.length<=1000000000) (c:Bool) (hc:c=true ↔ l=m):Tells w 36 va vb c:=fun W hW=>by
 refine (eqb_any va vb l m W (ha.below hW) (hb.below hW) hmx).mono ?_
 rintro e w' ⟨⟨b,rfl,hbb⟩,k,rfl⟩
 obtain rfl:b=c:=Bool.eq_iff_iff.2 (hbb.trans hc.symm)
 exact⟨rfl,below_drewN (Below.refl _ _) k⟩
theorem tells_wills {w:World} {va vb:Value} {l m:List Wl} (ha:Wls w va l) (hb:Wls w vb m) (hmx:l.length<=1000000000) (c:Bool) (hc:c=true ↔ l=m):Tells w 34 va vb c:=fun W hW=>by
 refine (eqws_any va vb l m W (ha.below hW) (hb.below hW) hmx).mono ?_
 rintro e w' ⟨⟨b,rfl,hbb⟩,hb'⟩
 obtain rfl:b=c:=Bool.eq_iff_iff.2 (hbb.trans hc.symm)
 exact⟨rfl,hb'⟩
theorem tells_strs {w:World} {va vb:Value} {l m:List ByteArray} (ha:Txs w va l) (hb:Txs w vb m) (c:Bool) (hc:c=true ↔ l=m):Tells w 35 va vb c:=fun W hW=>by
 refine (eqs_any va vb l m W (ha.below hW) (hb.below hW)).mono ?_
 rintro e w' ⟨rfl,k,rfl⟩
 exact⟨by rw[show c=decide (l=m) from Bool.eq_iff_iff.2 (hc.trans (decide_eq_true_iff).symm)],below_drewN (Below.refl _ _) k⟩
theorem tells_nums {w:World} {va vb:Value} {l m:List Int} (ha:Nms w va l) (hb:Nms w vb m) (c:Bool) (hc:c=true ↔ l=m):Tells w 37 va vb c:=fun W hW=>by
 refine (eqn_any va vb l m W (ha.below hW) (hb.below hW)).mono ?_
 rintro e w' ⟨rfl,k,rfl⟩
 exact⟨by rw[show c=decide (l=m) from Bool.eq_iff_iff.2 (hc.trans (decide_eq_true_iff).symm)],below_drewN (Below.refl _ _) k⟩
structure RPk (w:World) (p:Pkv) (P:Pa):Prop where
 sc:p.kind=P.kind/\p.dup=P.dup/\p.qos=P.qos/\p.retain=P.retain/\p.topic=P.topic/\p.id=P.id/\p.payload=P.payload/\p.client=P.client/\p.clean=P.clean/\p.keep=P.keep/\p.code=P.code/\p.session=P.session
 props:Prp w p.props.val P.props
 wills:Wls w p.wills.val P.wills
 user:Txs w p.user.val P.user
 pass:Txs w p.pass.val P.pass
 subs:Sbs w p.subs.val P.subs
 filters:Txs w p.filters.val P.filters
 codes:Nms w p.codes.val P.codes
theorem RPk.below {w w':World} {p:Pkv} {P:Pa} (h:RPk w p P) (hb:Below w.heap.size w w'):RPk w' p P :=
 ⟨h.sc,h.props.below hb,h.wills.below hb,h.user.below hb,h.pass.below hb,h.subs.below hb,h.filters.below hb,h.codes.below hb⟩
structure Small (P:Pa):Prop where
 props:P.props.length<=1000000000
 wills:P.wills.length<=1000000000
 subs:P.subs.length<=1000000000
theorem eqpk_same (p q:Pkv) (P:Pa) (w:World) (hp:RPk w p P) (hq:RPk w q P) (hs:Small P) :
  Calls Tryz.prog 10 #[p.val,q.val] w fun e w'=>e=.returned (.bool true)/\Below w.heap.size w w':=by
 obtain⟨x0,x1,x2,x3,x4,x5,x6,x7,x8,x9,x10,x11⟩:=hp.sc
 obtain⟨y0,y1,y2,y3,y4,y5,y6,y7,y8,y9,y10,y11⟩:=hq.sc
 exact eqpk_yes _ _ _ _ _ _ _ _ _ _ _ _ _ _ _ _ _ _ _ _ _ _ _ _ _ _ _ _ _ _ _ _ _ _ _ _ _ _ w
  (by rw[x0,y0];simp) (by rw[x1,y1];simp) (by rw[x2,y2];simp) (by rw[x3,y3];simp) (by rw[x4,y4];simp) (by rw[x5,y5];simp) (by rw[x6,y6];simp)
  (tells_props hp.props hq.props hs.props true (by simp)) (by rw[x7,y7];simp) (by rw[x8,y8];simp) (by rw[x9,y9];simp) (tells_wills hp.wills hq.wills hs.wills true (by simp))
  (tells_strs hp.user hq.user true (by simp)) (tells_strs hp.pass hq.pass true (by simp)) (by rw[x10,y10];simp) (by rw[x11,y11];simp) (tells_subs hp.subs hq.subs hs.subs true (by simp)) (tells_strs hp.filters hq.filters true (by simp)) (tells_nums hp.codes hq.codes true (by simp))
theorem wpList_append_run (w:World) {ops:Array Oper} {rest:List Oper} {o:Oper} {a:Act} {Q:Exit->Act->World->Prop} {Z:Value->World->Prop} (hgd:o.guard=none) (s x:Operand) (t u:TypeId)
  (ho:o.op=.call { callee:=.builtin .append,args:=#[s,x],argTypes:=#[t,u] }) (v vx:Value) (hs:a.eval s=v) (hx:a.eval x=vx)
  (hr:∃ v' w',(Builtin.append_ #[t,u] o.type #[v,vx]).run Tryz.prog w=.ok v' w'/\Z v' w')
  (h:∀ v' w',Z v' w'->wpList Tryz.prog ops Q rest (a.put o.dst v') w'):wpList Tryz.prog ops Q (o :: rest) a w:=by
 refine wpList_plain hgd fun K hK=>?_
 obtain⟨v',w',hr,h2⟩:=hr
 unfold Oper.wp execOp
 simp only[ho,resolve,invoke,builtin,Sem.run_bind,Sem.run_pure,Result.andThen_ok,List.map_toArray,List.map_cons,List.map_nil,hs,hx,hr]
 exact hK _ _ (h v' w' h2)
structure SF (B:Nat) (T:Nat->TypeId->Prop) (w w':World):Prop where
 os:w'.os=w.os
 tape:w'.tape=w.tape
 output:w'.output=w.output
 size:w.heap.size<=w'.heap.size
 low:∀ k:Nat,k < B->w'.heap[k]?=w.heap[k]?
 same:∀ (k:Nat) (cur:Array Value) (e:TypeId),w.heap[k]?=some (Obj.cells cur e (0,0))->¬ T k e->w'.heap[k]?=some (Obj.cells cur e (0,0))
 shp:∀ (k:Nat) (cur:Array Value) (e:TypeId),w.heap[k]?=some (Obj.cells cur e (0,0))->∃ cur',w'.heap[k]?=some (Obj.cells cur' e (0,0))/\cur'.size=cur.size
theorem SF.refl (B:Nat) (T:Nat->TypeId->Prop) (w:World):SF B T w w:=⟨rfl,rfl,rfl,Nat.le_refl _,fun _ _=>rfl,fun _ _ _ h _=>h,fun _ cur _ h=>⟨cur,h,rfl⟩⟩
theorem SF.trans {B:Nat} {T:Nat->TypeId->Prop} {a b c:World} (h:SF B T a b) (k:SF B T b c):SF B T a c :=
 ⟨k.os.trans h.os,k.tape.trans h.tape,k.output.trans h.output,Nat.le_trans h.size k.size,fun i hi=>(k.low i hi).trans (h.low i hi),fun i cur e h1 h2=>k.same i cur e (h.same i cur e h1 h2) h2,fun i cur e h1=>by
  obtain⟨cur1,h2,h3⟩:=h.shp i cur e h1
  obtain⟨cur2,h4,h5⟩:=k.shp i cur1 e h2
  exact⟨cur2,h4,h5.trans h3⟩⟩
theorem SF.weak {B:Nat} {T T':Nat->TypeId->Prop} {a b:World} (h:SF B T a b) (ht:∀ k e,T k e->T' k e):SF B T' a b:=⟨h.os,h.tape,h.output,h.size,h.low,fun k cur e h1 h2=>h.same k cur e h1 (fun x=>h2 (ht k e x)),h.shp⟩
theorem SF.below {B:Nat} {T:Nat->TypeId->Prop} {a b:World} (h:SF B T a b):Below B a b:=⟨h.os,h.tape,h.output,h.size,h.low⟩
theorem SF.grow {B:Nat} {T:Nat->TypeId->Prop} {a b:World} (hs:b.heap.size ≥ a.heap.size) (h1:b.os=a.os) (h2:b.tape=a.tape) (h3:b.output=a.output) (hB:B<=a.heap.size) (h:∀ k,k < a.heap.size->b.heap[k]?=a.heap[k]?):SF B T a b :=
 ⟨h1,h2,h3,hs,fun k hk=>h k (by omega),fun k cur e hk _=>(h k (Array.getElem?_eq_some_iff.1 hk).1).trans hk,fun k cur e hk=>⟨cur,(h k (Array.getElem?_eq_some_iff.1 hk).1).trans hk,rfl⟩⟩
theorem SF.bel {B:Nat} {T:Nat->TypeId->Prop} {a b:World} (h:Below a.heap.size a b) (hB:B<=a.heap.size):SF B T a b:=SF.grow h.size h.os h.tape h.output hB h.block
theorem SF.set {B:Nat} {T:Nat->TypeId->Prop} {a b:World} (h:SF B T a b) (g j:Nat) (u:Value) (hg:B<=g) (cur:Array Value) (e:TypeId) (hb:b.heap[g]?=some (Obj.cells cur e (0,0))) (ht:T g e):SF B T a (b.setCell ⟨g,j,none⟩ u) :=
 h.trans ⟨rfl,rfl,rfl,by simp[World.setCell],fun k hk=>Below.heap_setCell _ _ _ _ (by show k≠g;omega),fun k cur' e' h1 h2=>by
  by_cases hk:k=g
  ·subst hk
   rw[hb]at h1
   cases h1
   exact absurd ht h2
  ·exact (Below.heap_setCell _ _ _ _ hk).trans h1,fun k cur' e' h1=>by
  by_cases hk:k=g
  ·subst hk
   refine⟨cur'.setIfInBounds j u,?_,by simp⟩
   unfold World.setCell
   simp[Array.getElem?_modify,h1]
  ·exact⟨cur',(Below.heap_setCell _ _ _ _ hk).trans h1,rfl⟩⟩
def OwnE (w:World) (B:Nat) (e:TypeId) (s:Nat) (v:Value) (n:Nat):Prop:=∃ xs,w.ownsRow B e s v n xs
theorem OwnE.sf {w w':World} {B:Nat} {e:TypeId} {s:Nat} {v:Value} {n:Nat} {T:Nat->TypeId->Prop} (h:OwnE w B e s v n) (k:SF B T w w'):OwnE w' B e s v n:=by
 obtain⟨xs,h1,h2⟩:=h
 rcases h2 with h2 | ⟨g,cap,cur,rfl,hB,hg,h3,h4,h5,h6⟩
 ·exact⟨xs,h1,.inl h2⟩
 ·obtain⟨cur',k1,k2⟩:=k.shp g cur e hg
  refine⟨cur'.toList.take (n * s),?_,.inr ⟨g,cap,cur',rfl,hB,k1,h3,h4,k2.trans h5,rfl⟩⟩
  rw[List.length_take,Array.length_toList,k2,h5]
  exact Nat.min_eq_left (Nat.mul_le_mul_right _ h3)
theorem owns_sf {w w':World} {B:Nat} {e:TypeId} {s:Nat} {v:Value} {n:Nat} {xs:List Value} {T:Nat->TypeId->Prop} (h:w.ownsRow B e s v n xs) (k:SF B T w w') (ht:∀ g,v.ownBlock=some g->¬ T g e):w'.ownsRow B e s v n xs:=by
 refine⟨h.1,?_⟩
 rcases h.2 with h2 | ⟨g,cap,cur,rfl,hB,hg,rest⟩
 ·exact .inl h2
 ·exact .inr ⟨g,cap,cur,rfl,hB,k.same g cur e hg (ht g rfl),rest⟩
theorem OwnE.cell {w:World} {B:Nat} {e:TypeId} {s g n cap:Nat} (h:OwnE w B e s (.slice (some ⟨g,0,none⟩) n cap) n) (i:Nat) (hi:i < n * s):(∃ v,w.cell? ⟨g,i,none⟩=some v)/\w.frozen? ⟨g,i,none⟩=false:=by
 obtain⟨xs,h⟩:=h
 have hl:xs.length=n * s:=h.1
 exact⟨⟨_,by rw[h.cellAt i (by omega),List.getElem?_eq_getElem (by omega)]⟩,h.frozenAt i⟩
theorem OwnE.blk {w:World} {B:Nat} {e:TypeId} {s g n cap:Nat} (h:OwnE w B e s (.slice (some ⟨g,0,none⟩) n cap) n):B<=g/\∃ cur,w.heap[g]?=some (Obj.cells cur e (0,0)):=by
 obtain⟨xs,h1,h2⟩:=h
 rcases h2 with⟨h2,_⟩ | ⟨g',cap',cur,e',hB,hg,_⟩
 ·cases h2
 ·cases e'
  exact⟨hB,cur,hg⟩
theorem app_sf {B:Nat} {T:Nat->TypeId->Prop} (w:World) (t ty e:TypeId) (i:TypeInfo) (z:Value) (size bytes:Nat) (ht:Tryz.prog.underlying t=some (.slice e)) (hi:Tryz.prog.info? e=some i) (hz:i.zero=some z) (hsize:i.size=size) (hby:i.bytes=bytes) (hzs:z.cells.size=size) (hsz:0 < size)
  (v:Value) (n:Nat) (hown:OwnE w B e size v n) (a:Addr) (c:Nat) (news:List Value) (hl:news.length=1 * size) (hnews:∀ j u,news[j]?=some u->w.cell? (a.add j)=some u) (h1:∀ u ∈ news,u.oneCell'=true) (hn:n<=1000000) (hb:bytes<=1000) (hB:B<=w.heap.size) (hT:∀ g,v.ownBlock=some g->T g e) :
  ∃ v' w',(Builtin.append_ #[t,t] ty #[v,.slice (some a) 1 c]).run Tryz.prog w=.ok v' w'/\SF B T w w':=by
 subst hsize
 subst hby
 have hbytes:(n+1) * i.bytes<=140737488355328:=Nat.le_trans (Nat.mul_le_mul (show n+1<=1000001 by omega) hb) (by decide)
 obtain⟨xs,hown⟩:=hown
 rcases hown.2 with⟨rfl,rfl⟩ | ⟨g,cap,cur,rfl,hbg,hg,hnc,hcm,hcs,htake⟩
 ·obtain⟨v',w',k1,k2,k3,_⟩:=run_append_own (P:=Tryz.prog) (w:=w) B t ty e i z i.size i.bytes ht hi hz rfl rfl hzs hsz _ 0 xs hown a 1 c news hl hnews h1 (by unfold maxLen;omega) hbytes hB
  exact⟨v',w',k1,SF.grow k3.size k3.os k3.tape k3.output hB (fun k hk=>k3.block k hk (by simp[Value.ownBlock]))⟩
 ·by_cases hroom:n+1<=cap
  ·have hfit:n * i.size+news.length<=cur.size:=by rw[hl,hcs,<- Nat.add_mul];exact Nat.mul_le_mul_right _ hroom
   have hr:=run_append_room (P:=Tryz.prog) w t ty e i ht hi g n cap cur hg a 1 c news hl hnews h1 hroom hfit
   refine⟨_,_,hr,⟨rfl,rfl,rfl,by simp,fun k hk=>setRow_other w g k _ (by omega),fun k cur' e' h3 h4=>?_,fun k cur' e' h3=>?_⟩⟩
   ·by_cases hk:k=g
    ·subst hk
     rw[hg]at h3
     cases h3
     exact absurd (hT _ rfl) h4
    ·exact (setRow_other w g k _ hk).trans h3
   ·by_cases hk:k=g
    ·subst hk
     rw[hg]at h3
     cases h3
     refine⟨_,setRow_heap w k cur _ e _ hg,?_⟩
     simp only[List.size_toArray,List.length_append,List.length_take,List.length_drop,Array.length_toList]
     omega
    ·exact⟨cur',(setRow_other w g k _ hk).trans h3,rfl⟩
  ·have holds:∀ j u,xs[j]?=some u->w.cell? ((⟨g,0,none⟩:Addr).add j)=some u:=hown.cells (g:=g) rfl
   have hr:=run_append_grow (P:=Tryz.prog) w t ty e i z ht hi hz ⟨g,0,none⟩ n cap xs hown.1 holds a 1 c news hl hnews (by omega) (by omega) (growslice_fits (by omega) hbytes)
   exact⟨_,_,hr,SF.grow (by simp) rfl rfl rfl hB (fun k hk=>heap_alloc_old w.drew _ hk)⟩
def SFg (B:Nat) (T:Nat->TypeId->Prop) (w w':World) (g:Nat) (e:TypeId):Prop:=SF B T w w'/\B<=g/\T g e/\∃ cur,w'.heap[g]?=some (Obj.cells cur e (0,0))
theorem SFg.set {B:Nat} {T:Nat->TypeId->Prop} {w w':World} {g:Nat} {e:TypeId} (h:SFg B T w w' g e) (j:Nat) (u:Value):SFg B T w (w'.setCell ⟨g,j,none⟩ u) g e:=by
 obtain⟨h1,h2,h3,cur,h4⟩:=h
 refine⟨h1.set g j u h2 cur e h4 h3,h2,h3,cur.setIfInBounds j u,?_⟩
 unfold World.setCell
 simp[Array.getElem?_modify,h4]
theorem numbers_sp (B:Nat) (v:Value) (n:Nat) (w:World) (hB:B<=w.heap.size) (hn:n<=1000000) (h:OwnE w B 3 1 v n):Calls Tryz.prog 42 #[v] w fun e w'=>e=.returned (.tuple #[])/\SF B (fun _ t=>t=3) w w':=by
 obtain⟨i0,hi,hz0,hz1,hz2⟩:=info_parts infoInt
 have hv:(v=.slice none 0 0/\n=0)\/∃ g cap,v=.slice (some ⟨g,0,none⟩) n cap:=by
  obtain⟨xs,h⟩:=h
  rcases h.2 with h1 | ⟨g,cap,_,h1,_⟩
  ·exact .inl h1
  ·exact .inr ⟨g,cap,h1⟩
 rcases hv with⟨rfl,rfl⟩ | ⟨g,cap,rfl⟩
 ·clear h
  go_enter Tryz.func42,Tryz.ntmps42
  go_wp2
  refine wp_loop_rounds 1 ?_
  rw[rounds_succ]
  have HAPP:Hid (∀ ty,∃ v' w',(Builtin.append_ #[27,27] ty #[.slice none 0 0,.slice (some ⟨w.heap.size,0,none⟩) 1 1]).run Tryz.prog (w.alloc (.cells #[.int .i64 5] 3))=.ok v' w'/\SF B (fun _ t=>t=3) w w'):=fun ty=>by
   obtain⟨v',w',h1,h2⟩:=app_sf (B:=B) (T:=fun _ t=>t=3) (w.alloc (.cells #[.int .i64 5] 3)) 27 ty 3 i0 _ 1 8 Tryz.underlying27 hi hz0 hz1 hz2 rfl (by decide) (.slice none 0 0) 0 ⟨[],World.ownsRow_nil _ _ _ _⟩ ⟨w.heap.size,0,none⟩ 1 [.int .i64 5] rfl (one_cell _ _ _) (one_one _ _) hn (by decide) (by simp;omega) (fun _ _=>rfl)
   exact⟨v',w',h1,(SF.bel (bal _ _) hB).trans h2⟩
  go_wp2_with (first
   | (at_builtin;refine wpList_append_run _ (Z:=fun _ w'=>SF B (fun _ t=>t=3) w w') rfl _ _ 27 27 rfl _ _ rfl rfl ((uh HAPP) _) ?_)
   | go_in)
  intro v' w1 hsf
  have HSF:=zh hsf
  clear hsf HAPP
  go_wp2
  go_end0
  exact⟨rfl,uh HSF⟩
 ·have HO:=zh h
  have hgb:=h.blk
  clear h
  go_enter Tryz.func42,Tryz.ntmps42
  go_wp2
  go_loopw [2] (fun i wr=>∃ k:Nat,k<=n/\i=.int .i64 k/\Hid (SF B (fun _ t=>t=3) w wr)) (fun i _=>n - (intOf i).toNat)
  case atStart=>exact⟨0,Nat.zero_le _,rfl,SF.refl _ _ _⟩
  case round =>
   obtain⟨k,hk,rfl,HSF⟩:=hrel
   have HOr:=zh ((uh HO).sf (uh HSF))
   by_cases hlt:k < n
   ·have HG:Hid (SFg B (fun _ t=>t=3) w wr g 3):=⟨uh HSF,(uh HOr).blk.1,rfl,(uh HOr).blk.2⟩
    obtain⟨⟨v0,c0⟩,f0⟩:=(uh HOr).cell (k) (by omega)
    go_wp2
    go_roundw
    case rel=>exact⟨k+1,by omega,by go_num,((uh HG).set _ _).1⟩
    case measure=>simp[intOf];omega
   ·have HAPP:Hid (∀ ty,∃ v' w',(Builtin.append_ #[27,27] ty #[.slice (some ⟨g,0,none⟩) n cap,.slice (some ⟨wr.heap.size,0,none⟩) 1 1]).run Tryz.prog (wr.alloc (.cells #[.int .i64 5] 3))=.ok v' w'/\SF B (fun _ t=>t=3) w w'):=fun ty=>by
     obtain⟨xs,hx⟩:=uh HOr
     obtain⟨v',w',h1,h2⟩:=app_sf (B:=B) (T:=fun _ t=>t=3) (wr.alloc (.cells #[.int .i64 5] 3)) 27 ty 3 i0 _ 1 8 Tryz.underlying27 hi hz0 hz1 hz2 rfl (by decide) (.slice (some ⟨g,0,none⟩) n cap) n ⟨xs,hx.alloc _⟩ ⟨wr.heap.size,0,none⟩ 1 [.int .i64 5] rfl (one_cell _ _ _) (one_one _ _) hn (by decide) (by have:=(uh HSF).size;simp;omega) (fun _ _=>rfl)
     exact⟨v',w',h1,((uh HSF).trans (SF.bel (bal _ _) (Nat.le_trans hB (uh HSF).size))).trans h2⟩
    clear HOr
    go_wp2_with (first
     | (at_builtin;refine wpList_append_run _ (Z:=fun _ w'=>SF B (fun _ t=>t=3) w w') rfl _ _ 27 27 rfl _ _ rfl rfl ((uh HAPP) _) ?_)
     | go_in)
    intro v' w1 hsf
    have HSF1:=zh hsf
    clear hsf HAPP
    go_wp2
    go_end0
    exact⟨rfl,uh HSF1⟩
theorem strings_sp (B:Nat) (v:Value) (n:Nat) (w:World) (hB:B<=w.heap.size) (hn:n<=1000000) (h:OwnE w B 9 1 v n):Calls Tryz.prog 40 #[v] w fun e w'=>e=.returned (.tuple #[])/\SF B (fun _ t=>t=9) w w':=by
 obtain⟨i0,hi,hz0,hz1,hz2⟩:=info_parts infoStr
 have hv:(v=.slice none 0 0/\n=0)\/∃ g cap,v=.slice (some ⟨g,0,none⟩) n cap:=by
  obtain⟨xs,h⟩:=h
  rcases h.2 with h1 | ⟨g,cap,_,h1,_⟩
  ·exact .inl h1
  ·exact .inr ⟨g,cap,h1⟩
 rcases hv with⟨rfl,rfl⟩ | ⟨g,cap,rfl⟩
 ·clear h
  go_enter Tryz.func40,Tryz.ntmps40
  go_wp2
  refine wp_loop_rounds 1 ?_
  rw[rounds_succ]
  have HAPP:Hid (∀ ty,∃ v' w',(Builtin.append_ #[25,25] ty #[.slice none 0 0,.slice (some ⟨w.heap.size,0,none⟩) 1 1]).run Tryz.prog (w.alloc (.cells #[.string ⟨#[]⟩] 9))=.ok v' w'/\SF B (fun _ t=>t=9) w w'):=fun ty=>by
   obtain⟨v',w',h1,h2⟩:=app_sf (B:=B) (T:=fun _ t=>t=9) (w.alloc (.cells #[.string ⟨#[]⟩] 9)) 25 ty 9 i0 _ 1 16 Tryz.underlying25 hi hz0 hz1 hz2 rfl (by decide) (.slice none 0 0) 0 ⟨[],World.ownsRow_nil _ _ _ _⟩ ⟨w.heap.size,0,none⟩ 1 [.string ⟨#[]⟩] rfl (one_cell _ _ _) (one_str _) hn (by decide) (by simp;omega) (fun _ _=>rfl)
   exact⟨v',w',h1,(SF.bel (bal _ _) hB).trans h2⟩
  go_wp2_with (first
   | (at_builtin;refine wpList_append_run _ (Z:=fun _ w'=>SF B (fun _ t=>t=9) w w') rfl _ _ 25 25 rfl _ _ rfl rfl ((uh HAPP) _) ?_)
   | go_in)
  intro v' w1 hsf
  have HSF:=zh hsf
  clear hsf HAPP
  go_wp2
  go_end0
  exact⟨rfl,uh HSF⟩
 ·have HO:=zh h
  have hgb:=h.blk
  clear h
  go_enter Tryz.func40,Tryz.ntmps40
  go_wp2
  go_loopw [2] (fun i wr=>∃ k:Nat,k<=n/\i=.int .i64 k/\Hid (SF B (fun _ t=>t=9) w wr)) (fun i _=>n - (intOf i).toNat)
  case atStart=>exact⟨0,Nat.zero_le _,rfl,SF.refl _ _ _⟩
  case round =>
   obtain⟨k,hk,rfl,HSF⟩:=hrel
   have HOr:=zh ((uh HO).sf (uh HSF))
   by_cases hlt:k < n
   ·have HG:Hid (SFg B (fun _ t=>t=9) w wr g 9):=⟨uh HSF,(uh HOr).blk.1,rfl,(uh HOr).blk.2⟩
    obtain⟨⟨v0,c0⟩,f0⟩:=(uh HOr).cell (k) (by omega)
    go_wp2
    go_roundw
    case rel=>exact⟨k+1,by omega,by go_num,((uh HG).set _ _).1⟩
    case measure=>simp[intOf];omega
   ·have HAPP:Hid (∀ ty,∃ v' w',(Builtin.append_ #[25,25] ty #[.slice (some ⟨g,0,none⟩) n cap,.slice (some ⟨wr.heap.size,0,none⟩) 1 1]).run Tryz.prog (wr.alloc (.cells #[.string ⟨#[]⟩] 9))=.ok v' w'/\SF B (fun _ t=>t=9) w w'):=fun ty=>by
     obtain⟨xs,hx⟩:=uh HOr
     obtain⟨v',w',h1,h2⟩:=app_sf (B:=B) (T:=fun _ t=>t=9) (wr.alloc (.cells #[.string ⟨#[]⟩] 9)) 25 ty 9 i0 _ 1 16 Tryz.underlying25 hi hz0 hz1 hz2 rfl (by decide) (.slice (some ⟨g,0,none⟩) n cap) n ⟨xs,hx.alloc _⟩ ⟨wr.heap.size,0,none⟩ 1 [.string ⟨#[]⟩] rfl (one_cell _ _ _) (one_str _) hn (by decide) (by have:=(uh HSF).size;simp;omega) (fun _ _=>rfl)
     exact⟨v',w',h1,((uh HSF).trans (SF.bel (bal _ _) (Nat.le_trans hB (uh HSF).size))).trans h2⟩
    clear HOr
    go_wp2_with (first
     | (at_builtin;refine wpList_append_run _ (Z:=fun _ w'=>SF B (fun _ t=>t=9) w w') rfl _ _ 25 25 rfl _ _ rfl rfl ((uh HAPP) _) ?_)
     | go_in)
    intro v' w1 hsf
    have HSF1:=zh hsf
    clear hsf HAPP
    go_wp2
    go_end0
    exact⟨rfl,uh HSF1⟩
theorem props_sp (B:Nat) (v:Value) (n:Nat) (w:World) (hB:B<=w.heap.size) (hn:n<=1000000) (h:OwnE w B 109 4 v n):Calls Tryz.prog 38 #[v] w fun e w'=>e=.returned (.tuple #[])/\SF B (fun _ t=>t=109) w w':=by
 obtain⟨i0,hi,hz0,hz1,hz2⟩:=info_parts Tryz.infoProp
 have hv:(v=.slice none 0 0/\n=0)\/∃ g cap,v=.slice (some ⟨g,0,none⟩) n cap:=by
  obtain⟨xs,h⟩:=h
  rcases h.2 with h1 | ⟨g,cap,_,h1,_⟩
  ·exact .inl h1
  ·exact .inr ⟨g,cap,h1⟩
 rcases hv with⟨rfl,rfl⟩ | ⟨g,cap,rfl⟩
 ·clear h
  go_enter Tryz.func38,Tryz.ntmps38
  go_wp2
  refine wp_loop_rounds 1 ?_
  rw[rounds_succ]
  have HAPP:Hid (∀ ty,∃ v' w',(Builtin.append_ #[23,23] ty #[.slice none 0 0,.slice (some ⟨w.heap.size,0,none⟩) 1 1]).run Tryz.prog (w.alloc (.cells #[.int .i64 0,.int .i64 0,.string ⟨#[]⟩,.string ⟨#[]⟩] 109))=.ok v' w'/\SF B (fun _ t=>t=109) w w'):=fun ty=>by
   obtain⟨v',w',h1,h2⟩:=app_sf (B:=B) (T:=fun _ t=>t=109) (w.alloc (.cells #[.int .i64 0,.int .i64 0,.string ⟨#[]⟩,.string ⟨#[]⟩] 109)) 23 ty 109 i0 _ 4 48 Tryz.underlying23 hi hz0 hz1 hz2 rfl (by decide) (.slice none 0 0) 0 ⟨[],World.ownsRow_nil _ _ _ _⟩ ⟨w.heap.size,0,none⟩ 1 [.int .i64 0,.int .i64 0,.string ⟨#[]⟩,.string ⟨#[]⟩] rfl (four_cell _ _ _ _ _ _) (four_one _ _ _ _) hn (by decide) (by simp;omega) (fun _ _=>rfl)
   exact⟨v',w',h1,(SF.bel (bal _ _) hB).trans h2⟩
  go_wp2_with (first
   | (at_builtin;refine wpList_append_run _ (Z:=fun _ w'=>SF B (fun _ t=>t=109) w w') rfl _ _ 23 23 rfl _ _ rfl rfl ((uh HAPP) _) ?_)
   | go_in)
  intro v' w1 hsf
  have HSF:=zh hsf
  clear hsf HAPP
  go_wp2
  go_end0
  exact⟨rfl,uh HSF⟩
 ·have HO:=zh h
  have hgb:=h.blk
  clear h
  go_enter Tryz.func38,Tryz.ntmps38
  go_wp2
  go_loopw [2] (fun i wr=>∃ k:Nat,k<=n/\i=.int .i64 k/\Hid (SF B (fun _ t=>t=109) w wr)) (fun i _=>n - (intOf i).toNat)
  case atStart=>exact⟨0,Nat.zero_le _,rfl,SF.refl _ _ _⟩
  case round =>
   obtain⟨k,hk,rfl,HSF⟩:=hrel
   have HOr:=zh ((uh HO).sf (uh HSF))
   by_cases hlt:k < n
   ·have HG:Hid (SFg B (fun _ t=>t=109) w wr g 109):=⟨uh HSF,(uh HOr).blk.1,rfl,(uh HOr).blk.2⟩
    obtain⟨⟨v0,c0⟩,f0⟩:=(uh HOr).cell (k * 4) (by omega)
    obtain⟨⟨v1,c1⟩,f1⟩:=(uh HOr).cell (k * 4+1) (by omega)
    obtain⟨⟨v2,c2⟩,f2⟩:=(uh HOr).cell (k * 4+2) (by omega)
    obtain⟨⟨v3,c3⟩,f3⟩:=(uh HOr).cell (k * 4+3) (by omega)
    go_wp2
    go_roundw
    case rel=>exact⟨k+1,by omega,by go_num,(((((uh HG).set _ _).set _ _).set _ _).set _ _).1⟩
    case measure=>simp[intOf];omega
   ·have HAPP:Hid (∀ ty,∃ v' w',(Builtin.append_ #[23,23] ty #[.slice (some ⟨g,0,none⟩) n cap,.slice (some ⟨wr.heap.size,0,none⟩) 1 1]).run Tryz.prog (wr.alloc (.cells #[.int .i64 0,.int .i64 0,.string ⟨#[]⟩,.string ⟨#[]⟩] 109))=.ok v' w'/\SF B (fun _ t=>t=109) w w'):=fun ty=>by
     obtain⟨xs,hx⟩:=uh HOr
     obtain⟨v',w',h1,h2⟩:=app_sf (B:=B) (T:=fun _ t=>t=109) (wr.alloc (.cells #[.int .i64 0,.int .i64 0,.string ⟨#[]⟩,.string ⟨#[]⟩] 109)) 23 ty 109 i0 _ 4 48 Tryz.underlying23 hi hz0 hz1 hz2 rfl (by decide) (.slice (some ⟨g,0,none⟩) n cap) n ⟨xs,hx.alloc _⟩ ⟨wr.heap.size,0,none⟩ 1 [.int .i64 0,.int .i64 0,.string ⟨#[]⟩,.string ⟨#[]⟩] rfl (four_cell _ _ _ _ _ _) (four_one _ _ _ _) hn (by decide) (by have:=(uh HSF).size;simp;omega) (fun _ _=>rfl)
     exact⟨v',w',h1,((uh HSF).trans (SF.bel (bal _ _) (Nat.le_trans hB (uh HSF).size))).trans h2⟩
    clear HOr
    go_wp2_with (first
     | (at_builtin;refine wpList_append_run _ (Z:=fun _ w'=>SF B (fun _ t=>t=109) w w') rfl _ _ 23 23 rfl _ _ rfl rfl ((uh HAPP) _) ?_)
     | go_in)
    intro v' w1 hsf
    have HSF1:=zh hsf
    clear hsf HAPP
    go_wp2
    go_end0
    exact⟨rfl,uh HSF1⟩
theorem subs_sp (B:Nat) (v:Value) (n:Nat) (w:World) (hB:B<=w.heap.size) (hn:n<=1000000) (h:OwnE w B 114 5 v n):Calls Tryz.prog 41 #[v] w fun e w'=>e=.returned (.tuple #[])/\SF B (fun _ t=>t=114) w w':=by
 obtain⟨i0,hi,hz0,hz1,hz2⟩:=info_parts infoSub
 have hv:(v=.slice none 0 0/\n=0)\/∃ g cap,v=.slice (some ⟨g,0,none⟩) n cap:=by
  obtain⟨xs,h⟩:=h
  rcases h.2 with h1 | ⟨g,cap,_,h1,_⟩
  ·exact .inl h1
  ·exact .inr ⟨g,cap,h1⟩
 rcases hv with⟨rfl,rfl⟩ | ⟨g,cap,rfl⟩
 ·clear h
  go_enter Tryz.func41,Tryz.ntmps41
  go_wp2
  refine wp_loop_rounds 1 ?_
  rw[rounds_succ]
  have HAPP:Hid (∀ ty,∃ v' w',(Builtin.append_ #[26,26] ty #[.slice none 0 0,.slice (some ⟨w.heap.size,0,none⟩) 1 1]).run Tryz.prog (w.alloc (.cells #[.string ⟨#[]⟩,.int .i64 0,.bool false,.bool false,.int .i64 0] 114))=.ok v' w'/\SF B (fun _ t=>t=114) w w'):=fun ty=>by
   obtain⟨v',w',h1,h2⟩:=app_sf (B:=B) (T:=fun _ t=>t=114) (w.alloc (.cells #[.string ⟨#[]⟩,.int .i64 0,.bool false,.bool false,.int .i64 0] 114)) 26 ty 114 i0 _ 5 40 Tryz.underlying26 hi hz0 hz1 hz2 rfl (by decide) (.slice none 0 0) 0 ⟨[],World.ownsRow_nil _ _ _ _⟩ ⟨w.heap.size,0,none⟩ 1 [.string ⟨#[]⟩,.int .i64 0,.bool false,.bool false,.int .i64 0] rfl (five_cell _ _ _ _ _ _ _) (five_one ⟨⟨#[]⟩,0,false,false,0⟩) hn (by decide) (by simp;omega) (fun _ _=>rfl)
   exact⟨v',w',h1,(SF.bel (bal _ _) hB).trans h2⟩
  go_wp2_with (first
   | (at_builtin;refine wpList_append_run _ (Z:=fun _ w'=>SF B (fun _ t=>t=114) w w') rfl _ _ 26 26 rfl _ _ rfl rfl ((uh HAPP) _) ?_)
   | go_in)
  intro v' w1 hsf
  have HSF:=zh hsf
  clear hsf HAPP
  go_wp2
  go_end0
  exact⟨rfl,uh HSF⟩
 ·have HO:=zh h
  have hgb:=h.blk
  clear h
  go_enter Tryz.func41,Tryz.ntmps41
  go_wp2
  go_loopw [2] (fun i wr=>∃ k:Nat,k<=n/\i=.int .i64 k/\Hid (SF B (fun _ t=>t=114) w wr)) (fun i _=>n - (intOf i).toNat)
  case atStart=>exact⟨0,Nat.zero_le _,rfl,SF.refl _ _ _⟩
  case round =>
   obtain⟨k,hk,rfl,HSF⟩:=hrel
   have HOr:=zh ((uh HO).sf (uh HSF))
   by_cases hlt:k < n
   ·have HG:Hid (SFg B (fun _ t=>t=114) w wr g 114):=⟨uh HSF,(uh HOr).blk.1,rfl,(uh HOr).blk.2⟩
    obtain⟨⟨v0,c0⟩,f0⟩:=(uh HOr).cell (k * 5) (by omega)
    obtain⟨⟨v1,c1⟩,f1⟩:=(uh HOr).cell (k * 5+1) (by omega)
    obtain⟨⟨v2,c2⟩,f2⟩:=(uh HOr).cell (k * 5+2) (by omega)
    obtain⟨⟨v3,c3⟩,f3⟩:=(uh HOr).cell (k * 5+3) (by omega)
    obtain⟨⟨v4,c4⟩,f4⟩:=(uh HOr).cell (k * 5+4) (by omega)
    go_wp2
    go_roundw
    case rel=>exact⟨k+1,by omega,by go_num,((((((uh HG).set _ _).set _ _).set _ _).set _ _).set _ _).1⟩
    case measure=>simp[intOf];omega
   ·have HAPP:Hid (∀ ty,∃ v' w',(Builtin.append_ #[26,26] ty #[.slice (some ⟨g,0,none⟩) n cap,.slice (some ⟨wr.heap.size,0,none⟩) 1 1]).run Tryz.prog (wr.alloc (.cells #[.string ⟨#[]⟩,.int .i64 0,.bool false,.bool false,.int .i64 0] 114))=.ok v' w'/\SF B (fun _ t=>t=114) w w'):=fun ty=>by
     obtain⟨xs,hx⟩:=uh HOr
     obtain⟨v',w',h1,h2⟩:=app_sf (B:=B) (T:=fun _ t=>t=114) (wr.alloc (.cells #[.string ⟨#[]⟩,.int .i64 0,.bool false,.bool false,.int .i64 0] 114)) 26 ty 114 i0 _ 5 40 Tryz.underlying26 hi hz0 hz1 hz2 rfl (by decide) (.slice (some ⟨g,0,none⟩) n cap) n ⟨xs,hx.alloc _⟩ ⟨wr.heap.size,0,none⟩ 1 [.string ⟨#[]⟩,.int .i64 0,.bool false,.bool false,.int .i64 0] rfl (five_cell _ _ _ _ _ _ _) (five_one ⟨⟨#[]⟩,0,false,false,0⟩) hn (by decide) (by have:=(uh HSF).size;simp;omega) (fun _ _=>rfl)
     exact⟨v',w',h1,((uh HSF).trans (SF.bel (bal _ _) (Nat.le_trans hB (uh HSF).size))).trans h2⟩
    clear HOr
    go_wp2_with (first
     | (at_builtin;refine wpList_append_run _ (Z:=fun _ w'=>SF B (fun _ t=>t=114) w w') rfl _ _ 26 26 rfl _ _ rfl rfl ((uh HAPP) _) ?_)
     | go_in)
    intro v' w1 hsf
    have HSF1:=zh hsf
    clear hsf HAPP
    go_wp2
    go_end0
    exact⟨rfl,uh HSF1⟩
end Go.Proofs.YtpheelbbpiieiaaGreatDoor.K
