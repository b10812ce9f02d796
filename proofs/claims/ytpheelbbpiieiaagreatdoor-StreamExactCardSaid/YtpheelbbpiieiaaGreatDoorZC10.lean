/- Proved here: helpers, one text behind the other. -/
import Derived.Test.YtpheelbbpiieiaaGreatDoorZC6
import Derived.Test.YtpheelbbpiieiaaGreatDoorZC9
import Derived.Test.YtpheelbbpiieiaaGreatDoorZC7
import Derived.Deep.MidRow
set_option maxHeartbeats 20000000
namespace Go.Proofs.YtpheelbbpiieiaaGreatDoor.K
open Go.RowKit
set_option maxRecDepth 100000
def ErO (w:World) (X:Nat->Prop):Nat->Value->Int->Prop
 | 0,v,n=>v=.iface 63 (.int .i64 n)
 | d+1,v,n=>∃ b u,v=.iface 118 (.pointer (some ⟨b,0,none⟩))/\¬ X b/\w.cell? ⟨b,1,none⟩=some u/\ErO w X d u n
theorem ErO.er {w:World} {X:Nat->Prop}:∀ {d:Nat} {v:Value} {n:Int},ErO w X d v n->Er w d v n
 | 0,_,_,h=>h
 | _+1,_,_,⟨b,u,h1,_,h2,h3⟩=>⟨b,u,h1,h2,h3.er⟩
theorem ErO.bx {w w':World} {R:Nat} {X:Nat->Prop} {may:Nat->Prop} (hx:BX R may w w') (hX:X R):∀ {d:Nat} {v:Value} {n:Int},ErO w X d v n->ErO w' X d v n
 | 0,_,_,h=>h
 | _+1,_,_,⟨b,u,h1,hR,h2,h3⟩=>⟨b,u,h1,hR,hx.far h2 (fun e=>by simp only at e;subst e;exact hR hX),ErO.bx hx hX h3⟩
theorem ErO.of {w:World} {R:Nat} {c:Bool} (hR:w.cell? ⟨R,1,none⟩=some (.bool c)):∀ {d:Nat} {v:Value} {n:Int},Er w d v n->ErO w (fun k=>k=R) d v n
 | 0,_,_,h=>h
 | 1,_,_,⟨b,u,h1,h2,h3⟩=>⟨b,u,h1,(fun e=>by subst e;cases h3;rw[hR]at h2;cases h2),h2,h3⟩
 | _+2,_,_,⟨b,u,h1,h2,h3⟩=>⟨b,u,h1,(fun e=>by subst e;obtain⟨_,_,rfl,_⟩:=h3;rw[hR]at h2;cases h2),h2,ErO.of hR h3⟩
theorem ErO.weak {w:World} {X Y:Nat->Prop} (hXY:∀ k,Y k->X k):∀ {d:Nat} {v:Value} {n:Int},ErO w X d v n->ErO w Y d v n
 | 0,_,_,h=>h
 | _+1,_,_,⟨b,u,h1,hR,h2,h3⟩=>⟨b,u,h1,fun e=>hR (hXY b e),h2,ErO.weak hXY h3⟩
theorem ErO.iface {w:World} {X:Nat->Prop} {d:Nat} {v:Value} {n:Int} (h:ErO w X d v n):∃ t x,v=.iface t x:=h.er.iface
def RSX (w0 w:World) (R:Nat) (X:Nat->Prop) (st:Option (List Int)):Prop :=
 (X R/\∀ k,X k->k < w.heap.size)/\(∃ x,w.cell? ⟨R,1,none⟩=some (.bool x))/\∃ bv l E,Rdr w R bv E/\Byt w0 bv l/\Below w0.heap.size w0 w/\w0.heap.size<=R /\
  ((st=some l/\E=.nilIface)\/(st=none/\∃ d n,d<=2/\ErO w X d E n))
theorem RSX.lt {w0 w:World} {R:Nat} {X:Nat->Prop} {st:Option (List Int)} (h:RSX w0 w R X st):R < w.heap.size:=by
 obtain⟨_,⟨x,h⟩,_⟩:=h
 exact cell_lt h
theorem RSX.keep {w0 w:World} {R:Nat} {X:Nat->Prop} {st:Option (List Int)} (h:RSX w0 w R X st):Below w0.heap.size w0 w:=by
 obtain⟨_,_,_,_,_,_,_,h,_⟩:=h
 exact h
def Stp {α:Type} (f:List Int->Option (α×List Int)) (st:Option (List Int)) (x:α) (st':Option (List Int)):Prop :=
 match st with
 | none=>st'=none
 | some l=>match f l with
  | none=>st'=none
  | some (y,l')=>x=y/\st'=some l'
theorem xs_grow {X:Nat->Prop} {R:Nat} {w w':World} (h:X R/\∀ k,X k->k < w.heap.size) (hs:w.heap.size<=w'.heap.size):X R/\∀ k,X k->k < w'.heap.size:=⟨h.1,fun k hk=>Nat.lt_of_lt_of_le (h.2 k hk) hs⟩
theorem RSX.move {w0 w w':World} {R:Nat} {X:Nat->Prop} {st:Option (List Int)} {may:Nat->Prop} (h:RSX w0 w R X st) (hx:BX R may w w') (h19:¬ may 19) (h20:¬ may 20) (h1:¬ may 1):RSX w0 w' R X st:=by
 obtain⟨hX,⟨x,hd⟩,bv,l,E,⟨r1,r2,r3,r4⟩,hb,hw,hR,hst⟩:=h
 refine⟨xs_grow hX hx.size,⟨x,(hx.cell 1 h1).trans hd⟩,bv,l,E,⟨(hx.cell 19 h19).trans r1,(hx.frozen 19).trans r2,(hx.cell 20 h20).trans r3,(hx.frozen 20).trans r4⟩,hb,hx.keep hw hR,hR,?_⟩
 rcases hst with h | ⟨h,d,n,hd,he⟩
 ·exact .inl h
 ·exact .inr ⟨h,d,n,hd,he.bx hx hX.1⟩
theorem RSX.below {w0 w w':World} {R:Nat} {X:Nat->Prop} {st:Option (List Int)} (h:RSX w0 w R X st) (hb:Below w.heap.size w w'):RSX w0 w' R X st:=h.move (BX.of_below (may:=fun _=>False) hb h.lt) (fun h=>h) (fun h=>h) (fun h=>h)
theorem RSX.less {w0 w:World} {R:Nat} {X:Nat->Prop} {st:Option (List Int)} (h:RSX w0 w R X st) (Y:Nat->Prop) (hY:Y R) (hXY:∀ k,Y k->X k):RSX w0 w R Y st:=by
 obtain⟨hX,hd,bv,l,E,hr,hb,hw,hR,hst⟩:=h
 refine⟨⟨hY,fun k hk=>hX.2 k (hXY k hk)⟩,hd,bv,l,E,hr,hb,hw,hR,?_⟩
 rcases hst with h | ⟨h,d,n,hd,he⟩
 ·exact .inl h
 ·exact .inr ⟨h,d,n,hd,he.weak hXY⟩
theorem RSX.good {w0 w:World} {R:Nat} {X:Nat->Prop} {l:List Int} (h:RSX w0 w R X (some l)) (Y:Nat->Prop) (hY:Y R/\∀ k,Y k->k < w.heap.size):RSX w0 w R Y (some l):=by
 obtain⟨hX,hd,bv,l',E,hr,hb,hw,hR,hst⟩:=h
 refine⟨hY,hd,bv,l',E,hr,hb,hw,hR,?_⟩
 rcases hst with h | ⟨h,_⟩
 ·exact .inl h
 ·cases h
abbrev RS (w0 w:World) (R:Nat) (st:Option (List Int)):Prop:=RSX w0 w R (fun k=>k=R) st
theorem isRE1:¬ isRE 1:=by unfold isRE;omega
theorem must_anyX (R:Nat) (X:Nat->Prop) (b:Bool) (st:Option (List Int)) (w0 w:World) (h:RSX w0 w R X st):Calls Tryz.prog 53 #[.pointer (some ⟨R,0,none⟩),.bool b] w fun e w'=>e=.returned (.tuple #[])/\RSX w0 w' R X (if b then st else none)/\BX R isRE w w':=by
 obtain⟨hX,⟨x,hd⟩,bv,l,E,hr,hb,hw,hR,hst⟩:=h
 cases b
 ·rcases hst with⟨rfl,rfl⟩ | ⟨rfl,d,n,hd',he⟩
  ·refine (must_false R bv w hr).mono ?_
   rintro e w' ⟨rfl,hr',hx⟩
   have hx':BX R isRE w w':=hx.weak (fun j hj=>.inr hj)
   exact⟨rfl,⟨xs_grow hX hx.size,⟨x,(hx'.cell 1 isRE1).trans hd⟩,bv,l,_,hr',hb,hx.keep hw hR,hR,.inr ⟨rfl,0,1,by omega,rfl⟩⟩,hx'⟩
  ·obtain⟨t,y,rfl⟩:=he.iface
   refine (must_false2 R bv t y w hr).mono ?_
   rintro e w' ⟨rfl,rfl⟩
   exact⟨rfl,⟨hX,⟨x,hd⟩,bv,l,_,hr,hb,hw,hR,.inr ⟨rfl,d,n,hd',he⟩⟩,BX.refl _ _ _⟩
 ·refine (must_true R w).mono ?_
  rintro e w' ⟨rfl,rfl⟩
  exact⟨rfl,⟨hX,⟨x,hd⟩,bv,l,E,hr,hb,hw,hR,hst⟩,BX.refl _ _ _⟩
theorem must_any (R:Nat) (b:Bool) (st:Option (List Int)) (w0 w:World) (h:RS w0 w R st):Calls Tryz.prog 53 #[.pointer (some ⟨R,0,none⟩),.bool b] w fun e w'=>e=.returned (.tuple #[])/\RS w0 w' R (if b then st else none)/\BX R isRE w w':=must_anyX R _ b st w0 w h
def RdIX (w0:World) (R:Nat) (X:Nat->Prop) (hi:Nat) (f:List Int->Option (Int×List Int)) (st:Option (List Int)) (w:World) (e:Ending) (w':World):Prop :=
 ∃ x st',e=.returned (.int .i64 x)/\(0<=x/\x<=hi)/\Stp f st x st'/\RSX w0 w' R X st'/\BX R isRE w w'
abbrev RdI (w0:World) (R hi:Nat) (f:List Int->Option (Int×List Int)) (st:Option (List Int)) (w:World) (e:Ending) (w':World):Prop:=RdIX w0 R (fun k=>k=R) hi f st w e w'
theorem int_any {fn:FuncId} (w0:World) (R:Nat) (X:Nat->Prop) (hi:Nat) (f:List Int->Option (Int×List Int)) (st:Option (List Int)) (w:World) (h:RSX w0 w R X st)
  (hf:∀ l x l',f l=some (x,l')->(∀ j,0<=l.getD j 0/\l.getD j 0<=255)->0<=x/\x<=hi)
  (good:∀ bv l,Rdr w R bv .nilIface->Byt w0 bv l->Below w0.heap.size w0 w->w0.heap.size<=R->Calls Tryz.prog fn #[.pointer (some ⟨R,0,none⟩)] w (IntRes w0 R hi (f l) w))
  (bad:∀ bv t z l,Rdr w R bv (.iface t z)->Byt w0 bv l->Below w0.heap.size w0 w->w0.heap.size<=R->Calls Tryz.prog fn #[.pointer (some ⟨R,0,none⟩)] w (IntBad w0 R hi t z w)) :
  Calls Tryz.prog fn #[.pointer (some ⟨R,0,none⟩)] w (RdIX w0 R X hi f st w):=by
 obtain⟨hX,⟨x,hd⟩,bv,l,E,hr,hb,hw,hR,hst⟩:=h
 rcases hst with⟨rfl,rfl⟩ | ⟨rfl,d,n,hd',he⟩
 ·refine (good bv l hr hb hw hR).mono ?_
  rintro e w' (⟨y,l',bv',h1,rfl,h3,h4,h5⟩ | ⟨h1,y,l',bv',n,rfl,h2,h3,h4,h5⟩)
  ·exact⟨y,some l',rfl,hf l y l' h1 hb.range,by simp[Stp,h1],⟨xs_grow hX h5.size,⟨x,(h5.cell 1 isRE1).trans hd⟩,bv',l',_,h4,h3,h5.keep hw hR,hR,.inl ⟨rfl,rfl⟩⟩,h5⟩
  ·exact⟨y,none,rfl,h2,by simp[Stp,h1],⟨xs_grow hX h5.size,⟨x,(h5.cell 1 isRE1).trans hd⟩,bv',l',_,h4,h3,h5.keep hw hR,hR,.inr ⟨rfl,0,n,by omega,rfl⟩⟩,h5⟩
 ·obtain⟨t,z,rfl⟩:=he.iface
  refine (bad bv t z l hr hb hw hR).mono ?_
  rintro e w' ⟨y,l',bv',rfl,h2,h3,h4,h5⟩
  exact⟨y,none,rfl,h2,rfl,⟨xs_grow hX h5.size,⟨x,(h5.cell 1 isRE1).trans hd⟩,bv',l',_,h4,h3,h5.keep hw hR,hR,.inr ⟨rfl,d,n,hd',he.bx h5 hX.1⟩⟩,h5⟩
theorem one?_hi (l:List Int) (x:Int) (l':List Int) (h:one? l=some (x,l')) (hr:∀ j,0<=l.getD j 0/\l.getD j 0<=255):0<=x/\x<=(255:Nat):=by
 cases l with
 | nil=>cases h
 | cons a t=>simp[one?]at h;obtain⟨rfl,_⟩:=h;simpa using hr 0
theorem two?_hi (l:List Int) (x:Int) (l':List Int) (h:two? l=some (x,l')) (hr:∀ j,0<=l.getD j 0/\l.getD j 0<=255):0<=x/\x<=(65535:Nat):=by
 match l,h with
 | [],h=>cases h
 | [a],h=>cases h
 | a :: b :: t,h =>
  simp[two?]at h
  obtain⟨rfl,_⟩:=h
  have h0:=hr 0
  have h1:=hr 1
  simp at h0 h1
  omega
theorem id?_hi (l:List Int) (x:Int) (l':List Int) (h:id? l=some (x,l')) (hr:∀ j,0<=l.getD j 0/\l.getD j 0<=255):0<=x/\x<=(65535:Nat):=by
 unfold id? at h
 cases h2:two? l with
 | none=>rw[h2]at h;cases h
 | some p =>
  obtain⟨y,t⟩:=p
  rw[h2]at h
  simp only at h
  split at h
  ·cases h
  ·simp at h
   obtain⟨rfl,rfl⟩:=h
   exact two?_hi l y t h2 hr
theorem one_anyX (R:Nat) (X:Nat->Prop) (st:Option (List Int)) (w0 w:World) (h:RSX w0 w R X st):Calls Tryz.prog 52 #[.pointer (some ⟨R,0,none⟩)] w (RdIX w0 R X 255 one? st w) :=
 int_any w0 R X 255 one? st w h one?_hi (fun bv l h1 h2 h3 h4=>one_good R bv l w0 w h1 h2 h3 h4) (fun bv t z l h1 h2 h3 h4=>one_bad R bv t z l w0 w h1 h2 h3 h4)
theorem one_any (R:Nat) (st:Option (List Int)) (w0 w:World) (h:RS w0 w R st):Calls Tryz.prog 52 #[.pointer (some ⟨R,0,none⟩)] w (RdI w0 R 255 one? st w):=one_anyX R _ st w0 w h
theorem two_anyX (R:Nat) (X:Nat->Prop) (st:Option (List Int)) (w0 w:World) (h:RSX w0 w R X st):Calls Tryz.prog 81 #[.pointer (some ⟨R,0,none⟩)] w (RdIX w0 R X 65535 two? st w) :=
 int_any w0 R X 65535 two? st w h two?_hi (fun bv l h1 h2 h3 h4=>two_good R bv l w0 w h1 h2 h3 h4) (fun bv t z l h1 h2 h3 h4=>two_bad R bv t z l w0 w h1 h2 h3 h4)
theorem two_any (R:Nat) (st:Option (List Int)) (w0 w:World) (h:RS w0 w R st):Calls Tryz.prog 81 #[.pointer (some ⟨R,0,none⟩)] w (RdI w0 R 65535 two? st w):=two_anyX R _ st w0 w h
theorem id_anyX (R:Nat) (X:Nat->Prop) (st:Option (List Int)) (w0 w:World) (h:RSX w0 w R X st):Calls Tryz.prog 56 #[.pointer (some ⟨R,0,none⟩)] w (RdIX w0 R X 65535 id? st w) :=
 int_any w0 R X 65535 id? st w h id?_hi (fun bv l h1 h2 h3 h4=>id_good R bv l w0 w h1 h2 h3 h4) (fun bv t z l h1 h2 h3 h4=>id_bad R bv t z l w0 w h1 h2 h3 h4)
theorem id_any (R:Nat) (st:Option (List Int)) (w0 w:World) (h:RS w0 w R st):Calls Tryz.prog 56 #[.pointer (some ⟨R,0,none⟩)] w (RdI w0 R 65535 id? st w):=id_anyX R _ st w0 w h
def orE:Value->Value->Value
 | .nilIface,b=>b
 | a,_=>a
theorem fail_any (R:Nat) (bv E F:Value) (w:World) (h:Rdr w R bv E) (hE:E=.nilIface\/∃ t x,E=.iface t x) (hF:F=.nilIface\/∃ t x,F=.iface t x):Calls Tryz.prog 84 #[.pointer (some ⟨R,0,none⟩),F] w fun e w'=>e=.returned (.tuple #[])/\Rdr w' R bv (orE E F)/\BX R isRE w w':=by
 rcases hE with rfl | ⟨t,x,rfl⟩
 ·rcases hF with rfl | ⟨t,x,rfl⟩
  ·refine (fail_nils R bv w h).mono ?_
   rintro e w' ⟨rfl,h1,h2⟩
   exact⟨rfl,h1,h2.weak (fun j hj=>.inr hj)⟩
  ·refine (fail_nil R bv t x w h).mono ?_
   rintro e w' ⟨rfl,h1,h2⟩
   exact⟨rfl,h1,h2.weak (fun j hj=>.inr hj)⟩
 ·refine (fail_set R bv F t x w h).mono ?_
  rintro e w' ⟨rfl,rfl⟩
  exact⟨rfl,h,BX.refl _ _ _⟩
def Bel (w:World) (X:Nat->Prop) (v:Value) (n:Int):Prop:=(n=0/\v=.nilIface)\/(n≠0/\∃ d,d<=2/\ErO w X d v n)
theorem Bel.form {w:World} {X:Nat->Prop} {v:Value} {n:Int} (h:Bel w X v n):v=.nilIface\/∃ t x,v=.iface t x:=by
 rcases h with⟨_,h⟩ | ⟨_,d,_,h⟩
 ·exact .inl h
 ·exact .inr h.iface
theorem er_of_is {w:World} {v:Value} {n:Int} (h:ErrIs w v n):(n=0/\v=.nilIface)\/∃ d,d<=2/\Er w d v n:=by
 rcases h with h | ⟨b,h1,h2⟩
 ·exact .inl h
 ·exact .inr ⟨1,by omega,b,_,h1,h2,rfl⟩
theorem er_of_p {w:World} {v:Value} {n:Int} (h:ErrP w v n):(n=0/\v=.nilIface)\/∃ d,d<=2/\Er w d v n:=by
 rcases h with h | ⟨b,c,h1,h2,h3⟩
 ·exact er_of_is h
 ·exact .inr ⟨2,by omega,b,_,h1,h2,c,_,rfl,h3,rfl⟩
theorem bel_new {w w':World} {X:Nat->Prop} {b:Nat} {n:Int} (hX:∀ k,X k->k < w.heap.size) (hb:w.heap.size<=b) (h:ErrIs w' (.iface 118 (.pointer (some ⟨b,0,none⟩))) n) (hn:n≠0):Bel w' X (.iface 118 (.pointer (some ⟨b,0,none⟩))) n:=by
 rcases h with⟨h,_⟩ | ⟨b',h1,h2⟩
 ·exact absurd h hn
 ·cases h1
  exact .inr ⟨hn,1,by omega,b,_,rfl,fun e=>by have:=hX b e;omega,h2,rfl⟩
theorem after (w0 w w1 w2 w3:World) (R:Nat) (X:Nat->Prop) (bv' E F:Value) (st:Option (List Int)) (l:List Int) (n:Nat) (m:Int) (c:Bool) (hX:X R/\∀ k,X k->k < w.heap.size)
  (hd:w.cell? ⟨R,1,none⟩=some (.bool c)) (hw:Below w0.heap.size w0 w) (hR:w0.heap.size<=R) (hst:(st=some l/\E=.nilIface)\/(st=none/\∃ d n,d<=2/\ErO w X d E n))
  (hB:Below w.heap.size w w1) (hF:Bel w1 X F m) (hx2:BX R isRE w1 w2) (hx3:BX R isRE w2 w3) (hb':Byt w0 bv' (l.drop n)) (hr3:Rdr w3 R bv' (orE E F)) :
  RSX w0 w3 R X (if m=0 then st.map (fun l=>l.drop n) else none)/\BX R isRE w w3:=by
 have hx1:BX R isRE w w1:=BX.of_below hB (cell_lt hd)
 have hx:BX R isRE w w3:=(hx1.trans hx2).trans hx3
 refine⟨⟨xs_grow hX hx.size,⟨c,(hx.cell 1 isRE1).trans hd⟩,bv',l.drop n,orE E F,hr3,hb',hx.keep hw hR,hR,?_⟩,hx⟩
 rcases hst with⟨rfl,rfl⟩ | ⟨rfl,d,k,hd',he⟩
 ·rcases hF with⟨rfl,rfl⟩ | ⟨h0,d,hd',he⟩
  ·exact .inl ⟨rfl,rfl⟩
  ·obtain⟨t,x,rfl⟩:=he.iface
   rw[if_neg h0]
   exact .inr ⟨rfl,d,m,hd',he.bx (hx2.trans hx3) hX.1⟩
 ·obtain⟨t,x,rfl⟩:=he.iface
  refine .inr ⟨?_,d,k,hd',he.bx hx hX.1⟩
  split <;> rfl
theorem Rdr.below {w w':World} {R:Nat} {bv E:Value} (h:Rdr w R bv E) (hb:Below w.heap.size w w'):Rdr w' R bv E :=
 ⟨(hb.cell (p:=⟨R,19,none⟩) h.lt).trans h.1,(hb.frozen (p:=⟨R,19,none⟩) h.lt).trans h.2.1,(hb.cell (p:=⟨R,20,none⟩) h.lt).trans h.2.2.1,(hb.frozen (p:=⟨R,20,none⟩) h.lt).trans h.2.2.2⟩
theorem st_form {w:World} {X:Nat->Prop} {E:Value} {st:Option (List Int)} {l:List Int} (hst:(st=some l/\E=.nilIface)\/(st=none/\∃ d n,d<=2/\ErO w X d E n)):E=.nilIface\/∃ t x,E=.iface t x:=by
 rcases hst with⟨_,h⟩ | ⟨_,d,n,_,h⟩
 ·exact .inl h
 ·exact .inr h.iface
theorem getx (X:Nat->Prop) (v:Value) (l:List Int) (w:World) (hX:∀ k,X k->k < w.heap.size) (hv:Byt w v l):Calls Tryz.prog 114 #[v] w fun e w'=>∃ E,e=.returned (.tuple #[.string (gt l).1,.int .i64 (gt l).2.1,E])/\Hid (Bel w' X E (gt l).2.2)/\Below w.heap.size w w':=by
 unfold gt
 by_cases hf:full l=true
 ·rw[if_pos hf]
  by_cases hu:utf (sb (gbs l))=true
  ·rw[if_pos hu]
   refine (get_ok v l w hv hf hu).mono ?_
   rintro e w' ⟨rfl,q,rfl⟩
   exact⟨_,rfl,.inl ⟨rfl,rfl⟩,below_q q⟩
  ·rw[if_neg hu]
   refine (get_form v l w hv hf (by simpa using hu)).mono ?_
   rintro e w' ⟨rfl,q,rfl⟩
   exact⟨_,rfl,bel_new hX (Nat.le_refl _) (fault_is 1 (w.drewN q)) (by decide),(below_q q).trans (fault_below 1 (w.drewN q))⟩
 ·rw[if_neg hf]
  refine (get_short v l w hv (by simpa using hf)).mono ?_
  rintro e w' ⟨rfl,q,rfl⟩
  exact⟨_,rfl,bel_new hX (Nat.le_refl _) (fault_is 3 (w.drewN q)) (by decide),(below_q q).trans (fault_below 3 (w.drewN q))⟩
theorem getBinx (X:Nat->Prop) (v:Value) (l:List Int) (w:World) (hX:∀ k,X k->k < w.heap.size) (hv:Byt w v l):Calls Tryz.prog 116 #[v] w fun e w'=>∃ E,e=.returned (.tuple #[.string (gbn l).1,.int .i64 (gbn l).2.1,E])/\Hid (Bel w' X E (gbn l).2.2)/\Below w.heap.size w w':=by
 by_cases hf:full l=true
 ·unfold gbn
  rw[if_pos hf]
  refine (gbin_ok v l w hv hf).mono ?_
  rintro e w' ⟨rfl,q,rfl⟩
  exact⟨_,rfl,.inl ⟨rfl,rfl⟩,below_q q⟩
 ·unfold gbn
  rw[if_neg hf]
  refine (gbin_short v l w hv (by simpa using hf)).mono ?_
  rintro e w' ⟨rfl,q,rfl⟩
  exact⟨_,rfl,bel_new hX (Nat.le_refl _) (fault_is 3 (w.drewN q)) (by decide),(below_q q).trans (fault_below 3 (w.drewN q))⟩
theorem full_len (l:List Int) (h:full l=true):2+nb l<=l.length:=by
 unfold full at h
 simp at h
 omega
theorem es_size:(⟨#[]⟩:ByteArray).size<=65535:=by decide
theorem gt_len (l:List Int) (hr:∀ j,0<=l.getD j 0/\l.getD j 0<=255):∃ N:Nat,(gt l).2.1=(N:Int)/\N<=l.length/\(gt l).1.size<=65535:=by
 unfold gt
 by_cases hf:full l=true
 ·rw[if_pos hf]
  by_cases hu:utf (sb (gbs l))=true
  ·rw[if_pos hu]
   exact⟨2+nb l,rfl,full_len l hf,gbs_size l hr⟩
  ·rw[if_neg hu]
   exact⟨0,rfl,Nat.zero_le _,es_size⟩
 ·rw[if_neg hf]
  exact⟨0,rfl,Nat.zero_le _,es_size⟩
theorem gbn_len (l:List Int) (hr:∀ j,0<=l.getD j 0/\l.getD j 0<=255):∃ N:Nat,(gbn l).2.1=(N:Int)/\N<=l.length/\(gbn l).1.size<=65535:=by
 unfold gbn
 by_cases hf:full l=true
 ·rw[if_pos hf]
  exact⟨2+nb l,rfl,full_len l hf,gbs_size l hr⟩
 ·rw[if_neg hf]
  exact⟨0,rfl,Nat.zero_le _,es_size⟩
def text? (l:List Int):Option (ByteArray×List Int):=if (gt l).2.2=0 then some ((gt l).1,l.drop (gt l).2.1.toNat) else none
def bin? (l:List Int):Option (ByteArray×List Int):=if (gbn l).2.2=0 then some ((gbn l).1,l.drop (gbn l).2.1.toNat) else none
def RdSX (w0:World) (R:Nat) (X:Nat->Prop) (f:List Int->Option (ByteArray×List Int)) (st:Option (List Int)) (w:World) (e:Ending) (w':World):Prop :=
 ∃ x st',e=.returned (.string x)/\x.size<=65535/\Stp f st x st'/\RSX w0 w' R X st'/\BX R isRE w w'
abbrev RdS (w0:World) (R:Nat) (f:List Int->Option (ByteArray×List Int)) (st:Option (List Int)) (w:World) (e:Ending) (w':World):Prop:=RdSX w0 R (fun k=>k=R) f st w e w'
theorem stp_get {α:Type} (f:List Int->Option (α×List Int)) (st:Option (List Int)) (l:List Int) (x:α) (n:Nat) (m:Int) (hst:st=some l\/st=none) (hf:f l=if m=0 then some (x,l.drop n) else none):Stp f st x (if m=0 then st.map (fun l=>l.drop n) else none):=by
 rcases hst with rfl | rfl
 ·unfold Stp
  simp only[hf]
  by_cases h:m=0
  ·simp[h]
  ·simp[h]
 ·show (if m=0 then _ else _)=none
  split <;> rfl
theorem text_anyX (R:Nat) (X:Nat->Prop) (st:Option (List Int)) (w0 w:World) (h:RSX w0 w R X st):Calls Tryz.prog 79 #[.pointer (some ⟨R,0,none⟩)] w (RdSX w0 R X text? st w):=by
 obtain⟨hX,⟨c,hd⟩,bv,l,E,hr,hb,hw,hR,hst⟩:=h
 obtain⟨n,hN,hn,hsz⟩:=gt_len l hb.range
 have HG:=zh (getx X bv l w hX.2 (hb.below hw))
 have HQ:Hid (text? l=if (gt l).2.2=0 then some ((gt l).1,l.drop n) else none):=by
  show text? l=_
  unfold text?
  rw[hN,Int.toNat_natCast]
 rw[hN]at HG
 have hE:=st_form hst
 have hst':st=some l\/st=none:=hst.imp And.left And.left
 have HR:=zh hr
 have HB:=zh hb
 have HA:=zh (after w0 w)
 have HD:=zh hd
 have HW:=zh hw
 have HS:=zh hst
 have HS':=zh hst'
 have HE:=zh hE
 have HX:=zh hX
 generalize (gt l).1=g at HG HQ hsz
 generalize (gt l).2.2=m at HG HQ
 obtain⟨h1,h2,h3,h4⟩:=hr
 clear hN hd hb hw hst hst' hE h2 h3 h4 hX
 go_enter Tryz.func79,Tryz.ntmps79
 go_wp2_with fail
 refine (uh HG).mono ?_
 rintro e w1 ⟨F,rfl,hF,hB⟩
 have HB1:=zh hB
 have HR1:=zh ((uh HR).below hB)
 clear hB h1
 go_wp2_with fail
 refine (fail_any R bv E F w1 (uh HR1) (uh HE) (uh hF).form).mono ?_
 rintro e w2 ⟨rfl,hr2,hx2⟩
 have HR2:=zh hr2
 have HX2:=zh hx2
 clear hr2 hx2
 go_wp2_with fail
 refine (next_ok R bv (orE E F) l n w0 w2 (uh HR2) (uh HB) hn).mono ?_
 rintro e w3 ⟨v,bv',rfl,hv,hbv,hr3,hx3⟩
 have HV:=zh hbv
 have HR3:=zh hr3
 have HX3:=zh hx3
 clear hv hbv hr3 hx3
 go_wp2
 go_ret
 have k:=(uh HA) w1 w2 w3 R X bv' E F st l n m c (uh HX) (uh HD) (uh HW) hR (uh HS) (uh HB1) (uh hF) (uh HX2) (uh HX3) (uh HV) (uh HR3)
 exact⟨g,_,rfl,hsz,stp_get text? st l g n m (uh HS') (uh HQ),k.1,k.2⟩
theorem text_any (R:Nat) (st:Option (List Int)) (w0 w:World) (h:RS w0 w R st):Calls Tryz.prog 79 #[.pointer (some ⟨R,0,none⟩)] w (RdS w0 R text? st w):=text_anyX R _ st w0 w h
theorem bin_anyX (R:Nat) (X:Nat->Prop) (st:Option (List Int)) (w0 w:World) (h:RSX w0 w R X st):Calls Tryz.prog 82 #[.pointer (some ⟨R,0,none⟩)] w (RdSX w0 R X bin? st w):=by
 obtain⟨hX,⟨c,hd⟩,bv,l,E,hr,hb,hw,hR,hst⟩:=h
 obtain⟨n,hN,hn,hsz⟩:=gbn_len l hb.range
 have HG:=zh (getBinx X bv l w hX.2 (hb.below hw))
 have HQ:Hid (bin? l=if (gbn l).2.2=0 then some ((gbn l).1,l.drop n) else none):=by
  show bin? l=_
  unfold bin?
  rw[hN,Int.toNat_natCast]
 rw[hN]at HG
 have hE:=st_form hst
 have hst':st=some l\/st=none:=hst.imp And.left And.left
 have HR:=zh hr
 have HB:=zh hb
 have HA:=zh (after w0 w)
 have HD:=zh hd
 have HW:=zh hw
 have HS:=zh hst
 have HS':=zh hst'
 have HE:=zh hE
 have HX:=zh hX
 generalize (gbn l).1=g at HG HQ hsz
 generalize (gbn l).2.2=m at HG HQ
 obtain⟨h1,h2,h3,h4⟩:=hr
 clear hN hd hb hw hst hst' hE h2 h3 h4 hX
 go_enter Tryz.func82,Tryz.ntmps82
 go_wp2_with fail
 refine (uh HG).mono ?_
 rintro e w1 ⟨F,rfl,hF,hB⟩
 have HB1:=zh hB
 have HR1:=zh ((uh HR).below hB)
 clear hB h1
 go_wp2_with fail
 refine (fail_any R bv E F w1 (uh HR1) (uh HE) (uh hF).form).mono ?_
 rintro e w2 ⟨rfl,hr2,hx2⟩
 have HR2:=zh hr2
 have HX2:=zh hx2
 clear hr2 hx2
 go_wp2_with fail
 refine (next_ok R bv (orE E F) l n w0 w2 (uh HR2) (uh HB) hn).mono ?_
 rintro e w3 ⟨v,bv',rfl,hv,hbv,hr3,hx3⟩
 have HV:=zh hbv
 have HR3:=zh hr3
 have HX3:=zh hx3
 clear hv hbv hr3 hx3
 go_wp2
 go_ret
 have k:=(uh HA) w1 w2 w3 R X bv' E F st l n m c (uh HX) (uh HD) (uh HW) hR (uh HS) (uh HB1) (uh hF) (uh HX2) (uh HX3) (uh HV) (uh HR3)
 exact⟨g,_,rfl,hsz,stp_get bin? st l g n m (uh HS') (uh HQ),k.1,k.2⟩
theorem bin_any (R:Nat) (st:Option (List Int)) (w0 w:World) (h:RS w0 w R st):Calls Tryz.prog 82 #[.pointer (some ⟨R,0,none⟩)] w (RdS w0 R bin? st w):=bin_anyX R _ st w0 w h
def Pkv.cell (p:Pkv):Nat->Value
 | 0=>.int .i64 p.kind
 | 1=>.bool p.dup
 | 2=>.int .i64 p.qos
 | 3=>.bool p.retain
 | 4=>.string p.topic
 | 5=>.int .i64 p.id
 | 6=>.string p.payload
 | 7=>p.props.val
 | 8=>.string p.client
 | 9=>.bool p.clean
 | 10=>.int .i64 p.keep
 | 11=>p.wills.val
 | 12=>p.user.val
 | 13=>p.pass.val
 | 14=>.int .i64 p.code
 | 15=>.bool p.session
 | 16=>p.subs.val
 | 17=>p.filters.val
 | 18=>p.codes.val
 | _=>.nilIface
def Pk (w:World) (R:Nat) (p:Pkv):Prop:=∀ j,j < 19->w.cell? ⟨R,j,none⟩=some (p.cell j)/\w.frozen? ⟨R,j,none⟩=false
abbrev isF (j:Nat):Prop:=j≠1/\j≠19/\j≠20
abbrev isAny (_:Nat):Prop:=True
theorem BX.any {R:Nat} {may:Nat->Prop} {a b:World} (h:BX R may a b):BX R isAny a b:=h.weak (fun _ _=>trivial)
theorem Pk.bx {w w':World} {R:Nat} {p:Pkv} (h:Pk w R p) (hx:BX R isRE w w'):Pk w' R p:=fun j hj =>
 ⟨(hx.cell j (by unfold isRE;omega)).trans (h j hj).1,(hx.frozen j).trans (h j hj).2⟩
theorem Pk.below {w w':World} {R:Nat} {p:Pkv} (h:Pk w R p) (hb:Below w.heap.size w w'):Pk w' R p:=h.bx (BX.of_below hb (cell_lt (h 0 (by omega)).1))
theorem Pk.set {w:World} {R:Nat} {p:Pkv} (h:Pk w R p) (q:Pkv) (i:Nat) (hi:i < 19) (hq:∀ j,j≠i->q.cell j=p.cell j):Pk (w.setCell ⟨R,i,none⟩ (q.cell i)) R q:=fun j hj=>by
 refine⟨?_,by simpa using (h j hj).2⟩
 by_cases hji:j=i
 ·subst hji
  exact World.cell?_setCell_same _ _ _ (h j hj).1
 ·rw[World.cell?_setCell_other _ _ _ _ (by intro e;injection e with _ e;exact hji e.symm),hq j hji]
  exact (h j hj).1
theorem RSX.set {w0 w:World} {R:Nat} {X:Nat->Prop} {st:Option (List Int)} (h:RSX w0 w R X st) (j:Nat) (u:Value) (hj:isF j):RSX w0 (w.setCell ⟨R,j,none⟩ u) R X st :=
 h.move (may:=fun i=>i=j) ((BX.refl _ _ _).set j u rfl) (fun e=>hj.2.1 e.symm) (fun e=>hj.2.2 e.symm) (fun e=>hj.1 e.symm)
theorem BX.setOut {R:Nat} {may:Nat->Prop} {a b:World} (h:BX R may a b) (V j:Nat) (u:Value) (hV:a.heap.size<=V) (hR:R < a.heap.size):BX R may a (b.setCell ⟨V,j,none⟩ u) :=
 h.trans' ⟨rfl,rfl,rfl,by simp[World.setCell],fun k hk _=>Below.heap_setCell _ _ _ _ (by show k≠V;omega),fun i _=>World.cell?_setCell_other _ _ _ _ (fun e=>by injection e with e1 _;omega),fun i=>World.frozen?_setCell ..⟩
theorem ErO.setOut {w:World} {X:Nat->Prop} {V j:Nat} {u:Value} (hV:∀ t x,w.cell? ⟨V,1,none⟩≠some (.iface t x)):∀ {d:Nat} {v:Value} {n:Int},ErO w X d v n->ErO (w.setCell ⟨V,j,none⟩ u) X d v n
 | 0,_,_,h=>h
 | _+1,_,_,⟨b,u',h1,hR,h2,h3⟩=>⟨b,u',h1,hR,by
   rw[World.cell?_setCell_other _ _ _ _ (fun e=>by
    injection e with e1 _
    subst e1
    obtain⟨t,x,rfl⟩:=h3.iface
    exact hV t x h2)]
   exact h2,ErO.setOut hV h3⟩
theorem RSX.setOut {w0 w:World} {R:Nat} {X:Nat->Prop} {st:Option (List Int)} (h:RSX w0 w R X st) (V j:Nat) (u:Value) (hR:V≠R) (h0:w0.heap.size<=V) (hV:∀ t x,w.cell? ⟨V,1,none⟩≠some (.iface t x)):RSX w0 (w.setCell ⟨V,j,none⟩ u) R X st:=by
 obtain⟨hX,⟨x,hd⟩,bv,l,E,⟨r1,r2,r3,r4⟩,hb,hw,hR0,hst⟩:=h
 have ne:∀ i,(⟨V,j,none⟩:Addr)≠⟨R,i,none⟩:=fun i e=>by injection e with e1 _;exact hR e1
 refine⟨xs_grow hX (by simp[World.setCell]),⟨x,(World.cell?_setCell_other _ _ _ _ (ne 1)).trans hd⟩,bv,l,E,⟨(World.cell?_setCell_other _ _ _ _ (ne 19)).trans r1,by simpa using r2,(World.cell?_setCell_other _ _ _ _ (ne 20)).trans r3,by simpa using r4⟩,hb,⟨hw.os,hw.tape,hw.output,by simpa [World.setCell] using hw.size,fun k hk=>(Below.heap_setCell _ _ _ _ (by show k≠V;omega)).trans (hw.block k hk)⟩,hR0,?_⟩
 rcases hst with h | ⟨h,d,n,hd,he⟩
 ·exact .inl h
 ·exact .inr ⟨h,d,n,hd,he.setOut hV⟩
theorem owns_bx {w w':World} {R:Nat} {may:Nat->Prop} {B:Nat} {e:TypeId} {s:Nat} {v:Value} {n:Nat} {xs:List Value} (h:w.ownsRow B e s v n xs) (hx:BX R may w w') (hR:R < B):w'.ownsRow B e s v n xs:=by
 refine⟨h.1,?_⟩
 rcases h.2 with h1 | ⟨g,cap,cur,hv,hB,hg,rest⟩
 ·exact .inl h1
 ·exact .inr ⟨g,cap,cur,hv,hB,by rw[hx.block g (Array.getElem?_eq_some_iff.1 hg).1 (by omega)];exact hg,rest⟩
theorem owns_sl {w:World} {B:Nat} {e:TypeId} {s:Nat} {v:Value} {n:Nat} {xs:List Value} (h:w.ownsRow B e s v n xs):∃ t:Sl,v=t.val/\t.n=n:=by
 rcases h.2 with⟨rfl,h1⟩ | ⟨g,cap,cur,hv,_⟩
 ·exact⟨⟨none,0,0⟩,rfl,h1.symm⟩
 ·exact⟨⟨_,n,cap⟩,hv,rfl⟩
theorem Pk.kind {w:World} {R:Nat} {p:Pkv} (h:Pk w R p):w.cell? ⟨R,0,none⟩=some (.int .i64 p.kind):=(h 0 (by omega)).1
theorem Pk.dup {w:World} {R:Nat} {p:Pkv} (h:Pk w R p):w.cell? ⟨R,1,none⟩=some (.bool p.dup):=(h 1 (by omega)).1
theorem Pk.dup_f {w:World} {R:Nat} {p:Pkv} (h:Pk w R p):w.frozen? ⟨R,1,none⟩=false:=(h 1 (by omega)).2
theorem Pk.set_dup {w:World} {R:Nat} {p:Pkv} (h:Pk w R p) (x:Bool):Pk (w.setCell ⟨R,1,none⟩ (.bool x)) R { p with dup:=x }:=h.set { p with dup:=x } 1 (by omega) (fun j hj=>by unfold Pkv.cell;split <;> first | rfl | exact absurd rfl hj)
theorem Pk.qos {w:World} {R:Nat} {p:Pkv} (h:Pk w R p):w.cell? ⟨R,2,none⟩=some (.int .i64 p.qos):=(h 2 (by omega)).1
theorem Pk.qos_f {w:World} {R:Nat} {p:Pkv} (h:Pk w R p):w.frozen? ⟨R,2,none⟩=false:=(h 2 (by omega)).2
theorem Pk.set_qos {w:World} {R:Nat} {p:Pkv} (h:Pk w R p) (x:Int):Pk (w.setCell ⟨R,2,none⟩ (.int .i64 x)) R { p with qos:=x }:=h.set { p with qos:=x } 2 (by omega) (fun j hj=>by unfold Pkv.cell;split <;> first | rfl | exact absurd rfl hj)
theorem Pk.retain {w:World} {R:Nat} {p:Pkv} (h:Pk w R p):w.cell? ⟨R,3,none⟩=some (.bool p.retain):=(h 3 (by omega)).1
theorem Pk.retain_f {w:World} {R:Nat} {p:Pkv} (h:Pk w R p):w.frozen? ⟨R,3,none⟩=false:=(h 3 (by omega)).2
theorem Pk.set_retain {w:World} {R:Nat} {p:Pkv} (h:Pk w R p) (x:Bool):Pk (w.setCell ⟨R,3,none⟩ (.bool x)) R { p with retain:=x }:=h.set { p with retain:=x } 3 (by omega) (fun j hj=>by unfold Pkv.cell;split <;> first | rfl | exact absurd rfl hj)
theorem Pk.topic {w:World} {R:Nat} {p:Pkv} (h:Pk w R p):w.cell? ⟨R,4,none⟩=some (.string p.topic):=(h 4 (by omega)).1
theorem Pk.topic_f {w:World} {R:Nat} {p:Pkv} (h:Pk w R p):w.frozen? ⟨R,4,none⟩=false:=(h 4 (by omega)).2
theorem Pk.set_topic {w:World} {R:Nat} {p:Pkv} (h:Pk w R p) (x:ByteArray):Pk (w.setCell ⟨R,4,none⟩ (.string x)) R { p with topic:=x }:=h.set { p with topic:=x } 4 (by omega) (fun j hj=>by unfold Pkv.cell;split <;> first | rfl | exact absurd rfl hj)
theorem Pk.id {w:World} {R:Nat} {p:Pkv} (h:Pk w R p):w.cell? ⟨R,5,none⟩=some (.int .i64 p.id):=(h 5 (by omega)).1
theorem Pk.id_f {w:World} {R:Nat} {p:Pkv} (h:Pk w R p):w.frozen? ⟨R,5,none⟩=false:=(h 5 (by omega)).2
theorem Pk.set_id {w:World} {R:Nat} {p:Pkv} (h:Pk w R p) (x:Int):Pk (w.setCell ⟨R,5,none⟩ (.int .i64 x)) R { p with id:=x }:=h.set { p with id:=x } 5 (by omega) (fun j hj=>by unfold Pkv.cell;split <;> first | rfl | exact absurd rfl hj)
theorem Pk.payload {w:World} {R:Nat} {p:Pkv} (h:Pk w R p):w.cell? ⟨R,6,none⟩=some (.string p.payload):=(h 6 (by omega)).1
theorem Pk.payload_f {w:World} {R:Nat} {p:Pkv} (h:Pk w R p):w.frozen? ⟨R,6,none⟩=false:=(h 6 (by omega)).2
theorem Pk.set_payload {w:World} {R:Nat} {p:Pkv} (h:Pk w R p) (x:ByteArray):Pk (w.setCell ⟨R,6,none⟩ (.string x)) R { p with payload:=x }:=h.set { p with payload:=x } 6 (by omega) (fun j hj=>by unfold Pkv.cell;split <;> first | rfl | exact absurd rfl hj)
theorem Pk.props {w:World} {R:Nat} {p:Pkv} (h:Pk w R p):w.cell? ⟨R,7,none⟩=some (p.props.val):=(h 7 (by omega)).1
theorem Pk.props_f {w:World} {R:Nat} {p:Pkv} (h:Pk w R p):w.frozen? ⟨R,7,none⟩=false:=(h 7 (by omega)).2
theorem Pk.set_props {w:World} {R:Nat} {p:Pkv} (h:Pk w R p) (x:Sl):Pk (w.setCell ⟨R,7,none⟩ (x.val)) R { p with props:=x }:=h.set { p with props:=x } 7 (by omega) (fun j hj=>by unfold Pkv.cell;split <;> first | rfl | exact absurd rfl hj)
theorem Pk.client {w:World} {R:Nat} {p:Pkv} (h:Pk w R p):w.cell? ⟨R,8,none⟩=some (.string p.client):=(h 8 (by omega)).1
theorem Pk.client_f {w:World} {R:Nat} {p:Pkv} (h:Pk w R p):w.frozen? ⟨R,8,none⟩=false:=(h 8 (by omega)).2
theorem Pk.set_client {w:World} {R:Nat} {p:Pkv} (h:Pk w R p) (x:ByteArray):Pk (w.setCell ⟨R,8,none⟩ (.string x)) R { p with client:=x }:=h.set { p with client:=x } 8 (by omega) (fun j hj=>by unfold Pkv.cell;split <;> first | rfl | exact absurd rfl hj)
theorem Pk.clean {w:World} {R:Nat} {p:Pkv} (h:Pk w R p):w.cell? ⟨R,9,none⟩=some (.bool p.clean):=(h 9 (by omega)).1
theorem Pk.clean_f {w:World} {R:Nat} {p:Pkv} (h:Pk w R p):w.frozen? ⟨R,9,none⟩=false:=(h 9 (by omega)).2
theorem Pk.set_clean {w:World} {R:Nat} {p:Pkv} (h:Pk w R p) (x:Bool):Pk (w.setCell ⟨R,9,none⟩ (.bool x)) R { p with clean:=x }:=h.set { p with clean:=x } 9 (by omega) (fun j hj=>by unfold Pkv.cell;split <;> first | rfl | exact absurd rfl hj)
theorem Pk.keep {w:World} {R:Nat} {p:Pkv} (h:Pk w R p):w.cell? ⟨R,10,none⟩=some (.int .i64 p.keep):=(h 10 (by omega)).1
theorem Pk.keep_f {w:World} {R:Nat} {p:Pkv} (h:Pk w R p):w.frozen? ⟨R,10,none⟩=false:=(h 10 (by omega)).2
theorem Pk.set_keep {w:World} {R:Nat} {p:Pkv} (h:Pk w R p) (x:Int):Pk (w.setCell ⟨R,10,none⟩ (.int .i64 x)) R { p with keep:=x }:=h.set { p with keep:=x } 10 (by omega) (fun j hj=>by unfold Pkv.cell;split <;> first | rfl | exact absurd rfl hj)
theorem Pk.wills {w:World} {R:Nat} {p:Pkv} (h:Pk w R p):w.cell? ⟨R,11,none⟩=some (p.wills.val):=(h 11 (by omega)).1
theorem Pk.wills_f {w:World} {R:Nat} {p:Pkv} (h:Pk w R p):w.frozen? ⟨R,11,none⟩=false:=(h 11 (by omega)).2
theorem Pk.set_wills {w:World} {R:Nat} {p:Pkv} (h:Pk w R p) (x:Sl):Pk (w.setCell ⟨R,11,none⟩ (x.val)) R { p with wills:=x }:=h.set { p with wills:=x } 11 (by omega) (fun j hj=>by unfold Pkv.cell;split <;> first | rfl | exact absurd rfl hj)
theorem Pk.user {w:World} {R:Nat} {p:Pkv} (h:Pk w R p):w.cell? ⟨R,12,none⟩=some (p.user.val):=(h 12 (by omega)).1
theorem Pk.user_f {w:World} {R:Nat} {p:Pkv} (h:Pk w R p):w.frozen? ⟨R,12,none⟩=false:=(h 12 (by omega)).2
theorem Pk.set_user {w:World} {R:Nat} {p:Pkv} (h:Pk w R p) (x:Sl):Pk (w.setCell ⟨R,12,none⟩ (x.val)) R { p with user:=x }:=h.set { p with user:=x } 12 (by omega) (fun j hj=>by unfold Pkv.cell;split <;> first | rfl | exact absurd rfl hj)
theorem Pk.pass {w:World} {R:Nat} {p:Pkv} (h:Pk w R p):w.cell? ⟨R,13,none⟩=some (p.pass.val):=(h 13 (by omega)).1
theorem Pk.pass_f {w:World} {R:Nat} {p:Pkv} (h:Pk w R p):w.frozen? ⟨R,13,none⟩=false:=(h 13 (by omega)).2
theorem Pk.set_pass {w:World} {R:Nat} {p:Pkv} (h:Pk w R p) (x:Sl):Pk (w.setCell ⟨R,13,none⟩ (x.val)) R { p with pass:=x }:=h.set { p with pass:=x } 13 (by omega) (fun j hj=>by unfold Pkv.cell;split <;> first | rfl | exact absurd rfl hj)
theorem Pk.code {w:World} {R:Nat} {p:Pkv} (h:Pk w R p):w.cell? ⟨R,14,none⟩=some (.int .i64 p.code):=(h 14 (by omega)).1
theorem Pk.code_f {w:World} {R:Nat} {p:Pkv} (h:Pk w R p):w.frozen? ⟨R,14,none⟩=false:=(h 14 (by omega)).2
theorem Pk.set_code {w:World} {R:Nat} {p:Pkv} (h:Pk w R p) (x:Int):Pk (w.setCell ⟨R,14,none⟩ (.int .i64 x)) R { p with code:=x }:=h.set { p with code:=x } 14 (by omega) (fun j hj=>by unfold Pkv.cell;split <;> first | rfl | exact absurd rfl hj)
theorem Pk.session {w:World} {R:Nat} {p:Pkv} (h:Pk w R p):w.cell? ⟨R,15,none⟩=some (.bool p.session):=(h 15 (by omega)).1
theorem Pk.session_f {w:World} {R:Nat} {p:Pkv} (h:Pk w R p):w.frozen? ⟨R,15,none⟩=false:=(h 15 (by omega)).2
theorem Pk.set_session {w:World} {R:Nat} {p:Pkv} (h:Pk w R p) (x:Bool):Pk (w.setCell ⟨R,15,none⟩ (.bool x)) R { p with session:=x }:=h.set { p with session:=x } 15 (by omega) (fun j hj=>by unfold Pkv.cell;split <;> first | rfl | exact absurd rfl hj)
theorem Pk.subs {w:World} {R:Nat} {p:Pkv} (h:Pk w R p):w.cell? ⟨R,16,none⟩=some (p.subs.val):=(h 16 (by omega)).1
theorem Pk.subs_f {w:World} {R:Nat} {p:Pkv} (h:Pk w R p):w.frozen? ⟨R,16,none⟩=false:=(h 16 (by omega)).2
theorem Pk.set_subs {w:World} {R:Nat} {p:Pkv} (h:Pk w R p) (x:Sl):Pk (w.setCell ⟨R,16,none⟩ (x.val)) R { p with subs:=x }:=h.set { p with subs:=x } 16 (by omega) (fun j hj=>by unfold Pkv.cell;split <;> first | rfl | exact absurd rfl hj)
theorem Pk.filters {w:World} {R:Nat} {p:Pkv} (h:Pk w R p):w.cell? ⟨R,17,none⟩=some (p.filters.val):=(h 17 (by omega)).1
theorem Pk.filters_f {w:World} {R:Nat} {p:Pkv} (h:Pk w R p):w.frozen? ⟨R,17,none⟩=false:=(h 17 (by omega)).2
theorem Pk.set_filters {w:World} {R:Nat} {p:Pkv} (h:Pk w R p) (x:Sl):Pk (w.setCell ⟨R,17,none⟩ (x.val)) R { p with filters:=x }:=h.set { p with filters:=x } 17 (by omega) (fun j hj=>by unfold Pkv.cell;split <;> first | rfl | exact absurd rfl hj)
theorem Pk.codes {w:World} {R:Nat} {p:Pkv} (h:Pk w R p):w.cell? ⟨R,18,none⟩=some (p.codes.val):=(h 18 (by omega)).1
theorem Pk.codes_f {w:World} {R:Nat} {p:Pkv} (h:Pk w R p):w.frozen? ⟨R,18,none⟩=false:=(h 18 (by omega)).2
theorem Pk.set_codes {w:World} {R:Nat} {p:Pkv} (h:Pk w R p) (x:Sl):Pk (w.setCell ⟨R,18,none⟩ (x.val)) R { p with codes:=x }:=h.set { p with codes:=x } 18 (by omega) (fun j hj=>by unfold Pkv.cell;split <;> first | rfl | exact absurd rfl hj)
theorem RSX.rest {w0 w:World} {R:Nat} {X:Nat->Prop} {st:Option (List Int)} (h:RSX w0 w R X st):∃ ao n cap,w.cell? ⟨R,19,none⟩=some (.slice ao n cap)/\(n<=cap/\cap<=maxLen)/\∀ l,st=some l->l.length=n:=by
 obtain⟨_,_,bv,l,E,hr,hb,_,_,hst⟩:=h
 obtain⟨ao,cap,rfl,hc⟩:=hb.form
 refine⟨ao,l.length,cap,hr.1,hc,fun l' hl=>?_⟩
 rcases hst with⟨rfl,_⟩ | ⟨rfl,_⟩
 ·cases hl;rfl
 ·cases hl
def Pkv.cells (p:Pkv):List Value:=[.int .i64 p.kind,.bool p.dup,.int .i64 p.qos,.bool p.retain,.string p.topic,.int .i64 p.id,.string p.payload,p.props.val,.string p.client,.bool p.clean,.int .i64 p.keep,p.wills.val,p.user.val,p.pass.val,.int .i64 p.code,.bool p.session,p.subs.val,p.filters.val,p.codes.val]
theorem Pk.range {w:World} {R:Nat} {q:Pkv} (h:Pk w R q):w.rangeAt R 0 q.cells:=by
 intro j v hj
 have hl:j < 19:=(List.getElem?_eq_some_iff.1 hj).1
 rw[Nat.zero_add,(h j hl).1,<- hj]
 match j,hl with
 | 0,_=>rfl
 | 1,_=>rfl
 | 2,_=>rfl
 | 3,_=>rfl
 | 4,_=>rfl
 | 5,_=>rfl
 | 6,_=>rfl
 | 7,_=>rfl
 | 8,_=>rfl
 | 9,_=>rfl
 | 10,_=>rfl
 | 11,_=>rfl
 | 12,_=>rfl
 | 13,_=>rfl
 | 14,_=>rfl
 | 15,_=>rfl
 | 16,_=>rfl
 | 17,_=>rfl
 | 18,_=>rfl
theorem packet_size:(Tryz.prog.info? 29).map (·.size)=some 19:=by kernel_rfl
theorem Pkv.ones (q:Pkv):∀ v ∈ q.cells,v.oneCell'=true:=by
 intro v hv
 simp only[Pkv.cells,List.mem_cons,List.not_mem_nil,or_false]at hv
 rcases hv with rfl | rfl | rfl | rfl | rfl | rfl | rfl | rfl | rfl | rfl | rfl | rfl | rfl | rfl | rfl | rfl | rfl | rfl | rfl <;> rfl
theorem Pkv.ones' (q:Pkv):q.cells.toArray.all (·.oneCell')=true:=all_oneCell_toArray q.ones
theorem Pk.there {w:World} {R:Nat} {q:Pkv} (h:Pk w R q) (r:Pkv):w.there R 0 r.cells.toArray.size:=fun j hj=>by
 have hj:j < 19:=hj
 rw[Nat.zero_add,(h j hj).1]
 exact⟨rfl,(h j hj).2⟩
theorem cells_get (q:Pkv) (j:Nat) (hj:j < 19):q.cells[j]?=some (q.cell j):=by
 match j,hj with
 | 0,_=>rfl
 | 1,_=>rfl
 | 2,_=>rfl
 | 3,_=>rfl
 | 4,_=>rfl
 | 5,_=>rfl
 | 6,_=>rfl
 | 7,_=>rfl
 | 8,_=>rfl
 | 9,_=>rfl
 | 10,_=>rfl
 | 11,_=>rfl
 | 12,_=>rfl
 | 13,_=>rfl
 | 14,_=>rfl
 | 15,_=>rfl
 | 16,_=>rfl
 | 17,_=>rfl
 | 18,_=>rfl
 | n+19,h=>exact absurd h (by omega)
theorem Pk.stored {w:World} {R:Nat} {q:Pkv} (h:Pk w R q) (r:Pkv):Pk (w.setCells R 0 r.cells) R r:=fun j hj=>by
 have k:=World.rangeAt_setCells_same w R 0 r.cells (h.there r) j _ (cells_get r j hj)
 rw[Nat.zero_add]at k
 exact⟨k,by rw[World.frozen?_setCells];exact (h j hj).2⟩
theorem setCells_below {w0 w:World} {B R o:Nat} {vs:List Value} (h:Below B w0 w) (hR:B<=R):Below B w0 (w.setCells R o vs):=by
 induction vs generalizing w o with
 | nil=>exact h
 | cons v vs ih =>
  rw[World.setCells]
  refine ih ?_
  exact⟨h.os,h.tape,h.output,by simpa [World.setCell] using h.size,fun k hk=>(Below.heap_setCell _ _ _ _ (by show k≠R;omega)).trans (h.block k hk)⟩
theorem pk_new (w:World) (q:Pkv):Pk (w.alloc (.cells q.cells.toArray 29)) w.heap.size q:=fun j hj=>by
 refine⟨?_,by simp⟩
 have k:=heap_alloc_new w (.cells q.cells.toArray 29)
 unfold World.cell?
 dsimp only
 rw[k]
 simpa using cells_get q j hj
theorem res_pk2 {fn:Func} {a t:Tmp} (h:fn.results=#[.cell a 29,.tmp t]) {tmps:Array Value} {w:World} {B:Nat} {q:Pkv} (ha:tmps[a]?.getD undef=.pointer (some ⟨B,0,none⟩)) (hq:Pk w B q):(results fn tmps).run Tryz.prog w=.ok (.tuple #[q.val,tmps[t]?.getD undef]) w:=by
 have k:=run_loadVar_mid (P:=Tryz.prog) w B 0 29 q.cells _ hq.range Tryz.underlying29 rfl packet_size
 simp[results,h,ha,asAddr,k]
 rfl
theorem res_pk3 {fn:Func} {a t u:Tmp} (h:fn.results=#[.cell a 29,.tmp t,.tmp u]) {tmps:Array Value} {w:World} {B:Nat} {q:Pkv} (ha:tmps[a]?.getD undef=.pointer (some ⟨B,0,none⟩)) (hq:Pk w B q):(results fn tmps).run Tryz.prog w=.ok (.tuple #[q.val,tmps[t]?.getD undef,tmps[u]?.getD undef]) w:=by
 have k:=run_loadVar_mid (P:=Tryz.prog) w B 0 29 q.cells _ hq.range Tryz.underlying29 rfl packet_size
 simp[results,h,ha,asAddr,k]
 rfl
end Go.Proofs.YtpheelbbpiieiaaGreatDoor.K
