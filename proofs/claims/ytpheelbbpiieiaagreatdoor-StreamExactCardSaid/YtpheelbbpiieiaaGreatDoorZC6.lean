/- Proved here: helpers, one text behind the other. -/
import Derived.Handy
import Derived.Test.YtpheelbbpiieiaaGreatDoorZC1
import Derived.Test.YtpheelbbpiieiaaGreatDoorProg
import Derived.Test.YtpheelbbpiieiaaGreatDoorZC3
set_option maxHeartbeats 20000000
namespace Go.Proofs.YtpheelbbpiieiaaGreatDoor.K
open Go.RowKit
structure BX (R:Nat) (may:Nat->Prop) (w w':World):Prop where
 os:w'.os=w.os
 tape:w'.tape=w.tape
 output:w'.output=w.output
 size:w.heap.size<=w'.heap.size
 block:∀ k,k < w.heap.size->k≠R->w'.heap[k]?=w.heap[k]?
 cell:∀ j,¬ may j->w'.cell? ⟨R,j,none⟩=w.cell? ⟨R,j,none⟩
 frozen:∀ j,w'.frozen? ⟨R,j,none⟩=w.frozen? ⟨R,j,none⟩
structure BX' (R:Nat) (may:Nat->Prop) (B:Nat) (w w':World):Prop where
 os:w'.os=w.os
 tape:w'.tape=w.tape
 output:w'.output=w.output
 size:w.heap.size<=w'.heap.size
 block:∀ k,k < B->k≠R->w'.heap[k]?=w.heap[k]?
 cell:∀ j,¬ may j->w'.cell? ⟨R,j,none⟩=w.cell? ⟨R,j,none⟩
 frozen:∀ j,w'.frozen? ⟨R,j,none⟩=w.frozen? ⟨R,j,none⟩
theorem BX.refl (R:Nat) (may:Nat->Prop) (w:World):BX R may w w:=⟨rfl,rfl,rfl,Nat.le_refl _,fun _ _ _=>rfl,fun _ _=>rfl,fun _=>rfl⟩
theorem BX.trans {R:Nat} {may:Nat->Prop} {a b c:World} (h:BX R may a b) (k:BX R may b c):BX R may a c :=
 ⟨k.os.trans h.os,k.tape.trans h.tape,k.output.trans h.output,Nat.le_trans h.size k.size,fun i hi hR=>(k.block i (Nat.lt_of_lt_of_le hi h.size) hR).trans (h.block i hi hR),fun j hj=>(k.cell j hj).trans (h.cell j hj),fun j=>(k.frozen j).trans (h.frozen j)⟩
theorem BX.trans' {R:Nat} {may:Nat->Prop} {a b c:World} (h:BX R may a b) (k:BX' R may a.heap.size b c):BX R may a c :=
 ⟨k.os.trans h.os,k.tape.trans h.tape,k.output.trans h.output,Nat.le_trans h.size k.size,fun i hi hR=>(k.block i hi hR).trans (h.block i hi hR),fun j hj=>(k.cell j hj).trans (h.cell j hj),fun j=>(k.frozen j).trans (h.frozen j)⟩
theorem BX.weak {R:Nat} {may may':Nat->Prop} {a b:World} (h:BX R may a b) (hm:∀ j,may j->may' j):BX R may' a b :=
 ⟨h.os,h.tape,h.output,h.size,h.block,fun j hj=>h.cell j (fun hx=>hj (hm j hx)),h.frozen⟩
theorem BX.of_below {R:Nat} {may:Nat->Prop} {a b:World} (h:Below a.heap.size a b) (hR:R < a.heap.size):BX R may a b :=
 ⟨h.os,h.tape,h.output,h.size,fun k hk _=>h.block k hk,fun j _=>h.cell (p:=⟨R,j,none⟩) hR,fun j=>h.frozen (p:=⟨R,j,none⟩) hR⟩
theorem BX.set {R:Nat} {may:Nat->Prop} {a b:World} (h:BX R may a b) (j:Nat) (u:Value) (hj:may j):BX R may a (b.setCell ⟨R,j,none⟩ u) :=
 h.trans ⟨rfl,rfl,rfl,by simp[World.setCell],fun k _ hR=>Below.heap_setCell _ _ _ _ hR,fun i hi=>World.cell?_setCell_other _ _ _ _ (fun e=>by injection e with _ h2;subst h2;exact hi hj),fun i=>World.frozen?_setCell ..⟩
theorem BX.below {R B:Nat} {may:Nat->Prop} {a b:World} (h:BX R may a b) (hB:B<=R) (hs:B<=a.heap.size):Below B a b :=
 ⟨h.os,h.tape,h.output,h.size,fun k hk=>h.block k (Nat.lt_of_lt_of_le hk hs) (by omega)⟩
theorem BX.far {R:Nat} {may:Nat->Prop} {a b:World} (h:BX R may a b) {p:Addr} {v:Value} (hp:a.cell? p=some v) (hR:p.block≠R):b.cell? p=some v :=
 (World.cell?_of_block (w:=a) (h.block p.block (cell_lt hp) hR)).trans hp
set_option maxRecDepth 100000
def Rdr (w:World) (R:Nat) (bv E:Value):Prop:=w.cell? ⟨R,19,none⟩=some bv/\w.frozen? ⟨R,19,none⟩=false/\w.cell? ⟨R,20,none⟩=some E/\w.frozen? ⟨R,20,none⟩=false
theorem Rdr.lt {w:World} {R:Nat} {bv E:Value} (h:Rdr w R bv E):R < w.heap.size:=cell_lt h.1
abbrev isE (j:Nat):Prop:=j=20
abbrev isRE (j:Nat):Prop:=j=19\/j=20
theorem fail_nil (R:Nat) (bv:Value) (t:TypeId) (x:Value) (w:World) (h:Rdr w R bv .nilIface):Calls Tryz.prog 84 #[.pointer (some ⟨R,0,none⟩),.iface t x] w fun e w'=>e=.returned (.tuple #[])/\Rdr w' R bv (.iface t x)/\BX R isE w w':=by
 obtain⟨h1,h2,h3,h4⟩:=h
 go_enter Tryz.func84,Tryz.ntmps84
 go_wp2
 go_end0
 exact⟨rfl,⟨(World.cell?_setCell_other _ _ _ _ (by intro e;simp at e)).trans h1,by simpa using h2,World.cell?_setCell_same _ _ _ h3,by simpa using h4⟩,(BX.refl _ _ _).set 20 _ rfl⟩
theorem fail_nils (R:Nat) (bv:Value) (w:World) (h:Rdr w R bv .nilIface):Calls Tryz.prog 84 #[.pointer (some ⟨R,0,none⟩),.nilIface] w fun e w'=>e=.returned (.tuple #[])/\Rdr w' R bv .nilIface/\BX R isE w w':=by
 obtain⟨h1,h2,h3,h4⟩:=h
 go_enter Tryz.func84,Tryz.ntmps84
 go_wp2
 go_end0
 exact⟨rfl,⟨(World.cell?_setCell_other _ _ _ _ (by intro e;simp at e)).trans h1,by simpa using h2,World.cell?_setCell_same _ _ _ h3,by simpa using h4⟩,(BX.refl _ _ _).set 20 _ rfl⟩
theorem fail_set (R:Nat) (bv E:Value) (t:TypeId) (x:Value) (w:World) (h:Rdr w R bv (.iface t x)):Calls Tryz.prog 84 #[.pointer (some ⟨R,0,none⟩),E] w fun e w'=>e=.returned (.tuple #[])/\w'=w:=by
 obtain⟨h1,h2,h3,h4⟩:=h
 go_enter Tryz.func84,Tryz.ntmps84
 go_wp2
 go_end0
 exact⟨rfl,rfl⟩
theorem must_true (R:Nat) (w:World):Calls Tryz.prog 53 #[.pointer (some ⟨R,0,none⟩),.bool true] w fun e w'=>e=.returned (.tuple #[])/\w'=w:=by
 go_enter Tryz.func53,Tryz.ntmps53
 go_wp2
 go_end0
 exact⟨rfl,rfl⟩
theorem must_false (R:Nat) (bv:Value) (w:World) (h:Rdr w R bv .nilIface):Calls Tryz.prog 53 #[.pointer (some ⟨R,0,none⟩),.bool false] w fun e w'=>e=.returned (.tuple #[])/\Rdr w' R bv (.iface 63 (.int .i64 1))/\BX R isE w w':=by
 have HR:=zh h
 clear h
 go_enter Tryz.func53,Tryz.ntmps53
 go_wp2_with fail
 refine (fail_nil R bv _ _ w (uh HR)).mono ?_
 rintro e w' ⟨rfl,hr,hx⟩
 have H1:=zh hr
 have H2:=zh hx
 clear hr hx
 go_wp2
 go_end0
 exact⟨rfl,uh H1,uh H2⟩
theorem must_false2 (R:Nat) (bv:Value) (t:TypeId) (x:Value) (w:World) (h:Rdr w R bv (.iface t x)):Calls Tryz.prog 53 #[.pointer (some ⟨R,0,none⟩),.bool false] w fun e w'=>e=.returned (.tuple #[])/\w'=w:=by
 have HR:=zh h
 clear h
 go_enter Tryz.func53,Tryz.ntmps53
 go_wp2_with fail
 refine (fail_set R bv _ t x w (uh HR)).mono ?_
 rintro e w' ⟨rfl,hw⟩
 obtain rfl:=hw.symm
 clear hw
 go_wp2
 go_end0
 exact⟨rfl,rfl⟩
theorem next_ok (R:Nat) (bv E:Value) (l:List Int) (n:Nat) (w0 w:World) (h:Rdr w R bv E) (hb:Byt w0 bv l) (hn:n<=l.length) :
  Calls Tryz.prog 83 #[.pointer (some ⟨R,0,none⟩),.int .i64 n] w fun e w'=>∃ v bv',e=.returned v/\Byt w0 v (l.take n)/\Byt w0 bv' (l.drop n)/\Rdr w' R bv' E/\BX R isRE w w':=by
 obtain⟨h1,h2,h3,h4⟩:=h
 have hset:∀ u:Value,Rdr (w.setCell ⟨R,19,none⟩ u) R u E/\BX R isRE w (w.setCell ⟨R,19,none⟩ u):=fun u =>
  ⟨⟨World.cell?_setCell_same _ _ _ h1,by simpa using h2,(World.cell?_setCell_other _ _ _ _ (by intro e;simp at e)).trans h3,by simpa using h4⟩,(BX.refl _ _ _).set 19 _ (.inl rfl)⟩
 have HSET:=zh hset
 clear hset
 rcases Nat.eq_zero_or_pos l.length with hl | hl
 ·obtain rfl:=List.length_eq_zero_iff.1 hl
  obtain rfl:n=0:=by simpa using hn
  obtain⟨ao,cap,rfl,hc1,hc2⟩:=hb.form
  have HB:=zh hb
  clear hb
  unfold maxLen at hc2
  go_enter Tryz.func83,Tryz.ntmps83
  go_wp2
  go_ret
  exact⟨_,_,rfl,uh HB,uh HB,((uh HSET) _).1,((uh HSET) _).2⟩
 ·obtain⟨b,off,cap,rfl,hc1,hc2⟩:=hb.form1 hl
  have HB:=zh hb
  clear hb
  unfold maxLen at hc2
  generalize hm:l.length=m at hc1 hn hl HB h1
  clear hm
  by_cases hcn:cap=n
  ·have e1:n=cap:=hcn.symm
   clear hcn
   subst e1
   have e2:n=m:=by omega
   subst e2
   have HT:Hid (Byt w0 (.slice (some ⟨b,off,none⟩) n n) (l.take n)):=(uh HB).take n (Nat.le_refl _)
   have HD:Hid (Byt w0 (.slice (some ⟨b,off,none⟩) 0 0) (l.drop n)):=by
    show Byt _ _ _
    have:=(uh HB).drop' n (Nat.le_refl _)
    rw[if_pos rfl,Nat.sub_self]at this
    exact this
   go_enter Tryz.func83,Tryz.ntmps83
   go_wp2
   go_ret
   exact⟨_,_,rfl,uh HT,uh HD,((uh HSET) _).1,((uh HSET) _).2⟩
  ·have HT:Hid (Byt w0 (.slice (some ⟨b,off,none⟩) n cap) (l.take n)):=(uh HB).take n hn
   have HD:Hid (Byt w0 (.slice (some ⟨b,off+n,none⟩) (m - n) (cap - n)) (l.drop n)):=by
    show Byt _ _ _
    have:=(uh HB).drop' n hn
    rw[if_neg hcn]at this
    exact this
   go_enter Tryz.func83,Tryz.ntmps83
   go_wp2
   go_ret
   exact⟨_,_,rfl,uh HT,uh HD,((uh HSET) _).1,((uh HSET) _).2⟩
theorem next_short (R:Nat) (bv:Value) (l:List Int) (n:Nat) (w0 w:World) (h:Rdr w R bv .nilIface) (hb:Byt w0 bv l) (hn:l.length < n) :
  Calls Tryz.prog 83 #[.pointer (some ⟨R,0,none⟩),.int .i64 n] w fun e w'=>e=.returned (.slice none 0 0)/\Rdr w' R bv (.iface 63 (.int .i64 3))/\BX R isRE w w':=by
 obtain⟨ao,cap,rfl,hc1,hc2⟩:=hb.form
 have HR:=zh h
 obtain⟨h1,h2,h3,h4⟩:=h
 clear hb h2 h3 h4
 generalize hm:l.length=m at hc1 hn HR h1
 clear hm
 go_enter Tryz.func83,Tryz.ntmps83
 go_wp2_with fail
 refine (fail_nil R _ _ _ w (uh HR)).mono ?_
 rintro e w' ⟨rfl,hr,hx⟩
 have H1:=zh hr
 have H2:=zh hx
 clear hr hx
 go_wp2
 go_ret
 exact⟨rfl,uh H1,(uh H2).weak (fun j hj=>.inr hj)⟩
theorem next_short2 (R:Nat) (bv:Value) (t:TypeId) (x:Value) (l:List Int) (n:Nat) (w0 w:World) (h:Rdr w R bv (.iface t x)) (hb:Byt w0 bv l) (hn:l.length < n) :
  Calls Tryz.prog 83 #[.pointer (some ⟨R,0,none⟩),.int .i64 n] w fun e w'=>e=.returned (.slice none 0 0)/\w'=w:=by
 obtain⟨ao,cap,rfl,hc1,hc2⟩:=hb.form
 have HR:=zh h
 obtain⟨h1,h2,h3,h4⟩:=h
 clear hb h2 h3 h4
 generalize hm:l.length=m at hc1 hn HR h1
 clear hm
 go_enter Tryz.func83,Tryz.ntmps83
 go_wp2_with fail
 refine (fail_set R _ _ t x w (uh HR)).mono ?_
 rintro e w' ⟨rfl,hw⟩
 obtain rfl:=hw.symm
 clear hw
 go_wp2
 go_ret
 exact⟨rfl,rfl⟩
theorem one_ok (R:Nat) (bv E:Value) (x:Int) (l:List Int) (w0 w:World) (h:Rdr w R bv E) (hb:Byt w0 bv (x :: l)) (hw:Below w0.heap.size w0 w) (hR:w0.heap.size<=R) :
  Calls Tryz.prog 52 #[.pointer (some ⟨R,0,none⟩)] w fun e w'=>∃ bv',e=.returned (.int .i64 x)/\Byt w0 bv' l/\Rdr w' R bv' E/\BX R isRE w w':=by
 have hx:=hb.range 0
 have HX:=zh (next_ok R bv E (x :: l) 1 w0 w h hb (by simp))
 have HW:=zh hw
 have hsz:=hw.size
 clear h hb hw
 go_enter Tryz.func52,Tryz.ntmps52
 go_wp2_with fail
 refine (uh HX).mono ?_
 rintro e w' ⟨v,bv',rfl,hv,hbv,hr,hbx⟩
 have HV:=zh hv
 have H1:=zh hbv
 have H2:=zh hr
 have H3:=zh hbx
 have HB:Hid (Byt w' v [x]):=hv.below ((uh HW).trans (hbx.below hR hsz))
 clear hv hbv hr hbx
 obtain⟨b,off,cap,hf,hc1,hc2⟩:=(uh HB).form1 (by simp)
 have hf:v=.slice (some ⟨b,off,none⟩) 1 cap:=hf
 have hc:w'.cell? ⟨b,off,none⟩=some (.int .u8 x):=by
  obtain⟨ao,cap',e',_,_,hcase⟩:=uh HB
  rw[hf]at e'
  simp only[Value.slice.injEq]at e'
  obtain⟨rfl,_,rfl⟩:=e'
  rcases hcase with h0 | ⟨b',off',e2,hc⟩
  ·simp at h0
  ·simp only[Option.some.injEq,Addr.mk.injEq]at e2
   obtain⟨rfl,rfl,_⟩:=e2
   exact hc 0 (by simp)
 subst hf
 simp at hx
 go_wp2
 go_ret
 exact⟨_,rfl,uh H1,uh H2,uh H3⟩
def IntRes (w0:World) (R hi:Nat) (ok:Option (Int×List Int)) (w:World) (e:Ending) (w':World):Prop :=
 (∃ x l' bv',ok=some (x,l')/\e=.returned (.int .i64 x)/\Byt w0 bv' l'/\Rdr w' R bv' .nilIface/\BX R isRE w w') \/
 (ok=none/\∃ x l' bv' n,e=.returned (.int .i64 x)/\(0<=x/\x<=hi)/\Byt w0 bv' l'/\Rdr w' R bv' (.iface 63 (.int .i64 n))/\BX R isRE w w')
def IntBad (w0:World) (R hi:Nat) (t:TypeId) (y:Value) (w:World) (e:Ending) (w':World):Prop :=
 ∃ x l' bv',e=.returned (.int .i64 x)/\(0<=x/\x<=hi)/\Byt w0 bv' l'/\Rdr w' R bv' (.iface t y)/\BX R isRE w w'
def one? (l:List Int):Option (Int×List Int):=match l with
 | []=>none
 | x :: t=>some (x,t)
theorem one_good (R:Nat) (bv:Value) (l:List Int) (w0 w:World) (h:Rdr w R bv .nilIface) (hb:Byt w0 bv l) (hw:Below w0.heap.size w0 w) (hR:w0.heap.size<=R):Calls Tryz.prog 52 #[.pointer (some ⟨R,0,none⟩)] w (IntRes w0 R 255 (one? l) w):=by
 cases l with
 | cons x t =>
  refine (one_ok R bv _ x t w0 w h hb hw hR).mono ?_
  rintro e w' ⟨bv',rfl,h1,h2,h3⟩
  exact .inl ⟨x,t,bv',rfl,rfl,h1,h2,h3⟩
 | nil =>
  have HX:=zh (next_short R bv [] 1 w0 w h hb (by simp))
  have HB:=zh hb
  clear h hb hw
  go_enter Tryz.func52,Tryz.ntmps52
  go_wp2_with fail
  refine (uh HX).mono ?_
  rintro e w' ⟨rfl,hr,hx⟩
  have H1:=zh hr
  have H2:=zh hx
  clear hr hx
  go_wp2
  go_ret
  exact .inr ⟨rfl,0,[],bv,3,rfl,by omega,uh HB,uh H1,uh H2⟩
theorem one_bad (R:Nat) (bv:Value) (t:TypeId) (y:Value) (l:List Int) (w0 w:World) (h:Rdr w R bv (.iface t y)) (hb:Byt w0 bv l) (hw:Below w0.heap.size w0 w) (hR:w0.heap.size<=R):Calls Tryz.prog 52 #[.pointer (some ⟨R,0,none⟩)] w (IntBad w0 R 255 t y w):=by
 cases l with
 | cons x tl =>
  have hx:=hb.range 0
  refine (one_ok R bv _ x tl w0 w h hb hw hR).mono ?_
  rintro e w' ⟨bv',rfl,h1,h2,h3⟩
  exact⟨x,tl,bv',rfl,by simpa using hx,h1,h2,h3⟩
 | nil =>
  have HX:=zh (next_short2 R bv t y [] 1 w0 w h hb (by simp))
  have HB:=zh hb
  have HR:=zh h
  clear h hb hw
  go_enter Tryz.func52,Tryz.ntmps52
  go_wp2_with fail
  refine (uh HX).mono ?_
  rintro e w' ⟨rfl,hwe⟩
  obtain rfl:=hwe.symm
  clear hwe
  go_wp2
  go_ret
  exact⟨0,[],bv,rfl,by omega,uh HB,uh HR,BX.refl _ _ _⟩
theorem BX.keep {R:Nat} {may:Nat->Prop} {w0 w w':World} (h:BX R may w w') (hw:Below w0.heap.size w0 w) (hR:w0.heap.size<=R):Below w0.heap.size w0 w':=hw.trans (h.below hR hw.size)
def two? (l:List Int):Option (Int×List Int):=match l with
 | x :: y :: t=>some (x * 256+y,t)
 | _=>none
theorem two_good (R:Nat) (bv:Value) (l:List Int) (w0 w:World) (h:Rdr w R bv .nilIface) (hb:Byt w0 bv l) (hw:Below w0.heap.size w0 w) (hR:w0.heap.size<=R):Calls Tryz.prog 81 #[.pointer (some ⟨R,0,none⟩)] w (IntRes w0 R 65535 (two? l) w):=by
 have hr:=hb.range
 have HX:=zh (one_good R bv l w0 w h hb hw hR)
 have HW:=zh hw
 clear h hb hw
 go_enter Tryz.func81,Tryz.ntmps81
 go_wp2_with fail
 refine (uh HX).mono ?_
 rintro e w1 (⟨x,l1,bv1,hl,rfl,hb1,hr1,hx1⟩ | ⟨hl,x,l1,bv1,n,rfl,hx,hb1,hr1,hx1⟩)
 ·obtain rfl:l=x :: l1:=by
   cases l with
   | nil=>cases hl
   | cons a t=>simp[one?]at hl;obtain⟨rfl,rfl⟩:=hl;rfl
  have hx0:=hr 0
  have hy0:=hr 1
  simp only[List.getD_cons_zero]at hx0
  have HY:=zh (one_good R bv1 l1 w0 w1 hr1 hb1 (hx1.keep (uh HW) hR) hR)
  have H1:=zh hx1
  clear hr hx1 hr1 hb1 hl
  go_wp2_with fail
  refine (uh HY).mono ?_
  rintro e w2 (⟨y,l2,bv2,hl,rfl,hb2,hr2,hx2⟩ | ⟨hl,y,l2,bv2,n,rfl,hy,hb2,hr2,hx2⟩)
  ·obtain rfl:l1=y :: l2:=by
    cases l1 with
    | nil=>cases hl
    | cons a t=>simp[one?]at hl;obtain⟨rfl,rfl⟩:=hl;rfl
   have hy1:0<=y/\y<=255:=by simpa using hy0
   have e1:=K.or_256 x y hx0.1 (by omega) hy1.1 hy1.2
   have H2:=zh hb2
   have H3:=zh hr2
   have H4:=zh hx2
   clear hl hb2 hr2 hx2 hy0
   go_wp2
   go_ret
   exact .inl ⟨x * 256+y,l2,bv2,rfl,rfl,uh H2,uh H3,(uh H1).trans (uh H4)⟩
  ·obtain rfl:l1=[]:=by cases l1 with | nil=>rfl | cons a t=>cases hl
   have e1:=K.or_256 x y hx0.1 (by omega) hy.1 (by omega)
   have H2:=zh hb2
   have H3:=zh hr2
   have H4:=zh hx2
   clear hl hb2 hr2 hx2 hy0
   go_wp2
   go_ret
   exact .inr ⟨rfl,x * 256+y,l2,bv2,n,rfl,by omega,uh H2,uh H3,(uh H1).trans (uh H4)⟩
 ·obtain rfl:l=[]:=by cases l with | nil=>rfl | cons a t=>cases hl
  have HY:=zh (one_bad R bv1 _ _ l1 w0 w1 hr1 hb1 (hx1.keep (uh HW) hR) hR)
  have H1:=zh hx1
  clear hr hx1 hr1 hb1 hl
  go_wp2_with fail
  refine (uh HY).mono ?_
  rintro e w2 ⟨y,l2,bv2,rfl,hy,hb2,hr2,hx2⟩
  have e1:=K.or_256 x y hx.1 (by omega) hy.1 (by omega)
  have H2:=zh hb2
  have H3:=zh hr2
  have H4:=zh hx2
  clear hb2 hr2 hx2
  go_wp2
  go_ret
  exact .inr ⟨rfl,x * 256+y,l2,bv2,n,rfl,by omega,uh H2,uh H3,(uh H1).trans (uh H4)⟩
theorem two_bad (R:Nat) (bv:Value) (t:TypeId) (z:Value) (l:List Int) (w0 w:World) (h:Rdr w R bv (.iface t z)) (hb:Byt w0 bv l) (hw:Below w0.heap.size w0 w) (hR:w0.heap.size<=R):Calls Tryz.prog 81 #[.pointer (some ⟨R,0,none⟩)] w (IntBad w0 R 65535 t z w):=by
 have HX:=zh (one_bad R bv t z l w0 w h hb hw hR)
 have HW:=zh hw
 clear h hb hw
 go_enter Tryz.func81,Tryz.ntmps81
 go_wp2_with fail
 refine (uh HX).mono ?_
 rintro e w1 ⟨x,l1,bv1,rfl,hx,hb1,hr1,hx1⟩
 have HY:=zh (one_bad R bv1 _ _ l1 w0 w1 hr1 hb1 (hx1.keep (uh HW) hR) hR)
 have H1:=zh hx1
 clear hx1 hr1 hb1
 go_wp2_with fail
 refine (uh HY).mono ?_
 rintro e w2 ⟨y,l2,bv2,rfl,hy,hb2,hr2,hx2⟩
 have e1:=K.or_256 x y hx.1 (by omega) hy.1 (by omega)
 have H2:=zh hb2
 have H3:=zh hr2
 have H4:=zh hx2
 clear hb2 hr2 hx2
 go_wp2
 go_ret
 exact⟨x * 256+y,l2,bv2,rfl,by omega,uh H2,uh H3,(uh H1).trans (uh H4)⟩
def id? (l:List Int):Option (Int×List Int):=match two? l with
 | some (x,t)=>if x=0 then none else some (x,t)
 | none=>none
theorem id_good (R:Nat) (bv:Value) (l:List Int) (w0 w:World) (h:Rdr w R bv .nilIface) (hb:Byt w0 bv l) (hw:Below w0.heap.size w0 w) (hR:w0.heap.size<=R):Calls Tryz.prog 56 #[.pointer (some ⟨R,0,none⟩)] w (IntRes w0 R 65535 (id? l) w):=by
 have HX:=zh (two_good R bv l w0 w h hb hw hR)
 clear h hb hw
 go_enter Tryz.func56,Tryz.ntmps56
 go_wp2_with fail
 refine (uh HX).mono ?_
 rintro e w1 (⟨x,l1,bv1,hl,rfl,hb1,hr1,hx1⟩ | ⟨hl,x,l1,bv1,n,rfl,hx,hb1,hr1,hx1⟩)
 ·by_cases h0:x=0
  ·subst h0
   have HN:Hid (id? l=none):=by show id? l=none;unfold id?;rw[hl];rfl
   have HR:=zh hr1
   have H1:=zh hx1
   have H2:=zh hb1
   clear hl hb1 hr1 hx1
   go_wp2_with fail
   refine (must_false R bv1 w1 (uh HR)).mono ?_
   rintro e w2 ⟨rfl,hr2,hx2⟩
   have H3:=zh hr2
   have H4:=zh hx2
   clear hr2 hx2
   go_wp2
   go_ret
   exact .inr ⟨uh HN,0,l1,bv1,1,rfl,by omega,uh H2,uh H3,(uh H1).trans ((uh H4).weak (fun j hj=>.inr hj))⟩
  ·have HN:Hid (id? l=some (x,l1)):=by show id? l=_;unfold id?;rw[hl];simp only;rw[if_neg h0]
   have hne:(x != 0)=true:=by simpa using h0
   have HR:=zh hr1
   have H1:=zh hx1
   have H2:=zh hb1
   clear hl hb1 hr1 hx1
   go_wp2_with fail
   refine (must_true R w1).mono ?_
   rintro e w2 ⟨rfl,hw2⟩
   obtain rfl:=hw2.symm
   clear hw2
   go_wp2
   go_ret
   exact .inl ⟨x,l1,bv1,uh HN,rfl,uh H2,uh HR,uh H1⟩
 ·have HN:Hid (id? l=none):=by show id? l=none;unfold id?;rw[hl]
  have HR:=zh hr1
  have H1:=zh hx1
  have H2:=zh hb1
  clear hl hb1 hr1 hx1
  by_cases h0:x=0
  ·subst h0
   go_wp2_with fail
   refine (must_false2 R bv1 _ _ w1 (uh HR)).mono ?_
   rintro e w2 ⟨rfl,hw2⟩
   obtain rfl:=hw2.symm
   clear hw2
   go_wp2
   go_ret
   exact .inr ⟨uh HN,0,l1,bv1,n,rfl,by omega,uh H2,uh HR,uh H1⟩
  ·have hne:(x != 0)=true:=by simpa using h0
   go_wp2_with fail
   refine (must_true R w1).mono ?_
   rintro e w2 ⟨rfl,hw2⟩
   obtain rfl:=hw2.symm
   clear hw2
   go_wp2
   go_ret
   exact .inr ⟨uh HN,x,l1,bv1,n,rfl,hx,uh H2,uh HR,uh H1⟩
theorem id_bad (R:Nat) (bv:Value) (t:TypeId) (z:Value) (l:List Int) (w0 w:World) (h:Rdr w R bv (.iface t z)) (hb:Byt w0 bv l) (hw:Below w0.heap.size w0 w) (hR:w0.heap.size<=R):Calls Tryz.prog 56 #[.pointer (some ⟨R,0,none⟩)] w (IntBad w0 R 65535 t z w):=by
 have HX:=zh (two_bad R bv t z l w0 w h hb hw hR)
 clear h hb hw
 go_enter Tryz.func56,Tryz.ntmps56
 go_wp2_with fail
 refine (uh HX).mono ?_
 rintro e w1 ⟨x,l1,bv1,rfl,hx,hb1,hr1,hx1⟩
 have HR:=zh hr1
 have H1:=zh hx1
 have H2:=zh hb1
 clear hb1 hr1 hx1
 by_cases h0:x=0
 ·subst h0
  go_wp2_with fail
  refine (must_false2 R bv1 _ _ w1 (uh HR)).mono ?_
  rintro e w2 ⟨rfl,hw2⟩
  obtain rfl:=hw2.symm
  clear hw2
  go_wp2
  go_ret
  exact⟨0,l1,bv1,rfl,by omega,uh H2,uh HR,uh H1⟩
 ·have hne:(x != 0)=true:=by simpa using h0
  go_wp2_with fail
  refine (must_true R w1).mono ?_
  rintro e w2 ⟨rfl,hw2⟩
  obtain rfl:=hw2.symm
  clear hw2
  go_wp2
  go_ret
  exact⟨x,l1,bv1,rfl,hx,uh H2,uh HR,uh H1⟩
end Go.Proofs.YtpheelbbpiieiaaGreatDoor.K
namespace Go.Proofs.YtpheelbbpiieiaaGreatDoor
open Go.RowKit Go.Extern.Stop Go.Stop Go.Extern
set_option maxRecDepth 100000
abbrev wrapW (v:Value) (w:World):World:=w.alloc (.cells #[.string ⟨#[112,114,111,112]⟩,v] 120)
theorem wrap_any (t:TypeId) (x:Value) (w:World):Calls Tryz.prog 117 #[.iface t x] w fun e w'=>e=.returned (.iface 118 (.pointer (some ⟨w.heap.size,0,none⟩)))/\w'=wrapW (.iface t x) w:=by
 go_enter Tryz.func117,Tryz.ntmps117
 go_wp2
 go_ret
 exact⟨rfl,rfl⟩
theorem pfault_any (n:Int) (w:World):Calls Tryz.prog 118 #[.int .i64 n] w fun e w'=>e=.returned (.iface 118 (.pointer (some ⟨w.heap.size,0,none⟩)))/\w'=wrapW (.iface 63 (.int .i64 n)) w:=by
 go_enter Tryz.func118,Tryz.ntmps118
 go_wp2_with (go_at_call 117;refine (wrap_any _ _ _).mono ?_;rintro e w' ⟨rfl,rfl⟩)
 go_ret
 exact⟨rfl,rfl⟩
def ErrP (w:World) (v:Value) (n:Int):Prop :=
 ErrIs w v n\/∃ b c,v=.iface 118 (.pointer (some ⟨b,0,none⟩))/\w.cell? ⟨b,1,none⟩=some (.iface 118 (.pointer (some ⟨c,0,none⟩)))/\w.cell? ⟨c,1,none⟩=some (.iface 63 (.int .i64 n))
def Inn (w:World) (v:Value) (n:Int):Prop:=v=.iface 63 (.int .i64 n)\/∃ b,v=.iface 118 (.pointer (some ⟨b,0,none⟩))/\w.cell? ⟨b,1,none⟩=some (.iface 63 (.int .i64 n))
theorem ErrP.below {w w':World} {v:Value} {n:Int} (h:ErrP w v n) (hb:Below w.heap.size w w'):ErrP w' v n:=by
 rcases h with h | ⟨b,c,h1,h2,h3⟩
 ·exact .inl (h.below hb)
 ·exact .inr ⟨b,c,h1,by rw[hb.cell (p:=⟨b,1,none⟩) (cell_lt h2)];exact h2,by rw[hb.cell (p:=⟨c,1,none⟩) (cell_lt h3)];exact h3⟩
theorem ErrP.nil (w:World):ErrP w .nilIface 0:=.inl (.inl ⟨rfl,rfl⟩)
theorem Inn.below {w w':World} {v:Value} {n:Int} (h:Inn w v n) (hb:Below w.heap.size w w'):Inn w' v n:=by
 rcases h with h | ⟨b,h1,h2⟩
 ·exact .inl h
 ·exact .inr ⟨b,h1,by rw[hb.cell (p:=⟨b,1,none⟩) (cell_lt h2)];exact h2⟩
theorem wrap_is (n:Int) (v:Value) (w:World) (h:Inn w v n):ErrP (wrapW v w) (.iface 118 (.pointer (some ⟨w.heap.size,0,none⟩))) n:=by
 rcases h with rfl | ⟨b,rfl,hc⟩
 ·exact .inl (.inr ⟨_,rfl,by simp⟩)
 ·exact .inr ⟨_,b,rfl,by simp,by rw[World.cell?_alloc_lt _ _ ⟨b,1,none⟩ (cell_lt hc)];exact hc⟩
theorem wrap_below (v:Value) (w:World):Below w.heap.size w (wrapW v w):=bal _ _
theorem pfault_use (n:Int) (w:World):Calls Tryz.prog 118 #[.int .i64 n] w fun e w'=>∃ E,e=.returned (.iface 118 E)/\Hid (ErrP w' (.iface 118 E) n)/\Below w.heap.size w w':=by
 refine (pfault_any n w).mono ?_
 rintro e w' ⟨rfl,rfl⟩
 exact⟨_,rfl,wrap_is n _ w (.inl rfl),wrap_below _ _⟩
theorem wrap_use (v:Value) (n:Int) (w:World) (h:Inn w v n):Calls Tryz.prog 117 #[v] w fun e w'=>∃ E,e=.returned (.iface 118 E)/\Hid (ErrP w' (.iface 118 E) n)/\Below w.heap.size w w':=by
 obtain⟨t,x,rfl⟩:∃ t x,v=.iface t x:=by rcases h with rfl | ⟨b,rfl,_⟩ <;> exact⟨_,_,rfl⟩
 refine (wrap_any t x w).mono ?_
 rintro e w' ⟨rfl,rfl⟩
 exact⟨_,rfl,wrap_is n _ w h,wrap_below _ _⟩
theorem few_ok (n:Int) (w:World) (h:n<=32):Calls Tryz.prog 120 #[.int .i64 n] w fun e w'=>e=.returned .nilIface/\w'=w:=by
 go_enter Tryz.func120,Tryz.ntmps120
 go_wp2
 go_ret
 exact⟨rfl,rfl⟩
theorem few_bad (n:Int) (w:World) (h:32 < n):Calls Tryz.prog 120 #[.int .i64 n] w fun e w'=>∃ E,e=.returned (.iface 118 E)/\Hid (ErrP w' (.iface 118 E) 2)/\Below w.heap.size w w':=by
 go_enter Tryz.func120,Tryz.ntmps120
 go_wp2_with (go_at_call 118;refine (pfault_use 2 _).mono ?_;rintro e w' ⟨E,rfl,hE,hb⟩)
 go_ret
 exact⟨_,rfl,hE,hb⟩
theorem methodComp (h:Value) (w:World):(Go.method 366 163 (.agg #[h]) "Comparable").run Tryz.prog w=.ok (203,.agg #[h]) w:=by kernel_rfl
theorem compE (w:World):((ReflectliteType.method fun t=>do Rtype.noPackHeld "Comparable" t;(fun a=>Value.bool a.comparable) <$> typeInfo t) #[.agg #[.pointer (some ⟨1,63,none⟩)]]).run Tryz.prog w=.ok (.bool true) w:=by kernel_rfl
theorem noIsF (v:Value) (xT:TypeId) (w:World):(Instr.typeAssert (.iface 118 v) xT 165 true).run Tryz.prog w=.ok (.tuple #[.nilIface,.bool false]) w:=run_typeAssert_lacksB Tryz.underlying165 (by kernel_rfl) (by kernel_rfl) v xT w
theorem noIsE (v:Value) (xT:TypeId) (w:World):(Instr.typeAssert (.iface 63 v) xT 165 true).run Tryz.prog w=.ok (.tuple #[.nilIface,.bool false]) w:=run_typeAssert_lacksB Tryz.underlying165 (by kernel_rfl) (by kernel_rfl) v xT w
theorem noUnwrapE (v:Value) (xT:TypeId) (w:World):(Instr.typeAssert (.iface 63 v) xT 168 true).run Tryz.prog w=.ok (.tuple #[.nilIface,.bool false]) w:=run_typeAssert_lacksB Tryz.underlying168 (by kernel_rfl) (by kernel_rfl) v xT w
theorem noUnwrapsE (v:Value) (xT:TypeId) (w:World):(Instr.typeAssert (.iface 63 v) xT 170 true).run Tryz.prog w=.ok (.tuple #[.nilIface,.bool false]) w:=run_typeAssert_lacksB Tryz.underlying170 (by kernel_rfl) (by kernel_rfl) v xT w
theorem eqE (n:Int) (w:World):(binOp .eql 35 (.iface 63 (.int .i64 n)) (.iface 63 (.int .i64 1))).run Tryz.prog w=.ok (.bool (n == 1)) w:=by kernel_rfl
theorem eqF (v u:Value) (w:World):(binOp .eql 35 (.iface 118 v) (.iface 63 u)).run Tryz.prog w=.ok (.bool false) w:=by kernel_rfl
theorem is_errno (n:Int) (w:World):Calls Tryz.prog 75 #[.iface 63 (.int .i64 n),.iface 63 (.int .i64 1),.bool true] w fun e w'=>e=.returned (.bool (n == 1))/\w'=w:=by
 have nI:=noIsE
 have q1:=eqE
 have q2:=eqF
 have nU:=noUnwrapE
 have nV:=noUnwrapsE
 by_cases h:n=1
 ·subst h
  go_enter Tryz.func75,Tryz.ntmps75
  go_wp2
  refine wp_loop_rounds 1 ?_
  rw[rounds_succ]
  go_wp2
  go_ret
  exact⟨rfl,rfl⟩
 ·have hb:(n == 1)=false:=beq_eq_false_iff_ne.2 h
  go_enter Tryz.func75,Tryz.ntmps75
  go_wp2
  refine wp_loop_rounds 1 ?_
  rw[rounds_succ]
  go_wp2
  go_ret
  exact⟨ret_bool hb.symm,rfl⟩
theorem is_fault (b:Nat) (n:Int) (w:World) (hc:w.cell? ⟨b,1,none⟩=some (.iface 63 (.int .i64 n))):Calls Tryz.prog 75 #[.iface 118 (.pointer (some ⟨b,0,none⟩)),.iface 63 (.int .i64 1),.bool true] w fun e w'=>e=.returned (.bool (n == 1))/\w'=w:=by
 have nI:=noIsE
 have q1:=eqE
 have q2:=eqF
 have nU:=noUnwrapE
 have nV:=noUnwrapsE
 have nF:=noIsF
 have hU:=hasUnwrapF
 have mU:=methodUnwrap
 by_cases h:n=1
 ·subst h
  go_enter Tryz.func75,Tryz.ntmps75
  go_wp2
  refine wp_loop_rounds 2 ?_
  rw[rounds_succ]
  go_wp2_with (go_at_call 197;refine (unwrap_any _ _ _ hc).mono ?_;rintro e w' ⟨rfl,rfl⟩)
  rw[rounds_succ]
  go_wp2
  go_ret
  exact⟨rfl,rfl⟩
 ·have hb:(n == 1)=false:=beq_eq_false_iff_ne.2 h
  go_enter Tryz.func75,Tryz.ntmps75
  go_wp2
  refine wp_loop_rounds 2 ?_
  rw[rounds_succ]
  go_wp2_with (go_at_call 197;refine (unwrap_any _ _ _ hc).mono ?_;rintro e w' ⟨rfl,rfl⟩)
  rw[rounds_succ]
  go_wp2
  go_ret
  exact⟨ret_bool hb.symm,rfl⟩
theorem is_inn (v:Value) (n:Int) (w:World) (h:Inn w v n):Calls Tryz.prog 75 #[v,.iface 63 (.int .i64 1),.bool true] w fun e w'=>e=.returned (.bool (n == 1))/\w'=w:=by
 rcases h with rfl | ⟨b,rfl,hc⟩
 ·exact is_errno n w
 ·exact is_fault b n w hc
theorem Is_inn (t:TypeId) (x:Value) (n:Int) (w:World) (h:Inn w (.iface t x) n):Calls Tryz.prog 46 #[.iface t x,.iface 63 (.int .i64 1)] w fun e w'=>e=.returned (.bool (n == 1))/\w'=w:=by
 have H:=zh h
 clear h
 have hT:=@run_callFunc_extern Tryz.prog 74 _ ReflectliteType.typeOf Tryz.func74 (by kernel_rfl) (by kernel_rfl) (by kernel_rfl) (by kernel_rfl)
 have hC:=@run_callFunc_extern Tryz.prog 203 _ (ReflectliteType.method fun t=>do Rtype.noPackHeld "Comparable" t;pure (.bool (<- typeInfo t).comparable)) Tryz.func203 (by kernel_rfl) (by kernel_rfl) (by kernel_rfl) (by kernel_rfl)
 have tO:=typeOfE
 have mC:=methodComp
 have cE:=compE
 go_enter Tryz.func46,Tryz.ntmps46
 go_wp2_with (go_at_call 75;refine (is_inn _ n _ (uh H)).mono ?_;rintro e w' ⟨rfl,rfl⟩)
 go_ret
 exact⟨rfl,rfl⟩
theorem broken_use (v:Value) (n:Int) (w:World) (h:Inn w v n):Calls Tryz.prog 145 #[v] w fun e w'=>∃ E,e=.returned (.iface 118 E)/\Hid (ErrP w' (.iface 118 E) 1)/\Below w.heap.size w w':=by
 obtain⟨t,x,rfl⟩:∃ t x,v=.iface t x:=by rcases h with rfl | ⟨b,rfl,_⟩ <;> exact⟨_,_,rfl⟩
 have H:=zh h
 clear h
 by_cases h:n=1
 ·subst h
  go_enter Tryz.func145,Tryz.ntmps145
  go_wp2_with (first | (go_at_call 46;refine (Is_inn t x 1 _ (uh H)).mono ?_;rintro e w' ⟨rfl,rfl⟩) | (go_at_call 117;refine (wrap_use _ 1 _ (uh H)).mono ?_;rintro e w' ⟨E,rfl,hE,hb⟩))
  go_ret
  exact⟨_,rfl,hE,hb⟩
 ·have hb:(n == 1)=false:=beq_eq_false_iff_ne.2 h
  go_enter Tryz.func145,Tryz.ntmps145
  go_wp2_with (first | (go_at_call 46;refine (Is_inn t x n _ (uh H)).mono ?_;rintro e w' ⟨rfl,rfl⟩) | (go_at_call 118;refine (pfault_use 1 _).mono ?_;rintro e w' ⟨E,rfl,hE,hb'⟩))
  go_ret
  exact⟨_,rfl,hE,hb'⟩
def Er (w:World):Nat->Value->Int->Prop
 | 0,v,n=>v=.iface 63 (.int .i64 n)
 | d+1,v,n=>∃ b u,v=.iface 118 (.pointer (some ⟨b,0,none⟩))/\w.cell? ⟨b,1,none⟩=some u/\Er w d u n
theorem Er.below {w w':World} (hb:Below w.heap.size w w'):∀ {d:Nat} {v:Value} {n:Int},Er w d v n->Er w' d v n
 | 0,_,_,h=>h
 | _+1,_,_,⟨b,u,h1,h2,h3⟩=>⟨b,u,h1,by rw[hb.cell (p:=⟨b,1,none⟩) (cell_lt h2)];exact h2,Er.below hb h3⟩
theorem Er.iface {w:World}:∀ {d:Nat} {v:Value} {n:Int},Er w d v n->∃ t x,v=.iface t x
 | 0,_,_,h=>⟨_,_,h⟩
 | _+1,_,_,⟨_,_,h,_⟩=>⟨_,_,h⟩
theorem eqEm (n m:Int) (w:World):(binOp .eql 35 (.iface 63 (.int .i64 n)) (.iface 63 (.int .i64 m))).run Tryz.prog w=.ok (.bool (n == m)) w:=by kernel_rfl
theorem er_is0 (n m:Int) (w:World)  : Calls Tryz.prog 75 #[.iface 63 (.int .i64 n),.iface 63 (.int .i64 m),.bool true] w fun e w'=>e=.returned (.bool (n == m))/\w'=w:=by
 have nI:=noIsE
 have q1:=eqEm
 have q2:=eqF
 have nU:=noUnwrapE
 have nV:=noUnwrapsE
 have nF:=noIsF
 have hU:=hasUnwrapF
 have mU:=methodUnwrap
 by_cases h:n=m
 ·subst h
  have hb:(n == n)=true:=by simp
  go_enter Tryz.func75,Tryz.ntmps75
  go_wp2
  refine wp_loop_rounds 1 ?_
  rw[rounds_succ]
  go_wp2
  go_ret
  exact⟨ret_bool hb.symm,rfl⟩
 ·have hb:(n == m)=false:=beq_eq_false_iff_ne.2 h
  go_enter Tryz.func75,Tryz.ntmps75
  go_wp2
  refine wp_loop_rounds 1 ?_
  rw[rounds_succ]
  go_wp2
  go_ret
  exact⟨ret_bool hb.symm,rfl⟩
theorem er_is1 (b0:Nat) (n m:Int) (w:World) (h0:w.cell? ⟨b0,1,none⟩=some (.iface 63 (.int .i64 n))):Calls Tryz.prog 75 #[.iface 118 (.pointer (some ⟨b0,0,none⟩)),.iface 63 (.int .i64 m),.bool true] w fun e w'=>e=.returned (.bool (n == m))/\w'=w:=by
 have nI:=noIsE
 have q1:=eqEm
 have q2:=eqF
 have nU:=noUnwrapE
 have nV:=noUnwrapsE
 have nF:=noIsF
 have hU:=hasUnwrapF
 have mU:=methodUnwrap
 by_cases h:n=m
 ·subst h
  have hb:(n == n)=true:=by simp
  go_enter Tryz.func75,Tryz.ntmps75
  go_wp2
  refine wp_loop_rounds 2 ?_
  rw[rounds_succ]
  go_wp2_with (go_at_call 197;refine (unwrap_any _ _ _ h0).mono ?_;rintro e w' ⟨rfl,rfl⟩)
  rw[rounds_succ]
  go_wp2
  go_ret
  exact⟨ret_bool hb.symm,rfl⟩
 ·have hb:(n == m)=false:=beq_eq_false_iff_ne.2 h
  go_enter Tryz.func75,Tryz.ntmps75
  go_wp2
  refine wp_loop_rounds 2 ?_
  rw[rounds_succ]
  go_wp2_with (go_at_call 197;refine (unwrap_any _ _ _ h0).mono ?_;rintro e w' ⟨rfl,rfl⟩)
  rw[rounds_succ]
  go_wp2
  go_ret
  exact⟨ret_bool hb.symm,rfl⟩
theorem er_is2 (b0 b1:Nat) (n m:Int) (w:World) (h0:w.cell? ⟨b0,1,none⟩=some (.iface 118 (.pointer (some ⟨b1,0,none⟩)))) (h1:w.cell? ⟨b1,1,none⟩=some (.iface 63 (.int .i64 n))):Calls Tryz.prog 75 #[.iface 118 (.pointer (some ⟨b0,0,none⟩)),.iface 63 (.int .i64 m),.bool true] w fun e w'=>e=.returned (.bool (n == m))/\w'=w:=by
 have nI:=noIsE
 have q1:=eqEm
 have q2:=eqF
 have nU:=noUnwrapE
 have nV:=noUnwrapsE
 have nF:=noIsF
 have hU:=hasUnwrapF
 have mU:=methodUnwrap
 by_cases h:n=m
 ·subst h
  have hb:(n == n)=true:=by simp
  go_enter Tryz.func75,Tryz.ntmps75
  go_wp2
  refine wp_loop_rounds 3 ?_
  rw[rounds_succ]
  go_wp2_with (go_at_call 197;refine (unwrap_any _ _ _ h0).mono ?_;rintro e w' ⟨rfl,rfl⟩)
  rw[rounds_succ]
  go_wp2_with (go_at_call 197;refine (unwrap_any _ _ _ h1).mono ?_;rintro e w' ⟨rfl,rfl⟩)
  rw[rounds_succ]
  go_wp2
  go_ret
  exact⟨ret_bool hb.symm,rfl⟩
 ·have hb:(n == m)=false:=beq_eq_false_iff_ne.2 h
  go_enter Tryz.func75,Tryz.ntmps75
  go_wp2
  refine wp_loop_rounds 3 ?_
  rw[rounds_succ]
  go_wp2_with (go_at_call 197;refine (unwrap_any _ _ _ h0).mono ?_;rintro e w' ⟨rfl,rfl⟩)
  rw[rounds_succ]
  go_wp2_with (go_at_call 197;refine (unwrap_any _ _ _ h1).mono ?_;rintro e w' ⟨rfl,rfl⟩)
  rw[rounds_succ]
  go_wp2
  go_ret
  exact⟨ret_bool hb.symm,rfl⟩
theorem er_is3 (b0 b1 b2:Nat) (n m:Int) (w:World) (h0:w.cell? ⟨b0,1,none⟩=some (.iface 118 (.pointer (some ⟨b1,0,none⟩)))) (h1:w.cell? ⟨b1,1,none⟩=some (.iface 118 (.pointer (some ⟨b2,0,none⟩)))) (h2:w.cell? ⟨b2,1,none⟩=some (.iface 63 (.int .i64 n))):Calls Tryz.prog 75 #[.iface 118 (.pointer (some ⟨b0,0,none⟩)),.iface 63 (.int .i64 m),.bool true] w fun e w'=>e=.returned (.bool (n == m))/\w'=w:=by
 have nI:=noIsE
 have q1:=eqEm
 have q2:=eqF
 have nU:=noUnwrapE
 have nV:=noUnwrapsE
 have nF:=noIsF
 have hU:=hasUnwrapF
 have mU:=methodUnwrap
 by_cases h:n=m
 ·subst h
  have hb:(n == n)=true:=by simp
  go_enter Tryz.func75,Tryz.ntmps75
  go_wp2
  refine wp_loop_rounds 4 ?_
  rw[rounds_succ]
  go_wp2_with (go_at_call 197;refine (unwrap_any _ _ _ h0).mono ?_;rintro e w' ⟨rfl,rfl⟩)
  rw[rounds_succ]
  go_wp2_with (go_at_call 197;refine (unwrap_any _ _ _ h1).mono ?_;rintro e w' ⟨rfl,rfl⟩)
  rw[rounds_succ]
  go_wp2_with (go_at_call 197;refine (unwrap_any _ _ _ h2).mono ?_;rintro e w' ⟨rfl,rfl⟩)
  rw[rounds_succ]
  go_wp2
  go_ret
  exact⟨ret_bool hb.symm,rfl⟩
 ·have hb:(n == m)=false:=beq_eq_false_iff_ne.2 h
  go_enter Tryz.func75,Tryz.ntmps75
  go_wp2
  refine wp_loop_rounds 4 ?_
  rw[rounds_succ]
  go_wp2_with (go_at_call 197;refine (unwrap_any _ _ _ h0).mono ?_;rintro e w' ⟨rfl,rfl⟩)
  rw[rounds_succ]
  go_wp2_with (go_at_call 197;refine (unwrap_any _ _ _ h1).mono ?_;rintro e w' ⟨rfl,rfl⟩)
  rw[rounds_succ]
  go_wp2_with (go_at_call 197;refine (unwrap_any _ _ _ h2).mono ?_;rintro e w' ⟨rfl,rfl⟩)
  rw[rounds_succ]
  go_wp2
  go_ret
  exact⟨ret_bool hb.symm,rfl⟩
theorem er_is (d:Nat) (hd:d<=3) (v:Value) (n m:Int) (w:World) (h:Er w d v n):Calls Tryz.prog 75 #[v,.iface 63 (.int .i64 m),.bool true] w fun e w'=>e=.returned (.bool (n == m))/\w'=w:=by
 match d,hd,h with
 | 0,_,h=>cases h;exact er_is0 n m w
 | 1,_,⟨b,u,h1,h2,h3⟩=>cases h1;cases h3;exact er_is1 b n m w h2
 | 2,_,⟨b,u,h1,h2,b',u',h3,h4,h5⟩=>cases h1;cases h3;cases h5;exact er_is2 b b' n m w h2 h4
 | 3,_,⟨b,u,h1,h2,b',u',h3,h4,b'',u'',h5,h6,h7⟩=>cases h1;cases h3;cases h5;cases h7;exact er_is3 b b' b'' n m w h2 h4 h6
theorem er_Is (d:Nat) (hd:d<=3) (v:Value) (n m:Int) (w:World) (h:Er w d v n):Calls Tryz.prog 46 #[v,.iface 63 (.int .i64 m)] w fun e w'=>e=.returned (.bool (n == m))/\w'=w:=by
 obtain⟨t,x,rfl⟩:=h.iface
 have H:=zh h
 clear h
 have hT:=@run_callFunc_extern Tryz.prog 74 _ ReflectliteType.typeOf Tryz.func74 (by kernel_rfl) (by kernel_rfl) (by kernel_rfl) (by kernel_rfl)
 have hC:=@run_callFunc_extern Tryz.prog 203 _ (ReflectliteType.method fun t=>do Rtype.noPackHeld "Comparable" t;pure (.bool (<- typeInfo t).comparable)) Tryz.func203 (by kernel_rfl) (by kernel_rfl) (by kernel_rfl) (by kernel_rfl)
 have tO:=typeOfE
 have mC:=methodComp
 have cE:=compE
 go_enter Tryz.func46,Tryz.ntmps46
 go_wp2_with (go_at_call 75;refine (er_is d hd _ n m _ (uh H)).mono ?_;rintro e w' ⟨rfl,rfl⟩)
 go_ret
 exact⟨rfl,rfl⟩
end Go.Proofs.YtpheelbbpiieiaaGreatDoor
