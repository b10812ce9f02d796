/- Proved here: helpers, one text behind the other. -/
import Derived.Test.YtccnjdgaldbgnaaGreatDoorZC32
import Derived.Test.YtccnjdgaldbgnaaGreatDoorZC9
import Derived.Test.YtccnjdgaldbgnaaGreatDoorZC24
import Derived.Test.YtccnjdgaldbgnaaGreatDoorZC8
import Derived.Test.YtccnjdgaldbgnaaGreatDoorZC29
import Derived.Test.YtccnjdgaldbgnaaGreatDoorZC15
set_option maxHeartbeats 20000000
namespace Go.Proofs.YtccnjdgaldbgnaaGreatDoor.K
open Go.RowKit
set_option maxRecDepth 100000
structure WS (w:World) (W:Nat) (bv:Value) (sz:Nat) (T:List Int) (E:Value):Prop where
 wt:Wtr w W bv sz E
 row:w.ownsRow (W+1) 5 1 bv T.length (T.map (Value.int .u8))
 rng:∀ j,0<=T.getD j 0/\T.getD j 0<=255
theorem WS.below {w w':World} {W:Nat} {bv:Value} {sz:Nat} {T:List Int} {E:Value} (h:WS w W bv sz T E) (hb:Below w.heap.size w w'):WS w' W bv sz T E:=by
 obtain⟨⟨a1,a2⟩,⟨b1,b2⟩,c1,c2⟩:=h.wt
 have hW:W < w.heap.size:=cell_lt a1
 exact⟨⟨⟨(hb.cell hW).trans a1,(hb.frozen hW).trans a2⟩,⟨(hb.cell hW).trans b1,(hb.frozen hW).trans b2⟩,(hb.cell hW).trans c1,(hb.frozen hW).trans c2⟩,owns_below h.row hb,h.rng⟩
theorem WS.bx {w w':World} {W:Nat} {bv:Value} {sz sz':Nat} {T:List Int} {E E':Value} {may:Nat->Prop} (h:WS w W bv sz T E) (hx:BX W may w w') (hw:Wtr w' W bv sz' E'):WS w' W bv sz' T E' :=
 ⟨hw,owns_bx h.row hx (Nat.lt_succ_self _),h.rng⟩
def EV (E:Value):Prop:=E=.nilIface\/∃ t x,E=.iface t x
def fst? (E e:Value):Value:=match E with
 | .nilIface=>e
 | _=>E
theorem wfail_gen (W:Nat) (bv E e:Value) (sz:Int) (w:World) (h:Wtr w W bv sz E) (hE:EV E) (he:EV e):Calls Tryz.prog 70 #[.pointer (some ⟨W,0,none⟩),e] w fun r w'=>r=.returned (.tuple #[])/\Wtr w' W bv sz (fst? E e)/\BX W is21 w w':=by
 rcases hE with rfl | ⟨t,x,rfl⟩
 ·rcases he with rfl | ⟨t,x,rfl⟩
  ·exact wfail_nil W bv sz w h
  ·exact wfail_new W bv sz t x w h
 ·refine (wfail_old W bv e sz t x w h).mono ?_
  rintro r w' ⟨rfl,rfl⟩
  exact⟨rfl,h,BX.refl _ _ _⟩
theorem fst_ev {E e:Value} (hE:EV E) (he:EV e):EV (fst? E e):=by
 rcases hE with rfl | ⟨t,x,rfl⟩
 ·exact he
 ·exact .inr ⟨t,x,rfl⟩
def AddPost (W:Nat) (bv:Value) (sz:Nat) (T ys:List Int) (E:Value) (w:World) (e:Ending) (w':World):Prop :=
 ∃ bv',e=.returned (.tuple #[])/\WS w' W bv' (sz+ys.length) (if sz+ys.length<=65536 then T++ys else T) E/\(bv'.ownBlock=bv.ownBlock\/∀ g,bv'.ownBlock=some g->w.heap.size<=g)/\FW W bv.ownBlock w w'/\(¬ sz+ys.length<=65536->bv'=bv)
theorem wadd_any (W:Nat) (bv E er:Value) (sz:Nat) (T ys:List Int) (vb:Value) (w:World) (h:WS w W bv sz T E) (hE:EV E) (he:EV er) (hy:∀ w',BX W isT w w'->Byt w' vb ys) (hs:sz<=4611686018427387904) (hl:ys.length<=140737488351232) (hT:T.length<=65536) :
  Calls Tryz.prog 63 #[.pointer (some ⟨W,0,none⟩),vb,er] w (AddPost W bv sz T ys (fst? E er) w):=by
 have hW:W < w.heap.size:=cell_lt h.wt.1.1
 obtain⟨ao,cap,rfl,-,-⟩:=(hy w (BX.refl _ _ _)).form
 have HS:=zh h
 have HY:=zh hy
 have HF:=zh (wfail_gen W bv E er sz w h.wt hE he)
 clear h hy
 go_enter Tryz.func63,Tryz.ntmps63
 go_wp2_with fail
 refine (uh HF).mono ?_
 rintro e w1 ⟨rfl,hw1,hx1⟩
 have HS1:=zh ((uh HS).bx hx1 hw1)
 have HX1:=zh hx1
 have hz1:=hx1.size
 have HR:=zh (room_any W bv (fst? E er) sz ys.length w1 hw1 (by omega) (by omega) (by omega) (by omega))
 clear hw1 hx1 HF HS
 go_wp2_with fail
 refine (uh HR).mono ?_
 rintro e w2 ⟨rfl,hw2,hx2⟩
 have HS2:Hid (WS w2 W bv (sz+ys.length) T (fst? E er)):=(uh HS1).bx hx2 (by have k:=hw2;rw[<- Int.natCast_add]at k;exact k)
 have HX2:Hid (BX W isT w w2):=((uh HX1).weak (fun j (e:j=21)=>by subst e;decide)).trans (hx2.weak (fun j (e:j=20)=>by subst e;decide))
 have hz2:=hx2.size
 have HY2:=zh ((uh HY) w2 (uh HX2))
 clear hw2 hx2 HR HS1 HX1 HY
 by_cases hr:sz+ys.length<=65536
 ·have hd:decide ((sz:Int)+(ys.length:Int)<=65536)=true:=decide_eq_true (by omega)
  obtain⟨⟨k1,kf1⟩,-,-⟩:=(uh HS2).wt
  have HBR:=zh (owns_blk (uh HS2).row)
  have hW2:W < w2.heap.size:=by omega
  go_wp2_with (first
   | (at_builtin;refine wpList_append_byt_at _ rfl _ _ rfl (W+1) bv T.length T rfl (uh HS2).row (.slice ao ys.length cap) ys rfl (uh HY2) (by omega) (by omega) ?_)
   | go_in)
  intro v3 w3 hown3 hg3 hv3
  have hne:some W≠bv.ownBlock:=fun e=>by have:=(uh HBR) W e.symm;omega
  have hb3:w3.heap[W]?=w2.heap[W]?:=hg3.block W hW2 hne
  have hc:∀ j,w3.cell? ⟨W,j,none⟩=w2.cell? ⟨W,j,none⟩:=fun j=>World.cell?_of_block hb3
  have hfz:∀ j,w3.frozen? ⟨W,j,none⟩=w2.frozen? ⟨W,j,none⟩:=fun j=>World.frozen?_of_block hb3
  have c3:w3.cell? ⟨W,19,none⟩=some bv:=(hc 19).trans k1
  have f3:w3.frozen? ⟨W,19,none⟩=false:=(hfz 19).trans kf1
  have HP:Hid (AddPost W bv sz T ys (fst? E er) w (.returned (.tuple #[])) (w3.setCell ⟨W,19,none⟩ v3)):=by
   obtain⟨-,⟨b1,b2⟩,d1,d2⟩:=(uh HS2).wt
   refine⟨v3,rfl,?_,?_,?_,fun k=>absurd hr k⟩
   ·rw[if_pos hr]
    refine⟨⟨⟨World.cell?_setCell_same _ _ _ c3,by rw[World.frozen?_setCell];exact f3⟩,⟨(World.cell?_setCell_other _ _ _ _ (fun e=>by simp at e)).trans ((hc 20).trans b1),by rw[World.frozen?_setCell];exact (hfz 20).trans b2⟩,(World.cell?_setCell_other _ _ _ _ (fun e=>by simp at e)).trans ((hc 21).trans d1),by rw[World.frozen?_setCell];exact (hfz 21).trans d2⟩,?_,?_⟩
    ·rw[List.length_append,List.map_append]
     exact owns_out (by rw[<- List.map_append]at hown3 |-;exact hown3) (Nat.lt_succ_self _)
    ·intro j
     have r1:=(uh HS2).rng j
     have r2:=(uh HY2).range (j - T.length)
     by_cases hj:j < T.length
     ·rw[List.getD_eq_getElem?_getD,List.getElem?_append_left hj,<- List.getD_eq_getElem?_getD];exact r1
     ·rw[List.getD_eq_getElem?_getD,List.getElem?_append_right (by omega),<- List.getD_eq_getElem?_getD];exact r2
   ·rcases hv3 with e | e
    ·exact .inl e
    ·exact .inr (fun g k=>by rw[e]at k;cases k;omega)
   ·exact ((FW.of_bx (uh HX2) (fun _ e=>e)).trans (FW.of_grown hg3 hW2 hne) (fun g e=>.inl e)).trans (row':=none) (FW.of_bx ((BX.refl W isT w3).set 19 v3 (Nat.le_refl _)) (fun _ e=>e)) (fun g e=>by cases e)
  obtain⟨a3,n3,p3,rfl⟩:∃ a n p,v3=.slice a n p:=by
   rcases hown3.2 with⟨rfl,_⟩ | ⟨g,cap,cur,rfl,_⟩
   ·exact⟨_,_,_,rfl⟩
   ·exact⟨_,_,_,rfl⟩
  clear hown3 hg3 hv3 hb3 hc hfz hne HS2 HY2 HBR HX2 k1 kf1
  go_wp2
  go_end0
  exact uh HP
 ·have hd:decide ((sz:Int)+(ys.length:Int)<=65536)=false:=decide_eq_false (by omega)
  have HP:Hid (AddPost W bv sz T ys (fst? E er) w (.returned (.tuple #[])) w2):=⟨bv,rfl,by rw[if_neg hr];exact uh HS2,.inl rfl,FW.of_bx (uh HX2) (fun _ e=>e),fun _=>rfl⟩
  go_wp2
  go_end0
  exact uh HP
theorem wpList_append_none (w:World) {ops:Array Oper} {rest:List Oper} {o:Oper} {a:Act} {Q:Exit->Act->World->Prop} (hgd:o.guard=none) (s x:Operand)
  (ho:o.op=.call { callee:=.builtin .append,args:=#[s,x],argTypes:=#[26,26] })
  (base:Nat) (v:Value) (n:Nat) (xs:List Value) (hs:a.eval s=v) (hown:w.ownsRow base 5 1 v n xs) (hx:a.eval x=.slice none 0 0)
  (h:wpList Tryz.prog ops Q rest (a.put o.dst v) w):wpList Tryz.prog ops Q (o :: rest) a w:=by
 refine wpList_plain hgd fun K hK=>?_
 obtain⟨i0,hi,hz0,hz1,hz2⟩:=info_parts Tryz.infoU8
 have hr:=run_append_owned_none (P:=Tryz.prog) (w:=w) base 26 o.type 5 i0 1 Tryz.underlying26 hi v n xs hown
 unfold Oper.wp execOp
 simp only[ho,resolve,invoke,builtin,Sem.run_bind,Sem.run_pure,Result.andThen_ok,List.map_toArray,List.map_cons,List.map_nil,hs,hx,hr]
 exact hK _ _ h
theorem wadd_bad (W:Nat) (bv E:Value) (t:TypeId) (x:Value) (sz:Nat) (T:List Int) (w:World) (h:WS w W bv sz T E) (hE:EV E) (hs:sz<=4611686018427387904) :
  Calls Tryz.prog 63 #[.pointer (some ⟨W,0,none⟩),.slice none 0 0,.iface t x] w fun e w'=>e=.returned (.tuple #[])/\WS w' W bv sz T (fst? E (.iface t x))/\BX W isT w w':=by
 have HS:=zh h
 have HF:=zh (wfail_gen W bv E (.iface t x) sz w h.wt hE (.inr ⟨_,_,rfl⟩))
 obtain⟨a3,n3,p3,rfl⟩:∃ a n p,bv=.slice a n p:=by
  rcases h.row.2 with⟨rfl,_⟩ | ⟨g,cap,cur,rfl,_⟩
  ·exact⟨_,_,_,rfl⟩
  ·exact⟨_,_,_,rfl⟩
 clear h
 go_enter Tryz.func63,Tryz.ntmps63
 go_wp2_with fail
 refine (uh HF).mono ?_
 rintro e w1 ⟨rfl,hw1,hx1⟩
 have HS1:=zh ((uh HS).bx hx1 hw1)
 have HX1:=zh hx1
 have HR:=zh (room_any W _ (fst? E (.iface t x)) sz 0 w1 hw1 (by omega) (by omega) (by omega) (by omega))
 clear hw1 hx1 HF HS
 go_wp2_with fail
 refine (uh HR).mono ?_
 rintro e w2 ⟨rfl,hw2,hx2⟩
 have HS2:Hid (WS w2 W (.slice a3 n3 p3) sz T (fst? E (.iface t x))):=(uh HS1).bx hx2 (by have k:=hw2;rw[Int.add_zero]at k;exact k)
 have HX2:Hid (BX W isT w w2):=((uh HX1).weak (fun j (e:j=21)=>by subst e;decide)).trans (hx2.weak (fun j (e:j=20)=>by subst e;decide))
 clear hw2 hx2 HR HS1 HX1
 by_cases hr:(sz:Int)+0<=65536
 ·have hd:decide ((sz:Int)+0<=65536)=true:=decide_eq_true hr
  obtain⟨⟨k1,kf1⟩,-,-⟩:=(uh HS2).wt
  have HP:Hid (WS (w2.setCell ⟨W,19,none⟩ (.slice a3 n3 p3)) W (.slice a3 n3 p3) sz T (fst? E (.iface t x))/\BX W isT w (w2.setCell ⟨W,19,none⟩ (.slice a3 n3 p3))):=by
   have hx:BX W isT w2 (w2.setCell ⟨W,19,none⟩ (.slice a3 n3 p3)):=(BX.refl W isT w2).set 19 _ (Nat.le_refl _)
   obtain⟨⟨a1,a2⟩,⟨b1,b2⟩,d1,d2⟩:=(uh HS2).wt
   exact⟨(uh HS2).bx hx ⟨⟨World.cell?_setCell_same _ _ _ a1,by rw[World.frozen?_setCell];exact a2⟩,⟨(World.cell?_setCell_other _ _ _ _ (fun e=>by simp at e)).trans b1,by rw[World.frozen?_setCell];exact b2⟩,(World.cell?_setCell_other _ _ _ _ (fun e=>by simp at e)).trans d1,by rw[World.frozen?_setCell];exact d2⟩,(uh HX2).trans hx⟩
  go_wp2_with (first
   | (at_builtin;refine wpList_append_none _ rfl _ _ rfl (W+1) (.slice a3 n3 p3) T.length _ rfl (uh HS2).row rfl ?_)
   | go_in)
  go_end0
  exact⟨rfl,uh HP⟩
 ·have hd:decide ((sz:Int)+0<=65536)=false:=decide_eq_false hr
  go_wp2
  go_end0
  exact⟨rfl,uh HS2,uh HX2⟩
def mst (c:Bool) (E:Value):Value:=if c then E else fst? E (.iface 47 (.int .i64 1))
theorem mst_ev {c:Bool} {E:Value} (hE:EV E):EV (mst c E):=by
 unfold mst
 split
 ·exact hE
 ·exact fst_ev hE (.inr ⟨_,_,rfl⟩)
theorem wmust_gen (W:Nat) (bv E:Value) (sz:Int) (c:Bool) (w:World) (h:Wtr w W bv sz E) (hE:EV E):Calls Tryz.prog 45 #[.pointer (some ⟨W,0,none⟩),.bool c] w fun r w'=>r=.returned (.tuple #[])/\Wtr w' W bv sz (mst c E)/\BX W is21 w w'/\EV (mst c E):=by
 have hev:=mst_ev (c:=c) hE
 cases c
 ·rcases hE with rfl | ⟨t,x,rfl⟩
  ·refine (wmust_new W bv sz w h).mono ?_
   rintro r w' ⟨rfl,h1,h2⟩
   exact⟨rfl,h1,h2,hev⟩
  ·refine (wmust_old W bv sz t x w h).mono ?_
   rintro r w' ⟨rfl,rfl⟩
   exact⟨rfl,h,BX.refl _ _ _,hev⟩
 ·refine (wmust_true W w).mono ?_
  rintro r w' ⟨rfl,rfl⟩
  exact⟨rfl,h,BX.refl _ _ _,hev⟩
theorem fst_nil {E:Value} (hE:EV E):fst? E .nilIface=E:=by
 rcases hE with rfl | ⟨t,x,rfl⟩ <;> rfl
theorem AddPost.ahead {W:Nat} {bv:Value} {sz:Nat} {T ys:List Int} {E:Value} {w w1 w2:World} {may:Nat->Prop} {e:Ending} {w':World} (h:AddPost W bv sz T ys E w2 e w') (hx:BX W may w w1) (hb:Below w1.heap.size w1 w2) (hm:∀ j,may j->19<=j) (hW:W < w1.heap.size):AddPost W bv sz T ys E w e w':=by
 obtain⟨bv',h1,h2,h3,h4,h5⟩:=h
 refine⟨bv',h1,h2,?_,((FW.of_bx hx hm).trans (row':=none) (FW.of_below hb hW) (fun g e=>by cases e)).trans h4 (fun g e=>.inl e),h5⟩
 rcases h3 with e | e
 ·exact .inl e
 ·exact .inr (fun g k=>Nat.le_trans (Nat.le_trans hx.size hb.size) (e g k))
theorem byt_bxw {w w':World} {W B:Nat} {may:Nat->Prop} {v:Value} {ys:List Int} (h:w.ownsRow B 5 1 v ys.length (ys.map (Value.int .u8))) (hr:∀ j,0<=ys.getD j 0/\ys.getD j 0<=255) (hx:BX W may w w') (hB:W < B):Byt w' v ys:=byt_of_owns (owns_bx h hx hB) hr
theorem rng1 {x:Int} (h:0<=x/\x<=255):∀ j,0<=([x]:List Int).getD j 0/\([x]:List Int).getD j 0<=255:=by
 intro j
 cases j with
 | zero=>exact h
 | succ j=>simp
theorem wone_any (W:Nat) (bv E:Value) (sz:Nat) (T:List Int) (n:Int) (w:World) (h:WS w W bv sz T E) (hE:EV E) (hn:-9223372036854775808<=n/\n<=9223372036854775807) (hs:sz<=4611686018427387904) (hT:T.length<=65536) :
  Calls Tryz.prog 36 #[.pointer (some ⟨W,0,none⟩),.int .i64 n] w (AddPost W bv sz T [n % 256] (mst (decide (0<=n) && decide (n < 256)) E) w):=by
 have HS:=zh h
 have hW:W < w.heap.size:=cell_lt h.wt.1.1
 have HM:=zh (fun c=>wmust_gen W bv E sz c w h.wt hE)
 clear h
 go_enter Tryz.func36,Tryz.ntmps36
 go_wp2_with fail
 all_goals (
  refine ((uh HM) _).mono ?_
  rintro e w1 ⟨rfl,hw1,hx1,hev⟩
  have HS1:=zh ((uh HS).bx hx1 hw1)
  have HX1:=zh hx1
  have hz1:=hx1.size
  have HE1:=zh hev
  clear hw1 hx1 hev HM HS
  have HA:Hid (Below w1.heap.size w1 (w1.alloc (.cells #[.int .u8 (n % 256)] 5))):=bal _ _
  have HS2:=zh ((uh HS1).below (uh HA))
  have HRW:Hid ((w1.alloc (.cells #[.int .u8 (n % 256)] 5)).ownsRow (W+1) 5 1 (.slice (some ⟨w1.heap.size,0,none⟩) 1 1) 1 ([n % 256].map (Value.int .u8))):=⟨rfl,.inr ⟨w1.heap.size,1,#[.int .u8 (n % 256)],rfl,by omega,heap_alloc_new _ _,Nat.le_refl _,by unfold maxLen;omega,rfl,rfl⟩⟩
  have hb:0<=n % 256/\n % 256<=255:=by omega
  have HAD:=zh (wadd_any W bv _ .nilIface sz T [n % 256] (.slice (some ⟨w1.heap.size,0,none⟩) 1 1) _ (uh HS2) (uh HE1) (.inl rfl) (fun w' hx=>byt_bxw (uh HRW) (rng1 hb) hx (Nat.lt_succ_self _)) hs (by simp) hT)
  rw[fst_nil (uh HE1)]at HAD
  go_wp2_with fail
  refine (uh HAD).mono ?_
  rintro e w3 hp
  have HP:=zh (hp.ahead (uh HX1) (uh HA) (fun j (e:j=21)=>by subst e;decide) (by omega))
  obtain⟨bv',rfl,-⟩:=hp
  clear HAD HS2 HRW HS1
  go_wp2
  go_end0
  have hh:=uh HP
  first
   | (have h0:(0:Int)<=n:=(by assumption);rw[decide_eq_true h0,Bool.true_and];exact hh)
   | (have h0:n < 0:=(by assumption);rw[decide_eq_false (by omega),Bool.false_and];exact hh))
theorem rng2 {x y:Int} (h:0<=x/\x<=255) (k:0<=y/\y<=255):∀ j,0<=([x,y]:List Int).getD j 0/\([x,y]:List Int).getD j 0<=255:=by
 intro j
 match j with
 | 0=>exact h
 | 1=>exact k
 | j+2=>simp
theorem wtwo_any (W:Nat) (bv E:Value) (sz:Nat) (T:List Int) (n:Int) (w:World) (h:WS w W bv sz T E) (hE:EV E) (hn:-9223372036854775808<=n/\n<=9223372036854775807) (hs:sz<=4611686018427387904) (hT:T.length<=65536) :
  Calls Tryz.prog 58 #[.pointer (some ⟨W,0,none⟩),.int .i64 n] w (AddPost W bv sz T [n / 256 % 256,n % 256] (mst (decide (0<=n) && decide (n < 65536)) E) w):=by
 have HS:=zh h
 have hW:W < w.heap.size:=cell_lt h.wt.1.1
 have HM:=zh (fun c=>wmust_gen W bv E sz c w h.wt hE)
 clear h
 go_enter Tryz.func58,Tryz.ntmps58
 go_wp2_with fail
 all_goals (
  refine ((uh HM) _).mono ?_
  rintro e w1 ⟨rfl,hw1,hx1,hev⟩
  have HS1:=zh ((uh HS).bx hx1 hw1)
  have HX1:=zh hx1
  have hz1:=hx1.size
  have HE1:=zh hev
  clear hw1 hx1 hev HM HS
  have HA:Hid (Below w1.heap.size w1 (w1.alloc (.cells #[.int .u8 (n / 256 % 256),.int .u8 (n % 256)] 5))):=bal _ _
  have HS2:=zh ((uh HS1).below (uh HA))
  have HRW:Hid ((w1.alloc (.cells #[.int .u8 (n / 256 % 256),.int .u8 (n % 256)] 5)).ownsRow (W+1) 5 1 (.slice (some ⟨w1.heap.size,0,none⟩) 2 2) 2 ([n / 256 % 256,n % 256].map (Value.int .u8))):=⟨rfl,.inr ⟨w1.heap.size,2,#[.int .u8 (n / 256 % 256),.int .u8 (n % 256)],rfl,by omega,heap_alloc_new _ _,Nat.le_refl _,by unfold maxLen;omega,rfl,rfl⟩⟩
  have hb:0<=n % 256/\n % 256<=255:=by omega
  have hb2:0<=n / 256 % 256/\n / 256 % 256<=255:=by omega
  have HAD:=zh (wadd_any W bv _ .nilIface sz T [n / 256 % 256,n % 256] (.slice (some ⟨w1.heap.size,0,none⟩) 2 2) _ (uh HS2) (uh HE1) (.inl rfl) (fun w' hx=>byt_bxw (uh HRW) (rng2 hb2 hb) hx (Nat.lt_succ_self _)) hs (by simp) hT)
  rw[fst_nil (uh HE1)]at HAD
  go_wp2_with fail
  refine (uh HAD).mono ?_
  rintro e w3 hp
  have HP:=zh (hp.ahead (uh HX1) (uh HA) (fun j (e:j=21)=>by subst e;decide) (by omega))
  obtain⟨bv',rfl,-⟩:=hp
  clear HAD HS2 HRW HS1
  go_wp2
  go_end0
  have hh:=uh HP
  first
   | (have h0:(0:Int)<=n:=(by assumption);rw[decide_eq_true h0,Bool.true_and];exact hh)
   | (have h0:n < 0:=(by assumption);rw[decide_eq_false (by omega),Bool.false_and];exact hh))
theorem wid_any (W:Nat) (bv E:Value) (sz:Nat) (T:List Int) (n:Int) (w:World) (h:WS w W bv sz T E) (hE:EV E) (hn:-9223372036854775808<=n/\n<=9223372036854775807) (hs:sz<=4611686018427387904) (hT:T.length<=65536) :
  Calls Tryz.prog 42 #[.pointer (some ⟨W,0,none⟩),.int .i64 n] w (AddPost W bv sz T [n / 256 % 256,n % 256] (mst (decide (0<=n) && decide (n < 65536)) (mst (n != 0) E)) w):=by
 have HS:=zh h
 have hW:W < w.heap.size:=cell_lt h.wt.1.1
 have HM:=zh (wmust_gen W bv E sz (n != 0) w h.wt hE)
 clear h
 go_enter Tryz.func42,Tryz.ntmps42
 go_wp2_with fail
 refine (uh HM).mono ?_
 rintro e w1 ⟨rfl,hw1,hx1,hev⟩
 have HAD:=zh (wtwo_any W bv _ sz T n w1 ((uh HS).bx hx1 hw1) hev hn hs hT)
 have HX1:=zh hx1
 clear hw1 hx1 hev HM HS
 go_wp2_with fail
 refine (uh HAD).mono ?_
 rintro e w3 hp
 have HP:=zh (hp.ahead (uh HX1) (Below.refl _ _) (fun j (e:j=21)=>by subst e;decide) (Nat.lt_of_lt_of_le hW (uh HX1).size))
 obtain⟨bv',rfl,-⟩:=hp
 clear HAD
 go_wp2
 go_end0
 exact uh HP
theorem wtext_ok (W:Nat) (bv E:Value) (sz:Nat) (T:List Int) (s:ByteArray) (w:World) (h:WS w W bv sz T E) (hE:EV E) (hc:chk (sb s)=0) (hs:sz<=4611686018427387904) (hT:T.length<=65536) :
  Calls Tryz.prog 57 #[.pointer (some ⟨W,0,none⟩),.string s] w (AddPost W bv sz T (tx s) E w):=by
 have HS:=zh h
 have hW:W < w.heap.size:=cell_lt h.wt.1.1
 have hs2:s.size<=65535:=by have:=chk_0 hc;rw[sb_length]at this;exact this
 have hl:=tx_length s
 have hr:=tx_range s hs2
 have HP:=zh (put_ok s w hc)
 have HR:=zh hr
 have HE:=zh hE
 clear h hc hr hE
 go_enter Tryz.func57,Tryz.ntmps57
 go_wp2_with fail
 refine (uh HP).mono ?_
 rintro e w1 ⟨v,rfl,hown,hb⟩
 have HA:=zh hb
 have HS1:=zh ((uh HS).below hb)
 have HAD:=zh (wadd_any W bv E .nilIface sz T (tx s) v w1 (uh HS1) (uh HE) (.inl rfl) (fun w' hx=>byt_bxw (B:=w.heap.size) (by rw[hl];exact uh hown) (uh HR) hx hW) hs (by rw[hl];omega) hT)
 rw[fst_nil (uh HE)]at HAD
 clear hown hb HP HS
 go_wp2_with fail
 refine (uh HAD).mono ?_
 rintro e w3 hp
 have HQ:=zh (hp.ahead (BX.refl W isT w) (uh HA) (fun _ e=>e) hW)
 obtain⟨bv',rfl,-⟩:=hp
 clear HAD HS1
 go_wp2
 go_end0
 exact uh HQ
theorem wbin_ok (W:Nat) (bv E:Value) (sz:Nat) (T:List Int) (s:ByteArray) (w:World) (h:WS w W bv sz T E) (hE:EV E) (hs2:s.size<=65535) (hs:sz<=4611686018427387904) (hT:T.length<=65536) :
  Calls Tryz.prog 61 #[.pointer (some ⟨W,0,none⟩),.string s] w (AddPost W bv sz T (tx s) E w):=by
 have HS:=zh h
 have hW:W < w.heap.size:=cell_lt h.wt.1.1
 have hl:=tx_length s
 have hr:=tx_range s hs2
 have HP:=zh (putBin_ok s w hs2)
 have HR:=zh hr
 have HE:=zh hE
 clear h hr hE
 go_enter Tryz.func61,Tryz.ntmps61
 go_wp2_with fail
 refine (uh HP).mono ?_
 rintro e w1 ⟨v,rfl,hown,hb⟩
 have HA:=zh hb
 have HS1:=zh ((uh HS).below hb)
 have HAD:=zh (wadd_any W bv E .nilIface sz T (tx s) v w1 (uh HS1) (uh HE) (.inl rfl) (fun w' hx=>byt_bxw (B:=w.heap.size) (by rw[hl];exact uh hown) (uh HR) hx hW) hs (by rw[hl];omega) hT)
 rw[fst_nil (uh HE)]at HAD
 clear hown hb HP HS
 go_wp2_with fail
 refine (uh HAD).mono ?_
 rintro e w3 hp
 have HQ:=zh (hp.ahead (BX.refl W isT w) (uh HA) (fun _ e=>e) hW)
 obtain⟨bv',rfl,-⟩:=hp
 clear HAD HS1
 go_wp2
 go_end0
 exact uh HQ
def offX (W:Nat) (bv:Value) (b:Nat):Prop:=b=W\/bv.ownBlock=some b
def Sg (w:World) (W:Nat) (bv:Value) (sz:Nat) (T:List Int) (E:Value):Option (List Int)->Prop
 | some l=>E=.nilIface/\sz=l.length/\(l.length<=65536->T=l)/\(bv.ownBlock=none\/2<=T.length\/l.length=1)
 | none=>∃ d n,d<=2/\ErO w (offX W bv) d E n
def SgF (w:World) (W:Nat) (sz:Nat) (T:List Int) (E:Value):Option (List Int)->Prop
 | some l=>E=.nilIface/\sz=l.length/\(l.length<=65536->T=l)
 | none=>∃ d n,d<=2/\ErO w (fun b=>b=W) d E n
structure WQ (w0 w:World) (W:Nat) (p:Pkv) (st:Option (List Int)) (m:Nat):Prop where
 bel:Below w0.heap.size w0 w
 low:w0.heap.size<=W
 pk:Pk w W p
 ex:∃ bv sz T E,WS w W bv sz T E/\(T.length<=65536/\T.length<=sz)/\sz<=m/\Sg w W bv sz T E st
structure WF (w0 w:World) (W:Nat) (p:Pkv) (st:Option (List Int)) (m:Nat):Prop where
 bel:Below w0.heap.size w0 w
 low:w0.heap.size<=W
 pk:Pk w W p
 ex:∃ bv sz T E,WS w W bv sz T E/\(T.length<=65536/\T.length<=sz)/\sz<=m/\SgF w W sz T E st
theorem WQ.wf {w0 w:World} {W:Nat} {p:Pkv} {st:Option (List Int)} {m:Nat} (h:WQ w0 w W p st m):WF w0 w W p st m:=by
 obtain⟨h1,h2,h3,bv,sz,T,E,h4,h5,h6,h7⟩:=h
 refine⟨h1,h2,h3,bv,sz,T,E,h4,h5,h6,?_⟩
 cases st with
 | none=>obtain⟨d,n,hd,he⟩:=h7;exact⟨d,n,hd,he.weak (fun b e=>.inl e)⟩
 | some l=>exact⟨h7.1,h7.2.1,h7.2.2.1⟩
theorem Sg.ev {w:World} {W:Nat} {bv:Value} {sz:Nat} {T:List Int} {E:Value} {st:Option (List Int)} (h:Sg w W bv sz T E st):EV E:=by
 cases st with
 | none=>obtain⟨d,n,hd,he⟩:=h;exact .inr he.iface
 | some l=>exact .inl h.1
theorem WQ.lt {w0 w:World} {W:Nat} {p:Pkv} {st:Option (List Int)} {m:Nat} (h:WQ w0 w W p st m):W < w.heap.size:=cell_lt h.pk.kind
theorem FW.below {W:Nat} {row:Option Nat} {w0 w w':World} (h:FW W row w w') (hb:Below w0.heap.size w0 w) (hW:w0.heap.size<=W) (hr:∀ g,row=some g->w0.heap.size<=g):Below w0.heap.size w0 w' :=
 ⟨h.fb.os.trans hb.os,h.fb.tape.trans hb.tape,h.fb.output.trans hb.output,Nat.le_trans hb.size h.fb.size,fun k hk=>(h.fb.block k (Nat.lt_of_lt_of_le hk hb.size) (by omega) (fun e=>by have:=hr k e.symm;omega)).trans (hb.block k hk)⟩
theorem Pk.fw {W:Nat} {row:Option Nat} {w w':World} {p:Pkv} (hp:Pk w W p) (h:FW W row w w'):Pk w' W p:=fun j hj=>⟨(h.cell j hj).trans (hp j hj).1,(h.frozen j hj).trans (hp j hj).2⟩
theorem ErO.fw {W:Nat} {bv bv':Value} {w w':World} (h:FB W bv.ownBlock w w') (hv:bv'.ownBlock=bv.ownBlock\/∀ g,bv'.ownBlock=some g->w.heap.size<=g):∀ {d:Nat} {v:Value} {n:Int},ErO w (offX W bv) d v n->ErO w' (offX W bv') d v n
 | 0,_,_,h=>h
 | _+1,_,_,⟨b,u,h1,hR,h2,h3⟩=>⟨b,u,h1,fun e=>by
   rcases e with e | e
   ·exact hR (.inl e)
   ·rcases hv with k | k
    ·exact hR (.inr (k ▸ e))
    ·have:=k b e
     have:=cell_lt h2
     simp only at this
     omega,(World.cell?_of_block (w:=w) (h.block b (cell_lt h2) (fun e=>hR (.inl e)) (fun e=>hR (.inr e.symm)))).trans h2,ErO.fw h hv h3⟩
theorem ws_rows {w:World} {W:Nat} {bv:Value} {sz:Nat} {T:List Int} {E:Value} (h:WS w W bv sz T E):∀ g,bv.ownBlock=some g->W+1<=g:=owns_blk h.row
def sAdd (c:Bool) (ys:List Int) (l:List Int):Option (List Int):=if c then some (l++ys) else none
def sMust (c:Bool) (l:List Int):Option (List Int):=if c then some l else none
theorem fst_if (t:TypeId) (x e:Value):fst? (.iface t x) e=.iface t x:=rfl
theorem mst_if (c:Bool) (t:TypeId) (x:Value):mst c (.iface t x)=.iface t x:=by unfold mst;split <;> rfl
theorem mst_mst {c d:Bool} {E:Value} (hE:EV E):mst c (mst d E)=mst (c && d) E:=by
 rcases hE with rfl | ⟨t,x,rfl⟩
 ·cases c <;> cases d <;> rfl
 ·rw[mst_if,mst_if,mst_if]
def FT (W:Nat) (w w':World):Prop:=w.heap.size<=w'.heap.size/\∀ k c t,k≠W->w.heap[k]?=some (.cells c t)->t≠5->w'.heap[k]?=w.heap[k]?
theorem FT.refl (W:Nat) (w:World):FT W w w:=⟨Nat.le_refl _,fun _ _ _ _ _ _=>rfl⟩
theorem FT.trans {W:Nat} {a b c:World} (h:FT W a b) (k:FT W b c):FT W a c:=⟨Nat.le_trans h.1 k.1,fun i x t hi hx ht=>by
 have e:=h.2 i x t hi hx ht
 exact (k.2 i x t hi (e.trans hx) ht).trans e⟩
theorem FT.of_below {W:Nat} {a b:World} (h:Below a.heap.size a b):FT W a b:=⟨h.size,fun i _ _ _ hx _=>h.block i (Array.getElem?_eq_some_iff.1 hx).1⟩
theorem FT.of_bx {W:Nat} {may:Nat->Prop} {a b:World} (h:BX W may a b):FT W a b:=⟨h.size,fun i _ _ hi hx _=>h.block i (Array.getElem?_eq_some_iff.1 hx).1 hi⟩
theorem FT.of_fw {w w':World} {W:Nat} {bv:Value} {sz:Nat} {T:List Int} {E:Value} (hW:WS w W bv sz T E) (h:FW W bv.ownBlock w w'):FT W w w':=⟨h.fb.size,fun i x t hi hx ht=>h.fb.block i (Array.getElem?_eq_some_iff.1 hx).1 hi (fun e=>by
 rcases hW.row.2 with⟨rfl,_⟩ | ⟨g,cap,cur,rfl,_,hg,_⟩
 ·cases e
 ·cases e
  rw[hg]at hx
  cases hx
  exact ht rfl)⟩
theorem FT.cell {W:Nat} {w w':World} (h:FT W w w') {b:Nat} {c:Array Value} {t:TypeId} (hb:w.heap[b]?=some (.cells c t)) (hW:b≠W) (ht:t≠5):w'.heap[b]?=some (.cells c t):=(h.2 b c t hW hb ht).trans hb
theorem wq_step {w0 w w':World} {W:Nat} {p:Pkv} {bv:Value} {sz:Nat} {T ys:List Int} {E:Value} {st:Option (List Int)} {m:Nat} {e:Ending} (c:Bool) (hW:WS w W bv sz T E) (hm:sz<=m) (hT:T.length<=65536/\T.length<=sz) (hS:Sg w W bv sz T E st)
  (hb:Below w0.heap.size w0 w) (hlow:w0.heap.size<=W) (hpk:Pk w W p) (hA:AddPost W bv sz T ys (mst c E) w e w') (hys:ys≠[]) (hl:∀ l,st=some l->l.length≠1\/ys.length<=60000) :
  e=.returned (.tuple #[])/\WQ w0 w' W p (st.bind (sAdd c ys)) (m+ys.length)/\FT W w w':=by
 obtain⟨bv',rfl,hW',hv,hF,hno⟩:=hA
 have hrow:=ws_rows hW
 refine⟨rfl,⟨hF.below hb hlow (fun g e=>by have:=hrow g e;omega),hlow,hpk.fw hF,bv',_,_,_,hW',?_,by omega,?_⟩,FT.of_fw hW hF⟩
 ·split
  ·rw[List.length_append]
   omega
  ·omega
 cases st with
 | none =>
  obtain⟨d,n,hd,he⟩:=hS
  obtain⟨t,x,rfl⟩:=he.iface
  rw[mst_if]
  exact⟨d,n,hd,he.fw hF.fb hv⟩
 | some l =>
  obtain⟨rfl,h2,h3,h4⟩:=hS
  cases c
  ·exact⟨0,1,by omega,rfl⟩
  ·refine⟨rfl,by rw[List.length_append];omega,?_,?_⟩
   ·intro hle
    rw[List.length_append]at hle
    rw[if_pos (by omega),h3 (by omega)]
   ·by_cases hr:sz+ys.length<=65536
    ·rw[if_pos hr,h3 (by omega),List.length_append]
     have:1<=ys.length:=List.length_pos_iff.2 hys
     omega
    ·rw[if_neg hr,hno hr]
     rcases h4 with h4 | h4 | h4
     ·exact .inl h4
     ·exact .inr (.inl h4)
     ·rcases hl l rfl with k | k
      ·exact absurd h4 k
      ·omega
theorem er_off {w:World} {W:Nat} {bv:Value} {sz:Nat} {T:List Int} {E:Value} {c:Bool} (hW:WS w W bv sz T E) (hc:w.cell? ⟨W,1,none⟩=some (.bool c)) (h2:bv.ownBlock=none\/2<=T.length):∀ {d:Nat} {v:Value} {n:Int},Er w d v n->ErO w (offX W bv) d v n
 | 0,_,_,h=>h
 | _+1,_,_,⟨b,u,h1,k2,h3⟩=>by
  obtain⟨t,x,hu⟩:=h3.iface
  refine⟨b,u,h1,?_,k2,er_off hW hc h2 h3⟩
  subst hu
  rintro (e | e)
  ·subst e
   rw[hc]at k2
   cases k2
  ·rcases h2 with h2 | h2
   ·rw[h2]at e;cases e
   ·rcases hW.row.2 with⟨rfl,h0⟩ | ⟨g,cap,cur,rfl,_,hg,hn,_,hsz,hx⟩
    ·cases e
    ·cases e
     have hy:=byt_of_owns hW.row hW.rng
     obtain⟨ao,cap',hv,_,_,hc'⟩:=hy
     simp only[Value.slice.injEq]at hv
     obtain⟨rfl,_,_⟩:=hv
     rcases hc' with rfl | ⟨b',off',e',hc'⟩
     ·simp at h2
     ·simp only[Option.some.injEq,Addr.mk.injEq,and_true]at e'
      obtain⟨rfl,rfl⟩:=e'
      have k:=hc' 1 (by omega)
      rw[Nat.zero_add,k2]at k
      cases k
theorem er_own {w:World} {W:Nat} {c:Bool} (hc:w.cell? ⟨W,1,none⟩=some (.bool c)) {d:Nat} {v:Value} {n:Int} (h:Er w d v n):ErO w (fun b=>b=W) d v n:=ErO.of hc h
def QPost (w0:World) (W:Nat) (p:Pkv) (st:Option (List Int)) (m:Nat) (w:World) (e:Ending) (w':World):Prop:=e=.returned (.tuple #[])/\WQ w0 w' W p st m/\FT W w w'
def FPost (w0:World) (W:Nat) (p:Pkv) (st:Option (List Int)) (m:Nat) (w:World) (e:Ending) (w':World):Prop:=e=.returned (.tuple #[])/\WF w0 w' W p st m/\FT W w w'
theorem WQ.mono {w0 w:World} {W:Nat} {p:Pkv} {st:Option (List Int)} {m m':Nat} (h:WQ w0 w W p st m) (hm:m<=m'):WQ w0 w W p st m':=by
 obtain⟨h1,h2,h3,bv,sz,T,E,h4,h5,h6,h7⟩:=h
 exact⟨h1,h2,h3,bv,sz,T,E,h4,h5,Nat.le_trans h6 hm,h7⟩
theorem Sg.fw {W:Nat} {bv:Value} {w w':World} {sz:Nat} {T:List Int} {E:Value} {st:Option (List Int)} (h:Sg w W bv sz T E st) (hf:FB W bv.ownBlock w w'):Sg w' W bv sz T E st:=by
 cases st with
 | none=>obtain⟨d,n,hd,he⟩:=h;exact⟨d,n,hd,he.fw hf (.inl rfl)⟩
 | some l=>exact h
theorem WQ.below {w0 w w':World} {W:Nat} {p:Pkv} {st:Option (List Int)} {m:Nat} (h:WQ w0 w W p st m) (hb:Below w.heap.size w w'):WQ w0 w' W p st m:=by
 obtain⟨h1,h2,h3,bv,sz,T,E,h4,h5,h6,h7⟩:=h
 exact⟨h1.trans (hb.mono h1.size),h2,h3.below hb,bv,sz,T,E,h4.below hb,h5,h6,h7.fw (FB.of_below hb)⟩
theorem must_q {w0 w:World} {W:Nat} {p:Pkv} {st:Option (List Int)} {m:Nat} (h:WQ w0 w W p st m) (c:Bool):Calls Tryz.prog 45 #[.pointer (some ⟨W,0,none⟩),.bool c] w (QPost w0 W p (st.bind (sMust c)) m w):=by
 obtain⟨h1,h2,h3,bv,sz,T,E,h4,h5,h6,h7⟩:=h
 refine (wmust_gen W bv E sz c w h4.wt h7.ev).mono ?_
 rintro r w' ⟨rfl,k1,k2,k3⟩
 have hm21:∀ j,is21 j->19<=j:=fun j (e:j=21)=>by subst e;decide
 have hF:FW W bv.ownBlock w w':=FW.of_bx k2 hm21
 refine⟨rfl,⟨hF.below h1 h2 (fun g e=>by have:=ws_rows h4 g e;omega),h2,h3.fw hF,bv,sz,T,_,h4.bx k2 k1,h5,h6,?_⟩,FT.of_bx k2⟩
 cases st with
 | none =>
  obtain⟨d,n,hd,he⟩:=h7
  obtain⟨t,x,rfl⟩:=he.iface
  rw[mst_if]
  exact⟨d,n,hd,he.fw hF.fb (.inl rfl)⟩
 | some l =>
  obtain⟨rfl,k⟩:=h7
  cases c
  ·exact⟨0,1,by omega,rfl⟩
  ·exact⟨rfl,k⟩
def in8 (n:Int):Bool:=decide (0<=n) && decide (n < 256)
def in16 (n:Int):Bool:=decide (0<=n) && decide (n < 65536)
abbrev b2 (n:Int):List Int:=[n / 256 % 256,n % 256]
theorem one_q {w0 w:World} {W:Nat} {p:Pkv} {st:Option (List Int)} {m:Nat} (h:WQ w0 w W p st m) (n:Int) (hn:-9223372036854775808<=n/\n<=9223372036854775807) (hm:m<=4611686018427387904):Calls Tryz.prog 36 #[.pointer (some ⟨W,0,none⟩),.int .i64 n] w (QPost w0 W p (st.bind (sAdd (in8 n) [n % 256])) (m+1) w):=by
 obtain⟨h1,h2,h3,bv,sz,T,E,h4,h5,h6,h7⟩:=h
 refine (wone_any W bv E sz T n w h4 h7.ev hn (by omega) h5.1).mono ?_
 intro e w' hA
 exact wq_step (in8 n) h4 h6 h5 h7 h1 h2 h3 hA (by simp) (fun l _=>.inr (by simp))
theorem two_q {w0 w:World} {W:Nat} {p:Pkv} {st:Option (List Int)} {m:Nat} (h:WQ w0 w W p st m) (n:Int) (hn:-9223372036854775808<=n/\n<=9223372036854775807) (hm:m<=4611686018427387904):Calls Tryz.prog 58 #[.pointer (some ⟨W,0,none⟩),.int .i64 n] w (QPost w0 W p (st.bind (sAdd (in16 n) (b2 n))) (m+2) w):=by
 obtain⟨h1,h2,h3,bv,sz,T,E,h4,h5,h6,h7⟩:=h
 refine (wtwo_any W bv E sz T n w h4 h7.ev hn (by omega) h5.1).mono ?_
 intro e w' hA
 exact wq_step (in16 n) h4 h6 h5 h7 h1 h2 h3 hA (by simp) (fun l _=>.inr (by simp))
theorem id_q {w0 w:World} {W:Nat} {p:Pkv} {st:Option (List Int)} {m:Nat} (h:WQ w0 w W p st m) (n:Int) (hn:-9223372036854775808<=n/\n<=9223372036854775807) (hm:m<=4611686018427387904):Calls Tryz.prog 42 #[.pointer (some ⟨W,0,none⟩),.int .i64 n] w (QPost w0 W p (st.bind (sAdd (in16 n && n != 0) (b2 n))) (m+2) w):=by
 obtain⟨h1,h2,h3,bv,sz,T,E,h4,h5,h6,h7⟩:=h
 refine (wid_any W bv E sz T n w h4 h7.ev hn (by omega) h5.1).mono ?_
 intro e w' hA
 rw[mst_mst h7.ev]at hA
 exact wq_step (in16 n && n != 0) h4 h6 h5 h7 h1 h2 h3 hA (by simp) (fun l _=>.inr (by simp))
theorem add_bad_q {w0 w:World} {W:Nat} {p:Pkv} {st:Option (List Int)} {m:Nat} (h:WQ w0 w W p st m) (t:TypeId) (x:Value) (he:∃ d n,d<=2/\Er w d (.iface t x) n) (hl:∀ l,st=some l->l.length≠1) (hm:m<=4611686018427387904) :
  Calls Tryz.prog 63 #[.pointer (some ⟨W,0,none⟩),.slice none 0 0,.iface t x] w (QPost w0 W p none m w):=by
 obtain⟨h1,h2,h3,bv,sz,T,E,h4,h5,h6,h7⟩:=h
 refine (wadd_bad W bv E t x sz T w h4 h7.ev (by omega)).mono ?_
 rintro r w' ⟨rfl,k1,k2⟩
 have hF:FW W bv.ownBlock w w':=FW.of_bx k2 (fun _ e=>e)
 refine⟨rfl,⟨hF.below h1 h2 (fun g e=>by have:=ws_rows h4 g e;omega),h2,h3.fw hF,bv,sz,T,_,k1,h5,h6,?_⟩,FT.of_bx k2⟩
 cases st with
 | none =>
  obtain⟨d,n,hd,he⟩:=h7
  obtain⟨t',x',rfl⟩:=he.iface
  rw[fst_if]
  exact⟨d,n,hd,he.fw hF.fb (.inl rfl)⟩
 | some l =>
  obtain⟨rfl,_,_,k⟩:=h7
  obtain⟨d,n,hd,he⟩:=he
  exact⟨d,n,hd,(er_off h4 h3.dup (k.elim .inl (fun k=>k.elim .inr (fun k=>absurd k (hl l rfl)))) he).fw hF.fb (.inl rfl)⟩
theorem add_bad_f {w0 w:World} {W:Nat} {p:Pkv} {st:Option (List Int)} {m:Nat} (h:WQ w0 w W p st m) (t:TypeId) (x:Value) (he:∃ d n,d<=2/\Er w d (.iface t x) n) (hm:m<=4611686018427387904) :
  Calls Tryz.prog 63 #[.pointer (some ⟨W,0,none⟩),.slice none 0 0,.iface t x] w (FPost w0 W p none m w):=by
 obtain⟨h1,h2,h3,bv,sz,T,E,h4,h5,h6,h7⟩:=h
 refine (wadd_bad W bv E t x sz T w h4 h7.ev (by omega)).mono ?_
 rintro r w' ⟨rfl,k1,k2⟩
 have hF:FW W bv.ownBlock w w':=FW.of_bx k2 (fun _ e=>e)
 refine⟨rfl,⟨hF.below h1 h2 (fun g e=>by have:=ws_rows h4 g e;omega),h2,h3.fw hF,bv,sz,T,_,k1,h5,h6,?_⟩,FT.of_bx k2⟩
 cases st with
 | none =>
  obtain⟨d,n,hd,he⟩:=h7
  obtain⟨t',x',rfl⟩:=he.iface
  rw[fst_if]
  exact⟨d,n,hd,(he.fw hF.fb (.inl rfl)).weak (fun _ e=>.inl e)⟩
 | some l =>
  obtain⟨rfl,_⟩:=h7
  obtain⟨d,n,hd,he⟩:=he
  exact⟨d,n,hd,ErO.bx (X:=fun b=>b=W) k2 rfl (er_own h3.dup he)⟩
def okT (s:ByteArray):Bool:=decide (chk (sb s)=0)
def okB (s:ByteArray):Bool:=decide (s.size<=65535)
theorem tx_ne (s:ByteArray):tx s≠[]:=fun e=>by have:=tx_length s;rw[e]at this;simp at this;omega
theorem bind_no {st:Option (List Int)} {ys:List Int}:st.bind (sAdd false ys)=none:=by cases st <;> rfl
theorem text_q {w0 w:World} {W:Nat} {p:Pkv} {st:Option (List Int)} {m:Nat} (h:WQ w0 w W p st m) (s:ByteArray) (hs:s.size<=4611686018427387904) (hl:∀ l,st=some l->l.length≠1) (hm:m<=4611686018427387904) :
  Calls Tryz.prog 57 #[.pointer (some ⟨W,0,none⟩),.string s] w (QPost w0 W p (st.bind (sAdd (okT s) (tx s))) (m+70000) w):=by
 by_cases hc:chk (sb s)=0
 ·have hk:okT s=true:=decide_eq_true hc
  rw[hk]
  have h2:s.size<=65535:=by have:=chk_0 hc;rw[sb_length]at this;exact this
  obtain⟨h1,h2',h3,bv,sz,T,E,h4,h5,h6,h7⟩:=h
  refine (wtext_ok W bv E sz T s w h4 h7.ev hc (by omega) h5.1).mono ?_
  intro e w' hA
  have hT:=tx_length s
  obtain⟨k1,k2,k3⟩:=wq_step true h4 h6 h5 h7 h1 h2' h3 hA (tx_ne s) (fun l e=>.inl (hl l e))
  exact⟨k1,k2.mono (by omega),k3⟩
 ·have hk:okT s=false:=decide_eq_false hc
  rw[hk,bind_no]
  have HQ:=zh h
  have HL:=zh hl
  have HP:=zh (tput_bad s w hs hc)
  clear h hc hk hl
  go_enter Tryz.func57,Tryz.ntmps57
  go_wp2_with fail
  refine (uh HP).mono ?_
  rintro e w1 ⟨x,n,rfl,hi,hb⟩
  have HA:=zh (add_bad_q ((uh HQ).below hb) 62 x (by obtain⟨d,hd,he⟩:=er_of_inn (uh hi);exact⟨d,n,hd,he⟩) (uh HL) hm)
  have HB:=zh hb
  clear hb HP HQ hi
  go_wp2_with fail
  refine (uh HA).mono ?_
  rintro e w2 ⟨rfl,hq,hf⟩
  have HQ2:=zh (hq.mono (show m<=m+70000 from by omega))
  have HF:=zh ((FT.of_below (W:=W) (uh HB)).trans hf)
  clear hq hf HA
  go_wp2
  go_end0
  exact⟨rfl,uh HQ2,uh HF⟩
theorem bin_q {w0 w:World} {W:Nat} {p:Pkv} {st:Option (List Int)} {m:Nat} (h:WQ w0 w W p st m) (s:ByteArray) (hl:∀ l,st=some l->l.length≠1) (hm:m<=4611686018427387904) :
  Calls Tryz.prog 61 #[.pointer (some ⟨W,0,none⟩),.string s] w (QPost w0 W p (st.bind (sAdd (okB s) (tx s))) (m+70000) w):=by
 by_cases hc:s.size<=65535
 ·have hk:okB s=true:=decide_eq_true hc
  rw[hk]
  obtain⟨h1,h2',h3,bv,sz,T,E,h4,h5,h6,h7⟩:=h
  refine (wbin_ok W bv E sz T s w h4 h7.ev hc (by omega) h5.1).mono ?_
  intro e w' hA
  have hT:=tx_length s
  obtain⟨k1,k2,k3⟩:=wq_step true h4 h6 h5 h7 h1 h2' h3 hA (tx_ne s) (fun l e=>.inl (hl l e))
  exact⟨k1,k2.mono (by omega),k3⟩
 ·have hk:okB s=false:=decide_eq_false hc
  rw[hk,bind_no]
  have HQ:=zh h
  have HL:=zh hl
  have HP:=zh (putBin_bad s w (by omega))
  clear h hc hk hl
  go_enter Tryz.func61,Tryz.ntmps61
  go_wp2_with fail
  refine (uh HP).mono ?_
  rintro e w1 ⟨rfl,hw1⟩
  have HA:=zh (add_bad_q ((uh HQ).below (w':=w1) (by rw[hw1];exact fault_below _ _)) 62 _ (by rw[hw1];exact (er_of_is (fault_is 2 w)).elim (fun h=>by cases h.2) (fun h=>by obtain⟨d,hd,he⟩:=h;exact⟨d,2,hd,he⟩)) (uh HL) hm)
  have HB:Hid (Below w.heap.size w w1):=by rw[hw1];exact fault_below _ _
  clear hw1 HP HQ
  go_wp2_with fail
  refine (uh HA).mono ?_
  rintro e w2 ⟨rfl,hq,hf⟩
  have HQ2:=zh (hq.mono (show m<=m+70000 from by omega))
  have HF:=zh ((FT.of_below (W:=W) (uh HB)).trans hf)
  clear hq hf HA
  go_wp2
  go_end0
  exact⟨rfl,uh HQ2,uh HF⟩
end Go.Proofs.YtccnjdgaldbgnaaGreatDoor.K
