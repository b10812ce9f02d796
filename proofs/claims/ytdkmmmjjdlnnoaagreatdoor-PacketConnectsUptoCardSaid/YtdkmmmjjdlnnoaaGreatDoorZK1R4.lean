/- Proved here: helpers, one text behind the other. -/
import Derived.Test.YtdkmmmjjdlnnoaaGreatDoorZC21
import Derived.Test.YtdkmmmjjdlnnoaaGreatDoorZC6
import Derived.Test.YtdkmmmjjdlnnoaaGreatDoorZC20
import Derived.Test.YtdkmmmjjdlnnoaaGreatDoorZK1R3
import Derived.Test.YtdkmmmjjdlnnoaaGreatDoorZC22
import Derived.Test.YtdkmmmjjdlnnoaaGreatDoorZC3
import Derived.Test.YtdkmmmjjdlnnoaaGreatDoorZC13
import Derived.Test.YtdkmmmjjdlnnoaaGreatDoorZC15
import Derived.Test.YtdkmmmjjdlnnoaaGreatDoorZC23
import Derived.Test.YtdkmmmjjdlnnoaaGreatDoorZC17
import Derived.Test.YtdkmmmjjdlnnoaaGreatDoorZK1R2
import Derived.Test.YtdkmmmjjdlnnoaaGreatDoorZC25
import Derived.Test.YtdkmmmjjdlnnoaaGreatDoorZC28
import Derived.Deep.Cut
set_option maxHeartbeats 20000000
namespace Go.Proofs.YtdkmmmjjdlnnoaaGreatDoor.K
open Go.RowKit
theorem row_str {w:World} {B R U:Nat} {b:Bool} {us:Option ByteArray} (h:StrAt B R w b U us):w.ownsRow B 9 1 (isW U b).val us.toList.length (us.toList.map Value.string):=by
 cases b
 ·rw[h.1 rfl]
  exact row0 _ _ _ _
 ·obtain⟨t,rfl,h2,h3,h4,h5⟩:=h.2 rfl
  exact⟨rfl,.inr ⟨U,1,_,rfl,h2,h5,Nat.le_refl _,by unfold maxLen;simp,rfl,rfl⟩⟩
theorem row_will {w:World} {B N R V:Nat} {x:Int} {wl:Option (List Pr×ByteArray×ByteArray)} (h:WillAt B N R w x V wl) (hN:B<=N):∃ ws,w.ownsRow B 90 5 (isW V (btest x 4)).val (wlOf x wl).length (wcs ws)/\Ws w B ws (wlOf x wl):=by
 cases hb:btest x 4
 ·rw[h.1 hb]
  exact wills0 _ _
 ·obtain⟨q,t,y,tq,rfl,h2,h3,h4,h5,h6⟩:=h.2 hb
  refine⟨[⟨t,y,x / 8 % 4,btest x 32,tq⟩],⟨rfl,.inr ⟨V,1,_,rfl,h2,h5,Nat.le_refl _,by unfold maxLen;simp,rfl,rfl⟩⟩,rfl,fun i a b ha hb=>?_⟩
  match i,ha,hb with
  | 0,ha,hb =>
   simp[wlOf]at ha hb
   subst ha hb
   exact⟨rfl,rfl,rfl,rfl,owns_mono h6 hN⟩
  | i+1,ha,_=>simp at ha
set_option maxRecDepth 100000
theorem wone_any (W:Nat) (bv E:Value) (sz:Nat) (T:List Int) (n:Int) (w:World) (h:WS w W bv sz T E) (hE:EV E) (hn:-9223372036854775808<=n/\n<=9223372036854775807) (hs:sz<=4611686018427387904) (hT:T.length<=65536) :
  Calls Tryz.prog 60 #[.pointer (some ⟨W,0,none⟩),.int .i64 n] w (AddPost W bv sz T [n % 256] (mst (decide (0<=n) && decide (n < 256)) E) w):=by
 have HS:=zh h
 have hW:W < w.heap.size:=cell_lt h.wt.1.1
 have HM:=zh (fun c=>wmust_gen W bv E sz c w h.wt hE)
 clear h
 go_enter Tryz.func60,Tryz.ntmps60
 go_wp2_with fail
 all_goals (
  refine ((uh HM) _).mono ?_
  rintro e w1 ⟨rfl,hw1,hx1,hev⟩
  have HS1:=zh ((uh HS).bx hx1 hw1)
  have HX1:=zh hx1
  have hz1:=hx1.size
  have HE1:=zh hev
  clear hw1 hx1 hev HM HS
  have HA:Hid (Below w1.heap.size w1 (w1.alloc (.cells #[.int .u8 (n % 256)] 5))):=bal _ _
  have HS2:=zh ((uh HS1).below (uh HA))
  have HRW:Hid ((w1.alloc (.cells #[.int .u8 (n % 256)] 5)).ownsRow (W+1) 5 1 (.slice (some ⟨w1.heap.size,0,none⟩) 1 1) 1 ([n % 256].map (Value.int .u8))):=⟨rfl,.inr ⟨w1.heap.size,1,#[.int .u8 (n % 256)],rfl,by omega,heap_alloc_new _ _,Nat.le_refl _,by unfold maxLen;omega,rfl,rfl⟩⟩
  have hb:0<=n % 256/\n % 256<=255:=by omega
  have HAD:=zh (wadd_any W bv _ .nilIface sz T [n % 256] (.slice (some ⟨w1.heap.size,0,none⟩) 1 1) _ (uh HS2) (uh HE1) (.inl rfl) (fun w' hx=>byt_bxw (uh HRW) (rng1 hb) hx (Nat.lt_succ_self _)) hs (by simp) hT)
  rw[fst_nil (uh HE1)]at HAD
  go_wp2_with fail
  refine (uh HAD).mono ?_
  rintro e w3 hp
  have HP:=zh (hp.ahead (uh HX1) (uh HA) (fun j (e:j=21)=>by subst e;decide) (by omega))
  obtain⟨bv',rfl,-⟩:=hp
  clear HAD HS2 HRW HS1
  go_wp2
  go_end0
  have hh:=uh HP
  first
   | (have h0:(0:Int)<=n:=(by assumption);rw[decide_eq_true h0,Bool.true_and];exact hh)
   | (have h0:n < 0:=(by assumption);rw[decide_eq_false (by omega),Bool.false_and];exact hh))
theorem rng2 {x y:Int} (h:0<=x/\x<=255) (k:0<=y/\y<=255):∀ j,0<=([x,y]:List Int).getD j 0/\([x,y]:List Int).getD j 0<=255:=by
 intro j
 match j with
 | 0=>exact h
 | 1=>exact k
 | j+2=>simp
theorem wtwo_any (W:Nat) (bv E:Value) (sz:Nat) (T:List Int) (n:Int) (w:World) (h:WS w W bv sz T E) (hE:EV E) (hn:-9223372036854775808<=n/\n<=9223372036854775807) (hs:sz<=4611686018427387904) (hT:T.length<=65536) :
  Calls Tryz.prog 109 #[.pointer (some ⟨W,0,none⟩),.int .i64 n] w (AddPost W bv sz T [n / 256 % 256,n % 256] (mst (decide (0<=n) && decide (n < 65536)) E) w):=by
 have HS:=zh h
 have hW:W < w.heap.size:=cell_lt h.wt.1.1
 have HM:=zh (fun c=>wmust_gen W bv E sz c w h.wt hE)
 clear h
 go_enter Tryz.func109,Tryz.ntmps109
 go_wp2_with fail
 all_goals (
  refine ((uh HM) _).mono ?_
  rintro e w1 ⟨rfl,hw1,hx1,hev⟩
  have HS1:=zh ((uh HS).bx hx1 hw1)
  have HX1:=zh hx1
  have hz1:=hx1.size
  have HE1:=zh hev
  clear hw1 hx1 hev HM HS
  have HA:Hid (Below w1.heap.size w1 (w1.alloc (.cells #[.int .u8 (n / 256 % 256),.int .u8 (n % 256)] 5))):=bal _ _
  have HS2:=zh ((uh HS1).below (uh HA))
  have HRW:Hid ((w1.alloc (.cells #[.int .u8 (n / 256 % 256),.int .u8 (n % 256)] 5)).ownsRow (W+1) 5 1 (.slice (some ⟨w1.heap.size,0,none⟩) 2 2) 2 ([n / 256 % 256,n % 256].map (Value.int .u8))):=⟨rfl,.inr ⟨w1.heap.size,2,#[.int .u8 (n / 256 % 256),.int .u8 (n % 256)],rfl,by omega,heap_alloc_new _ _,Nat.le_refl _,by unfold maxLen;omega,rfl,rfl⟩⟩
  have hb:0<=n % 256/\n % 256<=255:=by omega
  have hb2:0<=n / 256 % 256/\n / 256 % 256<=255:=by omega
  have HAD:=zh (wadd_any W bv _ .nilIface sz T [n / 256 % 256,n % 256] (.slice (some ⟨w1.heap.size,0,none⟩) 2 2) _ (uh HS2) (uh HE1) (.inl rfl) (fun w' hx=>byt_bxw (uh HRW) (rng2 hb2 hb) hx (Nat.lt_succ_self _)) hs (by simp) hT)
  rw[fst_nil (uh HE1)]at HAD
  go_wp2_with fail
  refine (uh HAD).mono ?_
  rintro e w3 hp
  have HP:=zh (hp.ahead (uh HX1) (uh HA) (fun j (e:j=21)=>by subst e;decide) (by omega))
  obtain⟨bv',rfl,-⟩:=hp
  clear HAD HS2 HRW HS1
  go_wp2
  go_end0
  have hh:=uh HP
  first
   | (have h0:(0:Int)<=n:=(by assumption);rw[decide_eq_true h0,Bool.true_and];exact hh)
   | (have h0:n < 0:=(by assumption);rw[decide_eq_false (by omega),Bool.false_and];exact hh))
theorem wtext_ok (W:Nat) (bv E:Value) (sz:Nat) (T:List Int) (s:ByteArray) (w:World) (h:WS w W bv sz T E) (hE:EV E) (hc:chk (sb s)=0) (hs:sz<=4611686018427387904) (hT:T.length<=65536) :
  Calls Tryz.prog 108 #[.pointer (some ⟨W,0,none⟩),.string s] w (AddPost W bv sz T (tx s) E w):=by
 have HS:=zh h
 have hW:W < w.heap.size:=cell_lt h.wt.1.1
 have hs2:s.size<=65535:=by have:=chk_0 hc;rw[sb_length]at this;exact this
 have hl:=tx_length s
 have hr:=tx_range s hs2
 have HP:=zh (put_ok s w hc)
 have HR:=zh hr
 have HE:=zh hE
 clear h hc hr hE
 go_enter Tryz.func108,Tryz.ntmps108
 go_wp2_with fail
 refine (uh HP).mono ?_
 rintro e w1 ⟨v,rfl,hown,hb⟩
 have HA:=zh hb
 have HS1:=zh ((uh HS).below hb)
 have HAD:=zh (wadd_any W bv E .nilIface sz T (tx s) v w1 (uh HS1) (uh HE) (.inl rfl) (fun w' hx=>byt_bxw (B:=w.heap.size) (by rw[hl];exact uh hown) (uh HR) hx hW) hs (by rw[hl];omega) hT)
 rw[fst_nil (uh HE)]at HAD
 clear hown hb HP HS
 go_wp2_with fail
 refine (uh HAD).mono ?_
 rintro e w3 hp
 have HQ:=zh (hp.ahead (BX.refl W isT w) (uh HA) (fun _ e=>e) hW)
 obtain⟨bv',rfl,-⟩:=hp
 clear HAD HS1
 go_wp2
 go_end0
 exact uh HQ
theorem wbin_ok (W:Nat) (bv E:Value) (sz:Nat) (T:List Int) (s:ByteArray) (w:World) (h:WS w W bv sz T E) (hE:EV E) (hs2:s.size<=65535) (hs:sz<=4611686018427387904) (hT:T.length<=65536) :
  Calls Tryz.prog 112 #[.pointer (some ⟨W,0,none⟩),.string s] w (AddPost W bv sz T (tx s) E w):=by
 have HS:=zh h
 have hW:W < w.heap.size:=cell_lt h.wt.1.1
 have hl:=tx_length s
 have hr:=tx_range s hs2
 have HP:=zh (putBin_ok s w hs2)
 have HR:=zh hr
 have HE:=zh hE
 clear h hr hE
 go_enter Tryz.func112,Tryz.ntmps112
 go_wp2_with fail
 refine (uh HP).mono ?_
 rintro e w1 ⟨v,rfl,hown,hb⟩
 have HA:=zh hb
 have HS1:=zh ((uh HS).below hb)
 have HAD:=zh (wadd_any W bv E .nilIface sz T (tx s) v w1 (uh HS1) (uh HE) (.inl rfl) (fun w' hx=>byt_bxw (B:=w.heap.size) (by rw[hl];exact uh hown) (uh HR) hx hW) hs (by rw[hl];omega) hT)
 rw[fst_nil (uh HE)]at HAD
 clear hown hb HP HS
 go_wp2_with fail
 refine (uh HAD).mono ?_
 rintro e w3 hp
 have HQ:=zh (hp.ahead (BX.refl W isT w) (uh HA) (fun _ e=>e) hW)
 obtain⟨bv',rfl,-⟩:=hp
 clear HAD HS1
 go_wp2
 go_end0
 exact uh HQ
theorem must_q {w0 w:World} {W:Nat} {p:Pkv} {st:Option (List Int)} {m:Nat} (h:WQ w0 w W p st m) (c:Bool):Calls Tryz.prog 69 #[.pointer (some ⟨W,0,none⟩),.bool c] w (QPost w0 W p (st.bind (sMust c)) m w):=by
 obtain⟨h1,h2,h3,bv,sz,T,E,h4,h5,h6,h7⟩:=h
 refine (wmust_gen W bv E sz c w h4.wt h7.ev).mono ?_
 rintro r w' ⟨rfl,k1,k2,k3⟩
 have hm21:∀ j,is21 j->19<=j:=fun j (e:j=21)=>by subst e;decide
 have hF:FW W bv.ownBlock w w':=FW.of_bx k2 hm21
 refine⟨rfl,⟨hF.below h1 h2 (fun g e=>by have:=ws_rows h4 g e;omega),h2,h3.fw hF,bv,sz,T,_,h4.bx k2 k1,h5,h6,?_⟩,FT.of_bx k2⟩
 cases st with
 | none =>
  obtain⟨d,n,hd,he⟩:=h7
  obtain⟨t,x,rfl⟩:=he.iface
  rw[mst_if]
  exact⟨d,n,hd,he.fw hF.fb (.inl rfl)⟩
 | some l =>
  obtain⟨rfl,k⟩:=h7
  cases c
  ·exact⟨0,1,by omega,rfl⟩
  ·exact⟨rfl,k⟩
theorem one_q {w0 w:World} {W:Nat} {p:Pkv} {st:Option (List Int)} {m:Nat} (h:WQ w0 w W p st m) (n:Int) (hn:-9223372036854775808<=n/\n<=9223372036854775807) (hm:m<=4611686018427387904):Calls Tryz.prog 60 #[.pointer (some ⟨W,0,none⟩),.int .i64 n] w (QPost w0 W p (st.bind (sAdd (in8 n) [n % 256])) (m+1) w):=by
 obtain⟨h1,h2,h3,bv,sz,T,E,h4,h5,h6,h7⟩:=h
 refine (wone_any W bv E sz T n w h4 h7.ev hn (by omega) h5.1).mono ?_
 intro e w' hA
 exact wq_step (in8 n) h4 h6 h5 h7 h1 h2 h3 hA (by simp) (fun l _=>.inr (by simp))
theorem two_q {w0 w:World} {W:Nat} {p:Pkv} {st:Option (List Int)} {m:Nat} (h:WQ w0 w W p st m) (n:Int) (hn:-9223372036854775808<=n/\n<=9223372036854775807) (hm:m<=4611686018427387904):Calls Tryz.prog 109 #[.pointer (some ⟨W,0,none⟩),.int .i64 n] w (QPost w0 W p (st.bind (sAdd (in16 n) (b2 n))) (m+2) w):=by
 obtain⟨h1,h2,h3,bv,sz,T,E,h4,h5,h6,h7⟩:=h
 refine (wtwo_any W bv E sz T n w h4 h7.ev hn (by omega) h5.1).mono ?_
 intro e w' hA
 exact wq_step (in16 n) h4 h6 h5 h7 h1 h2 h3 hA (by simp) (fun l _=>.inr (by simp))
theorem add_bad_q {w0 w:World} {W:Nat} {p:Pkv} {st:Option (List Int)} {m:Nat} (h:WQ w0 w W p st m) (t:TypeId) (x:Value) (he:∃ d n,d<=2/\Er w d (.iface t x) n) (hl:∀ l,st=some l->l.length≠1) (hm:m<=4611686018427387904) :
  Calls Tryz.prog 114 #[.pointer (some ⟨W,0,none⟩),.slice none 0 0,.iface t x] w (QPost w0 W p none m w):=by
 obtain⟨h1,h2,h3,bv,sz,T,E,h4,h5,h6,h7⟩:=h
 refine (wadd_bad W bv E t x sz T w h4 h7.ev (by omega)).mono ?_
 rintro r w' ⟨rfl,k1,k2⟩
 have hF:FW W bv.ownBlock w w':=FW.of_bx k2 (fun _ e=>e)
 refine⟨rfl,⟨hF.below h1 h2 (fun g e=>by have:=ws_rows h4 g e;omega),h2,h3.fw hF,bv,sz,T,_,k1,h5,h6,?_⟩,FT.of_bx k2⟩
 cases st with
 | none =>
  obtain⟨d,n,hd,he⟩:=h7
  obtain⟨t',x',rfl⟩:=he.iface
  rw[fst_if]
  exact⟨d,n,hd,he.fw hF.fb (.inl rfl)⟩
 | some l =>
  obtain⟨rfl,_,_,k⟩:=h7
  obtain⟨d,n,hd,he⟩:=he
  exact⟨d,n,hd,(er_off h4 h3.dup (k.elim .inl (fun k=>k.elim .inr (fun k=>absurd k (hl l rfl)))) he).fw hF.fb (.inl rfl)⟩
theorem tx_ne (s:ByteArray):tx s≠[]:=fun e=>by have:=tx_length s;rw[e]at this;simp at this;omega
theorem text_q {w0 w:World} {W:Nat} {p:Pkv} {st:Option (List Int)} {m:Nat} (h:WQ w0 w W p st m) (s:ByteArray) (hs:s.size<=4611686018427387904) (hl:∀ l,st=some l->l.length≠1) (hm:m<=4611686018427387904) :
  Calls Tryz.prog 108 #[.pointer (some ⟨W,0,none⟩),.string s] w (QPost w0 W p (st.bind (sAdd (okT s) (tx s))) (m+70000) w):=by
 by_cases hc:chk (sb s)=0
 ·have hk:okT s=true:=decide_eq_true hc
  rw[hk]
  have h2:s.size<=65535:=by have:=chk_0 hc;rw[sb_length]at this;exact this
  obtain⟨h1,h2',h3,bv,sz,T,E,h4,h5,h6,h7⟩:=h
  refine (wtext_ok W bv E sz T s w h4 h7.ev hc (by omega) h5.1).mono ?_
  intro e w' hA
  have hT:=tx_length s
  obtain⟨k1,k2,k3⟩:=wq_step true h4 h6 h5 h7 h1 h2' h3 hA (tx_ne s) (fun l e=>.inl (hl l e))
  exact⟨k1,k2.mono (by omega),k3⟩
 ·have hk:okT s=false:=decide_eq_false hc
  rw[hk,bind_no]
  have HQ:=zh h
  have HL:=zh hl
  have HP:=zh (tput_bad s w hs hc)
  clear h hc hk hl
  go_enter Tryz.func108,Tryz.ntmps108
  go_wp2_with fail
  refine (uh HP).mono ?_
  rintro e w1 ⟨x,n,rfl,hi,hb⟩
  have HA:=zh (add_bad_q ((uh HQ).below hb) 125 x (by obtain⟨d,hd,he⟩:=er_of_inn (uh hi);exact⟨d,n,hd,he⟩) (uh HL) hm)
  have HB:=zh hb
  clear hb HP HQ hi
  go_wp2_with fail
  refine (uh HA).mono ?_
  rintro e w2 ⟨rfl,hq,hf⟩
  have HQ2:=zh (hq.mono (show m<=m+70000 from by omega))
  have HF:=zh ((FT.of_below (W:=W) (uh HB)).trans hf)
  clear hq hf HA
  go_wp2
  go_end0
  exact⟨rfl,uh HQ2,uh HF⟩
theorem bin_q {w0 w:World} {W:Nat} {p:Pkv} {st:Option (List Int)} {m:Nat} (h:WQ w0 w W p st m) (s:ByteArray) (hl:∀ l,st=some l->l.length≠1) (hm:m<=4611686018427387904) :
  Calls Tryz.prog 112 #[.pointer (some ⟨W,0,none⟩),.string s] w (QPost w0 W p (st.bind (sAdd (okB s) (tx s))) (m+70000) w):=by
 by_cases hc:s.size<=65535
 ·have hk:okB s=true:=decide_eq_true hc
  rw[hk]
  obtain⟨h1,h2',h3,bv,sz,T,E,h4,h5,h6,h7⟩:=h
  refine (wbin_ok W bv E sz T s w h4 h7.ev hc (by omega) h5.1).mono ?_
  intro e w' hA
  have hT:=tx_length s
  obtain⟨k1,k2,k3⟩:=wq_step true h4 h6 h5 h7 h1 h2' h3 hA (tx_ne s) (fun l e=>.inl (hl l e))
  exact⟨k1,k2.mono (by omega),k3⟩
 ·have hk:okB s=false:=decide_eq_false hc
  rw[hk,bind_no]
  have HQ:=zh h
  have HL:=zh hl
  have HP:=zh (putBin_bad s w (by omega))
  clear h hc hk hl
  go_enter Tryz.func112,Tryz.ntmps112
  go_wp2_with fail
  refine (uh HP).mono ?_
  rintro e w1 ⟨rfl,hw1⟩
  have HA:=zh (add_bad_q ((uh HQ).below (w':=w1) (by rw[hw1];exact fault_below _ _)) 125 _ (by rw[hw1];exact (er_of_is (fault_is 2 w)).elim (fun h=>by cases h.2) (fun h=>by obtain⟨d,hd,he⟩:=h;exact⟨d,2,hd,he⟩)) (uh HL) hm)
  have HB:Hid (Below w.heap.size w w1):=by rw[hw1];exact fault_below _ _
  clear hw1 HP HQ
  go_wp2_with fail
  refine (uh HA).mono ?_
  rintro e w2 ⟨rfl,hq,hf⟩
  have HQ2:=zh (hq.mono (show m<=m+70000 from by omega))
  have HF:=zh ((FT.of_below (W:=W) (uh HB)).trans hf)
  clear hq hf HA
  go_wp2
  go_end0
  exact⟨rfl,uh HQ2,uh HF⟩
theorem take_str (W j:Nat) (x:ByteArray) (w:World) (hc:w.cell? ⟨W,j,none⟩=some (.string x)) (hf:w.frozen? ⟨W,j,none⟩=false):Calls Tryz.prog 110 #[.pointer (some ⟨W,j,none⟩)] w fun e w'=>e=.returned (.string x)/\w'=w.setCell ⟨W,j,none⟩ (.string ⟨#[]⟩):=by
 go_enter Tryz.func110,Tryz.ntmps110
 go_wp2
 go_ret
 exact⟨rfl,rfl⟩
theorem take_wills (W j:Nat) (x:Sl) (w:World) (hc:w.cell? ⟨W,j,none⟩=some (x.val)) (hf:w.frozen? ⟨W,j,none⟩=false):Calls Tryz.prog 111 #[.pointer (some ⟨W,j,none⟩)] w fun e w'=>e=.returned (x.val)/\w'=w.setCell ⟨W,j,none⟩ (sl0.val):=by
 obtain⟨a,n,c⟩:=x
 have hc:w.cell? ⟨W,j,none⟩=some (.slice a n c):=hc
 go_enter Tryz.func111,Tryz.ntmps111
 go_wp2
 go_ret
 exact⟨rfl,rfl⟩
theorem take_strs (W j:Nat) (x:Sl) (w:World) (hc:w.cell? ⟨W,j,none⟩=some (x.val)) (hf:w.frozen? ⟨W,j,none⟩=false):Calls Tryz.prog 113 #[.pointer (some ⟨W,j,none⟩)] w fun e w'=>e=.returned (x.val)/\w'=w.setCell ⟨W,j,none⟩ (sl0.val):=by
 obtain⟨a,n,c⟩:=x
 have hc:w.cell? ⟨W,j,none⟩=some (.slice a n c):=hc
 go_enter Tryz.func113,Tryz.ntmps113
 go_wp2
 go_ret
 exact⟨rfl,rfl⟩
theorem take_client_q {w0 w:World} {W:Nat} {p:Pkv} {st:Option (List Int)} {m:Nat} (h:WQ w0 w W p st m) (x:ByteArray) (hx:p.client=x):Calls Tryz.prog 110 #[.pointer (some ⟨W,8,none⟩)] w fun e w'=>e=.returned (.string x)/\WQ w0 w' W p.no_client st m:=by
 subst hx
 refine (take_str W 8 p.client w h.pk.client h.pk.client_f).mono ?_
 rintro e w' ⟨rfl,rfl⟩
 exact⟨rfl,h.set p.no_client 8 (by omega) (fun j hj=>by unfold Pkv.no_client Pkv.cell;split <;> first | rfl | exact absurd rfl hj)⟩
theorem take_keep_q {w0 w:World} {W:Nat} {p:Pkv} {st:Option (List Int)} {m:Nat} (h:WQ w0 w W p st m) (x:Int) (hx:p.keep=x):Calls Tryz.prog 62 #[.pointer (some ⟨W,10,none⟩)] w fun e w'=>e=.returned (.int .i64 x)/\WQ w0 w' W p.no_keep st m:=by
 subst hx
 refine (take_int W 10 p.keep w h.pk.keep h.pk.keep_f).mono ?_
 rintro e w' ⟨rfl,rfl⟩
 exact⟨rfl,h.set p.no_keep 10 (by omega) (fun j hj=>by unfold Pkv.no_keep Pkv.cell;split <;> first | rfl | exact absurd rfl hj)⟩
theorem take_wills_q {w0 w:World} {W:Nat} {p:Pkv} {st:Option (List Int)} {m:Nat} (h:WQ w0 w W p st m) (x:Sl) (hx:p.wills=x):Calls Tryz.prog 111 #[.pointer (some ⟨W,11,none⟩)] w fun e w'=>e=.returned (x.val)/\WQ w0 w' W p.no_wills st m:=by
 subst hx
 refine (take_wills W 11 p.wills w h.pk.wills h.pk.wills_f).mono ?_
 rintro e w' ⟨rfl,rfl⟩
 exact⟨rfl,h.set p.no_wills 11 (by omega) (fun j hj=>by unfold Pkv.no_wills Pkv.cell;split <;> first | rfl | exact absurd rfl hj)⟩
theorem take_user_q {w0 w:World} {W:Nat} {p:Pkv} {st:Option (List Int)} {m:Nat} (h:WQ w0 w W p st m) (x:Sl) (hx:p.user=x):Calls Tryz.prog 113 #[.pointer (some ⟨W,12,none⟩)] w fun e w'=>e=.returned (x.val)/\WQ w0 w' W p.no_user st m:=by
 subst hx
 refine (take_strs W 12 p.user w h.pk.user h.pk.user_f).mono ?_
 rintro e w' ⟨rfl,rfl⟩
 exact⟨rfl,h.set p.no_user 12 (by omega) (fun j hj=>by unfold Pkv.no_user Pkv.cell;split <;> first | rfl | exact absurd rfl hj)⟩
theorem take_pass_q {w0 w:World} {W:Nat} {p:Pkv} {st:Option (List Int)} {m:Nat} (h:WQ w0 w W p st m) (x:Sl) (hx:p.pass=x):Calls Tryz.prog 113 #[.pointer (some ⟨W,13,none⟩)] w fun e w'=>e=.returned (x.val)/\WQ w0 w' W p.no_pass st m:=by
 subst hx
 refine (take_strs W 13 p.pass w h.pk.pass h.pk.pass_f).mono ?_
 rintro e w' ⟨rfl,rfl⟩
 exact⟨rfl,h.set p.no_pass 13 (by omega) (fun j hj=>by unfold Pkv.no_pass Pkv.cell;split <;> first | rfl | exact absurd rfl hj)⟩
theorem bind_bind (st:Option (List Int)) (f g:List Int->Option (List Int)):(st.bind f).bind g=st.bind fun t=>(f t).bind g:=by cases st <;> rfl
theorem Ge2.one {st:Option (List Int)} (h:Ge2 st):∀ l,st=some l->l.length≠1:=fun l e=>by have:=h l e;omega
theorem each_app {α:Type} (f:α->List Int->Option (List Int)) (b:α):∀ (l:List α) (t:List Int),sEach f (l++[b]) t=(sEach f l t).bind (f b)
 | [],t=>by
  have k:∀ x:Option (List Int),x.bind (sEach f [])=x:=fun x=>by cases x <;> rfl
  exact k _
 | a :: r,t=>by
  show (f a t).bind (sEach f (r++[b]))=((f a t).bind (sEach f r)).bind (f b)
  cases f a t with
  | none=>rfl
  | some u=>exact each_app f b r u
theorem each_snoc {α:Type} (f:α->List Int->Option (List Int)) (d:α) (st:Option (List Int)) (l:List α) (k:Nat) (hk:k < l.length):st.bind (sEach f (l.take (k+1)))=(st.bind (sEach f (l.take k))).bind (f (l.getD k d)):=by
 rw[List.take_add_one,List.getElem?_eq_getElem hk,bind_bind,List.getD_eq_getElem?_getD,List.getElem?_eq_getElem hk]
 cases st with
 | none=>rfl
 | some t=>exact each_app f _ _ t
theorem each_nil {α:Type} (f:α->List Int->Option (List Int)) (st:Option (List Int)) (l:List α):st.bind (sEach f (l.take 0))=st:=by cases st <;> rfl
theorem pbs_ne (l:List Pr):pbs l≠[]:=fun e=>by
 unfold pbs at e
 have h:=V.put_len (body l).length
 rw[(List.append_eq_nil_iff.1 e).1]at h
 simp at h
theorem props_q {w0 w:World} {W:Nat} {p:Pkv} {st:Option (List Int)} {m:Nat} (h:WQ w0 w W p st m) (v:Value) (l:List Pr) (place:Int) (hP:Prp w v l) (hmx:l.length<=4398046511104) (hsm:Go.Proofs.YtdkmmmjjdlnnoaaGreatDoor.Small l) (hl:∀ l,st=some l->l.length≠1) (hm:m<=4611686018427387904) :
  Calls Tryz.prog 63 #[.pointer (some ⟨W,0,none⟩),v,.int .i64 place] w (QPost w0 W p (st.bind (sAdd (okP place l) (pbs l))) (m+5000000) w):=by
 have HQ:=zh h
 have HL:=zh hl
 have HP:=zh (putU_any v l place w hP hmx hsm)
 obtain⟨ao,cap,rfl⟩:=hP.form
 have hW:=h.lt
 clear h hl hP hsm
 go_enter Tryz.func63,Tryz.ntmps63
 go_wp2_with fail
 refine (uh HP).mono ?_
 rintro e w1 ⟨hb,⟨hk,v1,rfl,ho,hr⟩ | ⟨hk,x,rfl,he⟩⟩
 ·have HK:=zh hk
  have hle:=pbs_le (of_decide_eq_true hk)
  have HA:Hid (Calls Tryz.prog 114 #[.pointer (some ⟨W,0,none⟩),v1,.nilIface] w1 (QPost w0 W p (st.bind (sAdd true (pbs l))) (m+5000000) w1)):=by
   obtain⟨h1,h2,h3,bv,sz,T,E,h4,h5,h6,h7⟩:=(uh HQ).below hb
   refine (wadd_any W bv E .nilIface sz T (pbs l) v1 w1 h4 h7.ev (.inl rfl) (fun w' hx=>byt_bxw (B:=w.heap.size) ho hr hx hW) (by omega) (by omega) h5.1).mono ?_
   intro e w' hA
   rw[fst_nil h7.ev]at hA
   obtain⟨k1,k2,k3⟩:=wq_step true h4 h6 h5 h7 h1 h2 h3 hA (pbs_ne l) (fun l' e=>.inl ((uh HL) l' e))
   exact⟨k1,k2.mono (by omega),k3⟩
  have HB:=zh hb
  clear hb ho hr HP HQ hk
  go_wp2_with fail
  refine (uh HA).mono ?_
  rintro e w2 ⟨rfl,hq,hf⟩
  have HF:=zh ((FT.of_below (W:=W) (uh HB)).trans hf)
  have HQ2:=zh hq
  clear hq hf HA
  go_wp2
  go_end0
  exact⟨rfl,by rw[uh HK];exact uh HQ2,uh HF⟩
 ·have HK:=zh hk
  have HA:=zh (add_bad_q ((uh HQ).below hb) 125 x he (uh HL) hm)
  have HB:=zh hb
  clear hb he HP HQ hk
  go_wp2_with fail
  refine (uh HA).mono ?_
  rintro e w2 ⟨rfl,hq,hf⟩
  have HF:=zh ((FT.of_below (W:=W) (uh HB)).trans hf)
  have HQ2:=zh (hq.mono (show m<=m+5000000 from by omega))
  clear hq hf HA
  go_wp2
  go_end0
  exact⟨rfl,by rw[uh HK,bind_no];exact uh HQ2,uh HF⟩
theorem packet_k1 (R:Nat) (st:Option (List Int)) (w0 w:World) (h:RS w0 w R st) (hp:Pk w R (pk0 1 false 0 false)) (hl:∀ l,st=some l->l.length<=65536):Calls Tryz.prog 46 #[.pointer (some ⟨R,0,none⟩)] w (PackPost w0 R (pa0 1 false 0 false) st w):=by
 have hlt:=h.lt
 have c0:=hp.kind
 have HP:=zh hp
 have HS:=zh h
 have HL:=zh hl
 clear hp h hl
 simp only[pk0]at c0
 go_enter Tryz.func46,Tryz.ntmps46
 go_wp2_with fail
 refine (connect_any R (pk0 1 false 0 false) st w0 w (uh HS) (uh HP) rfl rfl rfl rfl).mono ?_
 rintro e w1 ⟨rfl,n0,V,U,Q,N,tp,st1,hp1,hO1,hN,hW,hU,hQ,hs1,h1,hx1⟩
 have HP1:=zh hp1
 have HS1:=zh h1
 have HX1:=zh hx1
 have HST1:=zh hs1
 clear hp1 h1 hx1 hs1
 obtain⟨ao,n,cap,c19,⟨g1,g2⟩,gl⟩:=(uh HS1).rest
 unfold maxLen at g2
 have GL:=zh gl
 clear gl
 have HM:Hid (Mean w1 w.heap.size { (pk0 1 false 0 false)with clean:=btest n0.x 2,wills:=isW V (btest n0.x 4),user:=isW U (btest n0.x 128),pass:=isW Q (btest n0.x 64),keep:=n0.keep,props:=tp,client:=n0.client } (ofCn (pa0 1 false 0 false) n0)):=⟨⟨rfl,rfl,rfl,rfl,rfl,rfl,rfl,rfl,rfl,rfl,rfl,rfl⟩,uh hO1,row_will (uh hW) hN,row_str (uh hU),row_str (uh hQ),row0 _ _ _ _,row0 _ _ _ _,row0 _ _ _ _⟩
 have hbz:((n:Int) == 0)=decide (n=0):=by by_cases h:n=0 <;> simp[h]
 go_wp2_with fail
 refine (must_any R _ st1 w0 _ (uh HS1)).mono ?_
 rintro e wz ⟨rfl,hz,hxz⟩
 have HZ:=zh hz
 have HXZ:=zh hxz
 clear hz hxz
 go_wp2
 go_end0
 have hBY:Stp (body? (pa0 1 false 0 false)) st (ofCn (pa0 1 false 0 false) n0) st1:=by
  show Stp (bindR connect? fun n=>pureR (ofCn (pa0 1 false 0 false) n)) st (ofCn (pa0 1 false 0 false) n0) st1
  exact (uh HST1).bind (Stp.pure _ _)
 exact⟨rfl,{ (pk0 1 false 0 false)with clean:=btest n0.x 2,wills:=isW V (btest n0.x 4),user:=isW U (btest n0.x 128),pass:=isW Q (btest n0.x 64),keep:=n0.keep,props:=tp,client:=n0.client },(ofCn (pa0 1 false 0 false) n0),_,(uh HP1).bx (uh HXZ),(uh HM).bx (uh HXZ) hlt,packet_stp hBY (stp_end (uh GL) _ (by first | exact hbz | rfl | simp)),uh HZ,(uh HX1).trans (uh HXZ).any⟩
theorem Ge2.of_add (st:Option (List Int)) (c:Bool) {ys:List Int} (h:2<=ys.length):Ge2 (st.bind (sAdd c ys)):=fun l e=>by
 cases st with
 | none=>cases e
 | some t =>
  cases c
  ·cases e
  ·cases e
   rw[List.length_append]
   omega
theorem conn_any {w0 w:World} {W:Nat} {p:Pkv} (h:WQ w0 w W p (some []) 0) (vs:List Wv) (hW:Rw w0 p.wills 5 (wcs vs)) (l:List Pr) (hP:Prp w0 p.props.val l) (hmx:l.length<=4398046511104) (hsm:Go.Proofs.YtdkmmmjjdlnnoaaGreatDoor.Small l) (hcl:p.client.size<=4611686018427387904) (hkp:-9223372036854775808<=p.keep/\p.keep<=9223372036854775807)
  (hun:p.user.n<=maxLen) (hpn:p.pass.n<=maxLen) (hfl:-9223372036854775808<=cfl p.user.n p.pass.n p.clean vs/\cfl p.user.n p.pass.n p.clean vs<=9223372036854775807)
  (ws:List Wl) (wn:Nat) (hwn:ws.length=wn) (wo:Option Addr) (wc:Nat) (hwv:p.wills.val=.slice wo wn wc) (hWS:ws=[]\/∃ b off,wo=some ⟨b,off,none⟩/\WlAt w0 b off ws) (hWO:∀ k,k < ws.length->WlOk (ws.getD k wl0))
  (us:List ByteArray) (un:Nat) (hus:us.length=un) (uo:Option Addr) (uc:Nat) (huv:p.user.val=.slice uo un uc) (hUS:us=[]\/∃ b off,uo=some ⟨b,off,none⟩/\∀ j,j < us.length->w0.cell? ⟨b,off+j,none⟩=some (.string (us.getD j ⟨#[]⟩))) (hUO:∀ k,k < us.length->(us.getD k ⟨#[]⟩).size<=4611686018427387904)
  (ps:List ByteArray) (pn:Nat) (hps:ps.length=pn) (po:Option Addr) (pc:Nat) (hpv:p.pass.val=.slice po pn pc) (hPS:ps=[]\/∃ b off,po=some ⟨b,off,none⟩/\∀ j,j < ps.length->w0.cell? ⟨b,off+j,none⟩=some (.string (ps.getD j ⟨#[]⟩)))
  (c:Nat) (hc:6000000<=c) (hm:6000000+wn * c+un * c+pn * c<=4611686018427300000) :
  Calls Tryz.prog 59 #[.pointer (some ⟨W,0,none⟩)] w (GPost w0 W p.no_clean.no_keep.no_props.no_client.no_wills.no_user.no_pass (sConn p.kind (cfl p.user.n p.pass.n p.clean vs) p.keep (cok p.user.n p.pass.n vs) l p.client ws us ps []) (6000000+wn * c+un * c+pn * c)):=by
 have HP:=zh hP
 have HSM:=zh hsm
 have HWS:=zh hWS
 have HWO:=zh hWO
 have HUS:=zh hUS
 have HUO:=zh hUO
 have HPS:=zh hPS
 have HWN:=zh hwn
 have HUN:=zh hus
 have HPN:=zh hps
 have HWV:=zh hwv
 have HUV:=zh huv
 have HPV:=zh hpv
 have HFLR:=zh hfl
 have HQ:=zh h
 clear h hP hsm hWS hWO hUS hUO hPS hwn hus hps hwv huv hpv
 have HRW:=zh hW
 clear hW
 go_enter Tryz.func59,Tryz.ntmps59
 go_upto_region 1 with fail
 iterate 7 go_step
 refine wpList_load_mid rfl 31 _ rfl W 0 rfl p.cells _ (uh HQ).pk.range Tryz.underlying31 rfl packet_size ?_
 simp only[Act.put,List.setIfInBounds_toArray,List.set_cons_zero,List.set_cons_succ]
 go_wp2_with fail
 refine (connectFlags_any p vs w ((uh HRW).below (uh HQ).bel) hun hpn).mono ?_
 rintro e w1 ⟨rfl,hb1⟩
 have HQ1:=zh ((uh HQ).below hb1)
 clear hb1 HQ HRW
 generalize hfe:cfl p.user.n p.pass.n p.clean vs=fl at HFLR |-
 generalize hoe:cok p.user.n p.pass.n vs=ok
 have HFE:=zh hfe
 have HOE:=zh hoe
 clear hfe hoe
 go_wp2_with fail
 refine (must_q (uh HQ1) ok).mono ?_
 rintro e w2 ⟨rfl,hq2,-⟩
 have d1:=hq2.pk.clean
 have d2:=hq2.pk.clean_f
 have HQ2:=zh hq2.no_clean
 clear hq2 HQ1
 go_upto_region 4 with fail
 generalize w2.setCell ⟨W,9,none⟩ (.bool false)=w3 at HQ2 |-
 clear d1 d2
 go_wp2_with fail
 refine (text_q (uh HQ2) mqtt (by decide) (fun l e=>by cases ok <;> cases e;simp) (by omega)).mono ?_
 rintro e w4 ⟨rfl,hq4,-⟩
 have HG4:=zh (Ge2.of_add ((some []).bind (sMust ok)) (okT mqtt) (show 2<=(tx mqtt).length from by rw[tx_length];omega))
 have HQ4:=zh hq4
 obtain⟨s4,HS4⟩:∃ s4,Hid (s4=((some []).bind (sMust ok)).bind (sAdd (okT mqtt) (tx mqtt))):=⟨_,rfl⟩
 rw[<- uh HS4]at HG4 HQ4
 clear hq4 HQ2
 go_wp2_with fail
 refine (one_q (uh HQ4) 5 (by omega) (by omega)).mono ?_
 rintro e w5 ⟨rfl,hq5,-⟩
 have HG5:=zh ((uh HG4).add (in8 5) [5 % 256])
 have HQ5:=zh hq5
 clear hq5 HQ4 HG4
 go_wp2_with fail
 refine (one_q (uh HQ5) fl (uh HFLR) (by omega)).mono ?_
 rintro e w6 ⟨rfl,hq6,-⟩
 have HG6:=zh ((uh HG5).add (in8 fl) [fl % 256])
 have HQ6:=zh hq6
 clear hq6 HQ5 HG5
 go_wp2_with fail
 refine (take_keep_q (uh HQ6) p.keep rfl).mono ?_
 rintro e w7 ⟨rfl,hq7⟩
 have HQ7:=zh hq7
 clear hq7 HQ6
 go_wp2_with fail
 refine (two_q (uh HQ7) p.keep hkp (by omega)).mono ?_
 rintro e w8 ⟨rfl,hq8,-⟩
 have HG8:=zh ((uh HG6).add (in16 p.keep) (b2 p.keep))
 have HQ8:=zh hq8
 obtain⟨s8,HS8⟩:∃ s8,Hid (s8=((s4.bind (sAdd (in8 5) [5 % 256])).bind (sAdd (in8 fl) [fl % 256])).bind (sAdd (in16 p.keep) (b2 p.keep))):=⟨_,rfl⟩
 rw[<- uh HS8]at HG8 HQ8
 clear hq8 HQ7 HG6
 go_wp2_with fail
 have HQd:=zh ((uh HQ8).below (below_drewN (Below.refl _ _) 1))
 clear HQ8
 refine wp_region_noPanic ?_
 refine wp_region_held_drew (S:=fun w'=>w'.cell? ⟨W,0,none⟩=some (.int .i64 p.kind)) (by kernel_rfl) (uh HQd).pk.kind (fun hHeld=>?_)
 refine rtk 0 (h:=?_)
 refine rtk 1 (h:=?_)
 refine rtk 2 (h:=?_)
 refine rtk 3 (h:=?_)
 refine rtk 5 (h:=?_)
 refine rtk 6 (h:=?_)
 refine rtk 7 (h:=?_)
 refine rtk 8 (h:=?_)
 refine rcl 4 (h:=fun K hK=>?_)
 go_simp
 refine (take_props_q (uh HQd) p.props rfl).mono ?_
 rintro e wp1 ⟨rfl,hqp⟩
 have HQp:=zh hqp
 clear hqp HQd
 refine hK.out _ _ (uh HQp).pk.kind (fun hHeld=>?_)
 clear hK K
 refine rcl 9 (h:=fun K hK=>?_)
 go_simp
 refine (props_q (uh HQp) p.props.val l p.kind ((uh HP).below (uh HQp).bel) hmx (uh HSM) (uh HG8).one (by omega)).mono ?_
 rintro e wp2 ⟨rfl,hqp,-⟩
 have HQ9:=zh hqp
 clear hqp HQp
 refine hK.out _ _ (uh HQ9).pk.kind (fun hHeld=>?_)
 clear hK K
 refine wpAnyH_done (by kernel_rfl) ?_ _
 refine NoPanic.normal ?_
 have HG9:=zh ((uh HG8).add (okP p.kind l) (pbs l))
 clear HG8
 go_wp2_with fail
 refine (take_client_q (uh HQ9) p.client rfl).mono ?_
 rintro e w10 ⟨rfl,hq10⟩
 have HQ10:=zh hq10
 clear hq10 HQ9
 go_wp2_with fail
 refine (text_q (uh HQ10) p.client hcl (uh HG9).one (by omega)).mono ?_
 rintro e w11 ⟨rfl,hq11,-⟩
 have HG11:=zh ((uh HG9).add (okT p.client) (tx p.client))
 have HQ11:=zh (hq11.mono (show _<=6000000 from by omega))
 obtain⟨s11,HS11⟩:∃ s11,Hid (s11=(s8.bind (sAdd (okP p.kind l) (pbs l))).bind (sAdd (okT p.client) (tx p.client))):=⟨_,rfl⟩
 rw[<- uh HS11]at HG11 HQ11
 clear hq11 HQ10 HG9
 go_wp2_with fail
 refine (take_wills_q (uh HQ11) p.wills rfl).mono ?_
 rintro e w12 ⟨rfl,hq12⟩
 rw[uh HWV]
 have HQ12:=zh hq12
 clear hq12 HQ11 HWV
 have hwl:wn<=4611686018427300000:=Nat.le_trans (Nat.le_mul_of_pos_right _ (by omega)) (show wn * c<=4611686018427300000 from by omega)
 have hul:un<=4611686018427300000:=Nat.le_trans (Nat.le_mul_of_pos_right _ (by omega)) (show un * c<=4611686018427300000 from by omega)
 have hpl:pn<=4611686018427300000:=Nat.le_trans (Nat.le_mul_of_pos_right _ (by omega)) (show pn * c<=4611686018427300000 from by omega)
 go_wp2
 go_loopw [61] (fun i wr=>∃ k:Nat,k<=wn/\i=.int .i64 k/\Hid (WQ w0 wr W p.no_clean.no_keep.no_props.no_client.no_wills (s11.bind (sEach sWill (ws.take k))) (6000000+k * c))/\Hid (Ge2 (s11.bind (sEach sWill (ws.take k))))) (fun i _=>wn - (intOf i).toNat)
 case atStart=>exact⟨0,Nat.zero_le _,rfl,by rw[each_nil,Nat.zero_mul];exact HQ12,by rw[each_nil];exact HG11⟩
 case round =>
  obtain⟨k,hk,rfl,HQK,HGK⟩:=hrel
  clear HQ12 HG11
  by_cases hlt:k < wn
  ·have hkl:k < ws.length:=by rw[uh HWN];exact hlt
   have HE:=zh (each_snoc sWill wl0 s11 ws k hkl)
   have hmk:6000000+k * c+c<=4611686018427300000:=by
    have:=Nat.mul_le_mul_right c (show k+1<=wn from hlt)
    rw[Nat.succ_mul]at this
    omega
   have HMS:Hid (6000000+k * c+c=6000000+(k+1) * c):=by show _=_;rw[Nat.succ_mul];omega
   obtain⟨b,off,rfl,hcl⟩:∃ b off,wo=some ⟨b,off,none⟩/\WlAt w0 b off ws:=by
    rcases uh HWS with e | k
    ·rw[e]at hkl;simp at hkl
    ·exact k
   have hb:=hcl k hkl
   have hB:=(uh HQK).bel
   obtain⟨ao,n,cap,⟨d0,d1,d2,d3,d4⟩,hpr,-⟩:=hb
   have hbl:b < w0.heap.size:=cell_lt d0
   have e0:=(hB.cell hbl).trans d0
   have e1:=(hB.cell hbl).trans d1
   have e2:=(hB.cell hbl).trans d2
   have e3:=(hB.cell hbl).trans d3
   have e4:=(hB.cell hbl).trans d4
   have hWk:=(uh HWO) k hkl
   have HPR:=zh hpr
   clear d0 d1 d2 d3 d4 hpr
   generalize ws.getD k wl0=u at e0 e1 e2 e3 e4 hWk HE HPR
   obtain⟨hz1,hz2,hz3⟩:=hWk
   have HZ3:=zh hz3
   have hWlt:=(uh HQK).lt
   clear hz3
   clear hcl hB
   generalize 6000000+k * c=mk at HQK hmk HMS
   go_wp2_with fail
   refine (props_q ((uh HQK).below (bal _ _)) (.slice ao n cap) u.props 16 ((uh HPR).below ((uh HQK).below (bal _ _)).bel) hz2 (uh HZ3) (uh HGK).one (by omega)).mono ?_
   rintro e x1 ⟨rfl,hq1,hf1⟩
   have HN1:=zh (hf1.cell (heap_alloc_new _ _) (by omega) (by decide))
   have HR1:=zh hq1
   have f0:x1.cell? ⟨wr.heap.size,0,none⟩=some (.string u.topic):=by unfold World.cell?;dsimp only;rw[uh HN1];rfl
   clear hq1 hf1 HQK e0 e1 e2 e3 e4
   go_wp2_with fail
   refine (text_q (uh HR1) u.topic hz1 ((uh HGK).add _ _).one (by omega)).mono ?_
   rintro e x2 ⟨rfl,hq2,hf2⟩
   have HN2:=zh (hf2.cell (uh HN1) (by omega) (by decide))
   have HR2:=zh hq2
   have f1:x2.cell? ⟨wr.heap.size,1,none⟩=some (.string u.payload):=by unfold World.cell?;dsimp only;rw[uh HN2];rfl
   clear hq2 hf2 HR1 HN1 f0
   go_wp2_with fail
   refine (bin_q (uh HR2) u.payload (((uh HGK).add _ _).add _ _).one (by omega)).mono ?_
   rintro e x3 ⟨rfl,hq3,-⟩
   have HQN:Hid (WQ w0 x3 W p.no_clean.no_keep.no_props.no_client.no_wills ((s11.bind (sEach sWill (ws.take k))).bind (sWill u)) (mk+c)):=by
    have q:=hq3.mono (show _<=mk+c from by omega)
    rw[show ((((s11.bind (sEach sWill (ws.take k))).bind (sAdd (okP 16 u.props) (pbs u.props))).bind (sAdd (okT u.topic) (tx u.topic))).bind (sAdd (okB u.payload) (tx u.payload)))=(s11.bind (sEach sWill (ws.take k))).bind (sWill u) from by cases s11.bind (sEach sWill (ws.take k)) <;> rfl]at q
    exact q
   clear hq3 HR2 HN2 f1
   go_wp2
   go_roundw
   case rel=>exact⟨k+1,by omega,by go_num,by rw[uh HE,<- uh HMS];exact HQN,by rw[uh HE];exact (uh HGK).will _⟩
   case measure=>simp[intOf];omega
  ·obtain rfl:wn=k:=by omega
   have HQ13:Hid (WQ w0 wr W p.no_clean.no_keep.no_props.no_client.no_wills (s11.bind (sEach sWill ws)) (6000000+wn * c)):=by
    have q:=uh HQK
    rw[List.take_of_length_le (Nat.le_of_eq (uh HWN))]at q
    exact q
   have HG13:Hid (Ge2 (s11.bind (sEach sWill ws))):=by
    have q:=uh HGK
    rw[List.take_of_length_le (Nat.le_of_eq (uh HWN))]at q
    exact q
   clear HQK HGK
   obtain⟨s13,HS13⟩:∃ s13,Hid (s13=s11.bind (sEach sWill ws)):=⟨_,rfl⟩
   rw[<- uh HS13]at HQ13 HG13
   go_wp2_with fail
   refine (take_user_q (uh HQ13) p.user rfl).mono ?_
   rintro e wq ⟨rfl,hqq⟩
   rw[uh HUV]
   clear HQ13 HUV
   have HQ13:=zh hqq
   clear hqq
   go_wp2
   go_loopw [83] (fun i wr=>∃ k:Nat,k<=un/\i=.int .i64 k/\Hid (WQ w0 wr W p.no_clean.no_keep.no_props.no_client.no_wills.no_user (s13.bind (sEach sTx (us.take k))) (6000000+wn * c+k * c))/\Hid (Ge2 (s13.bind (sEach sTx (us.take k))))) (fun i _=>un - (intOf i).toNat)
   case atStart=>exact⟨0,Nat.zero_le _,rfl,by rw[each_nil,Nat.zero_mul];exact HQ13,by rw[each_nil];exact HG13⟩
   case round =>
    obtain⟨k,hk,rfl,HQK,HGK⟩:=hrel
    clear HQ13 HG13
    by_cases hlt:k < un
    ·have hkl:k < us.length:=by rw[uh HUN];exact hlt
     have HE:=zh (each_snoc sTx ⟨#[]⟩ s13 us k hkl)
     have hmk:6000000+wn * c+k * c+c<=4611686018427300000:=by
      have:=Nat.mul_le_mul_right c (show k+1<=un from hlt)
      rw[Nat.succ_mul]at this
      omega
     have HMS:Hid (6000000+wn * c+k * c+c=6000000+wn * c+(k+1) * c):=by show _=_;rw[Nat.succ_mul];omega
     obtain⟨b,off,rfl,hcl⟩:∃ b off,uo=some ⟨b,off,none⟩/\∀ j,j < us.length->w0.cell? ⟨b,off+j,none⟩=some (.string (us.getD j ⟨#[]⟩)):=by
      rcases uh HUS with e | k
      ·rw[e]at hkl;simp at hkl
      ·exact k
     have hb:=hcl k hkl
     have hB:=(uh HQK).bel
     have e0:=(hB.cell (cell_lt hb)).trans hb
     have hzz:=(uh HUO) k hkl
     generalize us.getD k ⟨#[]⟩=sv at e0 hzz HE hb
     clear hcl hB
     generalize 6000000+wn * c+k * c=mk at HQK hmk HMS
     go_wp2_with fail
     refine (text_q (uh HQK) sv hzz (uh HGK).one (by omega)).mono ?_
     rintro e wn ⟨rfl,hqn,-⟩
     have HQN:=zh (hqn.mono (show _<=mk+c from by omega))
     clear hqn HQK e0 hb
     go_wp2
     go_roundw
     case rel=>exact⟨k+1,by omega,by go_num,by rw[uh HE,<- uh HMS];exact HQN,by rw[uh HE];exact (uh HGK).add _ _⟩
     case measure=>simp[intOf];omega
    ·obtain rfl:un=k:=by omega
     have HQ14:Hid (WQ w0 wr W p.no_clean.no_keep.no_props.no_client.no_wills.no_user (s13.bind (sEach sTx us)) (6000000+wn * c+un * c)):=by
      have q:=uh HQK
      rw[List.take_of_length_le (Nat.le_of_eq (uh HUN))]at q
      exact q
     have HG14:Hid (Ge2 (s13.bind (sEach sTx us))):=by
      have q:=uh HGK
      rw[List.take_of_length_le (Nat.le_of_eq (uh HUN))]at q
      exact q
     clear HQK HGK
     obtain⟨s14,HS14⟩:∃ s14,Hid (s14=s13.bind (sEach sTx us)):=⟨_,rfl⟩
     rw[<- uh HS14]at HQ14 HG14
     go_wp2_with fail
     refine (take_pass_q (uh HQ14) p.pass rfl).mono ?_
     rintro e wq ⟨rfl,hqq⟩
     rw[uh HPV]
     clear HQ14 HPV
     have HQ14:=zh hqq
     clear hqq
     go_wp2
     go_loopw [96] (fun i wr=>∃ k:Nat,k<=pn/\i=.int .i64 k/\Hid (WQ w0 wr W p.no_clean.no_keep.no_props.no_client.no_wills.no_user.no_pass (s14.bind (sEach sPass (ps.take k))) (6000000+wn * c+un * c+k * c))/\Hid (Ge2 (s14.bind (sEach sPass (ps.take k))))) (fun i _=>pn - (intOf i).toNat)
     case atStart=>exact⟨0,Nat.zero_le _,rfl,by rw[each_nil,Nat.zero_mul];exact HQ14,by rw[each_nil];exact HG14⟩
     case round =>
      obtain⟨k,hk,rfl,HQK,HGK⟩:=hrel
      clear HQ14 HG14
      by_cases hlt:k < pn
      ·have hkl:k < ps.length:=by rw[uh HPN];exact hlt
       have HE:=zh (each_snoc sPass ⟨#[]⟩ s14 ps k hkl)
       have hmk:6000000+wn * c+un * c+k * c+c<=4611686018427300000:=by
        have:=Nat.mul_le_mul_right c (show k+1<=pn from hlt)
        rw[Nat.succ_mul]at this
        omega
       have HMS:Hid (6000000+wn * c+un * c+k * c+c=6000000+wn * c+un * c+(k+1) * c):=by show _=_;rw[Nat.succ_mul];omega
       obtain⟨b,off,rfl,hcl⟩:∃ b off,po=some ⟨b,off,none⟩/\∀ j,j < ps.length->w0.cell? ⟨b,off+j,none⟩=some (.string (ps.getD j ⟨#[]⟩)):=by
        rcases uh HPS with e | k
        ·rw[e]at hkl;simp at hkl
        ·exact k
       have hb:=hcl k hkl
       have hB:=(uh HQK).bel
       have e0:=(hB.cell (cell_lt hb)).trans hb
       generalize ps.getD k ⟨#[]⟩=sv at e0 HE hb
       clear hcl hB
       generalize 6000000+wn * c+un * c+k * c=mk at HQK hmk HMS
       go_wp2_with fail
       refine (bin_q (uh HQK) sv (uh HGK).one (by omega)).mono ?_
       rintro e wn ⟨rfl,hqn,-⟩
       have HQN:=zh (hqn.mono (show _<=mk+c from by omega))
       clear hqn HQK e0 hb
       go_wp2
       go_roundw
       case rel=>exact⟨k+1,by omega,by go_num,by rw[uh HE,<- uh HMS];exact HQN,by rw[uh HE];exact (uh HGK).add _ _⟩
       case measure=>simp[intOf];omega
      ·obtain rfl:pn=k:=by omega
       have HQ15:Hid (WQ w0 wr W p.no_clean.no_keep.no_props.no_client.no_wills.no_user.no_pass (s14.bind (sEach sPass ps)) (6000000+wn * c+un * c+pn * c)):=by
        have q:=uh HQK
        rw[List.take_of_length_le (Nat.le_of_eq (uh HPN))]at q
        exact q
       have HG15:Hid (Ge2 (s14.bind (sEach sPass ps))):=by
        have q:=uh HGK
        rw[List.take_of_length_le (Nat.le_of_eq (uh HPN))]at q
        exact q
       clear HQK HGK
       have HF:Hid (GPost w0 W p.no_clean.no_keep.no_props.no_client.no_wills.no_user.no_pass (sConn p.kind fl p.keep ok l p.client ws us ps []) (6000000+wn * c+un * c+pn * c) (.returned (.tuple #[])) wr):=by
        have e:sConn p.kind fl p.keep ok l p.client ws us ps []=s14.bind (sEach sPass ps):=by
         rw[uh HS14,uh HS13,uh HS11,uh HS8,uh HS4]
         rfl
        rw[e]
        exact⟨rfl,(uh HQ15).wf⟩
       go_wp2
       go_end0
       rw[uh HFE,uh HOE]
       exact uh HF
theorem pk_conn {w0 w:World} {W:Nat} {p:Pkv} (h:WQ w0 w W p (some []) 0) (hf:Fit p) (vs:List Wv) (hW:Rw w0 p.wills 5 (wcs vs)) (l:List Pr) (hP:Prp w0 p.props.val l) (hmx:l.length<=4398046511104) (hsm:Go.Proofs.YtdkmmmjjdlnnoaaGreatDoor.Small l) (hcl:p.client.size<=4611686018427387904) (hkp:-9223372036854775808<=p.keep/\p.keep<=9223372036854775807)
  (hun:p.user.n<=maxLen) (hpn:p.pass.n<=maxLen) (hfl:-9223372036854775808<=cfl p.user.n p.pass.n p.clean vs/\cfl p.user.n p.pass.n p.clean vs<=9223372036854775807)
  (ws:List Wl) (wn:Nat) (hwn:ws.length=wn) (wo:Option Addr) (wc:Nat) (hwv:p.wills.val=.slice wo wn wc) (hWS:ws=[]\/∃ b off,wo=some ⟨b,off,none⟩/\WlAt w0 b off ws) (hWO:∀ k,k < ws.length->WlOk (ws.getD k wl0))
  (us:List ByteArray) (un:Nat) (hus:us.length=un) (uo:Option Addr) (uc:Nat) (huv:p.user.val=.slice uo un uc) (hUS:us=[]\/∃ b off,uo=some ⟨b,off,none⟩/\∀ j,j < us.length->w0.cell? ⟨b,off+j,none⟩=some (.string (us.getD j ⟨#[]⟩))) (hUO:∀ k,k < us.length->(us.getD k ⟨#[]⟩).size<=4611686018427387904)
  (ps:List ByteArray) (pn:Nat) (hps:ps.length=pn) (po:Option Addr) (pc:Nat) (hpv:p.pass.val=.slice po pn pc) (hPS:ps=[]\/∃ b off,po=some ⟨b,off,none⟩/\∀ j,j < ps.length->w0.cell? ⟨b,off+j,none⟩=some (.string (ps.getD j ⟨#[]⟩)))
  (c:Nat) (hc:6000000<=c) (hm:6000000+wn * c+un * c+pn * c<=4611686018427300000) (hk:p.kind=1) :
  Calls Tryz.prog 36 #[.pointer (some ⟨W,0,none⟩)] w (GPost w0 W p.no_clean.no_keep.no_props.no_client.no_wills.no_user.no_pass ((sConn p.kind (cfl p.user.n p.pass.n p.clean vs) p.keep (cok p.user.n p.pass.n vs) l p.client ws us ps []).bind (sMust (emp (p.no_clean.no_keep.no_props.no_client.no_wills.no_user.no_pass)))) (6000000+wn * c+un * c+pn * c)):=by
 have hkc:=h.pk.kind
 have HC:=zh (conn_any h vs hW l hP hmx hsm hcl hkp hun hpn hfl ws wn hwn wo wc hwv hWS hWO us un hus uo uc huv hUS hUO ps pn hps po pc hpv hPS c hc hm)
 clear hW hP hmx hsm hcl hkp hun hpn hfl hwn hwv hWS hWO hus huv hUS hUO hps hpv hPS hc hm
 have HQ:=zh h
 rw[hk]at hkc
 have HK8:=zh hk
 clear h hk
 go_enter Tryz.func36,Tryz.ntmps36
 go_wp2_with fail
 refine (uh HC).mono ?_
 rintro e w1 ⟨rfl,hq1⟩
 have HF:=zh hq1
 clear hq1 HQ hkc HC
 go_upto_region 25 with fail
 iterate 13 go_step
 refine wpList_load_mid rfl 31 _ rfl W 0 rfl (p.no_clean.no_keep.no_props.no_client.no_wills.no_user.no_pass).cells _ (uh HF).pk.range Tryz.underlying31 rfl packet_size ?_
 simp only[Act.put,List.setIfInBounds_toArray,List.set_cons_zero,List.set_cons_succ]
 go_wp2_with fail
 refine (empty_any (p.no_clean.no_keep.no_props.no_client.no_wills.no_user.no_pass) hf.no_clean.no_keep.no_props.no_client.no_wills.no_user.no_pass _).mono ?_
 rintro e x1 ⟨rfl,hx1⟩
 have HFa:=zh ((uh HF).below hx1)
 clear hx1 HF
 go_wp2_with fail
 refine (must_f (uh HFa) (emp (p.no_clean.no_keep.no_props.no_client.no_wills.no_user.no_pass))).mono ?_
 rintro e x2 ⟨rfl,hx2⟩
 have HFb:=zh hx2
 clear hx2 HFa
 go_wp2
 go_end0
 exact⟨rfl,uh HFb⟩
theorem gtext_any (s:ByteArray) (c:Bool) (hc:okT s=c) (w:World) (hs:s.size<=4611686018427387904):Calls Tryz.prog 74 #[.string s] w fun e w'=>e=.returned (.bool c)/\Below w.heap.size w w':=by
 subst hc
 unfold okT
 have HR:=zh (rcheck_any s w hs)
 by_cases h:chk (sb s)=0
 ·rw[h]at HR |-
  go_enter Tryz.func74,Tryz.ntmps74
  go_wp2_with fail
  refine (uh HR).mono ?_
  rintro e w1 ⟨rfl,hb⟩
  have HB:=zh hb
  clear hb
  go_wp2
  go_ret
  exact⟨rfl,uh HB⟩
 ·rw[decide_eq_false h]
  generalize chk (sb s)=n at h HR
  have hn:(n == 0)=false:=beq_false_of_ne h
  go_enter Tryz.func74,Tryz.ntmps74
  go_wp2_with fail
  refine (uh HR).mono ?_
  rintro e w1 ⟨rfl,hb⟩
  have HB:=zh hb
  clear hb
  go_wp2
  go_ret
  exact⟨rfl,uh HB⟩
theorem mayWill_any (u:Wl) (ao:Option Addr) (n cap:Nat) (w:World) (hP:Prp w (.slice ao n cap) u.props) (hto:u.topic.size<=4611686018427387904) (hmx:u.props.length<=1000000000) (hsm:Go.Proofs.YtdkmmmjjdlnnoaaGreatDoor.Small u.props) (hpy:u.payload.size<=4611686018427387904) :
  Calls Tryz.prog 75 #[.agg #[.string u.topic,.string u.payload,.int .i64 u.qos,.bool u.retain,.slice ao n cap]] w fun e w'=>e=.returned (.bool (mwB u))/\Below w.heap.size w w':=by
 obtain⟨tp,pa,qo,re,pr⟩:=u
 dsimp only at *
 have HB0:Hid (Below w.heap.size w (w.alloc (.cells #[.string tp,.string pa,.int .i64 qo,.bool re,.slice ao n cap] 90))):=bal _ _
 have HP:=zh (hP.below (uh HB0))
 have HSM:=zh hsm
 clear hP hsm
 cases ht:okT tp
 ·have HE:Hid (mwB ⟨tp,pa,qo,re,pr⟩=false):=by show _=_;unfold mwB;simp only[ht];rfl
  go_enter Tryz.func75,Tryz.ntmps75
  go_wp2_with fail
  refine (gtext_any tp false ht _ hto).mono ?_
  rintro e w1 ⟨rfl,hb⟩
  have HB:=zh ((uh HB0).trans (hb.mono (uh HB0).size))
  clear hb
  go_wp2
  go_ret
  exact⟨by rw[uh HE];rfl,uh HB⟩
 ·have HT:=zh ht
  clear ht
  have HM:Hid (mwB ⟨tp,pa,qo,re,pr⟩=(okB pa && (decide (0<=qo) && (decide (qo<=2) && okP 16 pr)))):=by show _=_;unfold mwB;simp only[uh HT];rfl
  have HC:Hid (∀ w1:World,Below (w.alloc (.cells #[.string tp,.string pa,.int .i64 qo,.bool re,.slice ao n cap] 90)).heap.size (w.alloc (.cells #[.string tp,.string pa,.int .i64 qo,.bool re,.slice ao n cap] 90)) w1->w1.cell? ⟨w.heap.size,1,none⟩=some (.string pa)/\w1.cell? ⟨w.heap.size,2,none⟩=some (.int .i64 qo)/\w1.cell? ⟨w.heap.size,4,none⟩=some (.slice ao n cap)):=fun w1 hb=>⟨(hb.cell (by simp)).trans (by simp),(hb.cell (by simp)).trans (by simp),(hb.cell (by simp)).trans (by simp)⟩
  go_enter Tryz.func75,Tryz.ntmps75
  go_wp2_with fail
  refine (gtext_any tp true (uh HT) _ hto).mono ?_
  rintro e w1 ⟨rfl,hb⟩
  obtain⟨c1,c2,c4⟩:=(uh HC) w1 hb
  have HB:=zh ((uh HB0).trans (hb.mono (uh HB0).size))
  have HP1:=zh ((uh HP).below hb)
  clear hb HC HP
  generalize w.heap.size=B at c1 c2 c4 |-
  by_cases h1:pa.size<=65535
  ·by_cases h2:0<=qo
   ·by_cases h3:qo<=2
    ·have HE:Hid (mwB ⟨tp,pa,qo,re,pr⟩=okP 16 pr):=by show _=_;rw[uh HM];unfold okB;rw[decide_eq_true h1,decide_eq_true h2,decide_eq_true h3];rfl
     go_wp2_with fail
     refine (gprops_any _ pr 16 _ (uh HP1) hmx (uh HSM)).mono ?_
     rintro e w2 ⟨rfl,hb2⟩
     have HB2:=zh ((uh HB).trans (hb2.mono (uh HB).size))
     clear hb2
     go_wp2
     go_ret
     exact⟨by rw[uh HE];rfl,uh HB2⟩
    ·have HE:Hid (mwB ⟨tp,pa,qo,re,pr⟩=false):=by show _=_;rw[uh HM,decide_eq_false h3];simp
     go_wp2
     go_ret
     exact⟨by rw[uh HE];rfl,uh HB⟩
   ·have HE:Hid (mwB ⟨tp,pa,qo,re,pr⟩=false):=by show _=_;rw[uh HM,decide_eq_false h2];simp
    go_wp2
    go_ret
    exact⟨by rw[uh HE];rfl,uh HB⟩
  ·have HE:Hid (mwB ⟨tp,pa,qo,re,pr⟩=false):=by show _=_;rw[uh HM];unfold okB;rw[decide_eq_false h1];rfl
   go_wp2
   go_ret
   exact⟨by rw[uh HE];rfl,uh HB⟩
def Pkv.wi_client (p:Pkv) (x:ByteArray):Pkv:={ p with client:=x }
theorem MS.wi_client {w0 w:World} {B X:Nat} {q x:Pkv} (h:MS w0 w B X q x) (y:ByteArray):MS w0 (w.setCell ⟨X,8,none⟩ (.string y)) B X q (x.wi_client y) :=
 h.set (x.wi_client y) 8 (by omega) (fun j hj=>by unfold Pkv.wi_client Pkv.cell;split <;> first | rfl | exact absurd rfl hj)
def Pkv.wi_clean (p:Pkv) (x:Bool):Pkv:={ p with clean:=x }
theorem MS.wi_clean {w0 w:World} {B X:Nat} {q x:Pkv} (h:MS w0 w B X q x) (y:Bool):MS w0 (w.setCell ⟨X,9,none⟩ (.bool y)) B X q (x.wi_clean y) :=
 h.set (x.wi_clean y) 9 (by omega) (fun j hj=>by unfold Pkv.wi_clean Pkv.cell;split <;> first | rfl | exact absurd rfl hj)
def Pkv.wi_keep (p:Pkv) (x:Int):Pkv:={ p with keep:=x }
theorem MS.wi_keep {w0 w:World} {B X:Nat} {q x:Pkv} (h:MS w0 w B X q x) (y:Int):MS w0 (w.setCell ⟨X,10,none⟩ (.int .i64 y)) B X q (x.wi_keep y) :=
 h.set (x.wi_keep y) 10 (by omega) (fun j hj=>by unfold Pkv.wi_keep Pkv.cell;split <;> first | rfl | exact absurd rfl hj)
theorem gtwo_any (n:Int) (w:World):Calls Tryz.prog 85 #[.int .i64 n] w fun e w'=>∃ v,e=.returned v/\Hid (Rwb w' w.heap.size v (b2 n))/\Below w.heap.size w w':=by
 have HR:Hid (Rwb (w.alloc (.cells #[.int .u8 (n / 256 % 256),.int .u8 (n % 256)] 5)) w.heap.size (.slice (some ⟨w.heap.size,0,none⟩) 2 2) (b2 n)):=rwb_new w (b2 n) (by simp) (by simp) (rng2 (by omega) (by omega))
 have HB:Hid (Below w.heap.size w (w.alloc (.cells #[.int .u8 (n / 256 % 256),.int .u8 (n % 256)] 5))):=bal _ _
 go_enter Tryz.func85,Tryz.ntmps85
 go_wp2
 go_ret
 exact⟨_,rfl,HR,uh HB⟩
theorem Pk.grow2 {w w':World} {B:Nat} {q:Pkv} {row:Option Nat} (h:Pk w B q) (hg:w.grownBy w' row) (hr:some B≠row):Pk w' B q:=fun j hj=>by
 have hb:=hg.block B (cell_lt h.kind) hr
 exact⟨(World.cell?_of_block hb).trans (h j hj).1,(World.frozen?_of_block hb).trans (h j hj).2⟩
theorem below_grown {w0 w w':World} {v:Value} {l:List Int} (h:Below w0.heap.size w0 w) (hr:Rwb w (w0.heap.size+1) v l) (hg:w.grownBy w' v.ownBlock):Below w0.heap.size w0 w':=h.grown hg h.size (fun g e=>by have:=owns_blk hr.1 g e;omega)
theorem gcf_range (nu np:Nat) (clean:Bool):0<=gcf nu np clean/\gcf nu np clean<=194:=by
 have r1:=fv_range (decide (0 < nu)) 128 (by omega)
 have r2:=fv_range (decide (0 < np)) 64 (by omega)
 have r3:=fv_range clean 2 (by omega)
 unfold gcf
 omega
theorem gcf_wrap {F x:Int} {b:Bool} (hF:0<=F/\F<=194) (h1:0<=x) (h2:x<=2):IntKind.i64.wrap (IntKind.i64.wrap (IntKind.i64.wrap (F+fv b 32)+IntKind.i64.wrap (8 * x))+4)=F+(fv b 32+8 * x+4):=by
 have r1:=fv_range b 32 (by omega)
 generalize fv b 32=y at r1 |-
 simp[IntKind.wrap,IntKind.bits,IntKind.signed]
 omega
theorem gwf_one {us:List Wl} (h:us.length=1):gwf us=fv (us.getD 0 wl0).retain 32+8 * (us.getD 0 wl0).qos+4:=by
 match us,h with
 | [u],_=>rfl
theorem flat_one {α:Type} (f:α->List Int) {l:List α} (d:α) (h:l.length=1):l.flatMap f=f (l.getD 0 d):=by
 match l,h with
 | [u],_=>simp
theorem flat_nil {α:Type} (f:α->List Int) {l:List α} (h:l.length=0):l.flatMap f=[]:=by
 rw[List.length_eq_zero_iff.1 h];rfl
def wlz:Array Value:=wlc ⟨#[]⟩ ⟨#[]⟩ 0 false (.slice none 0 0)
theorem will_size:(Tryz.prog.info? 90).map (·.size)=some 5:=by kernel_rfl
theorem gwill_alloc (ρ:Operand->Value) (dst:Option Tmp) (ty:TypeId) (pos:String) (after:Array Edge) (w:World) :
  (execOp ρ ⟨dst,.alloc 90,ty,pos,after,none⟩).run Tryz.prog w=.ok (.value (.pointer (some ⟨w.heap.size,0,none⟩))) (w.alloc (.cells wlz 90)):=by
 kernel_rfl
theorem gwill_store (a:Act) (dst:Option Tmp) (x y:Operand) (ty:TypeId) (pos:String) (after:Array Edge) (t p:ByteArray) (n:Int) (r:Bool) (ao:Option Addr) (k cap:Nat) (w:World) (hx:a.eval x=.pointer (some ⟨w.heap.size,0,none⟩)) (hy:a.eval y=.agg (wlc t p n r (.slice ao k cap))) :
  (execOp a.eval ⟨dst,.store 90 x y,ty,pos,after,none⟩).run Tryz.prog (w.alloc (.cells wlz 90))=.ok .skip (w.alloc (.cells (wlc t p n r (.slice ao k cap)) 90)):=by
 show Sem.run Tryz.prog (do Instr.storeAt 90 (a.eval x) (a.eval y);pure Next.skip) _=_
 rw[hx,hy]
 simp only[Sem.run_bind]
 rw[run_storeAt_new w 90 wlz (wlc t p n r (.slice ao k cap)) (by rw[will_size];rfl) rfl (by simp[wlc,Value.oneCell'])]
 rfl
theorem wbx_new (w:World) (t p:ByteArray) (n:Int) (r:Bool) (v:Value):WBx (w.alloc (.cells (wlc t p n r v) 90)) w.heap.size t p n r v:=.of (heap_alloc_new _ _)
theorem wbox_off {w:World} {B g:Nat} {v:Value} {l:List Int} {c:Array Value} (h:Rwb w B v l) (hb:w.heap[g]?=some (.cells c 90)):v.ownBlock≠some g:=fun e=>by
 rcases h.1.2 with⟨rfl,_⟩ | ⟨g',cap,cur,rfl,_,hg,_⟩
 ·cases e
 ·cases e
  rw[hg]at hb
  cases hb
def gcon (q:Pkv) (l:List Pr) (ws:List Wl) (us ps:List ByteArray):List Int:=((((((((tx gmq++[5])++[(gcf us.length ps.length q.clean+gwf ws) % 256])++b2 q.keep)++pbs l)++tx q.client)++ws.flatMap gwl)++us.flatMap tx)++ps.flatMap tx)
theorem prp_len {w:World} {a:Option Addr} {n c:Nat} {l:List Pr} (h:Prp w (.slice a n c) l):l.length=n:=by
 obtain⟨ao,cap,h1,_⟩:=h
 cases h1
 rfl
theorem gconn_any (q:Pkv) (l:List Pr) (w:World) (hP:Prp w q.props.val l) (hok:okP q.kind l=true) (ws:List Wl) (us ps:List ByteArray) (hW:Wls w q.wills.val ws) (hU:Txs w q.user.val us) (hA:Txs w q.pass.val ps) (nw:ws.length<=1) (nu:us.length<=1) (np:ps.length<=1) (hcl:q.client.size<=65535) (zw:∀ k,k < ws.length->(ws.getD k wl0).topic.size<=65535/\(ws.getD k wl0).payload.size<=65535/\0<=(ws.getD k wl0).qos/\(ws.getD k wl0).qos<=2/\okP 16 (ws.getD k wl0).props=true) (zu:∀ k,k < us.length->(us.getD k ⟨#[]⟩).size<=65535) (zp:∀ k,k < ps.length->(ps.getD k ⟨#[]⟩).size<=65535):Calls Tryz.prog 81 #[q.val] w (GPut (gcon q l ws us ps) w):=by
 obtain⟨ao1,cap1,hv,⟨hlc1,hcm1⟩,hx⟩:=hW
 obtain⟨m1,hm1⟩:∃ m,m=ws.length:=⟨_,rfl⟩
 rw[<- hm1]at hv hlc1 nw
 have HV1:=zh hv
 have HS1:=zh hx
 have HN1:=zh hm1.symm
 clear hv hx hm1
 obtain⟨ao2,cap2,hv,⟨hlc2,hcm2⟩,hx⟩:=hU
 obtain⟨m2,hm2⟩:∃ m,m=us.length:=⟨_,rfl⟩
 rw[<- hm2]at hv hlc2 nu
 have HV2:=zh hv
 have HS2:=zh hx
 have HN2:=zh hm2.symm
 clear hv hx hm2
 obtain⟨ao3,cap3,hv,⟨hlc3,hcm3⟩,hx⟩:=hA
 obtain⟨m3,hm3⟩:∃ m,m=ps.length:=⟨_,rfl⟩
 rw[<- hm3]at hv hlc3 np
 have HV3:=zh hv
 have HS3:=zh hx
 have HN3:=zh hm3.symm
 clear hv hx hm3
 have HZW:=zh zw
 have HZU:=zh zu
 have HZP:=zh zp
 clear zw zu zp
 obtain⟨hok1,h32⟩:=chkP0 (of_decide_eq_true hok)
 have hple:=pbs_le (of_decide_eq_true hok)
 have HPN:=zh (pk_new w q)
 have HB0:Hid (Below w.heap.size w (w.alloc (.cells q.cells.toArray 31))):=bal _ _
 have HBY:Hid (∀ W,Below w.heap.size w W->Calls Tryz.prog 83 #[.slice q.props.ao l.length q.props.cap] W (PutP (pbs l) W)):=fun W hW=>by
  have k:=rbytes_any q.props.val l q.kind W (hP.below hW) (by omega) hok1
  rw[show q.props.val=.slice q.props.ao q.props.n q.props.cap from rfl,prp_n hP]at k
  exact k
 have HQN:=zh (prp_n hP)
 clear hP hok hok1
 go_enter Tryz.func81,Tryz.ntmps81
 go_upto_region 1 with fail
 change Code.wp _ _ _ _ (w.alloc (.cells q.cells.toArray 31))
 have hsz:(w.alloc (.cells q.cells.toArray 31)).heap.size=w.heap.size+1:=by simp
 generalize w.alloc (.cells q.cells.toArray 31)=wa at HPN HB0 hsz |-
 -- cutA
 go_wp2_with fail
 refine (Go.Proofs.YtdkmmmjjdlnnoaaGreatDoor.bin_any gmq _ (by decide)).mono ?_
 rintro e w1 ⟨v1,rfl,hown1,hb1⟩
 have HB1:Hid (Below w.heap.size w w1):=bnx2 (uh HB0) hb1
 have HP1:=zh ((uh HPN).below hb1)
 have HR1:Hid (Rwb w1 (w.heap.size+1) v1 (tx gmq)):=⟨by rw[<- hsz,tx_length];exact uh hown1,tx_range _ (by decide)⟩
 obtain⟨va1,vn1,vc1,rfl⟩:=(uh HR1).form
 clear hown1 hb1 HPN HB0
 obtain⟨L1,HEL1⟩:∃ L:List Int,Hid (L=tx gmq):=⟨_,rfl⟩
 have nL1:L1.length<=6:=by rw[uh HEL1];rw[tx_length];decide
 rw[<- uh HEL1]at HR1
 have HG:=zh (rng1 (x:=(5:Int)) (by omega))
 have HBx:Hid (Below w.heap.size w (w1.alloc (.cells #[.int .u8 (5:Int)] 5))):=(uh HB1).alloc (uh HB1).size _
 have HRz:Hid (Rwb (w1.alloc (.cells #[.int .u8 (5:Int)] 5)) w1.heap.size (.slice (some ⟨w1.heap.size,0,none⟩) 1 1) [(5:Int)]):=rwb_new w1 [(5:Int)] (by simp) (by simp) (uh HG)
 have HPx:=zh ((uh HP1).below ((Below.refl _ _).alloc (Nat.le_refl _) (.cells #[.int .u8 (5:Int)] 5)))
 have HRx:=zh ((uh HR1).below ((Below.refl _ _).alloc (Nat.le_refl _) (.cells #[.int .u8 (5:Int)] 5)))
 have HYx:=zh (uh HRz).byt
 have hszr:=(uh HB1).size
 clear HRz HB1 HP1 HR1
 go_wp2_with (first
  | (at_builtin;refine wpList_append_byt _ rfl _ _ rfl (w.heap.size+1) (.slice va1 vn1 vc1) L1.length L1 rfl (uh HRx).1 (.slice (some ⟨w1.heap.size,0,none⟩) 1 1) [(5:Int)] rfl (uh HYx) (by first | omega | (simp;omega)) (cell_lt (uh HPx).kind) ?_)
  | go_in)
 intro v2 w2 hown hg
 have HR2:=zh ((uh HRx).more (uh HG) (by first | exact hown | (rw[<- List.map_append];exact hown)))
 have HB2:Hid (Below w.heap.size w w2):=below_grown (uh HBx) (uh HRx) hg
 have HP2:=zh ((uh HPx).grow2 hg (uh HRx).off)
 obtain⟨va2,vn2,vc2,rfl⟩:=(uh HR2).form
 clear hown hg HRx HBx HPx
 obtain⟨L2,HEL2⟩:∃ L:List Int,Hid (L=L1++[(5:Int)]):=⟨_,rfl⟩
 have nL2:L2.length<=7:=by rw[uh HEL2];rw[List.length_append];first | omega | (simp;omega)
 rw[<- uh HEL2]at HR2
 clear HYx HG hszr
 -- cutB
 obtain⟨F,HF⟩:∃ F,Hid (F=gcf m2 m3 q.clean):=⟨_,rfl⟩
 have hFr:0<=F/\F<=194:=by rw[uh HF];exact gcf_range _ _ _
 have b12:=(uh HP2).user
 have b13:=(uh HP2).pass
 rw[uh HV2]at b12
 rw[uh HV3]at b13
 go_upto_region 2 with fail
 go_cut [4] from 6 (fun s4 wx=>s4=.int .i64 F/\Hid (Rwb wx (w.heap.size+1) (.slice va2 vn2 vc2) L2)/\Hid (Below w.heap.size w wx)/\Hid (Pk wx w.heap.size q))
 case first =>
  obtain rfl | rfl:m2=0\/m2=1:=by omega
  ·obtain rfl | rfl:m3=0\/m3=1:=by omega
   ·have HS:Hid (∀ W,Below w2.heap.size w2 W->(fun w'=>w'.cell? ⟨w.heap.size,12,none⟩=some (.slice ao2 0 cap2)/\w'.cell? ⟨w.heap.size,13,none⟩=some (.slice ao3 0 cap3)/\w'.cell? ⟨w.heap.size,9,none⟩=some (.bool q.clean)) W):=fun W hW=>⟨(hW.cell (cell_lt b12)).trans b12,(hW.cell (cell_lt b13)).trans b13,((uh HP2).below hW).clean⟩
    refine wp_region_noPanic ?_
    have hbd:Below w2.heap.size w2 w2.drew:=below_drewN (Below.refl _ _) 1
    refine wp_region_held_drew (S:=(fun w'=>w'.cell? ⟨w.heap.size,12,none⟩=some (.slice ao2 0 cap2)/\w'.cell? ⟨w.heap.size,13,none⟩=some (.slice ao3 0 cap3)/\w'.cell? ⟨w.heap.size,9,none⟩=some (.bool q.clean))) (by kernel_rfl) ((uh HS) _ hbd) (fun hHeld=>?_)
    have HRd:=zh ((uh HR2).below hbd)
    have HPd:=zh ((uh HP2).below hbd)
    have HBB:=zh (bnx2 (uh HB2) hbd)
    generalize w2.drew=wd at HRd HPd HBB hHeld |-
    clear hbd HR2 HP2 HB2 HS b12 b13
    refine rtk 0 (h:=?_)
    refine rtk 1 (h:=?_)
    refine rtk 2 (h:=?_)
    refine rtk 3 (h:=?_)
    refine rtk 5 (h:=?_)
    refine rtk 6 (h:=?_)
    refine rtk 7 (h:=?_)
    refine rtk 8 (h:=?_)
    refine rtk 11 (h:=?_)
    refine rtk 12 (h:=?_)
    refine rcl 4 (h:=fun K hK=>?_)
    go_simp
    refine (gflag_any false 128 _).mono ?_
    rintro e w0 ⟨rfl,hw0⟩
    obtain rfl:=hw0.symm
    clear hw0
    refine hK.out _ _ hHeld (fun hHeld=>?_)
    clear hK K
    refine rcl 9 (h:=fun K hK=>?_)
    go_simp
    refine (gflag_any false 64 _).mono ?_
    rintro e w0 ⟨rfl,hw0⟩
    obtain rfl:=hw0.symm
    clear hw0
    refine hK.out _ _ hHeld (fun hHeld=>?_)
    clear hK K
    refine rtk 10 (h:=?_)
    refine rcl 13 (h:=fun K hK=>?_)
    go_simp
    refine (gflag_any q.clean 2 _).mono ?_
    rintro e w0 ⟨rfl,hw0⟩
    obtain rfl:=hw0.symm
    clear hw0
    refine hK.out _ _ hHeld (fun hHeld=>?_)
    clear hK K
    refine rtk 14 (h:=?_)
    refine rtk 15 (h:=?_)
    refine wpAnyH_done (by kernel_rfl) ?_ _
    refine NoPanic.normal ?_
    go_wp2
    go_meet
    case rel=>exact⟨by rw[uh HF];unfold gcf;generalize q.clean=cb;cases cb <;> rfl,HRd,HBB,HPd⟩
   ·have HS:Hid (∀ W,Below w2.heap.size w2 W->(fun w'=>w'.cell? ⟨w.heap.size,12,none⟩=some (.slice ao2 0 cap2)/\w'.cell? ⟨w.heap.size,13,none⟩=some (.slice ao3 1 cap3)/\w'.cell? ⟨w.heap.size,9,none⟩=some (.bool q.clean)) W):=fun W hW=>⟨(hW.cell (cell_lt b12)).trans b12,(hW.cell (cell_lt b13)).trans b13,((uh HP2).below hW).clean⟩
    refine wp_region_noPanic ?_
    have hbd:Below w2.heap.size w2 w2.drew:=below_drewN (Below.refl _ _) 1
    refine wp_region_held_drew (S:=(fun w'=>w'.cell? ⟨w.heap.size,12,none⟩=some (.slice ao2 0 cap2)/\w'.cell? ⟨w.heap.size,13,none⟩=some (.slice ao3 1 cap3)/\w'.cell? ⟨w.heap.size,9,none⟩=some (.bool q.clean))) (by kernel_rfl) ((uh HS) _ hbd) (fun hHeld=>?_)
    have HRd:=zh ((uh HR2).below hbd)
    have HPd:=zh ((uh HP2).below hbd)
    have HBB:=zh (bnx2 (uh HB2) hbd)
    generalize w2.drew=wd at HRd HPd HBB hHeld |-
    clear hbd HR2 HP2 HB2 HS b12 b13
    refine rtk 0 (h:=?_)
    refine rtk 1 (h:=?_)
    refine rtk 2 (h:=?_)
    refine rtk 3 (h:=?_)
    refine rtk 5 (h:=?_)
    refine rtk 6 (h:=?_)
    refine rtk 7 (h:=?_)
    refine rtk 8 (h:=?_)
    refine rtk 11 (h:=?_)
    refine rtk 12 (h:=?_)
    refine rcl 4 (h:=fun K hK=>?_)
    go_simp
    refine (gflag_any false 128 _).mono ?_
    rintro e w0 ⟨rfl,hw0⟩
    obtain rfl:=hw0.symm
    clear hw0
    refine hK.out _ _ hHeld (fun hHeld=>?_)
    clear hK K
    refine rcl 9 (h:=fun K hK=>?_)
    go_simp
    refine (gflag_any true 64 _).mono ?_
    rintro e w0 ⟨rfl,hw0⟩
    obtain rfl:=hw0.symm
    clear hw0
    refine hK.out _ _ hHeld (fun hHeld=>?_)
    clear hK K
    refine rtk 10 (h:=?_)
    refine rcl 13 (h:=fun K hK=>?_)
    go_simp
    refine (gflag_any q.clean 2 _).mono ?_
    rintro e w0 ⟨rfl,hw0⟩
    obtain rfl:=hw0.symm
    clear hw0
    refine hK.out _ _ hHeld (fun hHeld=>?_)
    clear hK K
    refine rtk 14 (h:=?_)
    refine rtk 15 (h:=?_)
    refine wpAnyH_done (by kernel_rfl) ?_ _
    refine NoPanic.normal ?_
    go_wp2
    go_meet
    case rel=>exact⟨by rw[uh HF];unfold gcf;generalize q.clean=cb;cases cb <;> rfl,HRd,HBB,HPd⟩
  ·obtain rfl | rfl:m3=0\/m3=1:=by omega
   ·have HS:Hid (∀ W,Below w2.heap.size w2 W->(fun w'=>w'.cell? ⟨w.heap.size,12,none⟩=some (.slice ao2 1 cap2)/\w'.cell? ⟨w.heap.size,13,none⟩=some (.slice ao3 0 cap3)/\w'.cell? ⟨w.heap.size,9,none⟩=some (.bool q.clean)) W):=fun W hW=>⟨(hW.cell (cell_lt b12)).trans b12,(hW.cell (cell_lt b13)).trans b13,((uh HP2).below hW).clean⟩
    refine wp_region_noPanic ?_
    have hbd:Below w2.heap.size w2 w2.drew:=below_drewN (Below.refl _ _) 1
    refine wp_region_held_drew (S:=(fun w'=>w'.cell? ⟨w.heap.size,12,none⟩=some (.slice ao2 1 cap2)/\w'.cell? ⟨w.heap.size,13,none⟩=some (.slice ao3 0 cap3)/\w'.cell? ⟨w.heap.size,9,none⟩=some (.bool q.clean))) (by kernel_rfl) ((uh HS) _ hbd) (fun hHeld=>?_)
    have HRd:=zh ((uh HR2).below hbd)
    have HPd:=zh ((uh HP2).below hbd)
    have HBB:=zh (bnx2 (uh HB2) hbd)
    generalize w2.drew=wd at HRd HPd HBB hHeld |-
    clear hbd HR2 HP2 HB2 HS b12 b13
    refine rtk 0 (h:=?_)
    refine rtk 1 (h:=?_)
    refine rtk 2 (h:=?_)
    refine rtk 3 (h:=?_)
    refine rtk 5 (h:=?_)
    refine rtk 6 (h:=?_)
    refine rtk 7 (h:=?_)
    refine rtk 8 (h:=?_)
    refine rtk 11 (h:=?_)
    refine rtk 12 (h:=?_)
    refine rcl 4 (h:=fun K hK=>?_)
    go_simp
    refine (gflag_any true 128 _).mono ?_
    rintro e w0 ⟨rfl,hw0⟩
    obtain rfl:=hw0.symm
    clear hw0
    refine hK.out _ _ hHeld (fun hHeld=>?_)
    clear hK K
    refine rcl 9 (h:=fun K hK=>?_)
    go_simp
    refine (gflag_any false 64 _).mono ?_
    rintro e w0 ⟨rfl,hw0⟩
    obtain rfl:=hw0.symm
    clear hw0
    refine hK.out _ _ hHeld (fun hHeld=>?_)
    clear hK K
    refine rtk 10 (h:=?_)
    refine rcl 13 (h:=fun K hK=>?_)
    go_simp
    refine (gflag_any q.clean 2 _).mono ?_
    rintro e w0 ⟨rfl,hw0⟩
    obtain rfl:=hw0.symm
    clear hw0
    refine hK.out _ _ hHeld (fun hHeld=>?_)
    clear hK K
    refine rtk 14 (h:=?_)
    refine rtk 15 (h:=?_)
    refine wpAnyH_done (by kernel_rfl) ?_ _
    refine NoPanic.normal ?_
    go_wp2
    go_meet
    case rel=>exact⟨by rw[uh HF];unfold gcf;generalize q.clean=cb;cases cb <;> rfl,HRd,HBB,HPd⟩
   ·have HS:Hid (∀ W,Below w2.heap.size w2 W->(fun w'=>w'.cell? ⟨w.heap.size,12,none⟩=some (.slice ao2 1 cap2)/\w'.cell? ⟨w.heap.size,13,none⟩=some (.slice ao3 1 cap3)/\w'.cell? ⟨w.heap.size,9,none⟩=some (.bool q.clean)) W):=fun W hW=>⟨(hW.cell (cell_lt b12)).trans b12,(hW.cell (cell_lt b13)).trans b13,((uh HP2).below hW).clean⟩
    refine wp_region_noPanic ?_
    have hbd:Below w2.heap.size w2 w2.drew:=below_drewN (Below.refl _ _) 1
    refine wp_region_held_drew (S:=(fun w'=>w'.cell? ⟨w.heap.size,12,none⟩=some (.slice ao2 1 cap2)/\w'.cell? ⟨w.heap.size,13,none⟩=some (.slice ao3 1 cap3)/\w'.cell? ⟨w.heap.size,9,none⟩=some (.bool q.clean))) (by kernel_rfl) ((uh HS) _ hbd) (fun hHeld=>?_)
    have HRd:=zh ((uh HR2).below hbd)
    have HPd:=zh ((uh HP2).below hbd)
    have HBB:=zh (bnx2 (uh HB2) hbd)
    generalize w2.drew=wd at HRd HPd HBB hHeld |-
    clear hbd HR2 HP2 HB2 HS b12 b13
    refine rtk 0 (h:=?_)
    refine rtk 1 (h:=?_)
    refine rtk 2 (h:=?_)
    refine rtk 3 (h:=?_)
    refine rtk 5 (h:=?_)
    refine rtk 6 (h:=?_)
    refine rtk 7 (h:=?_)
    refine rtk 8 (h:=?_)
    refine rtk 11 (h:=?_)
    refine rtk 12 (h:=?_)
    refine rcl 4 (h:=fun K hK=>?_)
    go_simp
    refine (gflag_any true 128 _).mono ?_
    rintro e w0 ⟨rfl,hw0⟩
    obtain rfl:=hw0.symm
    clear hw0
    refine hK.out _ _ hHeld (fun hHeld=>?_)
    clear hK K
    refine rcl 9 (h:=fun K hK=>?_)
    go_simp
    refine (gflag_any true 64 _).mono ?_
    rintro e w0 ⟨rfl,hw0⟩
    obtain rfl:=hw0.symm
    clear hw0
    refine hK.out _ _ hHeld (fun hHeld=>?_)
    clear hK K
    refine rtk 10 (h:=?_)
    refine rcl 13 (h:=fun K hK=>?_)
    go_simp
    refine (gflag_any q.clean 2 _).mono ?_
    rintro e w0 ⟨rfl,hw0⟩
    obtain rfl:=hw0.symm
    clear hw0
    refine hK.out _ _ hHeld (fun hHeld=>?_)
    clear hK K
    refine rtk 14 (h:=?_)
    refine rtk 15 (h:=?_)
    refine wpAnyH_done (by kernel_rfl) ?_ _
    refine NoPanic.normal ?_
    go_wp2
    go_meet
    case rel=>exact⟨by rw[uh HF];unfold gcf;generalize q.clean=cb;cases cb <;> rfl,HRd,HBB,HPd⟩
 case rest =>
 clear HR2 HB2 HP2 b12 b13
 obtain⟨rfl,HR3,HB3,HP3⟩:=hcut
 obtain⟨w3,hw3⟩:∃ x,x=wc:=⟨_,rfl⟩
 subst hw3
 -- cutC
 obtain⟨F2,HF2⟩:∃ G,Hid (G=F+gwf ws):=⟨_,rfl⟩
 have b11:=(uh HP3).wills
 rw[uh HV1]at b11
 go_upto_if 27 with fail
 go_cut [4] from 6 (fun s4 wx=>s4=.int .i64 F2/\Hid (Rwb wx (w.heap.size+1) (.slice va2 vn2 vc2) L2)/\Hid (Below w.heap.size w wx)/\Hid (Pk wx w.heap.size q))
 case first =>
  obtain rfl | rfl:m1=0\/m1=1:=by omega
  ·have HE0:Hid (gwf ws=0):=by show _=_;rw[List.length_eq_zero_iff.1 (uh HN1)];rfl
   go_wp2
   go_meet
   case rel=>exact⟨by rw[uh HF2,uh HE0,Int.add_zero],HR3,HB3,HP3⟩
  ·have h0l:0 < ws.length:=by rw[uh HN1];omega
   obtain⟨b,off,hao,hat⟩:∃ b off,ao1=some ⟨b,off,none⟩/\WlAt w b off ws:=by
    rcases uh HS1 with e | k
    ·rw[e]at h0l;simp at h0l
    ·exact k
   rw[hao]at b11
   have hat:=hat 0 h0l
   have hzz:=(uh HZW) 0 h0l
   have HAO:=zh hao
   obtain⟨po,pn,pc,⟨d0,d1,d2,d3,d4⟩,hpr,hpn⟩:=hat
   simp only[Nat.zero_mul,Nat.add_zero]at d0 d1 d2 d3 d4
   have hbl:b < w.heap.size:=cell_lt d0
   have HE1:=zh (gwf_one (uh HN1))
   obtain⟨-,-,hq0,hq2,-⟩:=hzz
   generalize (ws.getD 0 wl0).retain=rt at d3 HE1
   generalize (ws.getD 0 wl0).qos=qs at d2 HE1 hq0 hq2
   have HS:Hid (∀ W,Below w3.heap.size w3 W->(fun w'=>w'.cell? ⟨w.heap.size,11,none⟩=some (.slice (some ⟨b,off,none⟩) 1 cap1)/\w'.cell? ⟨b,off+3,none⟩=some (.bool rt)/\w'.cell? ⟨b,off+2,none⟩=some (.int .i64 qs)) W):=fun W hW=>⟨(hW.cell (cell_lt b11)).trans b11,((bnx2 (uh HB3) hW).cell hbl).trans d3,((bnx2 (uh HB3) hW).cell hbl).trans d2⟩
   clear d0 d1 d2 d3 d4 hpr hpn h0l
   go_wp2_with fail
   refine wp_region_noPanic ?_
   have hbd:Below w3.heap.size w3 w3.drew:=below_drewN (Below.refl _ _) 1
   refine wp_region_held_drew (S:=(fun w'=>w'.cell? ⟨w.heap.size,11,none⟩=some (.slice (some ⟨b,off,none⟩) 1 cap1)/\w'.cell? ⟨b,off+3,none⟩=some (.bool rt)/\w'.cell? ⟨b,off+2,none⟩=some (.int .i64 qs))) (by kernel_rfl) ((uh HS) _ hbd) (fun hHeld=>?_)
   have HRd:=zh ((uh HR3).below hbd)
   have HPd:=zh ((uh HP3).below hbd)
   have HBB:=zh (bnx2 (uh HB3) hbd)
   generalize w3.drew=wd at HRd HPd HBB hHeld |-
   clear hbd HR3 HP3 HB3 HS b11
   refine rtk 0 (h:=?_)
   refine rtk 1 (h:=?_)
   refine rtk 2 (h:=?_)
   refine rtk 3 (h:=?_)
   refine rtk 4 (h:=?_)
   refine rtk 5 (h:=?_)
   refine rtk 8 (h:=?_)
   refine rtk 9 (h:=?_)
   refine rtk 10 (h:=?_)
   refine rtk 11 (h:=?_)
   refine rtk 12 (h:=?_)
   refine rtk 13 (h:=?_)
   refine rcl 6 (h:=fun K hK=>?_)
   go_simp
   refine (gflag_any rt 32 _).mono ?_
   rintro e w0 ⟨rfl,hw0⟩
   obtain rfl:=hw0.symm
   clear hw0
   refine hK.out _ _ hHeld (fun hHeld=>?_)
   clear hK K
   refine rtk 7 (h:=?_)
   refine rtk 14 (h:=?_)
   refine rtk 15 (h:=?_)
   refine rtk 16 (h:=?_)
   refine wpAnyH_done (by kernel_rfl) ?_ _
   refine NoPanic.normal ?_
   go_wp2
   go_meet
   case rel=>exact⟨by rw[uh HF2,uh HE1,<- gcf_wrap hFr hq0 hq2],HRd,HBB,HPd⟩
 case rest =>
 clear HR3 HB3 HP3 b11
 obtain⟨rfl,HR4,HB4,HP4⟩:=hcut
 obtain⟨w4,hw4⟩:∃ x,x=wc:=⟨_,rfl⟩
 subst hw4
 -- cutD
 have hz:IntKind.u8.wrap F2=F2 % 256:=by rfl
 obtain⟨z,hzz⟩:∃ z,z=F2 % 256:=⟨_,rfl⟩
 have hzr:0<=z/\z<=255:=by omega
 rw[<- hzz]at hz
 have HZ:=zh hzz
 clear hzz
 have HG:=zh (rng1 (x:=z) (by omega))
 have HBx:Hid (Below w.heap.size w (w4.alloc (.cells #[.int .u8 z] 5))):=(uh HB4).alloc (uh HB4).size _
 have HRz:Hid (Rwb (w4.alloc (.cells #[.int .u8 z] 5)) w4.heap.size (.slice (some ⟨w4.heap.size,0,none⟩) 1 1) [z]):=rwb_new w4 [z] (by simp) (by simp) (uh HG)
 have HPx:=zh ((uh HP4).below ((Below.refl _ _).alloc (Nat.le_refl _) (.cells #[.int .u8 z] 5)))
 have HRx:=zh ((uh HR4).below ((Below.refl _ _).alloc (Nat.le_refl _) (.cells #[.int .u8 z] 5)))
 have HYx:=zh (uh HRz).byt
 have hszr:=(uh HB4).size
 clear HRz HB4 HP4 HR4
 go_wp2_with (first
  | (at_builtin;refine wpList_append_byt _ rfl _ _ rfl (w.heap.size+1) (.slice va2 vn2 vc2) L2.length L2 rfl (uh HRx).1 (.slice (some ⟨w4.heap.size,0,none⟩) 1 1) [z] rfl (uh HYx) (by first | omega | (simp;omega)) (cell_lt (uh HPx).kind) ?_)
  | go_in)
 intro v5 w5 hown hg
 have HR5:=zh ((uh HRx).more (uh HG) (by first | exact hown | (rw[<- List.map_append];exact hown)))
 have HB5:Hid (Below w.heap.size w w5):=below_grown (uh HBx) (uh HRx) hg
 have HP5:=zh ((uh HPx).grow2 hg (uh HRx).off)
 obtain⟨va5,vn5,vc5,rfl⟩:=(uh HR5).form
 clear hown hg HRx HBx HPx
 obtain⟨L5,HEL5⟩:∃ L:List Int,Hid (L=L2++[z]):=⟨_,rfl⟩
 have nL5:L5.length<=8:=by rw[uh HEL5];rw[List.length_append];first | omega | (simp;omega)
 rw[<- uh HEL5]at HR5
 clear HYx HG hszr
 clear hz
 -- cutE
 have b10:=(uh HP5).keep
 go_wp2_with fail
 refine (gtwo_any q.keep _).mono ?_
 rintro e w6 ⟨v6,rfl,hr2,hb2⟩
 have HB6:Hid (Below w.heap.size w w6):=bnx2 (uh HB5) hb2
 have HP6:=zh ((uh HP5).below hb2)
 have HR6:=zh ((uh HR5).below hb2)
 have HY:=zh (uh hr2).byt
 have HG:=zh (uh hr2).2
 obtain⟨va6,vc6,rfl,-,-⟩:=(uh HY).form
 clear hr2 hb2 HR5 HB5 HP5 b10
 obtain⟨M6,HEM6⟩:∃ L:List Int,Hid (L=b2 q.keep):=⟨_,rfl⟩
 have nM6:M6.length<=2:=by rw[uh HEM6];simp
 rw[<- uh HEM6]at HY HG |-
 go_wp2_with (first
  | (at_builtin;refine wpList_append_byt _ rfl _ _ rfl (w.heap.size+1) (.slice va5 vn5 vc5) L5.length L5 rfl (uh HR6).1 (.slice va6 M6.length vc6) M6 rfl (uh HY) (by first | omega | (simp;omega)) (cell_lt (uh HP6).kind) ?_)
  | go_in)
 intro v7 w7 hown hg
 have HR7:=zh ((uh HR6).more (uh HG) (by first | exact hown | (rw[<- List.map_append];exact hown)))
 have HB7:Hid (Below w.heap.size w w7):=below_grown (uh HB6) (uh HR6) hg
 have HP7:=zh ((uh HP6).grow2 hg (uh HR6).off)
 obtain⟨va7,vn7,vc7,rfl⟩:=(uh HR7).form
 clear hown hg HR6 HB6 HP6
 obtain⟨L7,HEL7⟩:∃ L:List Int,Hid (L=L5++M6):=⟨_,rfl⟩
 have nL7:L7.length<=10:=by rw[uh HEL7];rw[List.length_append];first | omega | (simp;omega)
 rw[<- uh HEL7]at HR7
 clear HY HG
 -- cutF
 have b7:=(uh HP7).props
 rw[show q.props.val=.slice q.props.ao q.props.n q.props.cap from rfl,uh HQN]at b7
 go_wp2_with fail
 refine ((uh HBY) _ (uh HB7)).mono ?_
 rintro e w8 ⟨v8,rfl,HY,hb4⟩
 have HB8:Hid (Below w.heap.size w w8):=bnx2 (uh HB7) hb4
 have HP8:=zh ((uh HP7).below hb4)
 have HR8:=zh ((uh HR7).below hb4)
 have HG:=zh (uh HY).range
 obtain⟨va8,vc8,rfl,-,-⟩:=(uh HY).form
 clear hb4 HR7 HB7 HP7
 obtain⟨M8,HEM8⟩:∃ L:List Int,Hid (L=pbs l):=⟨_,rfl⟩
 have nM8:M8.length<=5000000:=by rw[uh HEM8];exact hple
 rw[<- uh HEM8]at HY HG |-
 clear b7
 go_wp2_with (first
  | (at_builtin;refine wpList_append_byt _ rfl _ _ rfl (w.heap.size+1) (.slice va7 vn7 vc7) L7.length L7 rfl (uh HR8).1 (.slice va8 M8.length vc8) M8 rfl (uh HY) (by first | omega | (simp;omega)) (cell_lt (uh HP8).kind) ?_)
  | go_in)
 intro v9 w9 hown hg
 have HR9:=zh ((uh HR8).more (uh HG) (by first | exact hown | (rw[<- List.map_append];exact hown)))
 have HB9:Hid (Below w.heap.size w w9):=below_grown (uh HB8) (uh HR8) hg
 have HP9:=zh ((uh HP8).grow2 hg (uh HR8).off)
 obtain⟨va9,vn9,vc9,rfl⟩:=(uh HR9).form
 clear hown hg HR8 HB8 HP8
 obtain⟨L9,HEL9⟩:∃ L:List Int,Hid (L=L7++M8):=⟨_,rfl⟩
 have nL9:L9.length<=5000010:=by rw[uh HEL9];rw[List.length_append];first | omega | (simp;omega)
 rw[<- uh HEL9]at HR9
 clear HY HG
 -- cutG
 have b8:=(uh HP9).client
 go_wp2_with fail
 refine (Go.Proofs.YtdkmmmjjdlnnoaaGreatDoor.bin_any q.client _ hcl).mono ?_
 rintro e w10 ⟨v10,rfl,hown1,hb1⟩
 have HB10:=zh (bnx2 (uh HB9) hb1)
 have HP10:=zh ((uh HP9).below hb1)
 have HR10:=zh ((uh HR9).below hb1)
 have HG:=zh (tx_range q.client hcl)
 have HY:Hid (Byt w10 v10 (tx q.client)):=Rwb.byt (B:=0) ⟨by rw[tx_length];exact owns_mono (uh hown1) (Nat.zero_le _),uh HG⟩
 obtain⟨va10,vc10,rfl,-,-⟩:=(uh HY).form
 clear hown1 hb1 HB9 HP9 HR9
 obtain⟨M10,HEM10⟩:∃ L:List Int,Hid (L=tx q.client):=⟨_,rfl⟩
 have nM10:M10.length<=65537:=by rw[uh HEM10];rw[tx_length];omega
 rw[<- uh HEM10]at HY HG |-
 clear b8
 go_wp2_with (first
  | (at_builtin;refine wpList_append_byt _ rfl _ _ rfl (w.heap.size+1) (.slice va9 vn9 vc9) L9.length L9 rfl (uh HR10).1 (.slice va10 M10.length vc10) M10 rfl (uh HY) (by first | omega | (simp;omega)) (cell_lt (uh HP10).kind) ?_)
  | go_in)
 intro v11 w11 hown hg
 have HR11:=zh ((uh HR10).more (uh HG) (by first | exact hown | (rw[<- List.map_append];exact hown)))
 have HB11:Hid (Below w.heap.size w w11):=below_grown (uh HB10) (uh HR10) hg
 have HP11:=zh ((uh HP10).grow2 hg (uh HR10).off)
 obtain⟨va11,vn11,vc11,rfl⟩:=(uh HR11).form
 clear hown hg HR10 HB10 HP10
 obtain⟨L11,HEL11⟩:∃ L:List Int,Hid (L=L9++M10):=⟨_,rfl⟩
 have nL11:L11.length<=5065547:=by rw[uh HEL11];rw[List.length_append];first | omega | (simp;omega)
 rw[<- uh HEL11]at HR11
 clear HY HG
 -- cutH
 have b11:=(uh HP11).wills
 rw[uh HV1]at b11
 go_upto_if 67 with fail
 go_cut [3,5] from 6 (fun s3 s5 wx=>∃ R,R.length<=10196621/\Hid (R=L11++ws.flatMap gwl)/\Hid (Rwb wx (w.heap.size+1) s3 R)/\Hid (Below w.heap.size w wx)/\Hid (Pk wx w.heap.size q))
 case first =>
  obtain rfl | rfl:m1=0\/m1=1:=by omega
  ·have HE0:=zh (flat_nil gwl (uh HN1))
   go_wp2
   go_meet
   case rel=>exact⟨L11,by omega,by show _=_;rw[uh HE0,List.append_nil],HR11,HB11,HP11⟩
  ·have h0l:0 < ws.length:=by rw[uh HN1];omega
   obtain⟨b,off,hao,hat⟩:∃ b off,ao1=some ⟨b,off,none⟩/\WlAt w b off ws:=by
    rcases uh HS1 with e | k
    ·rw[e]at h0l;simp at h0l
    ·exact k
   rw[hao]at b11
   have hat:=hat 0 h0l
   have hzz:=(uh HZW) 0 h0l
   have HAO:=zh hao
   obtain⟨po,pn,pc,⟨d0,d1,d2,d3,d4⟩,hpr,hpn⟩:=hat
   simp only[Nat.zero_mul,Nat.add_zero]at d0 d1 d2 d3 d4
   have hbl:b < w.heap.size:=cell_lt d0
   obtain⟨ht,hp,-,-,hok⟩:=hzz
   have HE1:=zh (flat_one gwl wl0 (uh HN1))
   obtain⟨hok1,h32w⟩:=chkP0 (of_decide_eq_true hok)
   have hplw:=pbs_le (of_decide_eq_true hok)
   have hpl:=prp_len hpr
   have e0:=((uh HB11).cell hbl).trans d0
   have e1:=((uh HB11).cell hbl).trans d1
   have e2:=((uh HB11).cell hbl).trans d2
   have e3:=((uh HB11).cell hbl).trans d3
   have e4:=((uh HB11).cell hbl).trans d4
   generalize ws.getD 0 wl0=u at e0 e1 e2 e3 e4 ht hp hok1 h32w hplw hpl HE1 hpr
   obtain rfl:=hpl
   have HBW:Hid (∀ W,Below w.heap.size w W->Calls Tryz.prog 83 #[.slice po u.props.length pc] W (PutP (pbs u.props) W)):=fun W hW=>rbytes_any _ u.props 16 W (hpr.below hW) (by omega) hok1
   clear d0 d1 d2 d3 d4 hpr hpn h0l hok hok1
   obtain⟨ut,hut⟩:∃ s,s=u.topic:=⟨_,rfl⟩
   obtain⟨up,hup⟩:∃ s,s=u.payload:=⟨_,rfl⟩
   have HGW:Hid (gwl u=(pbs u.props++tx ut)++tx up):=by rw[hut,hup];rfl
   rw[<- hut]at e0 ht
   rw[<- hup]at e1 hp
   clear hut hup
   -- cutI
   go_upto_region 10 with fail
   iterate 13 go_step
   refine Go.Proofs.YtdkmmmjjdlnnoaaGreatDoor.wpList_value rfl (gwill_alloc _ _ _ _ _ _) ?_
   simp only[Act.put,List.setIfInBounds_toArray,List.set_cons_zero,List.set_cons_succ]
   refine Go.Proofs.YtdkmmmjjdlnnoaaGreatDoor.wpList_skip rfl (gwill_store _ _ _ _ _ _ _ ut up u.qos u.retain po u.props.length pc w11 rfl rfl) ?_
   simp only[Act.put]
   have HX12:=zh (wbx_new w11 ut up u.qos u.retain (.slice po u.props.length pc))
   have hbx:Below w11.heap.size w11 (w11.alloc (.cells (wlc ut up u.qos u.retain (.slice po u.props.length pc)) 90)):=bal _ _
   have HB12:=zh (bnx2 (uh HB11) hbx)
   have HP12:=zh ((uh HP11).below hbx)
   have HR12:=zh ((uh HR11).below hbx)
   generalize w11.alloc (.cells (wlc ut up u.qos u.retain (.slice po u.props.length pc)) 90)=w12 at HX12 HB12 HP12 HR12 |-
   obtain⟨G,hG⟩:∃ g,g=w11.heap.size:=⟨_,rfl⟩
   rw[<- hG]at HX12 |-
   clear hbx HB11 HP11 HR11 e0 e1 e2 e3 e4 b11 hG
   -- cutJ
   have f4:=(uh HX12).c4
   go_wp2_with fail
   refine ((uh HBW) _ (uh HB12)).mono ?_
   rintro e w13 ⟨v13,rfl,HY,hb4⟩
   have HB13:Hid (Below w.heap.size w w13):=bnx2 (uh HB12) hb4
   have HP13:=zh ((uh HP12).below hb4)
   have HR13:=zh ((uh HR12).below hb4)
   have HG:=zh (uh HY).range
   obtain⟨va13,vc13,rfl,-,-⟩:=(uh HY).form
   have HX13:=zh ((uh HX12).below hb4)
   clear HX12
   clear hb4 HR12 HB12 HP12
   obtain⟨M13,HEM13⟩:∃ L:List Int,Hid (L=pbs u.props):=⟨_,rfl⟩
   have nM13:M13.length<=5000000:=by rw[uh HEM13];exact hplw
   rw[<- uh HEM13]at HY HG |-
   clear f4
   go_wp2_with (first
    | (at_builtin;refine wpList_append_byt _ rfl _ _ rfl (w.heap.size+1) (.slice va11 vn11 vc11) L11.length L11 rfl (uh HR13).1 (.slice va13 M13.length vc13) M13 rfl (uh HY) (by first | omega | (simp;omega)) (cell_lt (uh HP13).kind) ?_)
    | go_in)
   intro v14 w14 hown hg
   have HR14:=zh ((uh HR13).more (uh HG) (by first | exact hown | (rw[<- List.map_append];exact hown)))
   have HB14:Hid (Below w.heap.size w w14):=below_grown (uh HB13) (uh HR13) hg
   have HP14:=zh ((uh HP13).grow2 hg (uh HR13).off)
   have HX14:=zh ((uh HX13).grow hg (fun e=>wbox_off (uh HR13) (uh HX13).blk e.symm))
   clear HX13
   obtain⟨va14,vn14,vc14,rfl⟩:=(uh HR14).form
   clear hown hg HR13 HB13 HP13
   obtain⟨L14,HEL14⟩:∃ L:List Int,Hid (L=L11++M13):=⟨_,rfl⟩
   have nL14:L14.length<=10065547:=by rw[uh HEL14];rw[List.length_append];first | omega | (simp;omega)
   rw[<- uh HEL14]at HR14
   clear HY HG
   -- cutK
   have f0:=(uh HX14).c0
   go_wp2_with fail
   refine (Go.Proofs.YtdkmmmjjdlnnoaaGreatDoor.bin_any ut _ ht).mono ?_
   rintro e w15 ⟨v15,rfl,hown1,hb1⟩
   have HB15:=zh (bnx2 (uh HB14) hb1)
   have HP15:=zh ((uh HP14).below hb1)
   have HR15:=zh ((uh HR14).below hb1)
   have HG:=zh (tx_range ut ht)
   have HY:Hid (Byt w15 v15 (tx ut)):=Rwb.byt (B:=0) ⟨by rw[tx_length];exact owns_mono (uh hown1) (Nat.zero_le _),uh HG⟩
   obtain⟨va15,vc15,rfl,-,-⟩:=(uh HY).form
   have HX15:=zh ((uh HX14).below hb1)
   clear HX14
   clear hown1 hb1 HB14 HP14 HR14
   obtain⟨M15,HEM15⟩:∃ L:List Int,Hid (L=tx ut):=⟨_,rfl⟩
   have nM15:M15.length<=65537:=by rw[uh HEM15];rw[tx_length];omega
   rw[<- uh HEM15]at HY HG |-
   clear f0
   go_wp2_with (first
    | (at_builtin;refine wpList_append_byt _ rfl _ _ rfl (w.heap.size+1) (.slice va14 vn14 vc14) L14.length L14 rfl (uh HR15).1 (.slice va15 M15.length vc15) M15 rfl (uh HY) (by first | omega | (simp;omega)) (cell_lt (uh HP15).kind) ?_)
    | go_in)
   intro v16 w16 hown hg
   have HR16:=zh ((uh HR15).more (uh HG) (by first | exact hown | (rw[<- List.map_append];exact hown)))
   have HB16:Hid (Below w.heap.size w w16):=below_grown (uh HB15) (uh HR15) hg
   have HP16:=zh ((uh HP15).grow2 hg (uh HR15).off)
   have HX16:=zh ((uh HX15).grow hg (fun e=>wbox_off (uh HR15) (uh HX15).blk e.symm))
   clear HX15
   obtain⟨va16,vn16,vc16,rfl⟩:=(uh HR16).form
   clear hown hg HR15 HB15 HP15
   obtain⟨L16,HEL16⟩:∃ L:List Int,Hid (L=L14++M15):=⟨_,rfl⟩
   have nL16:L16.length<=10131084:=by rw[uh HEL16];rw[List.length_append];first | omega | (simp;omega)
   rw[<- uh HEL16]at HR16
   clear HY HG
   have f1:=(uh HX16).c1
   go_wp2_with fail
   refine (Go.Proofs.YtdkmmmjjdlnnoaaGreatDoor.bin_any up _ hp).mono ?_
   rintro e w17 ⟨v17,rfl,hown1,hb1⟩
   have HB17:=zh (bnx2 (uh HB16) hb1)
   have HP17:=zh ((uh HP16).below hb1)
   have HR17:=zh ((uh HR16).below hb1)
   have HG:=zh (tx_range up hp)
   have HY:Hid (Byt w17 v17 (tx up)):=Rwb.byt (B:=0) ⟨by rw[tx_length];exact owns_mono (uh hown1) (Nat.zero_le _),uh HG⟩
   obtain⟨va17,vc17,rfl,-,-⟩:=(uh HY).form
   have HX17:=zh ((uh HX16).below hb1)
   clear HX16
   clear hown1 hb1 HB16 HP16 HR16
   obtain⟨M17,HEM17⟩:∃ L:List Int,Hid (L=tx up):=⟨_,rfl⟩
   have nM17:M17.length<=65537:=by rw[uh HEM17];rw[tx_length];omega
   rw[<- uh HEM17]at HY HG |-
   clear f1
   go_wp2_with (first
    | (at_builtin;refine wpList_append_byt _ rfl _ _ rfl (w.heap.size+1) (.slice va16 vn16 vc16) L16.length L16 rfl (uh HR17).1 (.slice va17 M17.length vc17) M17 rfl (uh HY) (by first | omega | (simp;omega)) (cell_lt (uh HP17).kind) ?_)
    | go_in)
   intro v18 w18 hown hg
   have HR18:=zh ((uh HR17).more (uh HG) (by first | exact hown | (rw[<- List.map_append];exact hown)))
   have HB18:Hid (Below w.heap.size w w18):=below_grown (uh HB17) (uh HR17) hg
   have HP18:=zh ((uh HP17).grow2 hg (uh HR17).off)
   have HX18:=zh ((uh HX17).grow hg (fun e=>wbox_off (uh HR17) (uh HX17).blk e.symm))
   clear HX17
   obtain⟨va18,vn18,vc18,rfl⟩:=(uh HR18).form
   clear hown hg HR17 HB17 HP17
   obtain⟨L18,HEL18⟩:∃ L:List Int,Hid (L=L16++M17):=⟨_,rfl⟩
   have nL18:L18.length<=10196621:=by rw[uh HEL18];rw[List.length_append];first | omega | (simp;omega)
   rw[<- uh HEL18]at HR18
   clear HY HG
   go_wp2
   go_meet
   case rel=>exact⟨L18,nL18,by show _=_;rw[uh HE1,uh HGW,uh HEL18,uh HEL16,uh HEL14,uh HEM13,uh HEM15,uh HEM17];simp,HR18,HB18,HP18⟩
 case rest =>
 clear HR11 HB11 HP11 b11
 obtain⟨L19,nL19,HEL19,HR19,HB19,HP19⟩:=hcut
 obtain⟨w19,hw19⟩:∃ x,x=wc:=⟨_,rfl⟩
 subst hw19
 obtain⟨va19,vn19,vc19,rfl⟩:=(uh HR19).form
 -- cutL
 have b12:=(uh HP19).user
 rw[uh HV2]at b12
 go_upto_if 90 with fail
 go_cut [3] from 6 (fun s3 wx=>∃ R,R.length<=10262158/\Hid (R=L19++us.flatMap tx)/\Hid (Rwb wx (w.heap.size+1) s3 R)/\Hid (Below w.heap.size w wx)/\Hid (Pk wx w.heap.size q))
 case first =>
  obtain rfl | rfl:m2=0\/m2=1:=by omega
  ·have HE0:=zh (flat_nil tx (uh HN2))
   go_wp2
   go_meet
   case rel=>exact⟨L19,by omega,by show _=_;rw[uh HE0,List.append_nil],HR19,HB19,HP19⟩
  ·have h0l:0 < us.length:=by rw[uh HN2];omega
   obtain⟨b,off,hao,hat⟩:∃ b off,ao2=some ⟨b,off,none⟩/\∀ j,j < us.length->w.cell? ⟨b,off+j,none⟩=some (.string (us.getD j ⟨#[]⟩)):=by
    rcases uh HS2 with e | k
    ·rw[e]at h0l;simp at h0l
    ·exact k
   rw[hao]at b12
   have hat:=hat 0 h0l
   have hzz:=(uh HZU) 0 h0l
   have HAO:=zh hao
   rw[Nat.add_zero]at hat
   have e0:=((uh HB19).cell (cell_lt hat)).trans hat
   have HE1:=zh (flat_one tx ⟨#[]⟩ (uh HN2))
   generalize us.getD 0 ⟨#[]⟩=fl at e0 hat hzz HE1
   clear hat h0l
   go_wp2_with fail
   refine (Go.Proofs.YtdkmmmjjdlnnoaaGreatDoor.bin_any fl _ hzz).mono ?_
   rintro e w19a ⟨v19a,rfl,hown1,hb1⟩
   have HB19a:=zh (bnx2 (uh HB19) hb1)
   have HP19a:=zh ((uh HP19).below hb1)
   have HR19a:=zh ((uh HR19).below hb1)
   have HG:=zh (tx_range fl hzz)
   have HY:Hid (Byt w19a v19a (tx fl)):=Rwb.byt (B:=0) ⟨by rw[tx_length];exact owns_mono (uh hown1) (Nat.zero_le _),uh HG⟩
   obtain⟨va19a,vc19a,rfl,-,-⟩:=(uh HY).form
   clear hown1 hb1 HB19 HP19 HR19
   obtain⟨M19,HEM19⟩:∃ L:List Int,Hid (L=tx fl):=⟨_,rfl⟩
   have nM19:M19.length<=65537:=by rw[uh HEM19];rw[tx_length];omega
   rw[<- uh HEM19]at HY HG |-
   clear e0 b12
   go_wp2_with (first
    | (at_builtin;refine wpList_append_byt _ rfl _ _ rfl (w.heap.size+1) (.slice va19 vn19 vc19) L19.length L19 rfl (uh HR19a).1 (.slice va19a M19.length vc19a) M19 rfl (uh HY) (by first | omega | (simp;omega)) (cell_lt (uh HP19a).kind) ?_)
    | go_in)
   intro v19b w19b hown hg
   have HR19b:=zh ((uh HR19a).more (uh HG) (by first | exact hown | (rw[<- List.map_append];exact hown)))
   have HB19b:Hid (Below w.heap.size w w19b):=below_grown (uh HB19a) (uh HR19a) hg
   have HP19b:=zh ((uh HP19a).grow2 hg (uh HR19a).off)
   obtain⟨va19b,vn19b,vc19b,rfl⟩:=(uh HR19b).form
   clear hown hg HR19a HB19a HP19a
   obtain⟨N19,HEN19⟩:∃ L:List Int,Hid (L=L19++M19):=⟨_,rfl⟩
   have nN19:N19.length<=10262158:=by rw[uh HEN19];rw[List.length_append];first | omega | (simp;omega)
   rw[<- uh HEN19]at HR19b
   clear HY HG
   go_wp2
   go_meet
   case rel=>exact⟨N19,nN19,by show _=_;rw[uh HE1,uh HEN19,uh HEM19],HR19b,HB19b,HP19b⟩
 case rest =>
 clear HR19 HB19 HP19 b12
 obtain⟨L20,nL20,HEL20,HR20,HB20,HP20⟩:=hcut
 obtain⟨w20,hw20⟩:∃ x,x=wc:=⟨_,rfl⟩
 subst hw20
 obtain⟨va20,vn20,vc20,rfl⟩:=(uh HR20).form
 -- cutM
 have b13:=(uh HP20).pass
 rw[uh HV3]at b13
 go_upto_if 101 with fail
 go_cut [3] from 6 (fun s3 wx=>∃ R,R.length<=10327695/\Hid (R=L20++ps.flatMap tx)/\Hid (Rwb wx (w.heap.size+1) s3 R)/\Hid (Below w.heap.size w wx)/\Hid (Pk wx w.heap.size q))
 case first =>
  obtain rfl | rfl:m3=0\/m3=1:=by omega
  ·have HE0:=zh (flat_nil tx (uh HN3))
   go_wp2
   go_meet
   case rel=>exact⟨L20,by omega,by show _=_;rw[uh HE0,List.append_nil],HR20,HB20,HP20⟩
  ·have h0l:0 < ps.length:=by rw[uh HN3];omega
   obtain⟨b,off,hao,hat⟩:∃ b off,ao3=some ⟨b,off,none⟩/\∀ j,j < ps.length->w.cell? ⟨b,off+j,none⟩=some (.string (ps.getD j ⟨#[]⟩)):=by
    rcases uh HS3 with e | k
    ·rw[e]at h0l;simp at h0l
    ·exact k
   rw[hao]at b13
   have hat:=hat 0 h0l
   have hzz:=(uh HZP) 0 h0l
   have HAO:=zh hao
   rw[Nat.add_zero]at hat
   have e0:=((uh HB20).cell (cell_lt hat)).trans hat
   have HE1:=zh (flat_one tx ⟨#[]⟩ (uh HN3))
   generalize ps.getD 0 ⟨#[]⟩=fl at e0 hat hzz HE1
   clear hat h0l
   go_wp2_with fail
   refine (Go.Proofs.YtdkmmmjjdlnnoaaGreatDoor.bin_any fl _ hzz).mono ?_
   rintro e w20a ⟨v20a,rfl,hown1,hb1⟩
   have HB20a:=zh (bnx2 (uh HB20) hb1)
   have HP20a:=zh ((uh HP20).below hb1)
   have HR20a:=zh ((uh HR20).below hb1)
   have HG:=zh (tx_range fl hzz)
   have HY:Hid (Byt w20a v20a (tx fl)):=Rwb.byt (B:=0) ⟨by rw[tx_length];exact owns_mono (uh hown1) (Nat.zero_le _),uh HG⟩
   obtain⟨va20a,vc20a,rfl,-,-⟩:=(uh HY).form
   clear hown1 hb1 HB20 HP20 HR20
   obtain⟨M20,HEM20⟩:∃ L:List Int,Hid (L=tx fl):=⟨_,rfl⟩
   have nM20:M20.length<=65537:=by rw[uh HEM20];rw[tx_length];omega
   rw[<- uh HEM20]at HY HG |-
   clear e0 b13
   go_wp2_with (first
    | (at_builtin;refine wpList_append_byt _ rfl _ _ rfl (w.heap.size+1) (.slice va20 vn20 vc20) L20.length L20 rfl (uh HR20a).1 (.slice va20a M20.length vc20a) M20 rfl (uh HY) (by first | omega | (simp;omega)) (cell_lt (uh HP20a).kind) ?_)
    | go_in)
   intro v20b w20b hown hg
   have HR20b:=zh ((uh HR20a).more (uh HG) (by first | exact hown | (rw[<- List.map_append];exact hown)))
   have HB20b:Hid (Below w.heap.size w w20b):=below_grown (uh HB20a) (uh HR20a) hg
   have HP20b:=zh ((uh HP20a).grow2 hg (uh HR20a).off)
   obtain⟨va20b,vn20b,vc20b,rfl⟩:=(uh HR20b).form
   clear hown hg HR20a HB20a HP20a
   obtain⟨N20,HEN20⟩:∃ L:List Int,Hid (L=L20++M20):=⟨_,rfl⟩
   have nN20:N20.length<=10327695:=by rw[uh HEN20];rw[List.length_append];first | omega | (simp;omega)
   rw[<- uh HEN20]at HR20b
   clear HY HG
   go_wp2
   go_meet
   case rel=>exact⟨N20,nN20,by show _=_;rw[uh HE1,uh HEN20,uh HEM20],HR20b,HB20b,HP20b⟩
 case rest =>
 clear HR20 HB20 HP20 b13
 obtain⟨L21,nL21,HEL21,HR21,HB21,HP21⟩:=hcut
 obtain⟨w21,hw21⟩:∃ x,x=wc:=⟨_,rfl⟩
 subst hw21
 obtain⟨va21,vn21,vc21,rfl⟩:=(uh HR21).form
 -- cutN
 go_wp2
 go_ret
 exact⟨_,rfl,by rw[uh HEL21,uh HEL20,uh HEL19,uh HEL11,uh HEM10,uh HEL9,uh HEM8,uh HEL7,uh HEM6,uh HEL5,uh HEL2,uh HEL1,uh HZ,uh HF2,uh HF,<- uh HN2,<- uh HN3]at HR21;exact (uh HR21).mono (Nat.le_succ _),uh HB21⟩
end Go.Proofs.YtdkmmmjjdlnnoaaGreatDoor.K
