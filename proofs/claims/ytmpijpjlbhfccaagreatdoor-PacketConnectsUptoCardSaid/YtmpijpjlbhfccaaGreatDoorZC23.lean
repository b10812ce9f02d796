/- Helpers of the proof. -/
import Derived.Test.YtmpijpjlbhfccaaGreatDoorZC22
import Derived.Test.YtmpijpjlbhfccaaGreatDoorZC3
set_option maxHeartbeats 20000000
namespace Go.Proofs.YtmpijpjlbhfccaaGreatDoor.K
open Go.RowKit
set_option maxRecDepth 100000
def mst (c:Bool) (E:Value):Value:=if c then E else fst? E (.iface 61 (.int .i64 1))
theorem mst_ev {c:Bool} {E:Value} (hE:EV E):EV (mst c E):=by
 unfold mst
 split
 ·exact hE
 ·exact fst_ev hE (.inr ⟨_,_,rfl⟩)
theorem wmust_gen (W:Nat) (bv E:Value) (sz:Int) (c:Bool) (w:World) (h:Wtr w W bv sz E) (hE:EV E):Calls Tryz.prog 57 #[.pointer (some ⟨W,0,none⟩),.bool c] w fun r w'=>r=.returned (.tuple #[])/\Wtr w' W bv sz (mst c E)/\BX W is21 w w'/\EV (mst c E):=by
 have hev:=mst_ev (c:=c) hE
 cases c
 ·rcases hE with rfl|⟨t,x,rfl⟩
  ·refine (wmust_new W bv sz w h).mono ?_
   rintro r w' ⟨rfl,h1,h2⟩
   exact⟨rfl,h1,h2,hev⟩
  ·refine (wmust_old W bv sz t x w h).mono ?_
   rintro r w' ⟨rfl,rfl⟩
   exact⟨rfl,h,BX.refl _ _ _,hev⟩
 ·refine (wmust_true W w).mono ?_
  rintro r w' ⟨rfl,rfl⟩
  exact⟨rfl,h,BX.refl _ _ _,hev⟩
theorem fst_nil {E:Value} (hE:EV E):fst? E .nilIface=E:=by
 rcases hE with rfl|⟨t,x,rfl⟩<;>rfl
theorem AddPost.ahead {W:Nat} {bv:Value} {sz:Nat} {T ys:List Int} {E:Value} {w w1 w2:World} {may:Nat->Prop} {e:Ending} {w':World} (h:AddPost W bv sz T ys E w2 e w') (hx:BX W may w w1) (hb:Below w1.heap.size w1 w2) (hm:∀ j,may j->19<=j) (hW:W<w1.heap.size):AddPost W bv sz T ys E w e w':=by
 obtain⟨bv',h1,h2,h3,h4,h5⟩:=h
 refine⟨bv',h1,h2,?_,((FW.of_bx hx hm).trans (row':=none) (FW.of_below hb hW) (fun g e=>by cases e)).trans h4 (fun g e=>.inl e),h5⟩
 rcases h3 with e|e
 ·exact .inl e
 ·exact .inr (fun g k=>Nat.le_trans (Nat.le_trans hx.size hb.size) (e g k))
theorem byt_bxw {w w':World} {W B:Nat} {may:Nat->Prop} {v:Value} {ys:List Int} (h:w.ownsRow B 5 1 v ys.length (ys.map (Value.int .u8))) (hr:∀ j,0<=ys.getD j 0/\ys.getD j 0<=255) (hx:BX W may w w') (hB:W<B):Byt w' v ys:=byt_of_owns (owns_bx h hx hB) hr
theorem rng1 {x:Int} (h:0<=x/\x<=255):∀ j,0<=([x]:List Int).getD j 0/\([x]:List Int).getD j 0<=255:=by
 intro j
 cases j with
 | zero=>exact h
 | succ j=>simp
theorem wone_any (W:Nat) (bv E:Value) (sz:Nat) (T:List Int) (n:Int) (w:World) (h:WS w W bv sz T E) (hE:EV E) (hn:-9223372036854775808<=n/\n<=9223372036854775807) (hs:sz<=4611686018427387904) (hT:T.length<=65536) :
  Calls Tryz.prog 48 #[.pointer (some ⟨W,0,none⟩),.int .i64 n] w (AddPost W bv sz T [n % 256] (mst (decide (0<=n)&&decide (n<256)) E) w):=by
 have HS:=zh h
 have hW:W<w.heap.size:=cell_lt h.wt.1.1
 have HM:=zh (fun c=>wmust_gen W bv E sz c w h.wt hE)
 clear h
 go_enter Tryz.func48,Tryz.ntmps48
 go_wp2_with fail
 all_goals (
  refine ((uh HM) _).mono ?_
  rintro e w1 ⟨rfl,hw1,hx1,hev⟩
  have HS1:=zh ((uh HS).bx hx1 hw1)
  have HX1:=zh hx1
  have hz1:=hx1.size
  have HE1:=zh hev
  clear hw1 hx1 hev HM HS
  have HA:Hid (Below w1.heap.size w1 (w1.alloc (.cells #[.int .u8 (n % 256)] 5))):=bal _ _
  have HS2:=zh ((uh HS1).below (uh HA))
  have HRW:Hid ((w1.alloc (.cells #[.int .u8 (n % 256)] 5)).ownsRow (W+1) 5 1 (.slice (some ⟨w1.heap.size,0,none⟩) 1 1) 1 ([n % 256].map (Value.int .u8))):=⟨rfl,.inr ⟨w1.heap.size,1,#[.int .u8 (n % 256)],rfl,by omega,heap_alloc_new _ _,Nat.le_refl _,by unfold maxLen;omega,rfl,rfl⟩⟩
  have hb:0<=n % 256/\n % 256<=255:=by omega
  have HAD:=zh (wadd_any W bv _ .nilIface sz T [n % 256] (.slice (some ⟨w1.heap.size,0,none⟩) 1 1) _ (uh HS2) (uh HE1) (.inl rfl) (fun w' hx=>byt_bxw (uh HRW) (rng1 hb) hx (Nat.lt_succ_self _)) hs (by simp) hT)
  rw[fst_nil (uh HE1)]at HAD
  go_wp2_with fail
  refine (uh HAD).mono ?_
  rintro e w3 hp
  have HP:=zh (hp.ahead (uh HX1) (uh HA) (fun j (e:j=21)=>by subst e;decide) (by omega))
  obtain⟨bv',rfl,-⟩:=hp
  clear HAD HS2 HRW HS1
  go_wp2
  go_end0
  have hh:=uh HP
  first
   | (have h0:(0:Int)<=n:=(by assumption);rw[decide_eq_true h0,Bool.true_and];exact hh)
   | (have h0:n<0:=(by assumption);rw[decide_eq_false (by omega),Bool.false_and];exact hh))
theorem rng2 {x y:Int} (h:0<=x/\x<=255) (k:0<=y/\y<=255):∀ j,0<=([x,y]:List Int).getD j 0/\([x,y]:List Int).getD j 0<=255:=by
 intro j
 match j with
 | 0=>exact h
 | 1=>exact k
 | j+2=>simp
theorem wtwo_any (W:Nat) (bv E:Value) (sz:Nat) (T:List Int) (n:Int) (w:World) (h:WS w W bv sz T E) (hE:EV E) (hn:-9223372036854775808<=n/\n<=9223372036854775807) (hs:sz<=4611686018427387904) (hT:T.length<=65536) :
  Calls Tryz.prog 97 #[.pointer (some ⟨W,0,none⟩),.int .i64 n] w (AddPost W bv sz T [n/256 % 256,n % 256] (mst (decide (0<=n)&&decide (n<65536)) E) w):=by
 have HS:=zh h
 have hW:W<w.heap.size:=cell_lt h.wt.1.1
 have HM:=zh (fun c=>wmust_gen W bv E sz c w h.wt hE)
 clear h
 go_enter Tryz.func97,Tryz.ntmps97
 go_wp2_with fail
 all_goals (
  refine ((uh HM) _).mono ?_
  rintro e w1 ⟨rfl,hw1,hx1,hev⟩
  have HS1:=zh ((uh HS).bx hx1 hw1)
  have HX1:=zh hx1
  have hz1:=hx1.size
  have HE1:=zh hev
  clear hw1 hx1 hev HM HS
  have HA:Hid (Below w1.heap.size w1 (w1.alloc (.cells #[.int .u8 (n/256 % 256),.int .u8 (n % 256)] 5))):=bal _ _
  have HS2:=zh ((uh HS1).below (uh HA))
  have HRW:Hid ((w1.alloc (.cells #[.int .u8 (n/256 % 256),.int .u8 (n % 256)] 5)).ownsRow (W+1) 5 1 (.slice (some ⟨w1.heap.size,0,none⟩) 2 2) 2 ([n/256 % 256,n % 256].map (Value.int .u8))):=⟨rfl,.inr ⟨w1.heap.size,2,#[.int .u8 (n/256 % 256),.int .u8 (n % 256)],rfl,by omega,heap_alloc_new _ _,Nat.le_refl _,by unfold maxLen;omega,rfl,rfl⟩⟩
  have hb:0<=n % 256/\n % 256<=255:=by omega
  have hb2:0<=n/256 % 256/\n/256 % 256<=255:=by omega
  have HAD:=zh (wadd_any W bv _ .nilIface sz T [n/256 % 256,n % 256] (.slice (some ⟨w1.heap.size,0,none⟩) 2 2) _ (uh HS2) (uh HE1) (.inl rfl) (fun w' hx=>byt_bxw (uh HRW) (rng2 hb2 hb) hx (Nat.lt_succ_self _)) hs (by simp) hT)
  rw[fst_nil (uh HE1)]at HAD
  go_wp2_with fail
  refine (uh HAD).mono ?_
  rintro e w3 hp
  have HP:=zh (hp.ahead (uh HX1) (uh HA) (fun j (e:j=21)=>by subst e;decide) (by omega))
  obtain⟨bv',rfl,-⟩:=hp
  clear HAD HS2 HRW HS1
  go_wp2
  go_end0
  have hh:=uh HP
  first
   | (have h0:(0:Int)<=n:=(by assumption);rw[decide_eq_true h0,Bool.true_and];exact hh)
   | (have h0:n<0:=(by assumption);rw[decide_eq_false (by omega),Bool.false_and];exact hh))
theorem wtext_ok (W:Nat) (bv E:Value) (sz:Nat) (T:List Int) (s:ByteArray) (w:World) (h:WS w W bv sz T E) (hE:EV E) (hc:chk (sb s)=0) (hs:sz<=4611686018427387904) (hT:T.length<=65536) :
  Calls Tryz.prog 96 #[.pointer (some ⟨W,0,none⟩),.string s] w (AddPost W bv sz T (tx s) E w):=by
 have HS:=zh h
 have hW:W<w.heap.size:=cell_lt h.wt.1.1
 have hs2:s.size<=65535:=by have:=chk_0 hc;rw[sb_length]at this;exact this
 have hl:=tx_length s
 have hr:=tx_range s hs2
 have HP:=zh (put_ok s w hc)
 have HR:=zh hr
 have HE:=zh hE
 clear h hc hr hE
 go_enter Tryz.func96,Tryz.ntmps96
 go_wp2_with fail
 refine (uh HP).mono ?_
 rintro e w1 ⟨v,rfl,hown,hb⟩
 have HA:=zh hb
 have HS1:=zh ((uh HS).below hb)
 have HAD:=zh (wadd_any W bv E .nilIface sz T (tx s) v w1 (uh HS1) (uh HE) (.inl rfl) (fun w' hx=>byt_bxw (B:=w.heap.size) (by rw[hl];exact uh hown) (uh HR) hx hW) hs (by rw[hl];omega) hT)
 rw[fst_nil (uh HE)]at HAD
 clear hown hb HP HS
 go_wp2_with fail
 refine (uh HAD).mono ?_
 rintro e w3 hp
 have HQ:=zh (hp.ahead (BX.refl W isT w) (uh HA) (fun _ e=>e) hW)
 obtain⟨bv',rfl,-⟩:=hp
 clear HAD HS1
 go_wp2
 go_end0
 exact uh HQ
theorem wbin_ok (W:Nat) (bv E:Value) (sz:Nat) (T:List Int) (s:ByteArray) (w:World) (h:WS w W bv sz T E) (hE:EV E) (hs2:s.size<=65535) (hs:sz<=4611686018427387904) (hT:T.length<=65536) :
  Calls Tryz.prog 100 #[.pointer (some ⟨W,0,none⟩),.string s] w (AddPost W bv sz T (tx s) E w):=by
 have HS:=zh h
 have hW:W<w.heap.size:=cell_lt h.wt.1.1
 have hl:=tx_length s
 have hr:=tx_range s hs2
 have HP:=zh (putBin_ok s w hs2)
 have HR:=zh hr
 have HE:=zh hE
 clear h hr hE
 go_enter Tryz.func100,Tryz.ntmps100
 go_wp2_with fail
 refine (uh HP).mono ?_
 rintro e w1 ⟨v,rfl,hown,hb⟩
 have HA:=zh hb
 have HS1:=zh ((uh HS).below hb)
 have HAD:=zh (wadd_any W bv E .nilIface sz T (tx s) v w1 (uh HS1) (uh HE) (.inl rfl) (fun w' hx=>byt_bxw (B:=w.heap.size) (by rw[hl];exact uh hown) (uh HR) hx hW) hs (by rw[hl];omega) hT)
 rw[fst_nil (uh HE)]at HAD
 clear hown hb HP HS
 go_wp2_with fail
 refine (uh HAD).mono ?_
 rintro e w3 hp
 have HQ:=zh (hp.ahead (BX.refl W isT w) (uh HA) (fun _ e=>e) hW)
 obtain⟨bv',rfl,-⟩:=hp
 clear HAD HS1
 go_wp2
 go_end0
 exact uh HQ
def offX (W:Nat) (bv:Value) (b:Nat):Prop:=b=W\/bv.ownBlock=some b
def Sg (w:World) (W:Nat) (bv:Value) (sz:Nat) (T:List Int) (E:Value):Option (List Int)->Prop
 | some l=>E=.nilIface/\sz=l.length/\(l.length<=65536->T=l)/\(bv.ownBlock=none\/2<=T.length\/l.length=1)
 | none=>∃ d n,d<=2/\ErO w (offX W bv) d E n
def SgF (w:World) (W:Nat) (sz:Nat) (T:List Int) (E:Value):Option (List Int)->Prop
 | some l=>E=.nilIface/\sz=l.length/\(l.length<=65536->T=l)
 | none=>∃ d n,d<=2/\ErO w (fun b=>b=W) d E n
structure WQ (w0 w:World) (W:Nat) (p:Pkv) (st:Option (List Int)) (m:Nat):Prop where
 bel:Below w0.heap.size w0 w
 low:w0.heap.size<=W
 pk:Pk w W p
 ex:∃ bv sz T E,WS w W bv sz T E/\(T.length<=65536/\T.length<=sz)/\sz<=m/\Sg w W bv sz T E st
structure WF (w0 w:World) (W:Nat) (p:Pkv) (st:Option (List Int)) (m:Nat):Prop where
 bel:Below w0.heap.size w0 w
 low:w0.heap.size<=W
 pk:Pk w W p
 ex:∃ bv sz T E,WS w W bv sz T E/\(T.length<=65536/\T.length<=sz)/\sz<=m/\SgF w W sz T E st
theorem WQ.wf {w0 w:World} {W:Nat} {p:Pkv} {st:Option (List Int)} {m:Nat} (h:WQ w0 w W p st m):WF w0 w W p st m:=by
 obtain⟨h1,h2,h3,bv,sz,T,E,h4,h5,h6,h7⟩:=h
 refine⟨h1,h2,h3,bv,sz,T,E,h4,h5,h6,?_⟩
 cases st with
 | none=>obtain⟨d,n,hd,he⟩:=h7;exact⟨d,n,hd,he.weak (fun b e=>.inl e)⟩
 | some l=>exact⟨h7.1,h7.2.1,h7.2.2.1⟩
theorem Sg.ev {w:World} {W:Nat} {bv:Value} {sz:Nat} {T:List Int} {E:Value} {st:Option (List Int)} (h:Sg w W bv sz T E st):EV E:=by
 cases st with
 | none=>obtain⟨d,n,hd,he⟩:=h;exact .inr he.iface
 | some l=>exact .inl h.1
theorem WQ.lt {w0 w:World} {W:Nat} {p:Pkv} {st:Option (List Int)} {m:Nat} (h:WQ w0 w W p st m):W<w.heap.size:=cell_lt h.pk.kind
theorem FW.below {W:Nat} {row:Option Nat} {w0 w w':World} (h:FW W row w w') (hb:Below w0.heap.size w0 w) (hW:w0.heap.size<=W) (hr:∀ g,row=some g->w0.heap.size<=g):Below w0.heap.size w0 w' :=
 ⟨h.fb.os.trans hb.os,h.fb.tape.trans hb.tape,h.fb.output.trans hb.output,Nat.le_trans hb.size h.fb.size,fun k hk=>(h.fb.block k (Nat.lt_of_lt_of_le hk hb.size) (by omega) (fun e=>by have:=hr k e.symm;omega)).trans (hb.block k hk)⟩
theorem Pk.fw {W:Nat} {row:Option Nat} {w w':World} {p:Pkv} (hp:Pk w W p) (h:FW W row w w'):Pk w' W p:=fun j hj=>⟨(h.cell j hj).trans (hp j hj).1,(h.frozen j hj).trans (hp j hj).2⟩
theorem ErO.fw {W:Nat} {bv bv':Value} {w w':World} (h:FB W bv.ownBlock w w') (hv:bv'.ownBlock=bv.ownBlock\/∀ g,bv'.ownBlock=some g->w.heap.size<=g):∀ {d:Nat} {v:Value} {n:Int},ErO w (offX W bv) d v n->ErO w' (offX W bv') d v n
 | 0,_,_,h=>h
 | _+1,_,_,⟨b,u,h1,hR,h2,h3⟩=>⟨b,u,h1,fun e=>by
   rcases e with e|e
   ·exact hR (.inl e)
   ·rcases hv with k|k
    ·exact hR (.inr (k ▸ e))
    ·have:=k b e
     have:=cell_lt h2
     simp only at this
     omega,(World.cell?_of_block (w:=w) (h.block b (cell_lt h2) (fun e=>hR (.inl e)) (fun e=>hR (.inr e.symm)))).trans h2,ErO.fw h hv h3⟩
theorem ws_rows {w:World} {W:Nat} {bv:Value} {sz:Nat} {T:List Int} {E:Value} (h:WS w W bv sz T E):∀ g,bv.ownBlock=some g->W+1<=g:=owns_blk h.row
def sAdd (c:Bool) (ys:List Int) (l:List Int):Option (List Int):=if c then some (l++ys) else none
def sMust (c:Bool) (l:List Int):Option (List Int):=if c then some l else none
theorem fst_if (t:TypeId) (x e:Value):fst? (.iface t x) e=.iface t x:=rfl
theorem mst_if (c:Bool) (t:TypeId) (x:Value):mst c (.iface t x)=.iface t x:=by unfold mst;split<;>rfl
def FT (W:Nat) (w w':World):Prop:=w.heap.size<=w'.heap.size/\∀ k c t,k≠W->w.heap[k]?=some (.cells c t)->t≠5->w'.heap[k]?=w.heap[k]?
theorem FT.trans {W:Nat} {a b c:World} (h:FT W a b) (k:FT W b c):FT W a c:=⟨Nat.le_trans h.1 k.1,fun i x t hi hx ht=>by
 have e:=h.2 i x t hi hx ht
 exact (k.2 i x t hi (e.trans hx) ht).trans e⟩
theorem FT.of_below {W:Nat} {a b:World} (h:Below a.heap.size a b):FT W a b:=⟨h.size,fun i _ _ _ hx _=>h.block i (Array.getElem?_eq_some_iff.1 hx).1⟩
theorem FT.of_bx {W:Nat} {may:Nat->Prop} {a b:World} (h:BX W may a b):FT W a b:=⟨h.size,fun i _ _ hi hx _=>h.block i (Array.getElem?_eq_some_iff.1 hx).1 hi⟩
theorem FT.of_fw {w w':World} {W:Nat} {bv:Value} {sz:Nat} {T:List Int} {E:Value} (hW:WS w W bv sz T E) (h:FW W bv.ownBlock w w'):FT W w w':=⟨h.fb.size,fun i x t hi hx ht=>h.fb.block i (Array.getElem?_eq_some_iff.1 hx).1 hi (fun e=>by
 rcases hW.row.2 with⟨rfl,_⟩|⟨g,cap,cur,rfl,_,hg,_⟩
 ·cases e
 ·cases e
  rw[hg]at hx
  cases hx
  exact ht rfl)⟩
theorem FT.cell {W:Nat} {w w':World} (h:FT W w w') {b:Nat} {c:Array Value} {t:TypeId} (hb:w.heap[b]?=some (.cells c t)) (hW:b≠W) (ht:t≠5):w'.heap[b]?=some (.cells c t):=(h.2 b c t hW hb ht).trans hb
theorem wq_step {w0 w w':World} {W:Nat} {p:Pkv} {bv:Value} {sz:Nat} {T ys:List Int} {E:Value} {st:Option (List Int)} {m:Nat} {e:Ending} (c:Bool) (hW:WS w W bv sz T E) (hm:sz<=m) (hT:T.length<=65536/\T.length<=sz) (hS:Sg w W bv sz T E st)
  (hb:Below w0.heap.size w0 w) (hlow:w0.heap.size<=W) (hpk:Pk w W p) (hA:AddPost W bv sz T ys (mst c E) w e w') (hys:ys≠[]) (hl:∀ l,st=some l->l.length≠1\/ys.length<=60000) :
  e=.returned (.tuple #[])/\WQ w0 w' W p (st.bind (sAdd c ys)) (m+ys.length)/\FT W w w':=by
 obtain⟨bv',rfl,hW',hv,hF,hno⟩:=hA
 have hrow:=ws_rows hW
 refine⟨rfl,⟨hF.below hb hlow (fun g e=>by have:=hrow g e;omega),hlow,hpk.fw hF,bv',_,_,_,hW',?_,by omega,?_⟩,FT.of_fw hW hF⟩
 ·split
  ·rw[List.length_append]
   omega
  ·omega
 cases st with
 | none =>
  obtain⟨d,n,hd,he⟩:=hS
  obtain⟨t,x,rfl⟩:=he.iface
  rw[mst_if]
  exact⟨d,n,hd,he.fw hF.fb hv⟩
 | some l =>
  obtain⟨rfl,h2,h3,h4⟩:=hS
  cases c
  ·exact⟨0,1,by omega,rfl⟩
  ·refine⟨rfl,by rw[List.length_append];omega,?_,?_⟩
   ·intro hle
    rw[List.length_append]at hle
    rw[if_pos (by omega),h3 (by omega)]
   ·by_cases hr:sz+ys.length<=65536
    ·rw[if_pos hr,h3 (by omega),List.length_append]
     have:1<=ys.length:=List.length_pos_iff.2 hys
     omega
    ·rw[if_neg hr,hno hr]
     rcases h4 with h4|h4|h4
     ·exact .inl h4
     ·exact .inr (.inl h4)
     ·rcases hl l rfl with k|k
      ·exact absurd h4 k
      ·omega
theorem er_off {w:World} {W:Nat} {bv:Value} {sz:Nat} {T:List Int} {E:Value} {c:Bool} (hW:WS w W bv sz T E) (hc:w.cell? ⟨W,1,none⟩=some (.bool c)) (h2:bv.ownBlock=none\/2<=T.length):∀ {d:Nat} {v:Value} {n:Int},Er w d v n->ErO w (offX W bv) d v n
 | 0,_,_,h=>h
 | _+1,_,_,⟨b,u,h1,k2,h3⟩=>by
  obtain⟨t,x,hu⟩:=h3.iface
  refine⟨b,u,h1,?_,k2,er_off hW hc h2 h3⟩
  subst hu
  rintro (e|e)
  ·subst e
   rw[hc]at k2
   cases k2
  ·rcases h2 with h2|h2
   ·rw[h2]at e;cases e
   ·rcases hW.row.2 with⟨rfl,h0⟩|⟨g,cap,cur,rfl,_,hg,hn,_,hsz,hx⟩
    ·cases e
    ·cases e
     have hy:=byt_of_owns hW.row hW.rng
     obtain⟨ao,cap',hv,_,_,hc'⟩:=hy
     simp only[Value.slice.injEq]at hv
     obtain⟨rfl,_,_⟩:=hv
     rcases hc' with rfl|⟨b',off',e',hc'⟩
     ·simp at h2
     ·simp only[Option.some.injEq,Addr.mk.injEq,and_true]at e'
      obtain⟨rfl,rfl⟩:=e'
      have k:=hc' 1 (by omega)
      rw[Nat.zero_add,k2]at k
      cases k
end Go.Proofs.YtmpijpjlbhfccaaGreatDoor.K
