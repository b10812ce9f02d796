/- Helpers of the proof. -/
import Derived.Test.YtmpijpjlbhfccaaGreatDoorZC26
import Derived.Test.YtmpijpjlbhfccaaGreatDoorZC20
import Derived.Test.YtmpijpjlbhfccaaGreatDoorZC23
import Derived.Test.YtmpijpjlbhfccaaGreatDoorZC13
import Derived.Test.YtmpijpjlbhfccaaGreatDoorZC21
import Derived.Test.YtmpijpjlbhfccaaGreatDoorZC15
import Derived.Test.YtmpijpjlbhfccaaGreatDoorZC22
import Derived.Test.YtmpijpjlbhfccaaGreatDoorZC6
import Derived.Test.YtmpijpjlbhfccaaGreatDoorZC17
set_option maxHeartbeats 20000000
namespace Go.Proofs.YtmpijpjlbhfccaaGreatDoor.K
open Go.RowKit
set_option maxRecDepth 100000
def meas (l:List Int):Nat×Nat×Int :=
 if (V.vget (l.drop 1)).2.2≠0 then (0,0,(V.vget (l.drop 1)).2.2)
 else if 65536<1+ghd (l.drop 1)+(gid (l.drop 1)).toNat then (0,0,2)
 else if l.length<1+ghd (l.drop 1)+(gid (l.drop 1)).toNat then (0,0,3)
 else (1+ghd (l.drop 1),1+ghd (l.drop 1)+(gid (l.drop 1)).toNat,0)
def MeasPost (l:List Int) (w:World) (e:Ending) (w':World):Prop :=
 ∃ E,e=.returned (.tuple #[.int .i64 ((meas l).1:Nat),.int .i64 ((meas l).2.1:Nat),E])/\Hid (((meas l).2.2=0/\E=.nilIface)\/((meas l).2.2≠0/\ErP w' E (meas l).2.2))/\Below w.heap.size w w'
theorem er_of_inn {w:World} {v:Value} {n:Int} (h:Inn w v n):∃ d,d<=2/\Er w d v n:=by
 rcases h with h|⟨b,h1,h2⟩
 ·exact⟨0,by omega,h⟩
 ·exact⟨1,by omega,b,_,h1,h2,rfl⟩
theorem measure_any (v:Value) (l:List Int) (w:World) (h:Byt w v l) (hl:l≠[]):Calls Tryz.prog 33 #[v] w (MeasPost l w):=by
 have hl1:1<=l.length:=List.length_pos_iff.2 hl
 obtain⟨b,off,cap,rfl,hc1,hc2⟩:=h.form1 hl1
 unfold maxLen at hc2
 have hmd:∀ (N K:Nat),gid (l.drop 1)=N->ghd (l.drop 1)=K->(V.vget (l.drop 1)).2.2=0->meas l=if 65536<1+K+N then (0,0,2) else if l.length<1+K+N then (0,0,3) else (1+K,1+K+N,0):=fun N K e1 e2 e3=>by
  unfold meas
  rw[if_neg (by rw[e3];decide),e1,e2,Int.toNat_natCast]
 have hme:(V.vget (l.drop 1)).2.2≠0->meas l=(0,0,(V.vget (l.drop 1)).2.2):=fun e=>by
  unfold meas
  rw[if_pos e]
 have key:∀ t:Value,Byt w t (l.drop 1)->(V.vget (l.drop 1)).2.2=0->∃ (N K:Nat),gid (l.drop 1)=N/\ghd (l.drop 1)=K/\K<=4/\N<=268435455/\V.vget (l.drop 1)=((N:Int),(K:Int),0):=fun t ht hv=>by
  obtain⟨hv',h1,h2,h3,h4,h5⟩:=vget_is (l.drop 1) ht.range hv
  have hQ4:=ghd_le (l.drop 1) h2 h5
  obtain⟨N,hN⟩:∃ N:Nat,gid (l.drop 1)=N:=⟨(gid (l.drop 1)).toNat,by omega⟩
  exact⟨N,ghd (l.drop 1),hN,rfl,hQ4,by omega,by rw[hv',hN]⟩
 have HDR:=zh (h.drop' 1 hl1)
 have HMD:=zh hmd
 have HME:=zh hme
 have HKEY:=zh key
 clear h hmd hme key hl
 generalize hn:l.length=n at hc1 hl1 HDR HMD
 have HN:=zh hn
 clear hn
 by_cases hcap:cap=1
 ·subst hcap
  obtain rfl:n=1:=by omega
  have HT:Hid (Byt w (.slice (some ⟨b,off,none⟩) 0 0) (l.drop 1)):=by
   show Byt _ _ _
   have k:=uh HDR
   rw[if_pos rfl,Nat.sub_self]at k
   exact k
  clear HDR
  by_cases hv:(V.vget (l.drop 1)).2.2=0
  ·obtain⟨N,K,e1,e2,hK,hN2,hvg⟩:=(uh HKEY) _ (uh HT) hv
   have HM:=zh ((uh HMD) N K e1 e2 hv)
   have HV:=zh hvg
   clear hvg e1 e2 hv HMD HME HKEY
   have HG:=zh (vget_good _ (l.drop 1) w (uh HT) N K (uh HV))
   by_cases h1:65536<1+K+N
   ·rw[if_pos h1]at HM
    go_enter Tryz.func33,Tryz.ntmps33
    go_wp2_with fail
    refine (uh HG).mono ?_
    rintro e w1 ⟨rfl,hb1⟩
    have HB1:=zh hb1
    clear hb1
    go_wp2_with fail
    refine (pf_use 2 _).mono ?_
    rintro e w2 ⟨x,rfl,hE,hb2⟩
    have HB2:Hid (Below w.heap.size w w2):=(uh HB1).trans (hb2.mono (uh HB1).size)
    clear hb2
    go_wp2
    go_returns
    unfold MeasPost
    rw[uh HM]
    exact⟨_,rfl,.inr ⟨by decide,uh hE⟩,uh HB2⟩
   ·rw[if_neg h1]at HM
    by_cases h2:1<1+K+N
    ·rw[if_pos h2]at HM
     go_enter Tryz.func33,Tryz.ntmps33
     go_wp2_with fail
     refine (uh HG).mono ?_
     rintro e w1 ⟨rfl,hb1⟩
     have HB1:=zh hb1
     clear hb1
     go_wp2_with fail
     refine (pf_use 3 _).mono ?_
     rintro e w2 ⟨x,rfl,hE,hb2⟩
     have HB2:Hid (Below w.heap.size w w2):=(uh HB1).trans (hb2.mono (uh HB1).size)
     clear hb2
     go_wp2
     go_returns
     unfold MeasPost
     rw[uh HM]
     exact⟨_,rfl,.inr ⟨by decide,uh hE⟩,uh HB2⟩
    ·rw[if_neg h2]at HM
     go_enter Tryz.func33,Tryz.ntmps33
     go_wp2_with fail
     refine (uh HG).mono ?_
     rintro e w1 ⟨rfl,hb1⟩
     have HB1:=zh hb1
     clear hb1
     go_wp2
     go_returns
     unfold MeasPost
     rw[uh HM]
     exact⟨_,by go_num,.inl ⟨rfl,rfl⟩,uh HB1⟩
  ·have HM:=zh ((uh HME) hv)
   generalize hm:(V.vget (l.drop 1)).2.2=m at hv HM
   have HG:=zh (vget_fail _ (l.drop 1) w (uh HT) m hm hv)
   clear hm HMD HME HKEY
   go_enter Tryz.func33,Tryz.ntmps33
   go_wp2_with fail
   refine (uh HG).mono ?_
   rintro e w1 ⟨a1,a2,x,rfl,hi,hb1⟩
   have HB1:=zh hb1
   clear hb1
   obtain⟨d,hd,he⟩:=er_of_inn (uh hi)
   have HE1:=zh he
   clear he
   go_wp2_with fail
   refine (pw_use d hd _ m _ (uh HE1)).mono ?_
   rintro e w2 ⟨y,rfl,hE,hb2⟩
   have HB2:Hid (Below w.heap.size w w2):=(uh HB1).trans (hb2.mono (uh HB1).size)
   clear hb2
   go_wp2
   go_returns
   unfold MeasPost
   rw[uh HM]
   exact⟨_,rfl,.inr ⟨hv,uh hE⟩,uh HB2⟩
 ·have HT:Hid (Byt w (.slice (some ⟨b,off+1,none⟩) (n-1) (cap-1)) (l.drop 1)):=by
   show Byt _ _ _
   have k:=uh HDR
   rw[if_neg hcap]at k
   exact k
  clear HDR
  by_cases hv:(V.vget (l.drop 1)).2.2=0
  ·obtain⟨N,K,e1,e2,hK,hN2,hvg⟩:=(uh HKEY) _ (uh HT) hv
   have HM:=zh ((uh HMD) N K e1 e2 hv)
   have HV:=zh hvg
   clear hvg e1 e2 hv HMD HME HKEY
   have HG:=zh (vget_good _ (l.drop 1) w (uh HT) N K (uh HV))
   by_cases h1:65536<1+K+N
   ·rw[if_pos h1]at HM
    go_enter Tryz.func33,Tryz.ntmps33
    go_wp2_with fail
    refine (uh HG).mono ?_
    rintro e w1 ⟨rfl,hb1⟩
    have HB1:=zh hb1
    clear hb1
    go_wp2_with fail
    refine (pf_use 2 _).mono ?_
    rintro e w2 ⟨x,rfl,hE,hb2⟩
    have HB2:Hid (Below w.heap.size w w2):=(uh HB1).trans (hb2.mono (uh HB1).size)
    clear hb2
    go_wp2
    go_returns
    unfold MeasPost
    rw[uh HM]
    exact⟨_,rfl,.inr ⟨by decide,uh hE⟩,uh HB2⟩
   ·rw[if_neg h1]at HM
    by_cases h2:n<1+K+N
    ·rw[if_pos h2]at HM
     go_enter Tryz.func33,Tryz.ntmps33
     go_wp2_with fail
     refine (uh HG).mono ?_
     rintro e w1 ⟨rfl,hb1⟩
     have HB1:=zh hb1
     clear hb1
     go_wp2_with fail
     refine (pf_use 3 _).mono ?_
     rintro e w2 ⟨x,rfl,hE,hb2⟩
     have HB2:Hid (Below w.heap.size w w2):=(uh HB1).trans (hb2.mono (uh HB1).size)
     clear hb2
     go_wp2
     go_returns
     unfold MeasPost
     rw[uh HM]
     exact⟨_,rfl,.inr ⟨by decide,uh hE⟩,uh HB2⟩
    ·rw[if_neg h2]at HM
     go_enter Tryz.func33,Tryz.ntmps33
     go_wp2_with fail
     refine (uh HG).mono ?_
     rintro e w1 ⟨rfl,hb1⟩
     have HB1:=zh hb1
     clear hb1
     go_wp2
     go_returns
     unfold MeasPost
     rw[uh HM]
     exact⟨_,by go_num,.inl ⟨rfl,rfl⟩,uh HB1⟩
  ·have HM:=zh ((uh HME) hv)
   generalize hm:(V.vget (l.drop 1)).2.2=m at hv HM
   have HG:=zh (vget_fail _ (l.drop 1) w (uh HT) m hm hv)
   clear hm HMD HME HKEY
   go_enter Tryz.func33,Tryz.ntmps33
   go_wp2_with fail
   refine (uh HG).mono ?_
   rintro e w1 ⟨a1,a2,x,rfl,hi,hb1⟩
   have HB1:=zh hb1
   clear hb1
   obtain⟨d,hd,he⟩:=er_of_inn (uh hi)
   have HE1:=zh he
   clear he
   go_wp2_with fail
   refine (pw_use d hd _ m _ (uh HE1)).mono ?_
   rintro e w2 ⟨y,rfl,hE,hb2⟩
   have HB2:Hid (Below w.heap.size w w2):=(uh HB1).trans (hb2.mono (uh HB1).size)
   clear hb2
   go_wp2
   go_returns
   unfold MeasPost
   rw[uh HM]
   exact⟨_,rfl,.inr ⟨hv,uh hE⟩,uh HB2⟩
def QPost (w0:World) (W:Nat) (p:Pkv) (st:Option (List Int)) (m:Nat) (w:World) (e:Ending) (w':World):Prop:=e=.returned (.tuple #[])/\WQ w0 w' W p st m/\FT W w w'
theorem WQ.mono {w0 w:World} {W:Nat} {p:Pkv} {st:Option (List Int)} {m m':Nat} (h:WQ w0 w W p st m) (hm:m<=m'):WQ w0 w W p st m':=by
 obtain⟨h1,h2,h3,bv,sz,T,E,h4,h5,h6,h7⟩:=h
 exact⟨h1,h2,h3,bv,sz,T,E,h4,h5,Nat.le_trans h6 hm,h7⟩
theorem Sg.fw {W:Nat} {bv:Value} {w w':World} {sz:Nat} {T:List Int} {E:Value} {st:Option (List Int)} (h:Sg w W bv sz T E st) (hf:FB W bv.ownBlock w w'):Sg w' W bv sz T E st:=by
 cases st with
 | none=>obtain⟨d,n,hd,he⟩:=h;exact⟨d,n,hd,he.fw hf (.inl rfl)⟩
 | some l=>exact h
theorem WQ.below {w0 w w':World} {W:Nat} {p:Pkv} {st:Option (List Int)} {m:Nat} (h:WQ w0 w W p st m) (hb:Below w.heap.size w w'):WQ w0 w' W p st m:=by
 obtain⟨h1,h2,h3,bv,sz,T,E,h4,h5,h6,h7⟩:=h
 exact⟨h1.trans (hb.mono h1.size),h2,h3.below hb,bv,sz,T,E,h4.below hb,h5,h6,h7.fw (FB.of_below hb)⟩
theorem must_q {w0 w:World} {W:Nat} {p:Pkv} {st:Option (List Int)} {m:Nat} (h:WQ w0 w W p st m) (c:Bool):Calls Tryz.prog 57 #[.pointer (some ⟨W,0,none⟩),.bool c] w (QPost w0 W p (st.bind (sMust c)) m w):=by
 obtain⟨h1,h2,h3,bv,sz,T,E,h4,h5,h6,h7⟩:=h
 refine (wmust_gen W bv E sz c w h4.wt h7.ev).mono ?_
 rintro r w' ⟨rfl,k1,k2,k3⟩
 have hm21:∀ j,is21 j->19<=j:=fun j (e:j=21)=>by subst e;decide
 have hF:FW W bv.ownBlock w w':=FW.of_bx k2 hm21
 refine⟨rfl,⟨hF.below h1 h2 (fun g e=>by have:=ws_rows h4 g e;omega),h2,h3.fw hF,bv,sz,T,_,h4.bx k2 k1,h5,h6,?_⟩,FT.of_bx k2⟩
 cases st with
 | none =>
  obtain⟨d,n,hd,he⟩:=h7
  obtain⟨t,x,rfl⟩:=he.iface
  rw[mst_if]
  exact⟨d,n,hd,he.fw hF.fb (.inl rfl)⟩
 | some l =>
  obtain⟨rfl,k⟩:=h7
  cases c
  ·exact⟨0,1,by omega,rfl⟩
  ·exact⟨rfl,k⟩
def in8 (n:Int):Bool:=decide (0<=n)&&decide (n<256)
def in16 (n:Int):Bool:=decide (0<=n)&&decide (n<65536)
abbrev b2 (n:Int):List Int:=[n/256 % 256,n % 256]
theorem one_q {w0 w:World} {W:Nat} {p:Pkv} {st:Option (List Int)} {m:Nat} (h:WQ w0 w W p st m) (n:Int) (hn:-9223372036854775808<=n/\n<=9223372036854775807) (hm:m<=4611686018427387904):Calls Tryz.prog 48 #[.pointer (some ⟨W,0,none⟩),.int .i64 n] w (QPost w0 W p (st.bind (sAdd (in8 n) [n % 256])) (m+1) w):=by
 obtain⟨h1,h2,h3,bv,sz,T,E,h4,h5,h6,h7⟩:=h
 refine (wone_any W bv E sz T n w h4 h7.ev hn (by omega) h5.1).mono ?_
 intro e w' hA
 exact wq_step (in8 n) h4 h6 h5 h7 h1 h2 h3 hA (by simp) (fun l _=>.inr (by simp))
theorem two_q {w0 w:World} {W:Nat} {p:Pkv} {st:Option (List Int)} {m:Nat} (h:WQ w0 w W p st m) (n:Int) (hn:-9223372036854775808<=n/\n<=9223372036854775807) (hm:m<=4611686018427387904):Calls Tryz.prog 97 #[.pointer (some ⟨W,0,none⟩),.int .i64 n] w (QPost w0 W p (st.bind (sAdd (in16 n) (b2 n))) (m+2) w):=by
 obtain⟨h1,h2,h3,bv,sz,T,E,h4,h5,h6,h7⟩:=h
 refine (wtwo_any W bv E sz T n w h4 h7.ev hn (by omega) h5.1).mono ?_
 intro e w' hA
 exact wq_step (in16 n) h4 h6 h5 h7 h1 h2 h3 hA (by simp) (fun l _=>.inr (by simp))
theorem add_bad_q {w0 w:World} {W:Nat} {p:Pkv} {st:Option (List Int)} {m:Nat} (h:WQ w0 w W p st m) (t:TypeId) (x:Value) (he:∃ d n,d<=2/\Er w d (.iface t x) n) (hl:∀ l,st=some l->l.length≠1) (hm:m<=4611686018427387904) :
  Calls Tryz.prog 102 #[.pointer (some ⟨W,0,none⟩),.slice none 0 0,.iface t x] w (QPost w0 W p none m w):=by
 obtain⟨h1,h2,h3,bv,sz,T,E,h4,h5,h6,h7⟩:=h
 refine (wadd_bad W bv E t x sz T w h4 h7.ev (by omega)).mono ?_
 rintro r w' ⟨rfl,k1,k2⟩
 have hF:FW W bv.ownBlock w w':=FW.of_bx k2 (fun _ e=>e)
 refine⟨rfl,⟨hF.below h1 h2 (fun g e=>by have:=ws_rows h4 g e;omega),h2,h3.fw hF,bv,sz,T,_,k1,h5,h6,?_⟩,FT.of_bx k2⟩
 cases st with
 | none =>
  obtain⟨d,n,hd,he⟩:=h7
  obtain⟨t',x',rfl⟩:=he.iface
  rw[fst_if]
  exact⟨d,n,hd,he.fw hF.fb (.inl rfl)⟩
 | some l =>
  obtain⟨rfl,_,_,k⟩:=h7
  obtain⟨d,n,hd,he⟩:=he
  exact⟨d,n,hd,(er_off h4 h3.dup (k.elim .inl (fun k=>k.elim .inr (fun k=>absurd k (hl l rfl)))) he).fw hF.fb (.inl rfl)⟩
def okT (s:ByteArray):Bool:=decide (chk (sb s)=0)
def okB (s:ByteArray):Bool:=decide (s.size<=65535)
theorem tx_ne (s:ByteArray):tx s≠[]:=fun e=>by have:=tx_length s;rw[e]at this;simp at this;omega
theorem bind_no {st:Option (List Int)} {ys:List Int}:st.bind (sAdd false ys)=none:=by cases st<;>rfl
theorem text_q {w0 w:World} {W:Nat} {p:Pkv} {st:Option (List Int)} {m:Nat} (h:WQ w0 w W p st m) (s:ByteArray) (hs:s.size<=4611686018427387904) (hl:∀ l,st=some l->l.length≠1) (hm:m<=4611686018427387904) :
  Calls Tryz.prog 96 #[.pointer (some ⟨W,0,none⟩),.string s] w (QPost w0 W p (st.bind (sAdd (okT s) (tx s))) (m+70000) w):=by
 by_cases hc:chk (sb s)=0
 ·have hk:okT s=true:=decide_eq_true hc
  rw[hk]
  have h2:s.size<=65535:=by have:=chk_0 hc;rw[sb_length]at this;exact this
  obtain⟨h1,h2',h3,bv,sz,T,E,h4,h5,h6,h7⟩:=h
  refine (wtext_ok W bv E sz T s w h4 h7.ev hc (by omega) h5.1).mono ?_
  intro e w' hA
  have hT:=tx_length s
  obtain⟨k1,k2,k3⟩:=wq_step true h4 h6 h5 h7 h1 h2' h3 hA (tx_ne s) (fun l e=>.inl (hl l e))
  exact⟨k1,k2.mono (by omega),k3⟩
 ·have hk:okT s=false:=decide_eq_false hc
  rw[hk,bind_no]
  have HQ:=zh h
  have HL:=zh hl
  have HP:=zh (tput_bad s w hs hc)
  clear h hc hk hl
  go_enter Tryz.func96,Tryz.ntmps96
  go_wp2_with fail
  refine (uh HP).mono ?_
  rintro e w1 ⟨x,n,rfl,hi,hb⟩
  have HA:=zh (add_bad_q ((uh HQ).below hb) 125 x (by obtain⟨d,hd,he⟩:=er_of_inn (uh hi);exact⟨d,n,hd,he⟩) (uh HL) hm)
  have HB:=zh hb
  clear hb HP HQ hi
  go_wp2_with fail
  refine (uh HA).mono ?_
  rintro e w2 ⟨rfl,hq,hf⟩
  have HQ2:=zh (hq.mono (show m<=m+70000 from by omega))
  have HF:=zh ((FT.of_below (W:=W) (uh HB)).trans hf)
  clear hq hf HA
  go_wp2
  go_end0
  exact⟨rfl,uh HQ2,uh HF⟩
theorem bin_q {w0 w:World} {W:Nat} {p:Pkv} {st:Option (List Int)} {m:Nat} (h:WQ w0 w W p st m) (s:ByteArray) (hl:∀ l,st=some l->l.length≠1) (hm:m<=4611686018427387904) :
  Calls Tryz.prog 100 #[.pointer (some ⟨W,0,none⟩),.string s] w (QPost w0 W p (st.bind (sAdd (okB s) (tx s))) (m+70000) w):=by
 by_cases hc:s.size<=65535
 ·have hk:okB s=true:=decide_eq_true hc
  rw[hk]
  obtain⟨h1,h2',h3,bv,sz,T,E,h4,h5,h6,h7⟩:=h
  refine (wbin_ok W bv E sz T s w h4 h7.ev hc (by omega) h5.1).mono ?_
  intro e w' hA
  have hT:=tx_length s
  obtain⟨k1,k2,k3⟩:=wq_step true h4 h6 h5 h7 h1 h2' h3 hA (tx_ne s) (fun l e=>.inl (hl l e))
  exact⟨k1,k2.mono (by omega),k3⟩
 ·have hk:okB s=false:=decide_eq_false hc
  rw[hk,bind_no]
  have HQ:=zh h
  have HL:=zh hl
  have HP:=zh (putBin_bad s w (by omega))
  clear h hc hk hl
  go_enter Tryz.func100,Tryz.ntmps100
  go_wp2_with fail
  refine (uh HP).mono ?_
  rintro e w1 ⟨rfl,hw1⟩
  have HA:=zh (add_bad_q ((uh HQ).below (w':=w1) (by rw[hw1];exact fault_below _ _)) 125 _ (by rw[hw1];exact (er_of_is (fault_is 2 w)).elim (fun h=>by cases h.2) (fun h=>by obtain⟨d,hd,he⟩:=h;exact⟨d,2,hd,he⟩)) (uh HL) hm)
  have HB:Hid (Below w.heap.size w w1):=by rw[hw1];exact fault_below _ _
  clear hw1 HP HQ
  go_wp2_with fail
  refine (uh HA).mono ?_
  rintro e w2 ⟨rfl,hq,hf⟩
  have HQ2:=zh (hq.mono (show m<=m+70000 from by omega))
  have HF:=zh ((FT.of_below (W:=W) (uh HB)).trans hf)
  clear hq hf HA
  go_wp2
  go_end0
  exact⟨rfl,uh HQ2,uh HF⟩
theorem WQ.set {w0 w:World} {W:Nat} {p:Pkv} {st:Option (List Int)} {m:Nat} (h:WQ w0 w W p st m) (q:Pkv) (i:Nat) (hi:i<19) (hq:∀ j,j≠i->q.cell j=p.cell j):WQ w0 (w.setCell ⟨W,i,none⟩ (q.cell i)) W q st m:=by
 obtain⟨h1,h2,h3,bv,sz,T,E,h4,h5,h6,h7⟩:=h
 have hx:BX W (fun j=>j=i) w (w.setCell ⟨W,i,none⟩ (q.cell i)):=(BX.refl _ _ _).set i _ rfl
 have ne:∀ j,19<=j->(⟨W,i,none⟩:Addr)≠⟨W,j,none⟩:=fun j hj e=>by injection e with _ e;omega
 obtain⟨⟨a1,a2⟩,⟨b1,b2⟩,c1,c2⟩:=h4.wt
 refine⟨⟨h1.os,h1.tape,h1.output,by simpa [World.setCell] using h1.size,fun k hk=>(Below.heap_setCell _ _ _ _ (by show k≠W;omega)).trans (h1.block k hk)⟩,h2,h3.set q i hi hq,bv,sz,T,E,h4.bx hx ⟨⟨(World.cell?_setCell_other _ _ _ _ (ne 19 (by omega))).trans a1,by simpa using a2⟩,⟨(World.cell?_setCell_other _ _ _ _ (ne 20 (by omega))).trans b1,by simpa using b2⟩,(World.cell?_setCell_other _ _ _ _ (ne 21 (by omega))).trans c1,by simpa using c2⟩,h5,h6,h7.fw (FB.of_bx hx)⟩
theorem take_int (W j:Nat) (x:Int) (w:World) (hc:w.cell? ⟨W,j,none⟩=some (.int .i64 x)) (hf:w.frozen? ⟨W,j,none⟩=false):Calls Tryz.prog 50 #[.pointer (some ⟨W,j,none⟩)] w fun e w'=>e=.returned (.int .i64 x)/\w'=w.setCell ⟨W,j,none⟩ (.int .i64 0):=by
 go_enter Tryz.func50,Tryz.ntmps50
 go_wp2
 go_ret
 exact⟨rfl,rfl⟩
theorem take_str (W j:Nat) (x:ByteArray) (w:World) (hc:w.cell? ⟨W,j,none⟩=some (.string x)) (hf:w.frozen? ⟨W,j,none⟩=false):Calls Tryz.prog 98 #[.pointer (some ⟨W,j,none⟩)] w fun e w'=>e=.returned (.string x)/\w'=w.setCell ⟨W,j,none⟩ (.string ⟨#[]⟩):=by
 go_enter Tryz.func98,Tryz.ntmps98
 go_wp2
 go_ret
 exact⟨rfl,rfl⟩
theorem take_props (W j:Nat) (x:Sl) (w:World) (hc:w.cell? ⟨W,j,none⟩=some (x.val)) (hf:w.frozen? ⟨W,j,none⟩=false):Calls Tryz.prog 52 #[.pointer (some ⟨W,j,none⟩)] w fun e w'=>e=.returned (x.val)/\w'=w.setCell ⟨W,j,none⟩ (sl0.val):=by
 obtain⟨a,n,c⟩:=x
 have hc:w.cell? ⟨W,j,none⟩=some (.slice a n c):=hc
 go_enter Tryz.func52,Tryz.ntmps52
 go_wp2
 go_ret
 exact⟨rfl,rfl⟩
theorem take_wills (W j:Nat) (x:Sl) (w:World) (hc:w.cell? ⟨W,j,none⟩=some (x.val)) (hf:w.frozen? ⟨W,j,none⟩=false):Calls Tryz.prog 99 #[.pointer (some ⟨W,j,none⟩)] w fun e w'=>e=.returned (x.val)/\w'=w.setCell ⟨W,j,none⟩ (sl0.val):=by
 obtain⟨a,n,c⟩:=x
 have hc:w.cell? ⟨W,j,none⟩=some (.slice a n c):=hc
 go_enter Tryz.func99,Tryz.ntmps99
 go_wp2
 go_ret
 exact⟨rfl,rfl⟩
theorem take_strs (W j:Nat) (x:Sl) (w:World) (hc:w.cell? ⟨W,j,none⟩=some (x.val)) (hf:w.frozen? ⟨W,j,none⟩=false):Calls Tryz.prog 101 #[.pointer (some ⟨W,j,none⟩)] w fun e w'=>e=.returned (x.val)/\w'=w.setCell ⟨W,j,none⟩ (sl0.val):=by
 obtain⟨a,n,c⟩:=x
 have hc:w.cell? ⟨W,j,none⟩=some (.slice a n c):=hc
 go_enter Tryz.func101,Tryz.ntmps101
 go_wp2
 go_ret
 exact⟨rfl,rfl⟩
def Pkv.no_props (p:Pkv):Pkv:={ p with props:=sl0 }
def Pkv.no_client (p:Pkv):Pkv:={ p with client:=⟨#[]⟩ }
def Pkv.no_keep (p:Pkv):Pkv:={ p with keep:=0 }
def Pkv.no_wills (p:Pkv):Pkv:={ p with wills:=sl0 }
def Pkv.no_user (p:Pkv):Pkv:={ p with user:=sl0 }
def Pkv.no_pass (p:Pkv):Pkv:={ p with pass:=sl0 }
def Pkv.no_clean (p:Pkv):Pkv:={ p with clean:=false }
theorem take_props_q {w0 w:World} {W:Nat} {p:Pkv} {st:Option (List Int)} {m:Nat} (h:WQ w0 w W p st m) (x:Sl) (hx:p.props=x):Calls Tryz.prog 52 #[.pointer (some ⟨W,7,none⟩)] w fun e w'=>e=.returned (x.val)/\WQ w0 w' W p.no_props st m:=by
 subst hx
 refine (take_props W 7 p.props w h.pk.props h.pk.props_f).mono ?_
 rintro e w' ⟨rfl,rfl⟩
 exact⟨rfl,h.set p.no_props 7 (by omega) (fun j hj=>by unfold Pkv.no_props Pkv.cell;split<;>first|rfl|exact absurd rfl hj)⟩
theorem take_client_q {w0 w:World} {W:Nat} {p:Pkv} {st:Option (List Int)} {m:Nat} (h:WQ w0 w W p st m) (x:ByteArray) (hx:p.client=x):Calls Tryz.prog 98 #[.pointer (some ⟨W,8,none⟩)] w fun e w'=>e=.returned (.string x)/\WQ w0 w' W p.no_client st m:=by
 subst hx
 refine (take_str W 8 p.client w h.pk.client h.pk.client_f).mono ?_
 rintro e w' ⟨rfl,rfl⟩
 exact⟨rfl,h.set p.no_client 8 (by omega) (fun j hj=>by unfold Pkv.no_client Pkv.cell;split<;>first|rfl|exact absurd rfl hj)⟩
theorem take_keep_q {w0 w:World} {W:Nat} {p:Pkv} {st:Option (List Int)} {m:Nat} (h:WQ w0 w W p st m) (x:Int) (hx:p.keep=x):Calls Tryz.prog 50 #[.pointer (some ⟨W,10,none⟩)] w fun e w'=>e=.returned (.int .i64 x)/\WQ w0 w' W p.no_keep st m:=by
 subst hx
 refine (take_int W 10 p.keep w h.pk.keep h.pk.keep_f).mono ?_
 rintro e w' ⟨rfl,rfl⟩
 exact⟨rfl,h.set p.no_keep 10 (by omega) (fun j hj=>by unfold Pkv.no_keep Pkv.cell;split<;>first|rfl|exact absurd rfl hj)⟩
theorem take_wills_q {w0 w:World} {W:Nat} {p:Pkv} {st:Option (List Int)} {m:Nat} (h:WQ w0 w W p st m) (x:Sl) (hx:p.wills=x):Calls Tryz.prog 99 #[.pointer (some ⟨W,11,none⟩)] w fun e w'=>e=.returned (x.val)/\WQ w0 w' W p.no_wills st m:=by
 subst hx
 refine (take_wills W 11 p.wills w h.pk.wills h.pk.wills_f).mono ?_
 rintro e w' ⟨rfl,rfl⟩
 exact⟨rfl,h.set p.no_wills 11 (by omega) (fun j hj=>by unfold Pkv.no_wills Pkv.cell;split<;>first|rfl|exact absurd rfl hj)⟩
theorem take_user_q {w0 w:World} {W:Nat} {p:Pkv} {st:Option (List Int)} {m:Nat} (h:WQ w0 w W p st m) (x:Sl) (hx:p.user=x):Calls Tryz.prog 101 #[.pointer (some ⟨W,12,none⟩)] w fun e w'=>e=.returned (x.val)/\WQ w0 w' W p.no_user st m:=by
 subst hx
 refine (take_strs W 12 p.user w h.pk.user h.pk.user_f).mono ?_
 rintro e w' ⟨rfl,rfl⟩
 exact⟨rfl,h.set p.no_user 12 (by omega) (fun j hj=>by unfold Pkv.no_user Pkv.cell;split<;>first|rfl|exact absurd rfl hj)⟩
theorem take_pass_q {w0 w:World} {W:Nat} {p:Pkv} {st:Option (List Int)} {m:Nat} (h:WQ w0 w W p st m) (x:Sl) (hx:p.pass=x):Calls Tryz.prog 101 #[.pointer (some ⟨W,13,none⟩)] w fun e w'=>e=.returned (x.val)/\WQ w0 w' W p.no_pass st m:=by
 subst hx
 refine (take_strs W 13 p.pass w h.pk.pass h.pk.pass_f).mono ?_
 rintro e w' ⟨rfl,rfl⟩
 exact⟨rfl,h.set p.no_pass 13 (by omega) (fun j hj=>by unfold Pkv.no_pass Pkv.cell;split<;>first|rfl|exact absurd rfl hj)⟩
theorem WQ.no_clean {w0 w:World} {W:Nat} {p:Pkv} {st:Option (List Int)} {m:Nat} (h:WQ w0 w W p st m):WQ w0 (w.setCell ⟨W,9,none⟩ (.bool false)) W p.no_clean st m :=
 h.set p.no_clean 9 (by omega) (fun j hj=>by unfold Pkv.no_clean Pkv.cell;split<;>first|rfl|exact absurd rfl hj)
theorem bind_bind (st:Option (List Int)) (f g:List Int->Option (List Int)):(st.bind f).bind g=st.bind fun t=>(f t).bind g:=by cases st<;>rfl
theorem or_range (a b:Int):-9223372036854775808<=bits .or .i64 a b/\bits .or .i64 a b<=9223372036854775807:=by
 unfold bits
 constructor<;>simp[IntKind.wrap,IntKind.bits,IntKind.signed]<;>omega
def opb (s:Sb):Int:=opv s.qos s.nolocal s.aspub s.handling
def sSub (s:Sb) (t:List Int):Option (List Int):=((sMust (opk s.qos s.handling) t).bind (sAdd (okT s.filter) (tx s.filter))).bind (sAdd (in8 (opb s)) [opb s % 256])
def Ge2 (st:Option (List Int)):Prop:=∀ l,st=some l->2<=l.length
theorem Ge2.one {st:Option (List Int)} (h:Ge2 st):∀ l,st=some l->l.length≠1:=fun l e=>by have:=h l e;omega
theorem Ge2.add {st:Option (List Int)} (h:Ge2 st) (c:Bool) (ys:List Int):Ge2 (st.bind (sAdd c ys)):=fun l e=>by
 cases st with
 | none=>cases e
 | some t =>
  have:=h t rfl
  cases c
  ·cases e
  ·cases e
   rw[List.length_append]
   omega
def sEach {α:Type} (f:α->List Int->Option (List Int)):List α->List Int->Option (List Int)
 | [],t=>some t
 | a::r,t=>(f a t).bind (sEach f r)
theorem each_app {α:Type} (f:α->List Int->Option (List Int)) (b:α):∀ (l:List α) (t:List Int),sEach f (l++[b]) t=(sEach f l t).bind (f b)
 | [],t=>by
  have k:∀ x:Option (List Int),x.bind (sEach f [])=x:=fun x=>by cases x<;>rfl
  exact k _
 | a::r,t=>by
  show (f a t).bind (sEach f (r++[b]))=((f a t).bind (sEach f r)).bind (f b)
  cases f a t with
  | none=>rfl
  | some u=>exact each_app f b r u
theorem each_snoc {α:Type} (f:α->List Int->Option (List Int)) (d:α) (st:Option (List Int)) (l:List α) (k:Nat) (hk:k<l.length):st.bind (sEach f (l.take (k+1)))=(st.bind (sEach f (l.take k))).bind (f (l.getD k d)):=by
 rw[List.take_add_one,List.getElem?_eq_getElem hk,bind_bind,List.getD_eq_getElem?_getD,List.getElem?_eq_getElem hk]
 cases st with
 | none=>rfl
 | some t=>exact each_app f _ _ t
theorem each_nil {α:Type} (f:α->List Int->Option (List Int)) (st:Option (List Int)) (l:List α):st.bind (sEach f (l.take 0))=st:=by cases st<;>rfl
def okP (place:Int) (l:List Pr):Bool:=decide (chkP place l=0)
theorem chkP0 {place:Int} {l:List Pr} (h:chkP place l=0):okTo place l l.length/\l.length<=32:=by
 unfold chkP at h
 by_cases h1:∀ i,i<l.length->okAt place l i=true
 ·rw[if_pos h1]at h
  by_cases h2:l.length<=32
  ·exact⟨h1,h2⟩
  ·rw[if_neg h2]at h;cases h
 ·rw[if_neg h1]at h;cases h
theorem pbs_ne (l:List Pr):pbs l≠[]:=fun e=>by
 unfold pbs at e
 have h:=V.put_len (body l).length
 rw[(List.append_eq_nil_iff.1 e).1]at h
 simp at h
theorem pbs_le {place:Int} {l:List Pr} (h:chkP place l=0):(pbs l).length<=5000000:=by
 obtain⟨hok,h32⟩:=chkP0 h
 have hle:=body_le l place l.length (Nat.le_refl _) hok
 rw[List.take_of_length_le (Nat.le_refl _)]at hle
 unfold pbs
 rw[List.length_append]
 have:=V.put_len (body l).length
 omega
def PutU (place:Int) (l:List Pr) (w:World) (e:Ending) (w':World):Prop:=Below w.heap.size w w' /\
 ((okP place l=true/\∃ v,e=.returned (.tuple #[v,.nilIface])/\w'.ownsRow w.heap.size 5 1 v (pbs l).length ((pbs l).map (Value.int .u8))/\∀ j,0<=(pbs l).getD j 0/\(pbs l).getD j 0<=255) \/
  (okP place l=false/\∃ x,e=.returned (.tuple #[.slice none 0 0,.iface 125 x])/\∃ d n,d<=2/\Er w' d (.iface 125 x) n))
theorem putU_any (v:Value) (l:List Pr) (place:Int) (w:World) (h:Prp w v l) (hmx:l.length<=4398046511104) (hsm:Go.Proofs.YtmpijpjlbhfccaaGreatDoor.Small l):Calls Tryz.prog 103 #[v,.int .i64 place] w (PutU place l w):=by
 by_cases h32:l.length<=200
 ·refine (put_own v l place w h h32 hsm).mono ?_
  rintro e w' ⟨v',E,rfl,hy,hE,hb,ho,hn⟩
  refine⟨hb,?_⟩
  by_cases hc:chkP place l=0
  ·have hz:pbz place l=pbs l:=by unfold pbz;rw[if_pos hc]
   obtain⟨ho2,rfl⟩:=(uh ho) hc
   have hr:=(uh hy).range
   rw[hz]at ho2 hr
   exact .inl ⟨decide_eq_true hc,v',rfl,ho2,hr⟩
  ·obtain⟨rfl,x,rfl⟩:=(uh hn) hc
   rcases er_of_p (uh hE) with⟨h0,_⟩|⟨d,hd,he⟩
   ·exact absurd h0 hc
   ·exact .inr ⟨decide_eq_false hc,x,rfl,d,_,hd,he⟩
 ·refine (put_big v l place w h (by omega) hmx hsm).mono ?_
  rintro e w' ⟨x,n,rfl,hE,hb⟩
  refine⟨hb,.inr ⟨decide_eq_false (fun h=>by have:=(chkP0 h).2;omega),x,rfl,?_⟩⟩
  obtain⟨hE,hn⟩:=uh hE
  rcases er_of_p hE with⟨h0,_⟩|⟨d,hd,he⟩
  ·exact absurd h0 hn
  ·exact⟨d,n,hd,he⟩
theorem props_q {w0 w:World} {W:Nat} {p:Pkv} {st:Option (List Int)} {m:Nat} (h:WQ w0 w W p st m) (v:Value) (l:List Pr) (place:Int) (hP:Prp w v l) (hmx:l.length<=4398046511104) (hsm:Go.Proofs.YtmpijpjlbhfccaaGreatDoor.Small l) (hl:∀ l,st=some l->l.length≠1) (hm:m<=4611686018427387904) :
  Calls Tryz.prog 51 #[.pointer (some ⟨W,0,none⟩),v,.int .i64 place] w (QPost w0 W p (st.bind (sAdd (okP place l) (pbs l))) (m+5000000) w):=by
 have HQ:=zh h
 have HL:=zh hl
 have HP:=zh (putU_any v l place w hP hmx hsm)
 obtain⟨ao,cap,rfl⟩:=hP.form
 have hW:=h.lt
 clear h hl hP hsm
 go_enter Tryz.func51,Tryz.ntmps51
 go_wp2_with fail
 refine (uh HP).mono ?_
 rintro e w1 ⟨hb,⟨hk,v1,rfl,ho,hr⟩|⟨hk,x,rfl,he⟩⟩
 ·have HK:=zh hk
  have hle:=pbs_le (of_decide_eq_true hk)
  have HA:Hid (Calls Tryz.prog 102 #[.pointer (some ⟨W,0,none⟩),v1,.nilIface] w1 (QPost w0 W p (st.bind (sAdd true (pbs l))) (m+5000000) w1)):=by
   obtain⟨h1,h2,h3,bv,sz,T,E,h4,h5,h6,h7⟩:=(uh HQ).below hb
   refine (wadd_any W bv E .nilIface sz T (pbs l) v1 w1 h4 h7.ev (.inl rfl) (fun w' hx=>byt_bxw (B:=w.heap.size) ho hr hx hW) (by omega) (by omega) h5.1).mono ?_
   intro e w' hA
   rw[fst_nil h7.ev]at hA
   obtain⟨k1,k2,k3⟩:=wq_step true h4 h6 h5 h7 h1 h2 h3 hA (pbs_ne l) (fun l' e=>.inl ((uh HL) l' e))
   exact⟨k1,k2.mono (by omega),k3⟩
  have HB:=zh hb
  clear hb ho hr HP HQ hk
  go_wp2_with fail
  refine (uh HA).mono ?_
  rintro e w2 ⟨rfl,hq,hf⟩
  have HF:=zh ((FT.of_below (W:=W) (uh HB)).trans hf)
  have HQ2:=zh hq
  clear hq hf HA
  go_wp2
  go_end0
  exact⟨rfl,by rw[uh HK];exact uh HQ2,uh HF⟩
 ·have HK:=zh hk
  have HA:=zh (add_bad_q ((uh HQ).below hb) 125 x he (uh HL) hm)
  have HB:=zh hb
  clear hb he HP HQ hk
  go_wp2_with fail
  refine (uh HA).mono ?_
  rintro e w2 ⟨rfl,hq,hf⟩
  have HF:=zh ((FT.of_below (W:=W) (uh HB)).trans hf)
  have HQ2:=zh (hq.mono (show m<=m+5000000 from by omega))
  clear hq hf HA
  go_wp2
  go_end0
  exact⟨rfl,by rw[uh HK,bind_no];exact uh HQ2,uh HF⟩
def sReason (code kind:Int) (l:List Pr) (t:List Int):Option (List Int) :=
 if l.length=0 then (if code=0 then some t else sAdd (in8 code) [code % 256] t) else (sAdd (in8 code) [code % 256] t).bind (sAdd (okP kind l) (pbs l))
def GPost (w0:World) (W:Nat) (p:Pkv) (st:Option (List Int)) (m:Nat) (e:Ending) (w':World):Prop:=e=.returned (.tuple #[])/\WF w0 w' W p st m
theorem prp_n {w:World} {s:Sl} {l:List Pr} (h:Prp w s.val l):s.n=l.length:=by
 obtain⟨ao,cap,h1,_⟩:=h
 simp only[Sl.val,Value.slice.injEq]at h1
 exact h1.2.1
def Emp (q:Pkv):Prop:=(q.dup=false/\q.retain=false/\q.clean=false/\q.session=false)/\(q.qos=0/\q.id=0/\q.keep=0/\q.code=0)/\(q.topic.size=0/\q.payload.size=0/\q.client.size=0)/\(q.props.n=0/\q.wills.n=0/\q.user.n=0/\q.pass.n=0/\q.subs.n=0/\q.filters.n=0/\q.codes.n=0)
instance (q:Pkv):Decidable (Emp q):=by unfold Emp;exact inferInstance
def emp (q:Pkv):Bool:=decide (Emp q)
structure Fit (q:Pkv):Prop where
 nums:(-9223372036854775808<=q.qos/\q.qos<=9223372036854775807)/\(-9223372036854775808<=q.id/\q.id<=9223372036854775807)/\(-9223372036854775808<=q.keep/\q.keep<=9223372036854775807)/\(-9223372036854775808<=q.code/\q.code<=9223372036854775807)
 texts:q.topic.size<=1000000000000000000/\q.payload.size<=1000000000000000000/\q.client.size<=1000000000000000000
 lists:q.props.n<=1000000000000000000/\q.wills.n<=1000000000000000000/\q.user.n<=1000000000000000000/\q.pass.n<=1000000000000000000/\q.subs.n<=1000000000000000000/\q.filters.n<=1000000000000000000/\q.codes.n<=1000000000000000000
theorem or_zero (a b:Int) (ha:-9223372036854775808<=a/\a<=9223372036854775807) (hb:-9223372036854775808<=b/\b<=9223372036854775807):bits .or .i64 a b=0 ↔ a=0/\b=0:=by
 constructor
 ·intro h
  have h':IntKind.i64.wrap ((BitVec.ofInt 64 a ||| BitVec.ofInt 64 b).toNat:Int)=0:=h
  rw[IntKind.wrap_i64]at h'
  have hlt:=(BitVec.ofInt 64 a ||| BitVec.ofInt 64 b).isLt
  have h0:(BitVec.ofInt 64 a ||| BitVec.ofInt 64 b).toNat=0:=by omega
  rw[BitVec.toNat_or]at h0
  obtain⟨ha0,hb0⟩:=Nat.or_eq_zero_iff.1 h0
  rw[BitVec.toNat_ofInt]at ha0 hb0
  omega
 ·rintro⟨rfl,rfl⟩
  rfl
theorem empty_any (q:Pkv) (hf:Fit q) (w:World):Calls Tryz.prog 58 #[q.val] w fun e w'=>e=.returned (.bool (emp q))/\Below w.heap.size w w':=by
 obtain⟨⟨f1,f2,f3,f4⟩,⟨t1,t2,t3⟩,l1,l2,l3,l4,l5,l6,l7⟩:=hf
 have HB:Hid (Below w.heap.size w (w.alloc (.cells q.cells.toArray 31))):=bal _ _
 have HPN:=zh (pk_new w q)
 have o1:=or_zero q.qos q.id f1 f2
 have r1:=or_range q.qos q.id
 have o2:=or_zero (bits .or .i64 q.qos q.id) q.keep r1 f3
 have r2:=or_range (bits .or .i64 q.qos q.id) q.keep
 have o3:=or_zero (bits .or .i64 (bits .or .i64 q.qos q.id) q.keep) q.code r2 f4
 have HE:Hid (emp q=(!(q.dup||q.retain||q.clean||q.session)&&decide (bits .or .i64 (bits .or .i64 (bits .or .i64 q.qos q.id) q.keep) q.code=0)&&decide (q.topic.size+q.payload.size+q.client.size=0)&&decide (q.props.n+q.wills.n+q.user.n+q.pass.n+q.subs.n+q.filters.n+q.codes.n=0))):=by
  show _=_
  unfold emp
  rw[Bool.eq_iff_iff,decide_eq_true_iff]
  unfold Emp
  simp only[decide_eq_true_iff,Bool.and_eq_true,Bool.not_eq_true',Bool.or_eq_false_iff]
  rw[o3,o2,o1]
  constructor
  ·rintro⟨⟨a1,a2,a3,a4⟩,⟨b1,b2,b3,b4⟩,⟨c1,c2,c3⟩,d1,d2,d3,d4,d5,d6,d7⟩
   exact⟨⟨⟨⟨⟨⟨a1,a2⟩,a3⟩,a4⟩,⟨⟨b1,b2⟩,b3⟩,b4⟩,by omega⟩,by omega⟩
  ·rintro⟨⟨⟨⟨⟨⟨a1,a2⟩,a3⟩,a4⟩,⟨⟨b1,b2⟩,b3⟩,b4⟩,c⟩,d⟩
   exact⟨⟨a1,a2,a3,a4⟩,⟨b1,b2,b3,b4⟩,⟨by omega,by omega,by omega⟩,by omega,by omega,by omega,by omega,by omega,by omega,by omega⟩
 clear o1 o2 o3 r1 r2 f1 f2 f3 f4
 obtain⟨k0,k1,k2,k3,k4,k5,k6,k7,k8,k9,k10,k11,k12,k13,k14,k15,k16,k17,k18⟩:=(⟨(uh HPN).kind,(uh HPN).dup,(uh HPN).qos,(uh HPN).retain,(uh HPN).topic,(uh HPN).id,(uh HPN).payload,(uh HPN).props,(uh HPN).client,(uh HPN).clean,(uh HPN).keep,(uh HPN).wills,(uh HPN).user,(uh HPN).pass,(uh HPN).code,(uh HPN).session,(uh HPN).subs,(uh HPN).filters,(uh HPN).codes⟩:_/\_/\_/\_/\_/\_/\_/\_/\_/\_/\_/\_/\_/\_/\_/\_/\_/\_/\_)
 clear HPN k0
 go_enter Tryz.func58,Tryz.ntmps58
 go_upto_region 1 with fail
 change Code.wp _ _ _ _ (w.alloc (.cells q.cells.toArray 31))
 generalize w.alloc (.cells q.cells.toArray 31)=w1 at *
 generalize hN:bits .or .i64 (bits .or .i64 (bits .or .i64 q.qos q.id) q.keep) q.code=N at HE
 generalize q.dup=b1 at k1 HE
 generalize q.retain=b2 at k3 HE
 generalize q.clean=b3 at k9 HE
 generalize q.session=b4 at k15 HE
 cases b1
 ·cases b2
  ·cases b3
   ·cases b4
    ·by_cases hn:N=0
     ·subst hn
      by_cases ht:q.topic.size+q.payload.size+q.client.size=0
      ·have ht':((q.topic.size:Int)+(q.payload.size:Int)+(q.client.size:Int)==0)=true:=by simp;omega
       by_cases hl:q.props.n+q.wills.n+q.user.n+q.pass.n+q.subs.n+q.filters.n+q.codes.n=0
       ·have hl':((q.props.n:Int)+(q.wills.n:Int)+(q.user.n:Int)+(q.pass.n:Int)+(q.subs.n:Int)+(q.filters.n:Int)+(q.codes.n:Int)==0)=true:=by simp;omega
        have HR:Hid (emp q=true):=by show _=_;rw[uh HE,ht,hl];rfl
        clear HE ht hl
        go_wp2
        go_ret
        exact⟨by rw[uh HR];rfl,uh HB⟩
       ·have hl':((q.props.n:Int)+(q.wills.n:Int)+(q.user.n:Int)+(q.pass.n:Int)+(q.subs.n:Int)+(q.filters.n:Int)+(q.codes.n:Int)==0)=false:=by simp;omega
        have HR:Hid (emp q=false):=by show _=_;rw[uh HE,ht,decide_eq_false hl];rfl
        clear HE ht hl
        go_wp2
        go_ret
        exact⟨by rw[uh HR];rfl,uh HB⟩
      ·have ht':((q.topic.size:Int)+(q.payload.size:Int)+(q.client.size:Int)==0)=false:=by simp;omega
       have HR:Hid (emp q=false):=by show _=_;rw[uh HE,decide_eq_false ht];rfl
       clear HE ht
       go_wp2
       go_ret
       exact⟨by rw[uh HR];rfl,uh HB⟩
     ·have hn':(N==0)=false:=beq_false_of_ne hn
      have HR:Hid (emp q=false):=by show _=_;rw[uh HE,decide_eq_false hn];rfl
      clear HE hn
      go_wp2
      go_ret
      exact⟨by rw[uh HR];rfl,uh HB⟩
    ·have HR:Hid (emp q=false):=by show _=_;rw[uh HE];rfl
     clear HE
     go_wp2
     go_ret
     exact⟨by rw[uh HR];rfl,uh HB⟩
   ·have HR:Hid (emp q=false):=by show _=_;rw[uh HE];rfl
    clear HE
    go_wp2
    go_ret
    exact⟨by rw[uh HR];rfl,uh HB⟩
  ·have HR:Hid (emp q=false):=by show _=_;rw[uh HE];rfl
   clear HE
   go_wp2
   go_ret
   exact⟨by rw[uh HR];rfl,uh HB⟩
 ·have HR:Hid (emp q=false):=by show _=_;rw[uh HE];rfl
  clear HE
  go_wp2
  go_ret
  exact⟨by rw[uh HR];rfl,uh HB⟩
theorem Fit.no_props {q:Pkv} (h:Fit q):Fit q.no_props:=by
 obtain⟨⟨a1,a2,a3,a4⟩,⟨b1,b2,b3⟩,c1,c2,c3,c4,c5,c6,c7⟩:=h
 refine⟨⟨?_,?_,?_,?_⟩,⟨?_,?_,?_⟩,?_,?_,?_,?_,?_,?_,?_⟩<;>first|assumption|exact Nat.zero_le _|exact (show (-9223372036854775808:Int)<=0/\(0:Int)<=9223372036854775807 from ⟨by decide,by decide⟩)
theorem Fit.no_client {q:Pkv} (h:Fit q):Fit q.no_client:=by
 obtain⟨⟨a1,a2,a3,a4⟩,⟨b1,b2,b3⟩,c1,c2,c3,c4,c5,c6,c7⟩:=h
 refine⟨⟨?_,?_,?_,?_⟩,⟨?_,?_,?_⟩,?_,?_,?_,?_,?_,?_,?_⟩<;>first|assumption|exact Nat.zero_le _|exact (show (-9223372036854775808:Int)<=0/\(0:Int)<=9223372036854775807 from ⟨by decide,by decide⟩)
theorem Fit.no_keep {q:Pkv} (h:Fit q):Fit q.no_keep:=by
 obtain⟨⟨a1,a2,a3,a4⟩,⟨b1,b2,b3⟩,c1,c2,c3,c4,c5,c6,c7⟩:=h
 refine⟨⟨?_,?_,?_,?_⟩,⟨?_,?_,?_⟩,?_,?_,?_,?_,?_,?_,?_⟩<;>first|assumption|exact Nat.zero_le _|exact (show (-9223372036854775808:Int)<=0/\(0:Int)<=9223372036854775807 from ⟨by decide,by decide⟩)
theorem Fit.no_wills {q:Pkv} (h:Fit q):Fit q.no_wills:=by
 obtain⟨⟨a1,a2,a3,a4⟩,⟨b1,b2,b3⟩,c1,c2,c3,c4,c5,c6,c7⟩:=h
 refine⟨⟨?_,?_,?_,?_⟩,⟨?_,?_,?_⟩,?_,?_,?_,?_,?_,?_,?_⟩<;>first|assumption|exact Nat.zero_le _|exact (show (-9223372036854775808:Int)<=0/\(0:Int)<=9223372036854775807 from ⟨by decide,by decide⟩)
theorem Fit.no_user {q:Pkv} (h:Fit q):Fit q.no_user:=by
 obtain⟨⟨a1,a2,a3,a4⟩,⟨b1,b2,b3⟩,c1,c2,c3,c4,c5,c6,c7⟩:=h
 refine⟨⟨?_,?_,?_,?_⟩,⟨?_,?_,?_⟩,?_,?_,?_,?_,?_,?_,?_⟩<;>first|assumption|exact Nat.zero_le _|exact (show (-9223372036854775808:Int)<=0/\(0:Int)<=9223372036854775807 from ⟨by decide,by decide⟩)
theorem Fit.no_pass {q:Pkv} (h:Fit q):Fit q.no_pass:=by
 obtain⟨⟨a1,a2,a3,a4⟩,⟨b1,b2,b3⟩,c1,c2,c3,c4,c5,c6,c7⟩:=h
 refine⟨⟨?_,?_,?_,?_⟩,⟨?_,?_,?_⟩,?_,?_,?_,?_,?_,?_,?_⟩<;>first|assumption|exact Nat.zero_le _|exact (show (-9223372036854775808:Int)<=0/\(0:Int)<=9223372036854775807 from ⟨by decide,by decide⟩)
theorem Fit.no_clean {q:Pkv} (h:Fit q):Fit q.no_clean:=by
 obtain⟨⟨a1,a2,a3,a4⟩,⟨b1,b2,b3⟩,c1,c2,c3,c4,c5,c6,c7⟩:=h
 refine⟨⟨?_,?_,?_,?_⟩,⟨?_,?_,?_⟩,?_,?_,?_,?_,?_,?_,?_⟩<;>first|assumption|exact Nat.zero_le _|exact (show (-9223372036854775808:Int)<=0/\(0:Int)<=9223372036854775807 from ⟨by decide,by decide⟩)
theorem WF.below {w0 w w':World} {W:Nat} {p:Pkv} {st:Option (List Int)} {m:Nat} (h:WF w0 w W p st m) (hb:Below w.heap.size w w'):WF w0 w' W p st m:=by
 obtain⟨h1,h2,h3,bv,sz,T,E,h4,h5,h6,h7⟩:=h
 refine⟨h1.trans (hb.mono h1.size),h2,h3.below hb,bv,sz,T,E,h4.below hb,h5,h6,?_⟩
 cases st with
 | none=>obtain⟨d,n,hd,he⟩:=h7;exact⟨d,n,hd,ErO.bx (X:=fun b=>b=W) (may:=isAny) (BX.of_below hb (cell_lt h3.kind)) rfl he⟩
 | some l=>exact h7
theorem SgF.ev {w:World} {W:Nat} {sz:Nat} {T:List Int} {E:Value} {st:Option (List Int)} (h:SgF w W sz T E st):EV E:=by
 cases st with
 | none=>obtain⟨d,n,hd,he⟩:=h;exact .inr he.iface
 | some l=>exact .inl h.1
theorem must_f {w0 w:World} {W:Nat} {p:Pkv} {st:Option (List Int)} {m:Nat} (h:WF w0 w W p st m) (c:Bool):Calls Tryz.prog 57 #[.pointer (some ⟨W,0,none⟩),.bool c] w (GPost w0 W p (st.bind (sMust c)) m):=by
 obtain⟨h1,h2,h3,bv,sz,T,E,h4,h5,h6,h7⟩:=h
 refine (wmust_gen W bv E sz c w h4.wt h7.ev).mono ?_
 rintro r w' ⟨rfl,k1,k2,k3⟩
 have hF:FW W bv.ownBlock w w':=FW.of_bx k2 (fun j (e:j=21)=>by subst e;decide)
 refine⟨rfl,hF.below h1 h2 (fun g e=>by have:=ws_rows h4 g e;omega),h2,h3.fw hF,bv,sz,T,_,h4.bx k2 k1,h5,h6,?_⟩
 cases st with
 | none =>
  obtain⟨d,n,hd,he⟩:=h7
  obtain⟨t,x,rfl⟩:=he.iface
  rw[mst_if]
  exact⟨d,n,hd,ErO.bx (X:=fun b=>b=W) k2 rfl he⟩
 | some l =>
  obtain⟨rfl,k⟩:=h7
  cases c
  ·exact⟨0,1,by omega,rfl⟩
  ·exact⟨rfl,k⟩
theorem sh16 (x:Int) (h0:0<=x) (h1:x<=255):x>>>4=x/16:=byte_cases (P:=fun x=>x>>>4=x/16) (by decide +kernel) x h0 h1
theorem and15 (x:Int) (h0:0<=x) (h1:x<=255):bits .and .i64 x 15=x % 16:=byte_cases (P:=fun x=>bits .and .i64 x 15=x % 16) (by decide +kernel) x h0 h1
theorem and8' (x:Int) (h0:0<=x) (h1:x<=255):(bits .and .i64 (x % 16) 8 != 0)=btest x 8:=byte_cases (P:=fun x=>(bits .and .i64 (x % 16) 8 != 0)=btest x 8) (by decide +kernel) x h0 h1
theorem and1' (x:Int) (h0:0<=x) (h1:x<=255):(bits .and .i64 (x % 16) 1 != 0)=btest x 1:=byte_cases (P:=fun x=>(bits .and .i64 (x % 16) 1 != 0)=btest x 1) (by decide +kernel) x h0 h1
theorem shq' (x:Int) (h0:0<=x) (h1:x<=255):bits .and .i64 (x % 16/2) 3=x/2 % 4:=byte_cases (P:=fun x=>bits .and .i64 (x % 16/2) 3=x/2 % 4) (by decide +kernel) x h0 h1
def bpk (b:Int):Pkv:=if b/16=3 then pk0 3 (btest b 8) (b/2 % 4) (btest b 1) else pk0 (b/16) false 0 false
def bpa (b:Int):Pa:=if b/16=3 then pa0 3 (btest b 8) (b/2 % 4) (btest b 1) else pa0 (b/16) false 0 false
def bfl (b:Int):Int:=if b/16=3 then pfl (btest b 8) (b/2 % 4) (btest b 1) else if b/16=6\/b/16=8\/b/16=10 then 2 else 0
def bmay (b:Int):Bool:=if b/16=3 then pok (btest b 8) (b/2 % 4) else if b/16=6\/b/16=8\/b/16=10 then true else decide (1<=b/16)&&decide (b/16<=15)
def bok (b:Int):Bool:=bmay b&&(bfl b==b % 16)
theorem flagsOf_b (b:Int) (w:World):Calls Tryz.prog 22 #[(bpk b).val] w fun e w'=>e=.returned (.tuple #[.int .i64 (bfl b),.bool (bmay b)])/\Below w.heap.size w w':=by
 unfold bfl bmay bpk
 by_cases h3:b/16=3
 ·simp only[if_pos h3]
  exact flagsOf_pub _ w rfl
 ·simp only[if_neg h3]
  by_cases h6:b/16=6\/b/16=8\/b/16=10
  ·simp only[if_pos h6]
   exact flagsOf_fixed _ w h6
  ·simp only[if_neg h6]
   exact flagsOf_other _ w h3 (fun e=>h6 (.inl e)) (fun e=>h6 (.inr (.inl e))) (fun e=>h6 (.inr (.inr e)))
theorem begin_any (b:Int) (h0:0<=b) (h1:b<=255) (w:World):Calls Tryz.prog 32 #[.int .i64 b] w fun e w'=>e=.returned (.tuple #[(bpk b).val,.bool (bok b)])/\Below w.heap.size w w':=by
 have k1:=sh16 b h0 h1
 have k2:=and15 b h0 h1
 have k3:=and8' b h0 h1
 have k4:=and1' b h0 h1
 have k5:=shq' b h0 h1
 by_cases h3:b/16=3
 ·have e1:bpk b=pk0 3 (btest b 8) (b/2 % 4) (btest b 1):=if_pos h3
  have HE:=zh e1
  clear e1
  have HPN:=zh (pk_new w (pk0 3 (btest b 8) (b/2 % 4) (btest b 1)))
  have hbN:Hid (Below w.heap.size w (w.alloc (.cells (pk0 3 (btest b 8) (b/2 % 4) (btest b 1)).cells.toArray 31))):=bal _ _
  have HFL:Hid (∀ W:World,Calls Tryz.prog 22 #[.agg (pk0 3 (btest b 8) (b/2 % 4) (btest b 1)).cells.toArray] W fun e w'=>e=.returned (.tuple #[.int .i64 (bfl b),.bool (bmay b)])/\Below W.heap.size W w'):=fun W=>by
   have k:=flagsOf_b b W
   rw[uh HE]at k
   exact k
  have HR:Hid (∀ mb fl,bmay b=mb->bfl b=fl->bok b=(mb&&(fl==b % 16))):=fun mb fl e1 e2=>by rw[<- e1,<- e2];rfl
  generalize hfl:bfl b=fl at HFL
  generalize hmb:bmay b=mb at HFL
  have HOK:=zh ((uh HR) mb fl hmb hfl)
  clear hfl hmb HR
  go_enter Tryz.func32,Tryz.ntmps32
  go_upto_region 6 with fail
  go_step
  refine wpList_load_mid rfl 31 _ rfl w.heap.size 0 rfl (pk0 3 (btest b 8) (b/2 % 4) (btest b 1)).cells _ (uh HPN).range Tryz.underlying31 rfl packet_size ?_
  simp only[sp]
  go_wp2_with fail
  refine ((uh HFL) _).mono ?_
  rintro e w1 ⟨rfl,hb1⟩
  have HP1:=zh ((uh HPN).below hb1)
  have HB1:Hid (Below w.heap.size w w1):=(uh hbN).trans (hb1.mono (uh hbN).size)
  clear hb1 hbN HPN HFL
  cases mb
  ·go_upto_region 7 with fail
   go_step
   refine wpList_load_mid rfl 31 _ rfl w.heap.size 0 rfl (pk0 3 (btest b 8) (b/2 % 4) (btest b 1)).cells _ (uh HP1).range Tryz.underlying31 rfl packet_size ?_
   simp only[sp]
   ((iterate 6 go_step);go_skip;(iterate 3 go_step))
   refine wpList_store_mid rfl 31 _ _ rfl w.heap.size 0 (pk0 3 (btest b 8) (b/2 % 4) (btest b 1)).cells.toArray rfl rfl ((uh HP1).there _) packet_size (Pkv.ones' _) ?_
   simp only[Act.put]
   have HPS:=zh ((uh HP1).stored (pk0 3 (btest b 8) (b/2 % 4) (btest b 1)))
   have HBS:Hid (Below w.heap.size w (w1.setCells w.heap.size 0 (pk0 3 (btest b 8) (b/2 % 4) (btest b 1)).cells)):=setCells_below (uh HB1) (Nat.le_refl _)
   generalize w1.setCells w.heap.size 0 (pk0 3 (btest b 8) (b/2 % 4) (btest b 1)).cells=w2 at HPS HBS |-
   go_wp2
   refine bodyPost_ret (res_pk2 (B:=w.heap.size) (q:=(pk0 3 (btest b 8) (b/2 % 4) (btest b 1))) rfl rfl (uh HPS)) rfl ?_
   exact⟨by rw[uh HOK,uh HE];rfl,uh HBS⟩
  ·go_upto_region 7 with fail
   go_step
   refine wpList_load_mid rfl 31 _ rfl w.heap.size 0 rfl (pk0 3 (btest b 8) (b/2 % 4) (btest b 1)).cells _ (uh HP1).range Tryz.underlying31 rfl packet_size ?_
   simp only[sp]
   iterate 15 go_step
   refine wpList_store_mid rfl 31 _ _ rfl w.heap.size 0 (pk0 3 (btest b 8) (b/2 % 4) (btest b 1)).cells.toArray rfl rfl ((uh HP1).there _) packet_size (Pkv.ones' _) ?_
   simp only[Act.put]
   have HPS:=zh ((uh HP1).stored (pk0 3 (btest b 8) (b/2 % 4) (btest b 1)))
   have HBS:Hid (Below w.heap.size w (w1.setCells w.heap.size 0 (pk0 3 (btest b 8) (b/2 % 4) (btest b 1)).cells)):=setCells_below (uh HB1) (Nat.le_refl _)
   generalize w1.setCells w.heap.size 0 (pk0 3 (btest b 8) (b/2 % 4) (btest b 1)).cells=w2 at HPS HBS |-
   go_wp2
   refine bodyPost_ret (res_pk2 (B:=w.heap.size) (q:=(pk0 3 (btest b 8) (b/2 % 4) (btest b 1))) rfl rfl (uh HPS)) rfl ?_
   exact⟨by rw[uh HOK,uh HE];rfl,uh HBS⟩
 ·have e1:bpk b=pk0 (b/16) false 0 false:=if_neg h3
  have HE:=zh e1
  clear e1
  have HPN:=zh (pk_new w (pk0 (b/16) false 0 false))
  have hbN:Hid (Below w.heap.size w (w.alloc (.cells (pk0 (b/16) false 0 false).cells.toArray 31))):=bal _ _
  have HFL:Hid (∀ W:World,Calls Tryz.prog 22 #[.agg (pk0 (b/16) false 0 false).cells.toArray] W fun e w'=>e=.returned (.tuple #[.int .i64 (bfl b),.bool (bmay b)])/\Below W.heap.size W w'):=fun W=>by
   have k:=flagsOf_b b W
   rw[uh HE]at k
   exact k
  have HR:Hid (∀ mb fl,bmay b=mb->bfl b=fl->bok b=(mb&&(fl==b % 16))):=fun mb fl e1 e2=>by rw[<- e1,<- e2];rfl
  generalize hfl:bfl b=fl at HFL
  generalize hmb:bmay b=mb at HFL
  have HOK:=zh ((uh HR) mb fl hmb hfl)
  clear hfl hmb HR
  go_enter Tryz.func32,Tryz.ntmps32
  go_upto_region 6 with fail
  go_step
  refine wpList_load_mid rfl 31 _ rfl w.heap.size 0 rfl (pk0 (b/16) false 0 false).cells _ (uh HPN).range Tryz.underlying31 rfl packet_size ?_
  simp only[sp]
  go_wp2_with fail
  refine ((uh HFL) _).mono ?_
  rintro e w1 ⟨rfl,hb1⟩
  have HP1:=zh ((uh HPN).below hb1)
  have HB1:Hid (Below w.heap.size w w1):=(uh hbN).trans (hb1.mono (uh hbN).size)
  clear hb1 hbN HPN HFL
  cases mb
  ·go_upto_region 7 with fail
   go_step
   refine wpList_load_mid rfl 31 _ rfl w.heap.size 0 rfl (pk0 (b/16) false 0 false).cells _ (uh HP1).range Tryz.underlying31 rfl packet_size ?_
   simp only[sp]
   ((iterate 6 go_step);go_skip;(iterate 3 go_step))
   refine wpList_store_mid rfl 31 _ _ rfl w.heap.size 0 (pk0 (b/16) false 0 false).cells.toArray rfl rfl ((uh HP1).there _) packet_size (Pkv.ones' _) ?_
   simp only[Act.put]
   have HPS:=zh ((uh HP1).stored (pk0 (b/16) false 0 false))
   have HBS:Hid (Below w.heap.size w (w1.setCells w.heap.size 0 (pk0 (b/16) false 0 false).cells)):=setCells_below (uh HB1) (Nat.le_refl _)
   generalize w1.setCells w.heap.size 0 (pk0 (b/16) false 0 false).cells=w2 at HPS HBS |-
   go_wp2
   refine bodyPost_ret (res_pk2 (B:=w.heap.size) (q:=(pk0 (b/16) false 0 false)) rfl rfl (uh HPS)) rfl ?_
   exact⟨by rw[uh HOK,uh HE];rfl,uh HBS⟩
  ·go_upto_region 7 with fail
   go_step
   refine wpList_load_mid rfl 31 _ rfl w.heap.size 0 rfl (pk0 (b/16) false 0 false).cells _ (uh HP1).range Tryz.underlying31 rfl packet_size ?_
   simp only[sp]
   iterate 15 go_step
   refine wpList_store_mid rfl 31 _ _ rfl w.heap.size 0 (pk0 (b/16) false 0 false).cells.toArray rfl rfl ((uh HP1).there _) packet_size (Pkv.ones' _) ?_
   simp only[Act.put]
   have HPS:=zh ((uh HP1).stored (pk0 (b/16) false 0 false))
   have HBS:Hid (Below w.heap.size w (w1.setCells w.heap.size 0 (pk0 (b/16) false 0 false).cells)):=setCells_below (uh HB1) (Nat.le_refl _)
   generalize w1.setCells w.heap.size 0 (pk0 (b/16) false 0 false).cells=w2 at HPS HBS |-
   go_wp2
   refine bodyPost_ret (res_pk2 (B:=w.heap.size) (q:=(pk0 (b/16) false 0 false)) rfl rfl (uh HPS)) rfl ?_
   exact⟨by rw[uh HOK,uh HE];rfl,uh HBS⟩
def PackPost (w0:World) (R:Nat) (P:Pa) (st:Option (List Int)) (w:World) (e:Ending) (w':World):Prop :=
 e=.returned (.tuple #[])/\∃ (p':Pkv) (P':Pa) (st':Option (List Int)),Pk w' R p'/\Hid (Mean w' w.heap.size p' P')/\Stp (packet? P) st P' st'/\RS w0 w' R st'/\BX R isAny w w'
theorem Mean.bx {w w':World} {R B:Nat} {may:Nat->Prop} {p:Pkv} {P:Pa} (h:Mean w B p P) (hx:BX R may w w') (hR:R<B):Mean w' B p P :=
 ⟨h.sc,owns_bx h.props hx hR,by
  obtain⟨ws,h1,h2,h3⟩:=h.wills
  exact⟨ws,owns_bx h1 hx hR,h2,fun i a b ha hb=>by
   obtain⟨k1,k2,k3,k4,k5⟩:=h3 i a b ha hb
   exact⟨k1,k2,k3,k4,owns_bx k5 hx hR⟩⟩,owns_bx h.user hx hR,owns_bx h.pass hx hR,owns_bx h.subs hx hR,owns_bx h.filters hx hR,owns_bx h.codes hx hR⟩
theorem packet_stp {P P':Pa} {st st1 st2:Option (List Int)} (h:Stp (body? P) st P' st1) (h2:Stp endR st1 () st2):Stp (packet? P) st P' st2:=h.bind (h2.bind (Stp.pure _ _))
end Go.Proofs.YtmpijpjlbhfccaaGreatDoor.K
