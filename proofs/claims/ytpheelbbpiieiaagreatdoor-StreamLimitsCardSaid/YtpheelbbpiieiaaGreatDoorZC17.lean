/- Proved here: helpers, one text behind the other. -/
import Derived.Test.YtpheelbbpiieiaaGreatDoorZC16
import Derived.Test.YtpheelbbpiieiaaGreatDoorZC8
import Derived.Test.YtpheelbbpiieiaaGreatDoorZC5
import Derived.Test.YtpheelbbpiieiaaGreatDoorZC7
set_option maxHeartbeats 20000000
namespace Go.Proofs.YtpheelbbpiieiaaGreatDoor
open Go.RowKit
set_option maxRecDepth 100000
def pbd (l:List Int):List Int:=(l.drop (ghd l)).take (gid l).toNat
def pgt (place:Int) (l:List Int):Int:=if (V.vget l).2.2≠0 then (V.vget l).2.2 else if l.length < ghd l+(gid l).toNat then 3 else rdn place (pbd l)
def plist (place:Int) (l:List Int):List Pr:=if pgt place l=0 then (parse (pbd l)).getD [] else []
def psz (place:Int) (l:List Int):Int:=if pgt place l=0 then ghd l+(gid l).toNat else 0
def GetPost2 (place:Int) (l:List Int) (w:World) (e:Ending) (w':World):Prop :=
 ∃ v E,e=.returned (.tuple #[v,.int .i64 (psz place l),E])/\Hid (w'.ownsRow w.heap.size 109 4 v (plist place l).length (pcs (plist place l)))/\Hid (ErrP w' E (pgt place l))/\Below w.heap.size w w'/\(pgt place l=0->E=.nilIface)
theorem get_post_bad (place:Int) (l:List Int) (w w':World) (n:Int) (hp:pgt place l=n) (hn:n≠0) (x:Value) (hE:Hid (ErrP w' (.iface 118 x) n)) (hb:Below w.heap.size w w'):GetPost2 place l w (.returned (.tuple #[.slice none 0 0,.int .i64 0,.iface 118 x])) w':=by
 refine⟨.slice none 0 0,.iface 118 x,?_,?_,by rw[hp];exact hE,hb,fun h0=>absurd (hp.symm.trans h0) hn⟩
 ·unfold psz
  rw[if_neg (by rw[hp];exact hn)]
 ·show World.ownsRow _ _ _ _ _ _ _
  unfold plist
  rw[if_neg (by rw[hp];exact hn)]
  exact World.ownsRow_nil _ _ _ _
theorem ghd_le (l:List Int) (h2:ghd l<=l.length) (h:V.put (gid l)=l.take (ghd l)):ghd l<=4:=by
 have a:=congrArg List.length h
 rw[List.length_take,Nat.min_eq_left h2]at a
 have:=(V.put_len (gid l)).2
 omega
theorem get3_bad1 (v:Value) (l:List Int) (place:Int) (w:World) (h:Byt w v l) (hv:(V.vget l).2.2≠0):Calls Tryz.prog 85 #[v,.int .i64 place] w (GetPost2 place l w):=by
 have hp:pgt place l=(V.vget l).2.2:=by unfold pgt;rw[if_pos hv]
 obtain⟨ao,cap,rfl,hc1,hc2⟩:=h.form
 have HV:=zh h
 have HP:=zh hp
 clear h hp
 generalize hm:(V.vget l).2.2=m at hv HP
 generalize hn:l.length=n at hc1 HV
 have HM:=zh hm
 clear hn hm
 go_enter Tryz.func85,Tryz.ntmps85
 go_wp2_with fail
 refine (vget_fail _ l _ (uh HV) m (uh HM) hv).mono ?_
 rintro e w1 ⟨a,b,x,rfl,hi,hb1⟩
 have HB1:=zh hb1
 clear hb1
 go_wp2_with fail
 refine (wrap_use _ m _ (uh hi)).mono ?_
 rintro e w2 ⟨E,rfl,hE,hb2⟩
 go_wp2
 go_returns
 exact get_post_bad place l w _ m (uh HP) hv _ hE ((uh HB1).trans (hb2.mono (uh HB1).size))
theorem get3_short (v:Value) (l:List Int) (place:Int) (w:World) (h:Byt w v l) (hv:(V.vget l).2.2=0) (hs:l.length < ghd l+(gid l).toNat):Calls Tryz.prog 85 #[v,.int .i64 place] w (GetPost2 place l w):=by
 have hp:pgt place l=3:=by unfold pgt;rw[if_neg (by rw[hv];decide),if_pos hs]
 obtain⟨hv',h1,h2,h3,h4,h5⟩:=vget_is l h.range hv
 have hQ4:=ghd_le l h2 h5
 clear h5
 obtain⟨ao,cap,rfl,hc1,hc2⟩:=h.form
 unfold maxLen at hc2
 have HV:=zh h
 have HP:=zh hp
 clear h hp hv
 obtain⟨N,hN⟩:∃ N:Nat,gid l=N:=⟨(gid l).toNat,by omega⟩
 rw[hN,Int.toNat_natCast]at hs
 rw[hN]at hv' h3 h4
 generalize ghd l=Q at hQ4 hv' h1 h2 hs
 have Hv:=zh hv'
 generalize hn:l.length=n at hc1 HV h2 hs
 clear hn hv' hN
 go_enter Tryz.func85,Tryz.ntmps85
 go_wp2_with fail
 refine (vget_good _ l _ (uh HV) N Q (uh Hv)).mono ?_
 rintro e w1 ⟨rfl,hb1⟩
 have HB1:=zh hb1
 clear hb1
 go_wp2_with fail
 refine (pfault_use 3 _).mono ?_
 rintro e w2 ⟨E,rfl,hE,hb2⟩
 go_wp2
 go_returns
 exact get_post_bad place l w _ 3 (uh HP) (by decide) _ hE ((uh HB1).trans (hb2.mono (uh HB1).size))
theorem Byt.mid {w:World} {b off n cap:Nat} {l:List Int} (h:Byt w (.slice (some ⟨b,off,none⟩) n cap) l) (p q:Nat) (hq:p+q<=n):Byt w (.slice (if cap=p then some ⟨b,off,none⟩ else some ⟨b,off+p,none⟩) q (cap - p)) ((l.drop p).take q) :=
 (h.drop' p (by omega)).take q (by omega)
theorem get3_read (v:Value) (l:List Int) (place:Int) (w:World) (h:Byt w v l) (hv:(V.vget l).2.2=0) (hs:ghd l+(gid l).toNat<=l.length):Calls Tryz.prog 85 #[v,.int .i64 place] w (GetPost2 place l w):=by
 have hp:pgt place l=rdn place (pbd l):=by unfold pgt;rw[if_neg (by rw[hv];decide),if_neg (by omega)]
 have hsz:∀ q,parse (pbd l)=some q->pgt place l=0->plist place l=q/\psz place l=((ghd l+(gid l).toNat:Nat):Int):=fun q hq h0=>by
  unfold plist psz
  rw[if_pos h0,if_pos h0,hq]
  exact⟨rfl,by omega⟩
 obtain⟨hv',h1,h2,h3,h4,h5⟩:=vget_is l h.range hv
 have hQ4:=ghd_le l h2 h5
 clear h5
 obtain⟨b,off,cap,rfl,hc1,hc2⟩:=h.form1 (by omega)
 unfold maxLen at hc2
 have HV:=zh h
 have HP:=zh hp
 have HSZ:=zh hsz
 clear h hp hv hsz
 have hpb:pbd l=(l.drop (ghd l)).take (gid l).toNat:=rfl
 obtain⟨N,hN⟩:∃ N:Nat,gid l=N:=⟨(gid l).toNat,by omega⟩
 rw[hN,Int.toNat_natCast]at hs HSZ hpb
 rw[hN]at hv' h3 h4
 generalize ghd l=Q at hQ4 hv' h1 h2 hs HSZ hpb
 generalize pbd l=L at HP HSZ hpb
 have Hv:=zh hv'
 generalize hn:l.length=n at hc1 HV h2 hs
 have HPB:=zh hpb
 clear hn hv' hN hpb
 by_cases hcQ:cap=Q
 ·have e1:Q=cap:=hcQ.symm
  clear hcQ
  subst e1
  have e2:Q=n:=by omega
  subst e2
  obtain rfl:N=0:=by omega
  have HD:Hid (Byt w (.slice (some ⟨b,off,none⟩) 0 0) L):=by
   show Byt _ _ _
   have:=(uh HV).mid Q 0 (by omega)
   rw[if_pos rfl,Nat.sub_self,<- uh HPB]at this
   exact this
  go_enter Tryz.func85,Tryz.ntmps85
  go_wp2_with fail
  refine (vget_good _ l _ (uh HV) 0 Q (uh Hv)).mono ?_
  rintro e w1 ⟨rfl,hb1⟩
  have HB1:=zh hb1
  clear hb1
  go_wp2_with fail
  refine (read_any _ L place _ ((uh HD).below (uh HB1))).mono ?_
  rintro e w2 (⟨q,v2,hpar,hok,rfl,hown,hb2⟩ | ⟨hc,E,rfl,hE,hb2⟩)
  ·have HPAR:=zh hpar
   have HOK:=zh hok
   have HB2:Hid (Below w.heap.size w w2):=(uh HB1).trans (hb2.mono (uh HB1).size)
   have HOWN:Hid (w2.ownsRow w.heap.size 109 4 v2 (min q.length 32) (pcs (q.take 32))):=owns_mono (uh hown) (uh HB1).size
   have HRD:Hid (pgt place l=chkP place q):=(uh HP).trans (rdn_some place L q hpar)
   clear hpar hok hb2 hown
   generalize hk:q.length=k at HOWN
   have HK:=zh hk
   clear hk
   rcases Nat.lt_or_ge 32 k with h32 | h32
   ·have HC:Hid (pgt place l=2):=(uh HRD).trans (chkP_lim place q (uh HOK) (by rw[uh HK];exact h32))
    go_wp2_with fail
    refine (few_bad k _ (by omega)).mono ?_
    rintro e w3 ⟨E,rfl,hE,hb3⟩
    go_wp2
    go_returns
    exact get_post_bad place l w _ 2 (uh HC) (by decide) _ hE ((uh HB2).trans (hb3.mono (uh HB2).size))
   ·have HC:Hid (pgt place l=0):=(uh HRD).trans (chkP_ok place q (uh HOK) (by rw[uh HK];exact h32))
    have HLS:=zh ((uh HSZ) q (uh HPAR) (uh HC))
    go_wp2_with fail
    refine (few_ok k _ (by omega)).mono ?_
    rintro e w3 ⟨rfl,hw⟩
    obtain rfl:=hw.symm
    clear hw
    go_wp2
    go_returns
    refine⟨_,_,by rw[(uh HLS).2];exact (by go_num),?_,by rw[uh HC];exact ErrP.nil _,uh HB2,fun _=>rfl⟩
    show World.ownsRow _ _ _ _ _ _ _
    rw[(uh HLS).1,uh HK]
    have:=uh HOWN
    rw[Nat.min_eq_left h32,List.take_of_length_le (by rw[uh HK];exact h32)]at this
    exact this
  ·have HC:Hid (pgt place l=1):=(uh HP).trans hc
   clear hc
   go_wp2
   go_returns
   exact get_post_bad place l w _ 1 (uh HC) (by decide) _ hE ((uh HB1).trans (hb2.mono (uh HB1).size))
 ·have HD:Hid (Byt w (.slice (some ⟨b,off+Q,none⟩) N (cap - Q)) L):=by
   show Byt _ _ _
   have:=(uh HV).mid Q N (by omega)
   rw[if_neg hcQ,<- uh HPB]at this
   exact this
  go_enter Tryz.func85,Tryz.ntmps85
  go_wp2_with fail
  refine (vget_good _ l _ (uh HV) N Q (uh Hv)).mono ?_
  rintro e w1 ⟨rfl,hb1⟩
  have HB1:=zh hb1
  clear hb1
  go_wp2_with fail
  refine (read_any _ L place _ ((uh HD).below (uh HB1))).mono ?_
  rintro e w2 (⟨q,v2,hpar,hok,rfl,hown,hb2⟩ | ⟨hc,E,rfl,hE,hb2⟩)
  ·have HPAR:=zh hpar
   have HOK:=zh hok
   have HB2:Hid (Below w.heap.size w w2):=(uh HB1).trans (hb2.mono (uh HB1).size)
   have HOWN:Hid (w2.ownsRow w.heap.size 109 4 v2 (min q.length 32) (pcs (q.take 32))):=owns_mono (uh hown) (uh HB1).size
   have HRD:Hid (pgt place l=chkP place q):=(uh HP).trans (rdn_some place L q hpar)
   clear hpar hok hb2 hown
   generalize hk:q.length=k at HOWN
   have HK:=zh hk
   clear hk
   rcases Nat.lt_or_ge 32 k with h32 | h32
   ·have HC:Hid (pgt place l=2):=(uh HRD).trans (chkP_lim place q (uh HOK) (by rw[uh HK];exact h32))
    go_wp2_with fail
    refine (few_bad k _ (by omega)).mono ?_
    rintro e w3 ⟨E,rfl,hE,hb3⟩
    go_wp2
    go_returns
    exact get_post_bad place l w _ 2 (uh HC) (by decide) _ hE ((uh HB2).trans (hb3.mono (uh HB2).size))
   ·have HC:Hid (pgt place l=0):=(uh HRD).trans (chkP_ok place q (uh HOK) (by rw[uh HK];exact h32))
    have HLS:=zh ((uh HSZ) q (uh HPAR) (uh HC))
    go_wp2_with fail
    refine (few_ok k _ (by omega)).mono ?_
    rintro e w3 ⟨rfl,hw⟩
    obtain rfl:=hw.symm
    clear hw
    go_wp2
    go_returns
    refine⟨_,_,by rw[(uh HLS).2];exact (by go_num),?_,by rw[uh HC];exact ErrP.nil _,uh HB2,fun _=>rfl⟩
    show World.ownsRow _ _ _ _ _ _ _
    rw[(uh HLS).1,uh HK]
    have:=uh HOWN
    rw[Nat.min_eq_left h32,List.take_of_length_le (by rw[uh HK];exact h32)]at this
    exact this
  ·have HC:Hid (pgt place l=1):=(uh HP).trans hc
   clear hc
   go_wp2
   go_returns
   exact get_post_bad place l w _ 1 (uh HC) (by decide) _ hE ((uh HB1).trans (hb2.mono (uh HB1).size))
theorem get3_two (v:Value) (l:List Int) (place:Int) (w:World) (h:Byt w v l):Calls Tryz.prog 85 #[v,.int .i64 place] w (GetPost2 place l w):=by
 by_cases hv:(V.vget l).2.2=0
 ·rcases Nat.lt_or_ge l.length (ghd l+(gid l).toNat)with hs | hs
  ·exact get3_short v l place w h hv hs
  ·exact get3_read v l place w h hv hs
 ·exact get3_bad1 v l place w h hv
end Go.Proofs.YtpheelbbpiieiaaGreatDoor
namespace Go.Proofs.YtpheelbbpiieiaaGreatDoor.K
open Go.RowKit
set_option maxRecDepth 100000
theorem psz_len (place:Int) (l:List Int):∃ N:Nat,psz place l=(N:Int)/\N<=l.length:=by
 unfold psz
 by_cases h:pgt place l=0
 ·rw[if_pos h]
  refine⟨ghd l+(gid l).toNat,rfl,?_⟩
  unfold pgt at h
  split at h
  ·contradiction
  ·split at h
   ·contradiction
   ·omega
 ·rw[if_neg h]
  exact⟨0,rfl,Nat.zero_le _⟩
def props? (place:Int) (l:List Int):Option (List Pr×List Int):=if pgt place l=0 then some (plist place l,l.drop (psz place l).toNat) else none
def RdP (w0:World) (R:Nat) (place:Int) (st:Option (List Int)) (w:World) (e:Ending) (w':World):Prop :=
 ∃ (t:Sl) (x:List Pr) (st':Option (List Int)),e=.returned t.val/\Hid (w'.ownsRow w.heap.size 109 4 t.val x.length (pcs x))/\Stp (props? place) st x st'/\RS w0 w' R st'/\BX R isRE w w'
theorem props_any (R:Nat) (place:Int) (st:Option (List Int)) (w0 w:World) (h:RS w0 w R st):Calls Tryz.prog 54 #[.pointer (some ⟨R,0,none⟩),.int .i64 place] w (RdP w0 R place st w):=by
 have hlt:=h.lt
 obtain⟨_,⟨c,hd⟩,bv,l,E,hr,hb,hw,hR,hst⟩:=h
 obtain⟨n,hN,hn⟩:=psz_len place l
 have HG:=zh (get3_two bv l place w (hb.below hw))
 have HQ:Hid (props? place l=if pgt place l=0 then some (plist place l,l.drop n) else none):=by
  show props? place l=_
  unfold props?
  rw[hN,Int.toNat_natCast]
 have HN:=zh hN
 have hE:=st_form hst
 have hst':st=some l\/st=none:=hst.imp And.left And.left
 have HR:=zh hr
 have HB:=zh hb
 have HA:=zh (after w0 w)
 have HD:=zh hd
 have HW:=zh hw
 have HS:=zh hst
 have HS':=zh hst'
 have HE:=zh hE
 obtain⟨h1,h2,h3,h4⟩:=hr
 clear hN hd hb hw hst hst' hE h2 h3 h4
 go_enter Tryz.func54,Tryz.ntmps54
 go_wp2_with fail
 refine (uh HG).mono ?_
 rintro e w1 ⟨v,F,he,hO,hF,hB,hz⟩
 rw[uh HN]at he
 subst he
 have HF:Hid (Bel w1 (fun k=>k=R) F (pgt place l)):=by
  show Bel _ _ _ _
  by_cases h0:pgt place l=0
  ·exact .inl ⟨h0,hz h0⟩
  ·rcases er_of_p (uh hF) with⟨h,_⟩ | ⟨d,hd,h⟩
   ·exact absurd h h0
   ·exact .inr ⟨h0,d,hd,ErO.of ((hB.cell (p:=⟨R,1,none⟩) hlt).trans (uh HD)) h⟩
 obtain⟨t,ht,_⟩:=owns_sl (uh hO)
 subst ht
 have HB1:=zh hB
 have HR1:=zh ((uh HR).below hB)
 clear hB h1 hF hz
 generalize pgt place l=m at HQ HF
 generalize plist place l=x at HQ hO
 clear HG HN
 go_wp2_with fail
 refine (fail_any R bv E F w1 (uh HR1) (uh HE) (uh HF).form).mono ?_
 rintro e w2 ⟨rfl,hr2,hx2⟩
 have HR2:=zh hr2
 have HX2:=zh hx2
 clear hr2 hx2
 go_wp2_with fail
 refine (next_ok R bv (orE E F) l n w0 w2 (uh HR2) (uh HB) hn).mono ?_
 rintro e w3 ⟨v,bv',rfl,hv,hbv,hr3,hx3⟩
 have HV:=zh hbv
 have HR3:=zh hr3
 have HX3:=zh hx3
 clear hv hbv hr3 hx3
 go_wp2
 go_ret
 have k:=(uh HA) w1 w2 w3 R (fun k=>k=R) bv' E F st l n m c ⟨rfl,fun k hk=>by rw[hk];exact hlt⟩ (uh HD) (uh HW) hR (uh HS) (uh HB1) (uh HF) (uh HX2) (uh HX3) (uh HV) (uh HR3)
 exact⟨t,x,_,rfl,owns_bx (uh hO) ((uh HX2).trans (uh HX3)) hlt,stp_get (props? place) st l x n m (uh HS') (uh HQ),k.1,k.2⟩
def reason? (kind:Int) (l:List Int):Option ((Int×List Pr)×List Int):=match l with
 | []=>some ((0,[]),[])
 | c :: t=>if t=[] then some ((c,[]),[]) else (props? kind t).map fun r=>((c,r.1),r.2)
def ReasonPost (w0:World) (R:Nat) (p:Pkv) (st:Option (List Int)) (w:World) (e:Ending) (w':World):Prop :=
 e=.returned (.tuple #[])/\∃ (c:Int) (t:Sl) (x:List Pr) (st':Option (List Int)),Pk w' R { p with code:=c,props:=t }/\Hid (w'.ownsRow w.heap.size 109 4 t.val x.length (pcs x))/\Stp (reason? p.kind) st (c,x) st'/\RS w0 w' R st'/\BX R isAny w w'
theorem len_nil {st:Option (List Int)} {n:Nat} (h:∀ l,st=some l->l.length=n) (hn:n=0):st=none\/st=some []:=by
 cases st with
 | none=>exact .inl rfl
 | some l=>exact .inr (by rw[List.length_eq_zero_iff.1 ((h l rfl).trans hn)])
theorem owns_nil (w:World) (B:Nat) (e:TypeId) (s:Nat):w.ownsRow B e s (Sl.val ⟨none,0,0⟩) 0 []:=World.ownsRow_nil _ _ _ _
theorem reason_any (R:Nat) (p:Pkv) (st:Option (List Int)) (w0 w:World) (h:RS w0 w R st) (hp:Pk w R p) (hc:p.code=0) (hpr:p.props=⟨none,0,0⟩):Calls Tryz.prog 58 #[.pointer (some ⟨R,0,none⟩)] w (ReasonPost w0 R p st w):=by
 have hlt:=h.lt
 obtain⟨ao,n,cap,h19,⟨hc1,hc2⟩,hl⟩:=h.rest
 unfold maxLen at hc2
 have HP:=zh hp
 have HS:=zh h
 have HL:=zh hl
 have HC:=zh hc
 have HPR:=zh hpr
 clear hp h hl hc hpr
 by_cases hn:n=0
 ·subst hn
  go_enter Tryz.func58,Tryz.ntmps58
  go_wp2
  go_end0
  refine⟨rfl,0,⟨none,0,0⟩,[],st,?_,owns_nil _ _ _ _,?_,uh HS,BX.refl _ _ _⟩
  ·have e:{ p with code:=0,props:=⟨none,0,0⟩ }=p:=by rw[<- uh HC,<- uh HPR]
   rw[e]
   exact uh HP
  ·rcases len_nil (uh HL) rfl with rfl | rfl
   ·exact rfl
   ·exact⟨rfl,rfl⟩
 ·go_enter Tryz.func58,Tryz.ntmps58
  go_wp2_with fail
  refine (one_any R st w0 w (uh HS)).mono ?_
  rintro e w1 ⟨c,st1,rfl,hc,hs1,h1,hx1⟩
  have hp1:=(uh HP).bx hx1
  have c14:=hp1.code
  have f14:=hp1.code_f
  have c0:=hp1.kind
  have c7:=hp1.props
  have f7:=hp1.props_f
  obtain⟨ao1,n1,cap1,g19,⟨gc1,gc2⟩,gl⟩:=h1.rest
  unfold maxLen at gc2
  have HP1:=zh hp1
  have HS1:=zh h1
  have HX1:=zh hx1
  have HST1:=zh hs1
  have GL:=zh gl
  clear hp1 h1 hx1 hs1 gl h19
  by_cases hn1:n1=0
  ·subst hn1
   go_wp2
   go_end0
   refine⟨rfl,c,⟨none,0,0⟩,[],st1,?_,owns_nil _ _ _ _,?_,(uh HS1).set 14 _ (by decide),((uh HX1).any).set 14 _ trivial⟩
   ·have e:{ p with code:=c,props:=⟨none,0,0⟩ }={ p with code:=c }:=by rw[<- uh HPR]
    rw[e]
    exact (uh HP1).set_code c
   ·have k:=uh HST1
    cases st with
    | none=>exact k
    | some l =>
     cases l with
     | nil=>exact absurd ((uh HL) [] rfl) (fun e=>hn e.symm)
     | cons y t =>
      obtain⟨rfl,rfl⟩:=k
      have ht:t=[]:=List.length_eq_zero_iff.1 ((uh GL) t rfl)
      simp[Stp,reason?,ht]
  ·have HP2:=zh ((uh HP1).set_code c)
   have HS2:=zh ((uh HS1).set 14 (.int .i64 c) (by decide))
   have HX2:=zh (((uh HX1).any).set 14 (.int .i64 c) trivial)
   go_wp2_with fail
   refine (props_any R p.kind st1 w0 _ (uh HS2)).mono ?_
   rintro e w3 ⟨t,x,st3,rfl,hO,hs3,h3,hx3⟩
   have hp3:=(uh HP2).bx hx3
   have d7:=hp3.props
   have e7:=hp3.props_f
   have HP3:=zh hp3
   have HS3:=zh h3
   have HX3:=zh hx3
   have HST3:=zh hs3
   clear hp3 h3 hx3 hs3 c14 f14 c0 c7 f7 g19
   go_wp2
   go_end0
   have hB:w.heap.size<=(w1.setCell ⟨R,14,none⟩ (.int .i64 c)).heap.size:=(uh HX2).size
   refine⟨rfl,c,t,x,st3,(uh HP3).set_props t,?_,?_,(uh HS3).set 7 _ (by decide),((uh HX2).trans (uh HX3).any).set 7 _ trivial⟩
   ·exact owns_mono (owns_bx (uh hO) ((BX.refl R isAny w3).set 7 _ trivial) (Nat.lt_of_lt_of_le hlt hB)) hB
   ·have k:=uh HST1
    have k3:=uh HST3
    cases st with
    | none =>
     obtain rfl:st1=none:=k
     exact k3
    | some l =>
     cases l with
     | nil=>exact absurd ((uh HL) [] rfl) (fun e=>hn e.symm)
     | cons y t' =>
      obtain⟨rfl,rfl⟩:=k
      have ht:t'≠[]:=fun e=>hn1 (by rw[<- (uh GL) t' rfl,e];rfl)
      simp only[Stp,reason?,if_neg ht]
      simp only[Stp]at k3
      cases hq:props? p.kind t' with
      | none=>rw[hq]at k3;simpa using k3
      | some r =>
       obtain⟨r1,r2⟩:=r
       rw[hq]at k3
       obtain⟨rfl,rfl⟩:=k3
       simp
def bindR {α β:Type} (f:List Int->Option (α×List Int)) (g:α->List Int->Option (β×List Int)) (l:List Int):Option (β×List Int):=(f l).bind fun r=>g r.1 r.2
def pureR {α:Type} (x:α) (l:List Int):Option (α×List Int):=some (x,l)
def mustR (b:Bool) (l:List Int):Option (Unit×List Int):=if b then some ((),l) else none
theorem Stp.bind {α β:Type} {f:List Int->Option (α×List Int)} {g:α->List Int->Option (β×List Int)} {st st1 st2:Option (List Int)} {x:α} {y:β} (h1:Stp f st x st1) (h2:Stp (g x) st1 y st2):Stp (bindR f g) st y st2:=by
 cases st with
 | none =>
  obtain rfl:st1=none:=h1
  exact h2
 | some l =>
  unfold Stp bindR
  simp only
  unfold Stp at h1
  simp only at h1
  cases hf:f l with
  | none =>
   rw[hf]at h1
   obtain rfl:st1=none:=h1
   exact h2
  | some r =>
   obtain⟨a,l'⟩:=r
   rw[hf]at h1
   obtain⟨rfl,rfl⟩:=h1
   exact h2
theorem Stp.pure {α:Type} (x:α) (st:Option (List Int)):Stp (pureR x) st x st:=by
 cases st with
 | none=>rfl
 | some l=>exact⟨rfl,rfl⟩
theorem Stp.must (b:Bool) (st:Option (List Int)):Stp (mustR b) st () (if b then st else none):=by
 cases st with
 | none=>cases b <;> rfl
 | some l =>
  cases b
  ·rfl
  ·exact⟨rfl,rfl⟩
theorem Stp.congr {α:Type} {f g:List Int->Option (α×List Int)} (h:∀ l,f l=g l) {st st':Option (List Int)} {x:α} (hs:Stp f st x st'):Stp g st x st':=by
 obtain rfl:f=g:=funext h
 exact hs
def allR (l:List Int):Option (ByteArray×List Int):=some (bs l,[])
theorem all_any (R n:Nat) (st:Option (List Int)) (w0 w:World) (h:RS w0 w R st) (ao:Option Addr) (cap:Nat) (h19:w.cell? ⟨R,19,none⟩=some (.slice ao n cap)) :
  Calls Tryz.prog 83 #[.pointer (some ⟨R,0,none⟩),.int .i64 n] w fun e w'=>∃ v l,e=.returned v/\Hid (Byt w' v l)/\Stp allR st (bs l) (st.map fun _=>[])/\RS w0 w' R (st.map fun _=>[])/\BX R isRE w w':=by
 obtain⟨hX,⟨c,hd⟩,bv,l,E,hr,hb,hw,hR,hst⟩:=h
 obtain rfl:bv=.slice ao n cap:=by have:=hr.1.symm.trans h19;simpa using this
 have hl:n=l.length:=by
  obtain⟨ao',cap',e,_⟩:=hb.form
  simp only[Value.slice.injEq]at e
  exact e.2.1
 refine (next_ok R _ E l n w0 w hr hb (by omega)).mono ?_
 rintro e w' ⟨v,bv',rfl,hv,hbv,hr',hx⟩
 rw[hl,List.take_length]at hv
 rw[hl,List.drop_length]at hbv
 have hk:=hx.keep hw hR
 refine⟨v,l,rfl,hv.below hk,?_,⟨xs_grow (X:=fun k=>k=R) hX hx.size,⟨c,(hx.cell 1 isRE1).trans hd⟩,bv',[],E,hr',hbv,hk,hR,?_⟩,hx⟩
 ·rcases hst with⟨rfl,_⟩ | ⟨rfl,_⟩
  ·exact⟨rfl,rfl⟩
  ·exact rfl
 ·rcases hst with⟨rfl,rfl⟩ | ⟨rfl,d,k,hd',he⟩
  ·exact .inl ⟨rfl,rfl⟩
  ·exact .inr ⟨rfl,d,k,hd',ErO.bx (X:=fun k=>k=R) hx rfl he⟩
def publish? (qos:Int):List Int->Option ((ByteArray×Int×List Pr×ByteArray)×List Int) :=
 bindR text? fun t=>bindR (if 0 < qos then id? else pureR 0) fun i=>bindR (props? 3) fun x=>bindR allR fun y=>pureR (t,i,x,y)
def PubPost (w0:World) (R:Nat) (p:Pkv) (st:Option (List Int)) (w:World) (e:Ending) (w':World):Prop :=
 e=.returned (.tuple #[])/\∃ (t:ByteArray) (i:Int) (s:Sl) (x:List Pr) (y:ByteArray) (st':Option (List Int)),Pk w' R { p with topic:=t,id:=i,props:=s,payload:=y }/\Hid (w'.ownsRow w.heap.size 109 4 s.val x.length (pcs x))/\Stp (publish? p.qos) st (t,i,x,y) st'/\RS w0 w' R st'/\BX R isAny w w'
theorem pub_end (R:Nat) (p q:Pkv) (st:Option (List Int)) (w0 w w2:World) (t:ByteArray) (i:Int) (st2:Option (List Int)) (HX2:Hid (BX R isAny w w2)) (hlt:R < w.heap.size)
  (HST:Hid (∀ x y st',Stp (bindR (props? 3) fun x=>bindR allR fun y=>pureR (t,i,x,y)) st2 (t,i,x,y) st'->Stp (publish? p.qos) st (t,i,x,y) st')) (HQ:Hid (q={ p with topic:=t,id:=i }))
  (w3:World) (s:Sl) (x:List Pr) (st3:Option (List Int)) (hO:Hid (w3.ownsRow w2.heap.size 109 4 s.val x.length (pcs x))) (HST3:Hid (Stp (props? 3) st2 x st3)) (HX3:Hid (BX R isAny w2 w3)) (HP3:Hid (Pk w3 R { q with props:=s }))
  (w4:World) (l:List Int) (HST4:Hid (Stp allR st3 (bs l) (st3.map fun _=>[]))) (HS4:Hid (RS w0 w4 R (st3.map fun _=>[]))) (HX4:Hid (BX R isRE w3 w4)):PubPost w0 R p st w (.returned (.tuple #[])) (w4.setCell ⟨R,6,none⟩ (.string (bs l))):=by
 have e:=uh HQ
 subst e
 have hB:w.heap.size<=w2.heap.size:=(uh HX2).size
 refine⟨rfl,t,i,s,x,bs l,_,((uh HP3).bx (uh HX4)).set_payload (bs l),?_,(uh HST) _ _ _ ((uh HST3).bind ((uh HST4).bind (Stp.pure _ _))),(uh HS4).set 6 _ (by decide),(((uh HX2).trans (uh HX3)).trans (uh HX4).any).set 6 _ trivial⟩
 exact owns_mono (owns_bx (owns_bx (uh hO) (uh HX4) (Nat.lt_of_lt_of_le hlt hB)) ((BX.refl R isAny w4).set 6 _ trivial) (Nat.lt_of_lt_of_le hlt hB)) hB
theorem publish_any (R:Nat) (p:Pkv) (st:Option (List Int)) (w0 w:World) (h:RS w0 w R st) (hp:Pk w R p) (hk:p.kind=3) (hi:p.id=0):Calls Tryz.prog 55 #[.pointer (some ⟨R,0,none⟩)] w (PubPost w0 R p st w):=by
 have hlt:=h.lt
 have HP:=zh hp
 have HS:=zh h
 have HK:=zh hk
 have HI:=zh hi
 clear hp h hk hi
 go_enter Tryz.func55,Tryz.ntmps55
 go_wp2_with fail
 refine (text_any R st w0 w (uh HS)).mono ?_
 rintro e w1 ⟨t,st1,rfl,hts,hs1,h1,hx1⟩
 have hp1:=(uh HP).bx hx1
 have c4:=hp1.topic
 have f4:=hp1.topic_f
 have c2:=hp1.qos
 have c0:=hp1.kind
 have HP1:=zh (hp1.set_topic t)
 have HS1:=zh (h1.set 4 (.string t) (by decide))
 have HX1:=zh ((hx1.any).set 4 (.string t) trivial)
 have HST1:=zh hs1
 clear hp1 h1 hx1 hs1
 rw[uh HK]at c0
 by_cases hq:0 < p.qos
 ·go_wp2_with fail
  refine (id_any R st1 w0 _ (uh HS1)).mono ?_
  rintro e w2 ⟨i,st2,rfl,hii,hs2,h2,hx2⟩
  have hp2:=(uh HP1).bx hx2
  have d5:=hp2.id
  have g5:=hp2.id_f
  have d0:=hp2.kind
  have HP2:=zh (hp2.set_id i)
  have HS2:=zh (h2.set 5 (.int .i64 i) (by decide))
  have HX2:=zh (((uh HX1).trans hx2.any).set 5 (.int .i64 i) trivial)
  have HST2:Hid (∀ x y st',Stp (bindR (props? 3) fun x=>bindR allR fun y=>pureR (t,i,x,y)) st2 (t,i,x,y) st'->Stp (publish? p.qos) st (t,i,x,y) st'):=fun x y st' k=>by
   unfold publish?
   rw[if_pos hq]
   exact (uh HST1).bind (hs2.bind k)
  clear hp2 h2 hx2 hs2 c4 f4 c2 c0
  rw[show ({ p with topic:=t }:Pkv).kind=3 from uh HK]at d0
  go_wp2_with fail
  refine (props_any R 3 st2 w0 _ (uh HS2)).mono ?_
  rintro e w3 ⟨s,x,st3,rfl,hO,hs3,h3,hx3⟩
  have hp3:=(uh HP2).bx hx3
  have e7:=hp3.props
  have f7:=hp3.props_f
  obtain⟨ao,n,cap,g19,⟨gc1,gc2⟩,gl⟩:=(h3.set 7 s.val (by decide)).rest
  unfold maxLen at gc2
  have G19:=zh g19
  have k19:w3.cell? ⟨R,19,none⟩=some (.slice ao n cap):=by rw[World.cell?_setCell_other _ _ _ _ (by intro e;simp at e)]at g19;exact g19
  have HP3:=zh (hp3.set_props s)
  have HS3:=zh (h3.set 7 s.val (by decide))
  have HX3:=zh ((hx3.any).set 7 s.val trivial)
  have HST3:=zh hs3
  have HO3:Hid ((w3.setCell ⟨R,7,none⟩ s.val).ownsRow (w2.setCell ⟨R,5,none⟩ (.int .i64 i)).heap.size 109 4 s.val x.length (pcs x)):=owns_bx (uh hO) ((BX.refl R isAny w3).set 7 _ trivial) (Nat.lt_of_lt_of_le hlt (uh HX2).size)
  clear hp3 h3 hx3 hs3 d5 g5 d0 g19 gl hO
  go_wp2_with fail
  refine (all_any R n st3 w0 _ (uh HS3) ao cap (uh G19)).mono ?_
  rintro e w4 ⟨v,l,rfl,hv,hs4,h4,hx4⟩
  have hcv:=conv_byt w4 v l (uh hv)
  have hp4:=(uh HP3).bx hx4
  have c6:=hp4.payload
  have f6:=hp4.payload_f
  have HX4:=zh hx4
  have HS4:=zh h4
  have HST4:=zh hs4
  clear hx4 h4 hs4 hp4 e7 f7 k19 hv
  go_wp2
  go_end0
  exact pub_end R p { p with topic:=t,id:=i } st w0 w _ t i st2 HX2 hlt HST2 (zh rfl) _ s x st3 HO3 HST3 HX3 HP3 w4 l HST4 HS4 HX4
 ·have HST2:Hid (∀ x y st',Stp (bindR (props? 3) fun x=>bindR allR fun y=>pureR (t,(0:Int),x,y)) st1 (t,(0:Int),x,y) st'->Stp (publish? p.qos) st (t,(0:Int),x,y) st'):=fun x y st' k=>by
   unfold publish?
   rw[if_neg hq]
   exact (uh HST1).bind ((Stp.pure 0 st1).bind k)
  go_wp2_with fail
  refine (props_any R 3 st1 w0 _ (uh HS1)).mono ?_
  rintro e w3 ⟨s,x,st3,rfl,hO,hs3,h3,hx3⟩
  have hp3:=(uh HP1).bx hx3
  have e7:=hp3.props
  have f7:=hp3.props_f
  obtain⟨ao,n,cap,g19,⟨gc1,gc2⟩,gl⟩:=(h3.set 7 s.val (by decide)).rest
  unfold maxLen at gc2
  have G19:=zh g19
  have k19:w3.cell? ⟨R,19,none⟩=some (.slice ao n cap):=by rw[World.cell?_setCell_other _ _ _ _ (by intro e;simp at e)]at g19;exact g19
  have HP3:=zh (hp3.set_props s)
  have HS3:=zh (h3.set 7 s.val (by decide))
  have HX3:=zh ((hx3.any).set 7 s.val trivial)
  have HST3:=zh hs3
  have HO3:Hid ((w3.setCell ⟨R,7,none⟩ s.val).ownsRow (w1.setCell ⟨R,4,none⟩ (.string t)).heap.size 109 4 s.val x.length (pcs x)):=owns_bx (uh hO) ((BX.refl R isAny w3).set 7 _ trivial) (Nat.lt_of_lt_of_le hlt (uh HX1).size)
  clear hp3 h3 hx3 hs3 c4 f4 c2 c0 g19 gl hO
  go_wp2_with fail
  refine (all_any R n st3 w0 _ (uh HS3) ao cap (uh G19)).mono ?_
  rintro e w4 ⟨v,l,rfl,hv,hs4,h4,hx4⟩
  have hcv:=conv_byt w4 v l (uh hv)
  have hp4:=(uh HP3).bx hx4
  have c6:=hp4.payload
  have f6:=hp4.payload_f
  have HX4:=zh hx4
  have HS4:=zh h4
  have HST4:=zh hs4
  clear hx4 h4 hs4 hp4 e7 f7 k19 hv
  go_wp2
  go_end0
  exact pub_end R p { p with topic:=t } st w0 w _ t 0 st1 HX1 hlt HST2 (by show _=_;rw[<- uh HI]) _ s x st3 HO3 HST3 HX3 HP3 w4 l HST4 HS4 HX4
structure Sb where
 filter:ByteArray
 qos:Int
 nolocal:Bool
 aspub:Bool
 handling:Int
abbrev Sb.val (s:Sb):Value:=.agg #[.string s.filter,.int .i64 s.qos,.bool s.nolocal,.bool s.aspub,.int .i64 s.handling]
def btest (x k:Int):Bool:=decide (x / k % 2=1)
def sbOf (f:ByteArray) (o:Int):Sb:=⟨f,o % 4,btest o 4,btest o 8,o / 16⟩
def sub?:List Int->Option (Sb×List Int):=bindR text? fun f=>bindR one? fun o=>bindR (mustR (opk (o % 4) (o / 16))) fun _=>pureR (sbOf f o)
theorem byte_cases {P:Int->Prop} (h:∀ n:Fin 256,P (n.val:Int)) (x:Int) (h0:0<=x) (h1:x<=255):P x:=by
 obtain⟨n,rfl⟩:=Int.eq_ofNat_of_zero_le h0
 exact h ⟨n,by omega⟩
theorem and3 (x:Int) (h0:0<=x) (h1:x<=255):bits .and .i64 x 3=x % 4:=byte_cases (P:=fun x=>bits .and .i64 x 3=x % 4) (by decide +kernel) x h0 h1
theorem and4 (x:Int) (h0:0<=x) (h1:x<=255):(bits .and .i64 x 4 != 0)=btest x 4:=byte_cases (P:=fun x=>(bits .and .i64 x 4 != 0)=btest x 4) (by decide +kernel) x h0 h1
theorem and8 (x:Int) (h0:0<=x) (h1:x<=255):(bits .and .i64 x 8 != 0)=btest x 8:=byte_cases (P:=fun x=>(bits .and .i64 x 8 != 0)=btest x 8) (by decide +kernel) x h0 h1
theorem sh4 (x:Int) (h0:0<=x) (h1:x<=255):x >>> 4=x / 16:=byte_cases (P:=fun x=>x >>> 4=x / 16) (by decide +kernel) x h0 h1
def RdSubX (w0:World) (R:Nat) (X:Nat->Prop) (st:Option (List Int)) (w:World) (e:Ending) (w':World):Prop :=
 ∃ (x:Sb) (st':Option (List Int)),e=.returned x.val/\Stp sub? st x st'/\RSX w0 w' R X st'/\BX R isRE w w'
theorem BX.frz {R:Nat} {may:Nat->Prop} {a b:World} (h:BX R may a b) {p:Addr} (hp:p.block < a.heap.size) (hR:p.block≠R):b.frozen? p=a.frozen? p:=World.frozen?_of_block (h.block p.block hp hR)
theorem res_sub {fn:Func} {a:Tmp} (h:fn.results=#[.cell a 114]) {tmps:Array Value} {w:World} {B:Nat} {v0 v1 v2 v3 v4:Value} (ha:tmps[a]?.getD undef=.pointer (some ⟨B,0,none⟩)) (c0:w.cell? ⟨B,0,none⟩=some v0) (c1:w.cell? ⟨B,1,none⟩=some v1) (c2:w.cell? ⟨B,2,none⟩=some v2) (c3:w.cell? ⟨B,3,none⟩=some v3) (c4:w.cell? ⟨B,4,none⟩=some v4) :
  (results fn tmps).run Tryz.prog w=.ok (.agg #[v0,v1,v2,v3,v4]) w:=by
 simp[results,h,ha,go_sem,c0,c1,c2,c3,c4]
theorem sub_anyX (R:Nat) (X:Nat->Prop) (st:Option (List Int)) (w0 w:World) (h:RSX w0 w R X st):Calls Tryz.prog 86 #[.pointer (some ⟨R,0,none⟩)] w (RdSubX w0 R X st w):=by
 have hlt:=h.lt
 have HS:=zh h
 clear h
 go_enter Tryz.func86,Tryz.ntmps86
 go_wp2_with fail
 refine (text_anyX R X st w0 _ ((uh HS).below (bal _ _))).mono ?_
 rintro e w1 ⟨f,st1,rfl,hfs,hs1,h1,hx1⟩
 have HS1:=zh h1
 have HX1:=zh hx1
 have HST1:=zh hs1
 clear h1 hx1 hs1
 go_wp2_with fail
 refine (one_anyX R X st1 w0 _ ((uh HS1).below (bal _ _))).mono ?_
 rintro e w2 ⟨o,st2,rfl,ho,hs2,h2,hx2⟩
 have hR1:R < w1.heap.size:=Nat.lt_of_lt_of_le (Nat.lt_succ_of_lt hlt) (by simpa using (uh HX1).size)
 have hQ1:w.heap.size < w1.heap.size:=by
  have:=(uh HX1).size
  simp at this
  omega
 have v0:=hx2.far (p:=⟨w1.heap.size,0,none⟩) (v:=.string f) (by simp) (by simp;omega)
 have v1:=hx2.far (p:=⟨w1.heap.size,1,none⟩) (v:=.int .i64 0) (by simp) (by simp;omega)
 have v2:=hx2.far (p:=⟨w1.heap.size,2,none⟩) (v:=.bool false) (by simp) (by simp;omega)
 have v3:=hx2.far (p:=⟨w1.heap.size,3,none⟩) (v:=.bool false) (by simp) (by simp;omega)
 have v4:=hx2.far (p:=⟨w1.heap.size,4,none⟩) (v:=.int .i64 0) (by simp) (by simp;omega)
 have u1:w2.frozen? ⟨w1.heap.size,1,none⟩=false:=(hx2.frz (p:=⟨w1.heap.size,1,none⟩) (by simp) (by simp;omega)).trans (by simp)
 have u2:w2.frozen? ⟨w1.heap.size,2,none⟩=false:=(hx2.frz (p:=⟨w1.heap.size,2,none⟩) (by simp) (by simp;omega)).trans (by simp)
 have u3:w2.frozen? ⟨w1.heap.size,3,none⟩=false:=(hx2.frz (p:=⟨w1.heap.size,3,none⟩) (by simp) (by simp;omega)).trans (by simp)
 have u4:w2.frozen? ⟨w1.heap.size,4,none⟩=false:=(hx2.frz (p:=⟨w1.heap.size,4,none⟩) (by simp) (by simp;omega)).trans (by simp)
 have qb:w2.heap[w.heap.size]?=some (.cells #[.string ⟨#[]⟩,.int .i64 0,.bool false,.bool false,.int .i64 0] 114):=by
  rw[hx2.block w.heap.size (by simp;omega) (by omega),((Below.refl w1.heap.size w1).alloc (Nat.le_refl _) _).block w.heap.size hQ1,(uh HX1).block w.heap.size (by simp) (by omega)]
  exact Array.getElem?_push_size
 have QB:=zh qb
 have b1:=and3 o ho.1 ho.2
 have b2:=and4 o ho.1 ho.2
 have b3:=and8 o ho.1 ho.2
 have b4:=sh4 o ho.1 ho.2
 have HS2:=zh h2
 have HX2:=zh hx2
 have HST2:=zh hs2
 clear h2 hx2 hs2 qb
 have HS3:Hid (RSX w0 ((((w2.setCell ⟨w1.heap.size,1,none⟩ (.int .i64 (o % 4))).setCell ⟨w1.heap.size,4,none⟩ (.int .i64 (o / 16))).setCell ⟨w1.heap.size,2,none⟩ (.bool (btest o 4))).setCell ⟨w1.heap.size,3,none⟩ (.bool (btest o 8))) R X st2):=by
  have hne:w1.heap.size≠R:=by omega
  have h0:=Nat.le_trans (uh HS1).keep.size (Nat.le_refl _)
  refine ((((uh HS2).setOut _ 1 _ hne h0 ?_).setOut _ 4 _ hne h0 ?_).setOut _ 2 _ hne h0 ?_).setOut _ 3 _ hne h0 ?_
  ·intro t x e;rw[v1]at e;cases e
  all_goals (intro t x e;simp (maxDischargeDepth:=12) [cell_set,v1]at e)
 have HX3:Hid (BX R isRE w ((((w2.setCell ⟨w1.heap.size,1,none⟩ (.int .i64 (o % 4))).setCell ⟨w1.heap.size,4,none⟩ (.int .i64 (o / 16))).setCell ⟨w1.heap.size,2,none⟩ (.bool (btest o 4))).setCell ⟨w1.heap.size,3,none⟩ (.bool (btest o 8)))):=by
  have hq:=Nat.le_of_lt hQ1
  have k0:BX R isRE w w2:=((BX.of_below (bal _ _) hlt).trans (uh HX1)).trans ((BX.of_below (bal _ _) hR1).trans (uh HX2))
  exact (((k0.setOut _ 1 _ hq hlt).setOut _ 4 _ hq hlt).setOut _ 2 _ hq hlt).setOut _ 3 _ hq hlt
 go_wp2_with fail
 refine (optionsOf_any f (o % 4) (btest o 4) (btest o 8) (o / 16) _).mono ?_
 rintro e w3 ⟨rfl,hb3⟩
 have HS4:=zh ((uh HS3).below hb3)
 have HX4:Hid (BX R isRE w w3):=(uh HX3).trans (BX.of_below hb3 (uh HS3).lt)
 have HB3:=zh hb3
 clear hb3
 go_wp2_with fail
 refine (must_anyX R X _ st2 w0 w3 (uh HS4)).mono ?_
 rintro e w4 ⟨rfl,h4,hx4⟩
 have vb:w4.heap[w1.heap.size]?=((((w2.setCell ⟨w1.heap.size,1,none⟩ (.int .i64 (o % 4))).setCell ⟨w1.heap.size,4,none⟩ (.int .i64 (o / 16))).setCell ⟨w1.heap.size,2,none⟩ (.bool (btest o 4))).setCell ⟨w1.heap.size,3,none⟩ (.bool (btest o 8))).heap[w1.heap.size]?:=by
  have hl:=cell_lt v0
  rw[hx4.block w1.heap.size (Nat.lt_of_lt_of_le hl (by simpa [World.setCell] using (uh HB3).size)) (by omega),(uh HB3).block w1.heap.size (by simpa [World.setCell] using hl)]
 have x0:w4.cell? ⟨w1.heap.size,0,none⟩=some (.string f):=(World.cell?_of_block (a:=⟨w1.heap.size,0,none⟩) vb).trans (by simp (maxDischargeDepth:=12) [cell_set,v0])
 have x1:w4.cell? ⟨w1.heap.size,1,none⟩=some (.int .i64 (o % 4)):=(World.cell?_of_block (a:=⟨w1.heap.size,1,none⟩) vb).trans (by simp (maxDischargeDepth:=12) [cell_set,v1])
 have x2:w4.cell? ⟨w1.heap.size,2,none⟩=some (.bool (btest o 4)):=(World.cell?_of_block (a:=⟨w1.heap.size,2,none⟩) vb).trans (by simp (maxDischargeDepth:=12) [cell_set,v2])
 have x3:w4.cell? ⟨w1.heap.size,3,none⟩=some (.bool (btest o 8)):=(World.cell?_of_block (a:=⟨w1.heap.size,3,none⟩) vb).trans (by simp (maxDischargeDepth:=12) [cell_set,v3])
 have x4:w4.cell? ⟨w1.heap.size,4,none⟩=some (.int .i64 (o / 16)):=(World.cell?_of_block (a:=⟨w1.heap.size,4,none⟩) vb).trans (by simp (maxDischargeDepth:=12) [cell_set,v4])
 have qb:w4.heap[w.heap.size]?=some (.cells #[.string ⟨#[]⟩,.int .i64 0,.bool false,.bool false,.int .i64 0] 114):=by
  have hl:=Nat.lt_trans hQ1 (cell_lt v0)
  rw[hx4.block w.heap.size (Nat.lt_of_lt_of_le hl (by simpa [World.setCell] using (uh HB3).size)) (by omega),(uh HB3).block w.heap.size (by simpa [World.setCell] using hl)]
  rw[Below.heap_setCell _ _ _ _ (by show _≠w1.heap.size;omega),Below.heap_setCell _ _ _ _ (by show _≠w1.heap.size;omega),Below.heap_setCell _ _ _ _ (by show _≠w1.heap.size;omega),Below.heap_setCell _ _ _ _ (by show _≠w1.heap.size;omega)]
  exact uh QB
 have y0:w4.cell? ⟨w.heap.size,0,none⟩=some (.string ⟨#[]⟩):=by simp[World.cell?,qb]
 have y1:w4.cell? ⟨w.heap.size,1,none⟩=some (.int .i64 0):=by simp[World.cell?,qb]
 have y2:w4.cell? ⟨w.heap.size,2,none⟩=some (.bool false):=by simp[World.cell?,qb]
 have y3:w4.cell? ⟨w.heap.size,3,none⟩=some (.bool false):=by simp[World.cell?,qb]
 have y4:w4.cell? ⟨w.heap.size,4,none⟩=some (.int .i64 0):=by simp[World.cell?,qb]
 have z:∀ j,w4.frozen? ⟨w.heap.size,j,none⟩=false:=fun j=>by simp[World.frozen?,qb]
 have HS5:=zh h4
 have HX5:=zh hx4
 clear h4 hx4 vb qb v0 v1 v2 v3 v4 u1 u2 u3 u4 b1 b2 b3 b4
 go_wp2
 refine bodyPost_ret (res_sub (B:=w.heap.size) (v0:=.string f) (v1:=.int .i64 (o % 4)) (v2:=.bool (btest o 4)) (v3:=.bool (btest o 8)) (v4:=.int .i64 (o / 16)) rfl rfl ?c0 ?c1 ?c2 ?c3 ?c4) rfl ?_
 case c0=>simp (maxDischargeDepth:=12) [cell_set,y0]
 case c1=>simp (maxDischargeDepth:=12) [cell_set,y1]
 case c2=>simp (maxDischargeDepth:=12) [cell_set,y2]
 case c3=>simp (maxDischargeDepth:=12) [cell_set,y3]
 case c4=>simp (maxDischargeDepth:=12) [cell_set,y4]
 have hle:=Nat.le_refl w.heap.size
 have hne:w.heap.size≠R:=by omega
 have h0:w0.heap.size<=w.heap.size:=(uh HS).keep.size
 refine⟨sbOf f o,_,rfl,(uh HST1).bind ((uh HST2).bind ((Stp.must _ st2).bind (Stp.pure _ _))),?_,((((((uh HX4).trans (uh HX5)).setOut _ 0 _ hle hlt).setOut _ 1 _ hle hlt).setOut _ 2 _ hle hlt).setOut _ 3 _ hle hlt).setOut _ 4 _ hle hlt⟩
 refine (((((uh HS5).setOut _ 0 _ hne h0 ?_).setOut _ 1 _ hne h0 ?_).setOut _ 2 _ hne h0 ?_).setOut _ 3 _ hne h0 ?_).setOut _ 4 _ hne h0 ?_
 ·intro t x e;rw[y1]at e;cases e
 all_goals (intro t x e;simp (maxDischargeDepth:=12) [cell_set,y1]at e)
theorem bel_drew (w:World):Below w.heap.size w w.drew:=kbelow_drew w
def many {α:Type} (f:List Int->Option (α×List Int)):Nat->List Int->Option (List α×List Int)
 | 0,l=>if l=[] then some ([],[]) else none
 | n+1,l=>if l=[] then some ([],[]) else (f l).bind fun r=>(many f n r.2).map fun s=>(r.1 :: s.1,s.2)
def Shr {α:Type} (f:List Int->Option (α×List Int)):Prop:=∀ l x l',f l=some (x,l')->l'.length < l.length
def manyR {α:Type} (f:List Int->Option (α×List Int)) (l:List Int):Option (List α×List Int):=many f l.length l
theorem many_nil {α:Type} (f:List Int->Option (α×List Int)) (n:Nat):many f n []=some ([],[]):=by cases n <;> simp[many]
theorem many_fuel {α:Type} {f:List Int->Option (α×List Int)} (hf:Shr f):∀ (n m:Nat) (l:List Int),l.length<=n->l.length<=m->many f n l=many f m l
 | 0,m,l,hn,_=>by
  obtain rfl:l=[]:=List.length_eq_zero_iff.1 (by omega)
  rw[many_nil,many_nil]
 | n+1,0,l,_,hm=>by
  obtain rfl:l=[]:=List.length_eq_zero_iff.1 (by omega)
  rw[many_nil,many_nil]
 | n+1,m+1,l,hn,hm=>by
  unfold many
  by_cases hl:l=[]
  ·simp[hl]
  ·simp only[if_neg hl]
   cases h:f l with
   | none=>rfl
   | some r =>
    have:=hf l r.1 r.2 h
    simp only[Option.bind_some]
    rw[many_fuel hf n m r.2 (by omega) (by omega)]
theorem manyR_cons {α:Type} {f:List Int->Option (α×List Int)} (hf:Shr f) (l:List Int) (hl:l≠[]):manyR f l=(f l).bind fun r=>(manyR f r.2).map fun s=>(r.1 :: s.1,s.2):=by
 unfold manyR
 obtain⟨n,hn⟩:∃ n,l.length=n+1:=⟨l.length - 1,by have:=List.length_pos_iff.2 hl;omega⟩
 rw[hn]
 show (if l=[] then _ else _)=_
 rw[if_neg hl]
 cases h:f l with
 | none=>rfl
 | some r =>
  have:=hf l r.1 r.2 h
  simp only[Option.bind_some]
  rw[many_fuel hf n r.2.length r.2 (by omega) (Nat.le_refl _)]
def Acc {α:Type} (f:List Int->Option (α×List Int)) (st0:Option (List Int)) (d:List α) (st:Option (List Int)):Prop :=
 match st0 with
 | none=>st=none
 | some l0=>match st with
  | none=>manyR f l0=none
  | some l=>manyR f l0=(manyR f l).map fun s=>(d++s.1,s.2)
theorem Acc.start {α:Type} (f:List Int->Option (α×List Int)) (st:Option (List Int)):Acc f st [] st:=by
 cases st with
 | none=>rfl
 | some l=>simp[Acc]
theorem Acc.step {α:Type} {f:List Int->Option (α×List Int)} {st0 st':Option (List Int)} {d:List α} {x:α} {l:List Int} (hf:Shr f) (h:Acc f st0 d (some l)) (hs:Stp f (some l) x st') (hl:l≠[]):Acc f st0 (d++[x]) st':=by
 cases st0 with
 | none=>cases h
 | some l0 =>
  unfold Acc at h
  simp only at h
  rw[manyR_cons hf l hl]at h
  unfold Stp at hs
  simp only at hs
  cases hq:f l with
  | none =>
   rw[hq]at hs h
   obtain rfl:st'=none:=hs
   simpa [Acc] using h
  | some r =>
   obtain⟨y,l'⟩:=r
   rw[hq]at hs h
   obtain⟨rfl,rfl⟩:=hs
   simp only[Option.bind_some,Option.map_map]at h
   show manyR f l0=_
   rw[h]
   congr 1
   funext s
   simp
theorem Acc.done {α:Type} {f:List Int->Option (α×List Int)} {st0 st:Option (List Int)} {d:List α} (h:Acc f st0 d st) (he:st=none\/st=some []):Stp (manyR f) st0 d st:=by
 cases st0 with
 | none=>exact h
 | some l0 =>
  rcases he with rfl | rfl
  ·have h:manyR f l0=none:=h
   simp[Stp,h]
  ·have h:manyR f l0=(manyR f []).map fun s=>(d++s.1,s.2):=h
   rw[show manyR f []=some ([],[]) from many_nil f 0]at h
   simp[Stp,h]
theorem one?_shr:Shr one?:=by
 intro l x l' h
 cases l with
 | nil=>cases h
 | cons a t=>simp[one?]at h;obtain⟨_,rfl⟩:=h;simp
theorem text?_shr:Shr text?:=by
 intro l x l' h
 unfold text? gt at h
 by_cases hf:full l=true
 ·rw[if_pos hf]at h
  have:=full_len l hf
  by_cases hu:utf (sb (gbs l))=true
  ·rw[if_pos hu]at h
   simp only[if_true,Option.some.injEq,Prod.mk.injEq]at h
   obtain⟨_,rfl⟩:=h
   rw[List.length_drop,Int.toNat_natCast]
   omega
  ·rw[if_neg hu]at h
   simp at h
 ·rw[if_neg hf]at h
  simp at h
theorem bind_shr {α β:Type} {f:List Int->Option (α×List Int)} {g:α->List Int->Option (β×List Int)} (hf:Shr f) (hg:∀ x l y l',g x l=some (y,l')->l'.length<=l.length):Shr (bindR f g):=by
 intro l y l' h
 unfold bindR at h
 cases hq:f l with
 | none=>rw[hq]at h;cases h
 | some r =>
  rw[hq]at h
  have h1:=hf l r.1 r.2 hq
  have h2:=hg r.1 r.2 y l' h
  omega
theorem sub?_shr:Shr sub?:=by
 refine bind_shr text?_shr (fun f l y l' h=>?_)
 refine Nat.le_of_lt (bind_shr one?_shr (fun o l y l' h=>?_) l y l' h)
 unfold bindR mustR at h
 split at h
 ·simp[pureR]at h
  rw[h.2]
  exact Nat.le_refl _
 ·cases h
theorem stp_len {α:Type} {f:List Int->Option (α×List Int)} (hf:Shr f) {l l':List Int} {x:α} (h:Stp f (some l) x (some l')):l'.length < l.length:=by
 unfold Stp at h
 simp only at h
 cases hq:f l with
 | none=>rw[hq]at h;cases h
 | some r =>
  obtain⟨y,l2⟩:=r
  rw[hq]at h
  obtain⟨_,e⟩:=h
  cases e
  exact hf l y l' hq
def list? {α:Type} (f:List Int->Option (α×List Int)):List Int->Option (List α×List Int):=bindR (manyR f) fun d=>bindR (mustR (mc d.length)) fun _=>pureR d
def mlen (R:Nat) (w:World):Nat:=match w.cell? ⟨R,20,none⟩ with
 | some .nilIface=>match w.cell? ⟨R,19,none⟩ with
  | some (.slice _ n _)=>n+1
  | _=>0
 | _=>0
theorem mlen_some {w0 w:World} {R:Nat} {X:Nat->Prop} {l:List Int} (h:RSX w0 w R X (some l)):mlen R w=l.length+1:=by
 obtain⟨_,_,bv,l',E,hr,hb,_,_,hst⟩:=h
 obtain⟨ao,cap,rfl,_⟩:=hb.form
 rcases hst with⟨e,rfl⟩ | ⟨e,_⟩
 ·cases e
  unfold mlen
  rw[hr.2.2.1,hr.1]
 ·cases e
theorem mlen_none {w0 w:World} {R:Nat} {X:Nat->Prop} (h:RSX w0 w R X none):mlen R w=0:=by
 obtain⟨_,_,bv,l',E,hr,hb,_,_,hst⟩:=h
 rcases hst with⟨e,_⟩ | ⟨_,d,n,_,he⟩
 ·cases e
 ·obtain⟨t,x,rfl⟩:=he.iface
  unfold mlen
  rw[hr.2.2.1]
theorem RSX.err {w0 w:World} {R:Nat} {X:Nat->Prop} {st:Option (List Int)} (h:RSX w0 w R X st):(∃ l,st=some l/\w.cell? ⟨R,20,none⟩=some .nilIface)\/(st=none/\∃ t x,w.cell? ⟨R,20,none⟩=some (.iface t x)):=by
 obtain⟨_,_,bv,l',E,hr,hb,_,_,hst⟩:=h
 rcases hst with⟨e,rfl⟩ | ⟨e,d,n,_,he⟩
 ·exact .inl ⟨l',e,hr.2.2.1⟩
 ·obtain⟨t,x,rfl⟩:=he.iface
  exact .inr ⟨e,t,x,hr.2.2.1⟩
theorem RSX.grown {w0 w w':World} {R:Nat} {X:Nat->Prop} {st:Option (List Int)} {row:Option Nat} (h:RSX w0 w R X st) (hg:w.grownBy w' row) (hX:∀ g,row=some g->X g) (hR:row≠some R) (h0:∀ g,row=some g->w0.heap.size<=g):RSX w0 w' R X st:=by
 obtain⟨hXX,⟨x,hd⟩,bv,l,E,⟨r1,r2,r3,r4⟩,hb,hw,hR0,hst⟩:=h
 have hblk:w'.heap[R]?=w.heap[R]?:=hg.block R (cell_lt hd) (fun e=>hR e.symm)
 have hc:∀ j,w'.cell? ⟨R,j,none⟩=w.cell? ⟨R,j,none⟩:=fun j=>World.cell?_of_block hblk
 have hf:∀ j,w'.frozen? ⟨R,j,none⟩=w.frozen? ⟨R,j,none⟩:=fun j=>World.frozen?_of_block hblk
 refine⟨xs_grow hXX hg.size,⟨x,(hc 1).trans hd⟩,bv,l,E,⟨(hc 19).trans r1,(hf 19).trans r2,(hc 20).trans r3,(hf 20).trans r4⟩,hb,⟨hg.os.trans hw.os,hg.tape.trans hw.tape,hg.output.trans hw.output,Nat.le_trans hw.size hg.size,fun k hk=>(hg.block k (Nat.lt_of_lt_of_le hk hw.size) (fun e=>by have:=h0 k e.symm;omega)).trans (hw.block k hk)⟩,hR0,?_⟩
 have key:∀ {d:Nat} {v:Value} {n:Int},ErO w X d v n->ErO w' X d v n:=by
  intro d
  induction d with
  | zero=>intro v n h;exact h
  | succ d ih =>
   rintro v n ⟨b,u,h1,hR,h2,h3⟩
   exact⟨b,u,h1,hR,(World.cell?_of_block (a:=⟨b,1,none⟩) (hg.block b (cell_lt h2) (fun e=>hR (hX b e.symm)))).trans h2,ih h3⟩
 rcases hst with h | ⟨h,d,n,hd,he⟩
 ·exact .inl h
 ·exact .inr ⟨h,d,n,hd,key he⟩
theorem BX.grown {R:Nat} {may:Nat->Prop} {a b c:World} {row:Option Nat} (h:BX R may a b) (hg:b.grownBy c row) (hrow:∀ g,row=some g->a.heap.size<=g) (hR:R < a.heap.size):BX R may a c:=by
 have hblk:c.heap[R]?=b.heap[R]?:=hg.block R (Nat.lt_of_lt_of_le hR h.size) (fun e=>by have:=hrow R e.symm;omega)
 exact h.trans' ⟨hg.os,hg.tape,hg.output,hg.size,fun k hk _=>hg.block k (Nat.lt_of_lt_of_le hk h.size) (fun e=>by have:=hrow k e.symm;omega),fun j _=>World.cell?_of_block hblk,fun j=>World.frozen?_of_block hblk⟩
theorem Pk.grown {w w':World} {R:Nat} {p:Pkv} {row:Option Nat} (h:Pk w R p) (hg:w.grownBy w' row) (hR:row≠some R):Pk w' R p:=fun j hj=>by
 have hblk:w'.heap[R]?=w.heap[R]?:=hg.block R (cell_lt (h 0 (by omega)).1) (fun e=>hR e.symm)
 exact⟨(World.cell?_of_block hblk).trans (h j hj).1,(World.frozen?_of_block hblk).trans (h j hj).2⟩
theorem step_append_run {w:World} {ops:Array Oper} {o:Oper} {a:Act} {K:Act->World->Prop} {Q:Exit->Act->World->Prop} {E:Prop} {Z:Value->World->Prop} (hgd:o.guard=none) (s x:Operand) (t:TypeId)
  (ho:o.op=.call { callee:=.builtin .append,args:=#[s,x],argTypes:=#[t,t] }) (v vx:Value) (hs:a.eval s=v) (hx:a.eval x=vx)
  (hr:∃ v' w',(Builtin.append_ #[t,t] o.type #[v,vx]).run Tryz.prog w=.ok v' w'/\Z v' w') (h:∀ v' w',Z v' w'->K (a.put o.dst v') w') :
  if Region.wanted o (yielded ops a.tmps)=true then Oper.wp Tryz.prog o a w K Q else E:=by
 have hw:Region.wanted o (yielded ops a.tmps)=true:=by simp[Region.wanted,hgd]
 rw[if_pos hw]
 obtain⟨v',w',hr,h2⟩:=hr
 unfold Oper.wp execOp
 simp only[ho,resolve,invoke,builtin,Sem.run_bind,Sem.run_pure,Result.andThen_ok,List.map_toArray,List.map_cons,List.map_nil,hs,hx,hr]
 exact h v' w' h2
end Go.Proofs.YtpheelbbpiieiaaGreatDoor.K
