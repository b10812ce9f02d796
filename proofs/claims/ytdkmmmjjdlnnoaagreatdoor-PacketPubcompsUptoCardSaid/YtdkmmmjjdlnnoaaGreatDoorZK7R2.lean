/- Proved here: helpers, one text behind the other. -/
import Derived.Test.YtdkmmmjjdlnnoaaGreatDoorZC40
import Derived.Test.YtdkmmmjjdlnnoaaGreatDoorZC6
import Derived.Test.YtdkmmmjjdlnnoaaGreatDoorZK7R1
import Derived.Test.YtdkmmmjjdlnnoaaGreatDoorZC42
import Derived.Laws.AppendOwn
import Derived.Deep.CutRange
import Derived.Test.YtdkmmmjjdlnnoaaGreatDoorZC44
import Derived.Test.YtdkmmmjjdlnnoaaGreatDoorZC27
set_option maxHeartbeats 20000000
namespace Go.Proofs.YtdkmmmjjdlnnoaaGreatDoor.K
open Go.RowKit
set_option maxRecDepth 100000
theorem pair_pg (R:Nat) (st:Option (List Int)) (w0:GW) (w:World) (h:RP w0 w R st):Calls Tryz.prog 103 #[.pointer (some ⟨R,0,none⟩)] w (PgI w0 R 65535 two? st w):=by
 have HS:=zh h
 clear h
 go_enter Tryz.func103,Tryz.ntmps103
 go_wp2_with fail
 refine (byte_pg R st w0 w (uh HS)).mono ?_
 rintro e w1 ⟨x,st1,rfl,hx,hs1,h1,hx1⟩
 have HS1:=zh h1
 have HX1:=zh hx1
 have HST1:=zh hs1
 clear h1 hx1 hs1
 go_wp2_with fail
 refine (byte_pg R st1 w0 w1 (uh HS1)).mono ?_
 rintro e w2 ⟨y,st2,rfl,hy,hs2,h2,hx2⟩
 have HS2:=zh h2
 have HX2:=zh hx2
 have HST2:=zh hs2
 have e1:=K.or_256 x y hx.1 (by omega) hy.1 (by omega)
 clear h2 hx2 hs2
 go_wp2
 go_ret
 refine⟨x * 256+y,st2,rfl,by omega,?_,uh HS2,(uh HX1).trans (uh HX2)⟩
 have k:Stp (bindR one? fun x=>bindR one? fun y=>pureR (x * 256+y)) st (x * 256+y) st2:=(uh HST1).bind ((uh HST2).bind (Stp.pure _ _))
 refine Stp.congr (fun l=>?_) k
 match l with
 | []=>rfl
 | [_]=>rfl
 | _ :: _ :: _=>rfl
theorem B2.setR {R A:Nat} {a b:World} (h:B2 R A a b) (j:Nat) (u:Value):B2 R A a (b.setCell ⟨R,j,none⟩ u) :=
 h.trans ⟨rfl,rfl,rfl,by simp[World.setCell],fun k _ hR _=>Below.heap_setCell _ _ _ _ hR⟩
def moreB:Option (List Int)->Bool
 | none=>false
 | some l=>!l.isEmpty
theorem more_pg (R:Nat) (st:Option (List Int)) (w0:GW) (w:World) (h:RP w0 w R st):Calls Tryz.prog 145 #[.pointer (some ⟨R,0,none⟩)] w fun e w'=>e=.returned (.bool (moreB st))/\Below w.heap.size w w':=by
 obtain⟨ao,n,cap,k,bad,L,hc,hy,hk,hn,hw,hR,hst⟩:=h
 obtain⟨hl,hc1,hc2⟩:=byt_len hy
 unfold maxLen at hc2
 have HD:=zh (bel_drew w)
 obtain⟨h0,⟨h1,f1⟩,h2,f2⟩:=hc
 cases bad
 ·have HM:Hid (moreB st=decide (k < n)):=by
   show _=_
   rw[hst]
   show (!(L.drop k).isEmpty)=_
   rcases Nat.lt_or_ge k n with a | a
   ·rw[decide_eq_true (by omega)]
    cases hd:L.drop k with
    | nil=>have:=congrArg List.length hd;rw[List.length_drop,hl]at this;simp at this;omega
    | cons x t=>rfl
   ·rw[decide_eq_false (by omega),List.drop_of_length_le (by omega)]
    rfl
  clear hst hy hw hl
  go_enter Tryz.func145,Tryz.ntmps145
  go_wp2_with fail
  refine wp_region_noPanic ?_
  refine wp_region_held_drew (S:=(fun w'=>w'.cell? ⟨R,0,none⟩=some (.slice ao n cap)/\w'.cell? ⟨R,1,none⟩=some (.int .i64 (k:Nat))/\w'.cell? ⟨R,2,none⟩=some (.bool false))) (by kernel_rfl) ⟨by simpa using h0,by simpa using h1,by simpa using h2⟩ (fun hHeld=>?_)
  refine rtk 0 (h:=?_)
  refine rtk 1 (h:=?_)
  refine rtk 2 (h:=?_)
  refine rtk 3 (h:=?_)
  refine rtk 4 (h:=?_)
  refine rtk 5 (h:=?_)
  refine rtk 6 (h:=?_)
  refine rtk 7 (h:=?_)
  refine rtk 8 (h:=?_)
  refine rtk 9 (h:=?_)
  refine rtk 10 (h:=?_)
  refine rtk 11 (h:=?_)
  refine rtk 12 (h:=?_)
  refine rtk 13 (h:=?_)
  refine rtk 14 (h:=?_)
  refine rtk 15 (h:=?_)
  refine rtk 16 (h:=?_)
  refine rcl 17 (h:=fun K hK=>?_)
  go_simp
  refine hK.out _ _ ⟨by simpa using h0,by simpa using h1,by simpa using h2⟩ (fun hHeld=>?_)
  clear hK K
  refine wpAnyH_done (by kernel_rfl) ?_ _
  refine NoPanic.normal ?_
  go_wp2
  go_ret
  exact⟨by rw[uh HM];rfl,uh HD⟩
 ·obtain rfl:st=none:=hst
  clear hy hw hl
  go_enter Tryz.func145,Tryz.ntmps145
  go_wp2_with fail
  refine wp_region_noPanic ?_
  refine wp_region_held_drew (S:=(fun w'=>w'.cell? ⟨R,0,none⟩=some (.slice ao n cap)/\w'.cell? ⟨R,1,none⟩=some (.int .i64 (k:Nat))/\w'.cell? ⟨R,2,none⟩=some (.bool true))) (by kernel_rfl) ⟨by simpa using h0,by simpa using h1,by simpa using h2⟩ (fun hHeld=>?_)
  refine rtk 0 (h:=?_)
  refine rtk 1 (h:=?_)
  refine rtk 2 (h:=?_)
  refine rtk 3 (h:=?_)
  refine rtk 4 (h:=?_)
  refine rtk 5 (h:=?_)
  refine rsk 6 (h:=?_)
  refine rsk 7 (h:=?_)
  refine rsk 8 (h:=?_)
  refine rsk 9 (h:=?_)
  refine rsk 10 (h:=?_)
  refine rsk 11 (h:=?_)
  refine rsk 12 (h:=?_)
  refine rsk 13 (h:=?_)
  refine rsk 14 (h:=?_)
  refine rsk 15 (h:=?_)
  refine rtk 16 (h:=?_)
  refine rcl 17 (h:=fun K hK=>?_)
  go_simp
  refine hK.out _ _ ⟨by simpa using h0,by simpa using h1,by simpa using h2⟩ (fun hHeld=>?_)
  clear hK K
  refine wpAnyH_done (by kernel_rfl) ?_ _
  refine NoPanic.normal ?_
  go_wp2
  go_ret
  exact⟨rfl,uh HD⟩
theorem moreB_no {st:Option (List Int)} (h:moreB st=false):st=none\/st=some []:=by
 cases st with
 | none=>exact .inl rfl
 | some l=>cases l with
  | nil=>exact .inr rfl
  | cons a t=>cases h
theorem moreB_yes {st:Option (List Int)} (h:moreB st=true):∃ l,st=some l/\l≠[]:=by
 cases st with
 | none=>cases h
 | some l=>cases l with
  | nil=>cases h
  | cons a t=>exact⟨_,rfl,by simp⟩
def TailPg (w0:GW) (R A:Nat) (p:Pkv) (st:Option (List Int)) (w:World) (e:Ending) (w':World):Prop :=
 e=.returned (.tuple #[])/\∃ (c:Int) (t:Sl) (x:List Pr) (st':Option (List Int)),Pk w' A { p with code:=c,props:=t }/\Hid (w'.ownsRow w.heap.size 88 4 t.val x.length (pcs x))/\Stp (reason? p.kind) st (c,x) st'/\RP w0 w' R st'/\B2 R A w w'
theorem tail_pg (R A:Nat) (p:Pkv) (st:Option (List Int)) (w0:GW) (w:World) (h:RP w0 w R st) (hp:Pk w A p) (hA:A≠R) (hA0:w0.heap.size<=A) (hc:p.code=0) (hpr:p.props=⟨none,0,0⟩):Calls Tryz.prog 105 #[.pointer (some ⟨R,0,none⟩),.pointer (some ⟨A,0,none⟩)] w (TailPg w0 R A p st w):=by
 have hlt:=h.lt
 have hla:=hp.lt
 have HP:=zh hp
 have HS:=zh h
 have HC:=zh hc
 have HPR:=zh hpr
 clear hp h hc hpr
 cases hm:moreB st
 ·go_enter Tryz.func105,Tryz.ntmps105
  go_wp2_with fail
  refine (more_pg R st w0 w (uh HS)).mono ?_
  rintro e w1 ⟨rfl,hb1⟩
  rw[hm]
  have HS1:=zh ((uh HS).below hb1)
  have HB1:=zh hb1
  clear hb1
  go_wp2_with fail
  refine (more_pg R st w0 w1 (uh HS1)).mono ?_
  rintro e w2 ⟨rfl,hb2⟩
  rw[hm]
  have HB2:Hid (Below w.heap.size w w2):=(uh HB1).trans (hb2.mono (uh HB1).size)
  clear hb2
  go_wp2
  go_end0
  refine⟨rfl,0,⟨none,0,0⟩,[],st,?_,owns_nil _ _ _ _,?_,(uh HS).below (uh HB2),B2.bel (uh HB2)⟩
  ·have e:{ p with code:=0,props:=⟨none,0,0⟩ }=p:=by rw[<- uh HC,<- uh HPR]
   rw[e]
   exact (uh HP).below (uh HB2)
  ·rcases moreB_no hm with rfl | rfl
   ·exact rfl
   ·exact⟨rfl,rfl⟩
 ·obtain⟨l,rfl,hl⟩:=moreB_yes hm
  obtain⟨y,t,rfl⟩:∃ y t,l=y :: t:=by cases l with | nil=>exact absurd rfl hl | cons y t=>exact⟨y,t,rfl⟩
  clear hl
  go_enter Tryz.func105,Tryz.ntmps105
  go_wp2_with fail
  refine (more_pg R _ w0 w (uh HS)).mono ?_
  rintro e w1 ⟨rfl,hb1⟩
  rw[hm]
  have HS1:=zh ((uh HS).below hb1)
  have HP1:=zh ((uh HP).below hb1)
  have HB1:Hid (B2 R A w w1):=B2.bel hb1
  clear hb1 hm
  go_wp2_with fail
  refine (byte_pg R _ w0 w1 (uh HS1)).mono ?_
  rintro e w2 ⟨c,st2,rfl,hcr,hs2,h2,hx2⟩
  obtain⟨rfl,rfl⟩:=hs2
  have hp2:=(uh HP1).oth hx2 hA
  have c14:=hp2.code
  have f14:=hp2.code_f
  have c0:=hp2.kind
  have HP2:=zh (hp2.set_code c)
  have HS2:=zh (h2.set A 14 (.int .i64 c) hA hA0)
  have HB2:Hid (B2 R A w (w2.setCell ⟨A,14,none⟩ (.int .i64 c))):=((uh HB1).trans (B2.bx hx2)).set 14 _
  clear hp2 h2 hx2
  cases ht:t with
  | nil =>
   subst ht
   go_wp2_with fail
   refine (more_pg R _ w0 _ (uh HS2)).mono ?_
   rintro e w3 ⟨rfl,hb3⟩
   rw[show moreB (some [])=false from rfl]
   have HB3:Hid (B2 R A w w3):=(uh HB2).trans (B2.bel hb3)
   have HP3:=zh ((uh HP2).below hb3)
   have HS3:=zh ((uh HS2).below hb3)
   clear hb3
   go_wp2
   go_end0
   refine⟨rfl,c,⟨none,0,0⟩,[],_,?_,owns_nil _ _ _ _,?_,uh HS3,uh HB3⟩
   ·have e:{ p with code:=c,props:=⟨none,0,0⟩ }={ p with code:=c }:=by rw[<- uh HPR]
    rw[e]
    exact uh HP3
   ·exact⟨rfl,rfl⟩
  | cons y' t' =>
   subst ht
   go_wp2_with fail
   refine (more_pg R _ w0 _ (uh HS2)).mono ?_
   rintro e w3 ⟨rfl,hb3⟩
   rw[show moreB (some (y' :: t'))=true from rfl]
   have HB3:Hid (B2 R A w w3):=(uh HB2).trans (B2.bel hb3)
   have hp3:=(uh HP2).below hb3
   have d0:=hp3.kind
   have HP3:=zh hp3
   have HS3:=zh ((uh HS2).below hb3)
   clear hb3 hp3 c14 f14 c0
   go_wp2_with fail
   refine (props_pg R _ _ w0 _ (uh HS3)).mono ?_
   rintro e w4 ⟨s,x,st4,rfl,hO,hs4,h4,hx4⟩
   have hp4:=(uh HP3).oth hx4 hA
   have d7:=hp4.props
   have e7:=hp4.props_f
   have HP4:=zh (hp4.set_props s)
   have HS4:=zh (h4.set A 7 s.val hA hA0)
   have HB4:Hid (B2 R A w (w4.setCell ⟨A,7,none⟩ s.val)):=((uh HB3).trans (B2.bx hx4)).set 7 _
   have HST4:=zh hs4
   have hB:w.heap.size<=w3.heap.size:=(uh HB3).size
   clear hp4 h4 hx4 hs4 d0
   go_wp2
   go_end0
   refine⟨rfl,c,s,x,st4,uh HP4,?_,?_,uh HS4,uh HB4⟩
   ·exact owns_mono (owns_b2 (uh hO) ((B2.refl R A w4).set 7 _) (Nat.lt_of_lt_of_le hlt hB) (Nat.lt_of_lt_of_le hla hB)) hB
   ·have k3:=uh HST4
    simp only[Stp,reason?]at k3 |-
    cases hq:props? p.kind (y' :: t') with
    | none=>rw[show ({ p with code:=c }:Pkv).kind=p.kind from rfl,hq]at k3;simpa using k3
    | some r =>
     obtain⟨r1,r2⟩:=r
     rw[show ({ p with code:=c }:Pkv).kind=p.kind from rfl,hq]at k3
     obtain⟨rfl,rfl⟩:=k3
     simp
theorem stp_id {st st1:Option (List Int)} {i:Int} (h:Stp two? st i st1):Stp id? st i (if i=0 then none else st1):=by
 cases st with
 | none=>obtain rfl:st1=none:=h;split <;> rfl
 | some l =>
  unfold Stp at h |-
  simp only at h |-
  unfold id?
  cases hq:two? l with
  | none=>rw[hq]at h;obtain rfl:st1=none:=h;simp
  | some r =>
   obtain⟨y,t⟩:=r
   rw[hq]at h
   obtain⟨rfl,rfl⟩:=h
   simp only
   by_cases hi:i=0
   ·simp[hi]
   ·simp[hi]
theorem body_7 (R A:Nat) (d:Bool) (q:Int) (r:Bool) (st:Option (List Int)) (w0:GW) (w:World) (h:RP w0 w R st) (hp:Pk w A (pk0 7 d q r)) (hA:A≠R) (hA0:w0.heap.size<=A):Calls Tryz.prog 53 #[.pointer (some ⟨R,0,none⟩),.pointer (some ⟨A,0,none⟩)] w (BodyPg w0 R A (pa0 7 d q r) st w):=by
 have hRw:=h.lt
 have hAw:=hp.lt
 have c0:=hp.kind
 simp only[pk0]at c0
 have HP:=zh hp
 have HS:=zh h
 clear hp h
 go_enter Tryz.func53,Tryz.ntmps53
 go_wp2_with fail
 refine (pair_pg R st w0 w (uh HS)).mono ?_
 rintro e w2 ⟨i,st2,rfl,hi,hs2,h2,hx2⟩
 have hp2:=(uh HP).oth hx2 hA
 have d5:=hp2.id
 have g5:=hp2.id_f
 simp only[pk0]at d5
 have HP2:=zh (hp2.set_id i)
 have HS2:=zh (h2.set A 5 (.int .i64 i) hA hA0)
 have HB2:Hid (B2 R A w (w2.setCell ⟨A,5,none⟩ (.int .i64 i))):=(B2.bx hx2).set 5 _
 have HST2:=zh (stp_id hs2)
 clear hp2 h2 hx2 hs2 HP HS c0
 go_upto_region 25 with fail
 generalize w2.setCell ⟨A,5,none⟩ (.int .i64 i)=wx at HP2 HS2 HB2 |-
 clear d5 g5
 have e5:=(uh HP2).id
 simp only at e5
 by_cases hi0:i=0
 ·rw[if_pos hi0]at HST2
  have hib:(i == 0)=true:=by simpa using hi0
  clear hi0
  obtain⟨bb,c2,f2,_⟩:=(uh HS2).c2
  have HS3:=zh (uh HS2).bad
  have HP3:=zh ((uh HP2).blk (w':=wx.setCell ⟨R,2,none⟩ (.bool true)) (Below.heap_setCell _ _ _ _ hA))
  have HB3:Hid (B2 R A w (wx.setCell ⟨R,2,none⟩ (.bool true))):=(uh HB2).setR 2 _
  go_wp2_with fail
  refine (tail_pg R A _ _ w0 _ (uh HS3) (uh HP3) hA hA0 rfl rfl).mono ?_
  rintro e w3 ⟨rfl,c,t,x,st3,hp3,hO3,hs3,h3,hb3⟩
  have HP4:=zh hp3
  have HS4:=zh h3
  have HST4:=zh hs3
  have HB4:Hid (B2 R A w w3):=(uh HB3).trans hb3
  have hwx:w.heap.size<=(wx.setCell ⟨R,2,none⟩ (.bool true)).heap.size:=(uh HB3).size
  clear hp3 h3 hs3 hb3
  go_wp2
  go_end0
  exact⟨rfl,_,{ pa0 7 d q r with id:=i,code:=c,props:=x },st3,uh HP4,Stp.bind (g:=fun (i:Int)=>bindR (reason? 7) fun (r':Int×List Pr)=>pureR ({ pa0 7 d q r with id:=i,code:=r'.1,props:=r'.2 }:Pa)) (uh HST2) (Stp.bind (g:=fun (r':Int×List Pr)=>pureR ({ pa0 7 d q r with id:=i,code:=r'.1,props:=r'.2 }:Pa)) (uh HST4) (Stp.pure _ _)),uh HS4,uh HB4,.inr ⟨⟨rfl,rfl,rfl,rfl,rfl,rfl,rfl,rfl,rfl,rfl,rfl,rfl⟩,owns_mono (uh hO3) hwx,wills0 _ _,row0 _ _ _ _,row0 _ _ _ _,row0 _ _ _ _,row0 _ _ _ _,row0 _ _ _ _⟩⟩
 ·rw[if_neg hi0]at HST2
  have hib:(i == 0)=false:=by simpa using hi0
  have HS3:=HS2
  have HP3:=HP2
  have HB3:=HB2
  go_wp2_with fail
  refine (tail_pg R A _ _ w0 _ (uh HS3) (uh HP3) hA hA0 rfl rfl).mono ?_
  rintro e w3 ⟨rfl,c,t,x,st3,hp3,hO3,hs3,h3,hb3⟩
  have HP4:=zh hp3
  have HS4:=zh h3
  have HST4:=zh hs3
  have HB4:Hid (B2 R A w w3):=(uh HB3).trans hb3
  have hwx:w.heap.size<=wx.heap.size:=(uh HB3).size
  clear hp3 h3 hs3 hb3
  go_wp2
  go_end0
  exact⟨rfl,_,{ pa0 7 d q r with id:=i,code:=c,props:=x },st3,uh HP4,Stp.bind (g:=fun (i:Int)=>bindR (reason? 7) fun (r':Int×List Pr)=>pureR ({ pa0 7 d q r with id:=i,code:=r'.1,props:=r'.2 }:Pa)) (uh HST2) (Stp.bind (g:=fun (r':Int×List Pr)=>pureR ({ pa0 7 d q r with id:=i,code:=r'.1,props:=r'.2 }:Pa)) (uh HST4) (Stp.pure _ _)),uh HS4,uh HB4,.inr ⟨⟨rfl,rfl,rfl,rfl,rfl,rfl,rfl,rfl,rfl,rfl,rfl,rfl⟩,owns_mono (uh hO3) hwx,wills0 _ _,row0 _ _ _ _,row0 _ _ _ _,row0 _ _ _ _,row0 _ _ _ _,row0 _ _ _ _⟩⟩
end Go.Proofs.YtdkmmmjjdlnnoaaGreatDoor.K
namespace Go.Proofs.YtdkmmmjjdlnnoaaGreatDoor.K.B
open Go.RowKit
open Go.Proofs.YtdkmmmjjdlnnoaaGreatDoor.K
set_option maxRecDepth 100000
theorem RT.ebind {α β:Type} {f:List Int->Option (α×List Int)} {g:α->List Int->Option (β×List Int)} {ys zs:List Int} {x:α} {y:β} (h:RT f ys x) (k:ET (g x) zs y):ET (bindR f g) (ys++zs) y:=by
 unfold ET bindR
 rw[h]
 exact k
theorem rt_two {k:Int} (h:in16 k=true):RT two? (b2 k) k:=fun r=>by
 unfold in16 at h
 simp only[Bool.and_eq_true,decide_eq_true_eq]at h
 show some (k / 256 % 256 * 256+k % 256,r)=some (k,r)
 have:k / 256 % 256 * 256+k % 256=k:=by omega
 rw[this]
theorem rt_id {k:Int} (h:(in16 k && k != 0)=true):RT id? (b2 k) k:=fun r=>by
 rw[Bool.and_eq_true]at h
 have h2:=rt_two h.1 r
 unfold id?
 rw[h2]
 have h0:k≠0:=bne_iff_ne.1 h.2
 show (if k=0 then none else some (k,r))=_
 rw[if_neg h0]
theorem reason_back {code kind:Int} {l:List Pr} {t z:List Int} (h:sReason code kind l t=some z) (hr:Rng z):∃ ys,z=t++ys/\ET (reason? kind) ys (code,l):=by
 unfold sReason at h
 by_cases h0:l.length=0
 ·rw[if_pos h0]at h
  obtain rfl:=no_list h0
  by_cases h1:code=0
  ·rw[if_pos h1]at h
   cases h
   subst h1
   exact⟨[],by rw[List.append_nil],rfl⟩
  ·rw[if_neg h1]at h
   obtain⟨_,e,hc,rfl⟩:=add_inv (st:=some t) h
   cases e
   refine⟨_,rfl,?_⟩
   unfold in8 at hc
   simp only[Bool.and_eq_true,decide_eq_true_eq]at hc
   have:code % 256=code:=by omega
   rw[this]
   rfl
 ·rw[if_neg h0]at h
  obtain⟨t1,h2,hp,rfl⟩:=add_inv h
  obtain⟨_,e,hc,rfl⟩:=add_inv (st:=some t) h2
  cases e
  unfold in8 at hc
  simp only[Bool.and_eq_true,decide_eq_true_eq]at hc
  have e1:code % 256=code:=by omega
  refine⟨[code % 256]++pbs l,by rw[List.append_assoc],?_⟩
  rw[e1]
  have hpr:=(rt_props hp (rng_r hr)).et
  have hne:pbs l≠[]:=fun e=>by
   have:=congrArg List.length e
   unfold pbs at this
   rw[List.length_append,List.length_nil]at this
   have h4:=(V.sz_bounds ((body l).length:Int)).1
   have h5:1<=(V.put ((body l).length:Int)).length:=by
    rcases hq:V.put ((body l).length:Int)with _ | ⟨a,r⟩
    ·exfalso
     revert hq
     unfold V.put
     repeat' split
     all_goals simp
    ·simp
   omega
  show (if pbs l=[] then some ((code,[]),[]) else (props? kind (pbs l)).map fun r=>((code,r.1),r.2))=_
  rw[if_neg hne,hpr]
  rfl
end Go.Proofs.YtdkmmmjjdlnnoaaGreatDoor.K.B
namespace Go.Proofs.YtdkmmmjjdlnnoaaGreatDoor.K.B
open Go.RowKit
open Go.Proofs.YtdkmmmjjdlnnoaaGreatDoor.K
set_option maxRecDepth 100000
theorem sIdA_inv {P:Pa} {t:List Int} (h:sIdA P=some t):(in16 P.id && P.id != 0)=true/\t=b2 P.id:=by
 obtain⟨t1,e,hc,rfl⟩:=add_inv (st:=some []) h
 cases e
 exact⟨hc,rfl⟩
theorem back_4 {P:Pa} {l:List Int} (k:Int) (hkk:k=4\/k=5\/k=6\/k=7) (hk:P.kind=k) (h:eb P=some l) (hr:Rng l):ET (body? (pa0 k false 0 false)) l P:=by
 unfold eb at h
 rw[if_neg (by omega),if_neg (by omega),if_neg (by omega),if_pos (by omega)]at h
 obtain⟨h1,he⟩:=must_inv h
 cases h2:sIdA P with
 | none=>rw[h2]at h1;cases h1
 | some t =>
  rw[h2]at h1
  obtain⟨hid,rfl⟩:=sIdA_inv h2
  obtain⟨ys,rfl,hz⟩:=reason_back (show sReason P.code P.kind P.props (b2 P.id)=some l from h1) hr
  rw[hk]at hz
  have hri:=rt_id hid
  obtain⟨⟨e1,e2,e3,e4⟩,⟨e5,e6,e7,e8⟩,⟨e9,e10,e11⟩,e12,e13,e14,e15,e16,e17,e18⟩:=emp_inv he
  obtain⟨kind,dup,qos,retain,topic,id,payload,props,client,clean,keep,wills,user,pass,code,session,subs,filters,codes⟩:=P
  obtain rfl:dup=false:=e1
  obtain rfl:qos=0:=e5
  obtain rfl:retain=false:=e2
  obtain rfl:topic=⟨#[]⟩:=no_text e9
  obtain rfl:payload=⟨#[]⟩:=no_text e10
  obtain rfl:client=⟨#[]⟩:=no_text e11
  obtain rfl:clean=false:=e3
  obtain rfl:keep=0:=e7
  obtain rfl:wills=[]:=no_list e13
  obtain rfl:user=[]:=no_list e14
  obtain rfl:pass=[]:=no_list e15
  obtain rfl:session=false:=e4
  obtain rfl:subs=[]:=no_list e16
  obtain rfl:filters=[]:=no_list e17
  obtain rfl:codes=[]:=no_list e18
  obtain rfl:kind=k:=hk
  dsimp only at *
  have e:body? (pa0 kind false 0 false)=bindR id? fun i=>bindR (reason? kind) fun r=>pureR { (pa0 kind false 0 false)with id:=i,code:=r.1,props:=r.2 }:=by
   unfold body?
   have e0:(pa0 kind false 0 false).kind=kind:=rfl
   rw[e0,if_neg (by omega),if_neg (by omega),if_neg (by omega),if_neg (by omega),if_neg (by omega),if_neg (by omega),if_pos (by omega)]
   all_goals rfl
  rw[e]
  exact RT.ebind hri (hz.last _ rfl)
end Go.Proofs.YtdkmmmjjdlnnoaaGreatDoor.K.B
