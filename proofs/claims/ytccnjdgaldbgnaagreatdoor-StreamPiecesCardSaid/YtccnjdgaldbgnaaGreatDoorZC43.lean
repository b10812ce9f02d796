/- Proved here: helpers, one text behind the other. -/
import Derived.Handy
import Derived.Deep.CutRange
import Derived.Test.YtccnjdgaldbgnaaGreatDoorZC42
import Derived.Test.YtccnjdgaldbgnaaGreatDoorZC9
set_option maxHeartbeats 20000000
namespace Go.Proofs.YtccnjdgaldbgnaaGreatDoor.K
open Go.RowKit
set_option maxRecDepth 100000
theorem heavy0 (lim:Int) (ao:Option Addr) (cap:Nat) (w:World):Calls Tryz.prog 4 #[.agg #[.int .i64 lim,.slice ao 0 cap]] w fun e w'=>e=.returned (.bool false)/\Below w.heap.size w w':=by
 go_enter Tryz.func4,Tryz.ntmps4
 go_wp2
 refine wp_loop_rounds 1 ?_
 rw[rounds_succ]
 have HW0:Hid (Below w.heap.size w (w.alloc (.cells #[.int .i64 lim,.slice ao 0 cap] 24))):=bal _ _
 have c1:(w.alloc (.cells #[.int .i64 lim,.slice ao 0 cap] 24)).cell? ⟨w.heap.size,1,none⟩=some (.slice ao 0 cap):=by simp
 generalize w.alloc (.cells #[.int .i64 lim,.slice ao 0 cap] 24)=W0 at HW0 c1 |-
 go_wp2
 go_ret
 exact⟨rfl,uh HW0⟩
theorem byt_all {w:World} {B:Nat} {v:Value} {N:Nat} {al:List Int} (h:w.ownsRow B 5 1 v N (al.map (Value.int .u8))) (hN:N=al.length) (hr:Rng al):Byt w v al:=by
 subst hN
 exact byt_of_owns h hr
theorem take_sum (Ns:List Nat):∀ (i M:Nat),Ns[i]?=some M->(Ns.take (i+1)).sum=(Ns.take i).sum+M:=by
 induction Ns with
 | nil=>intro i M h;simp at h
 | cons a l ih =>
  intro i M h
  cases i with
  | zero =>
   simp at h
   subst h
   simp
  | succ i =>
   simp at h
   have:=ih i M h
   simp only[List.take_succ_cons,List.sum_cons]at this |-
   omega
theorem take_sum_le (Ns:List Nat):∀ (i:Nat),(Ns.take i).sum<=Ns.sum:=by
 induction Ns with
 | nil=>intro i;simp
 | cons a l ih =>
  intro i
  cases i with
  | zero=>simp
  | succ i =>
   have:=ih i
   simp only[List.take_succ_cons,List.sum_cons]
   omega
def Pcs (w:World) (ao:Option Addr) (len:Nat) (vb:Nat->Value) (bs:Nat->List Int):Prop:=len=0\/∃ b off,ao=some ⟨b,off,none⟩/\∀ k,k < len->PieceB w b off k (vb k) (bs k)
theorem Pcs.below {w w':World} {ao:Option Addr} {len:Nat} {vb:Nat->Value} {bs:Nat->List Int} (h:Pcs w ao len vb bs) (hb:Below w.heap.size w w'):Pcs w' ao len vb bs:=h.imp id fun ⟨b,off,e,hc⟩=>⟨b,off,e,fun k hk=>by
 obtain⟨h1,h2,h3⟩:=hc k hk
 exact⟨(hb.cell (p:=⟨b,off+k,none⟩) (cell_lt h1)).trans h1,h2.below hb,h3⟩⟩
theorem heavy_pcs (lim:Int) (ao:Option Addr) (len cap:Nat) (vb:Nat->Value) (bs:Nat->List Int) (w:World) (_hlen:len<=maxLen) (hc:Pcs w ao len vb bs) :
  Calls Tryz.prog 4 #[.agg #[.int .i64 lim,.slice ao len cap]] w fun e w'=>∃ c,e=.returned (.bool c)/\Hid (c=false->∀ k,k < len->k < 20->(bs k).length<=10000)/\Below w.heap.size w w':=by
 rcases hc with rfl | ⟨b,off,rfl,hc⟩
 ·refine (heavy0 lim ao cap w).mono ?_
  rintro e w' ⟨rfl,hb⟩
  exact⟨false,rfl,(fun _ k hk=>absurd hk (Nat.not_lt_zero _)),hb⟩
 ·exact heavy_any lim b off len cap vb bs w _hlen hc
theorem pieces_walk (lim:Int) (ao:Option Addr) (len cap:Nat) (vb:Nat->Value) (bs:Nat->List Int) (w:World) (_hlen:len<=maxLen) (hg:Laid w) (hc:Pcs w ao len vb bs) :
  Calls Tryz.prog 3 #[.agg #[.int .i64 lim,.slice ao len cap]] w fun e w'=>e=.returned (.bool true)/\Below w.heap.size w w':=by
 have HC:=zh hc
 have HG:=zh hg
 clear hc hg
 unfold maxLen at _hlen
 go_enter Tryz.func3,Tryz.ntmps3
 go_upto_region 1 with fail
 have HW0:Hid (Below w.heap.size w (w.alloc (.cells #[.int .i64 lim,.slice ao len cap] 24))):=bal _ _
 have c0:(w.alloc (.cells #[.int .i64 lim,.slice ao len cap] 24)).cell? ⟨w.heap.size,0,none⟩=some (.int .i64 lim):=by simp
 have c1:(w.alloc (.cells #[.int .i64 lim,.slice ao len cap] 24)).cell? ⟨w.heap.size,1,none⟩=some (.slice ao len cap):=by simp
 have hsz0:w.heap.size < (w.alloc (.cells #[.int .i64 lim,.slice ao len cap] 24)).heap.size:=by simp
 generalize w.alloc (.cells #[.int .i64 lim,.slice ao len cap] 24)=W0 at HW0 c0 c1 hsz0 |-
 go_wp2_with fail
 refine (heavy_pcs lim ao len cap vb bs W0 (by unfold maxLen;omega) ((uh HC).below (uh HW0))).mono ?_
 rintro e W1 ⟨c,rfl,hbl,hb1⟩
 have HB1:Hid (Below w.heap.size w W1):=(uh HW0).trans (hb1.mono (Nat.le_of_lt hsz0))
 have d0:=(hb1.cell (p:=⟨w.heap.size,0,none⟩) (cell_lt c0)).trans c0
 have d1:=(hb1.cell (p:=⟨w.heap.size,1,none⟩) (cell_lt c1)).trans c1
 have hsz1:w.heap.size < W1.heap.size:=cell_lt d0
 clear c0 c1 hb1 HW0 hsz0
 cases c
 rotate_left
 ·go_wp2
  go_ret
  exact⟨rfl,uh HB1⟩
 have HBL:Hid (∀ k,k < len->k < 20->(bs k).length<=10000):=(uh hbl) rfl
 clear hbl
 have HK1:Hid (∀ W,Below W1.heap.size W1 W->W.cell? ⟨w.heap.size,0,none⟩=some (.int .i64 lim)/\W.cell? ⟨w.heap.size,1,none⟩=some (.slice ao len cap)/\Pcs W ao len vb bs/\Laid W/\Below w.heap.size w W):=fun W hW=>by
  have hb2:Below w.heap.size w W:=(uh HB1).trans (hW.mono (Nat.le_of_lt hsz1))
  exact⟨(hW.cell (p:=⟨w.heap.size,0,none⟩) hsz1).trans d0,(hW.cell (p:=⟨w.heap.size,1,none⟩) hsz1).trans d1,(uh HC).below hb2,(uh HG).below hb2 (uh HG).pos,hb2⟩
 clear d0 d1 HC HG
 go_upto_region 4 with fail
 go_wp2
 go_loopw [3,4] (fun v i wr=>∃ (k:Nat) (al:List Int),k<=len/\k<=20/\i=.int .i64 k/\al.length<=k * 10000/\Hid (wr.ownsRow W1.heap.size 5 1 v al.length (al.map (Value.int .u8)))/\Hid (Rng al)/\Hid (Below W1.heap.size W1 wr)) (fun _ i _=>20 - (intOf i).toNat)
 case atStart=>exact⟨0,[],Nat.zero_le _,by omega,rfl,by simp,World.ownsRow_nil _ _ _ _,(fun j=>by simp),Below.refl _ _⟩
 case round =>
  obtain⟨k,al,hk,hk20,rfl,hal,HR,HRG,HBr⟩:=hrel
  obtain⟨c0,c1,hpc,-,-⟩:=(uh HK1) wr (uh HBr)
  have hwr:=(uh HBr).size
  go_upto_region 5 with fail
  go_cut [28] from 20 to 37 (fun s28 wx=>s28=.bool (decide (k < len/\k < 20))/\wx=wr)
  case first =>
   by_cases h1:k < len
   ·by_cases h2:k < 20
    ·go_wp2
     go_meet
     case rel=>exact⟨by simp[h1,h2] <;> omega,rfl⟩
    ·go_wp2
     go_meet
     case rel=>exact⟨by simp[h2] <;> omega,rfl⟩
   ·go_wp2
    go_meet
    case rel=>exact⟨by simp[h1],rfl⟩
  case rest =>
  obtain⟨hs28,hwx⟩:=hcut
  obtain rfl:wc=wr:=hwx
  obtain⟨wr,hwr9⟩:∃ wr,wr=wc:=⟨_,rfl⟩
  subst hwr9
  subst hs28
  by_cases hlt:k < len/\k < 20
  ·rw[decide_eq_true hlt]
   obtain⟨hlt,hlt20⟩:=hlt
   rcases hpc with h0 | ⟨b,off,rfl,hpc⟩
   ·omega
   obtain⟨p0,p1,p2⟩:=hpc k hlt
   have hz:=(uh HBL) k hlt hlt20
   generalize vb k=u at p0 p1
   generalize bs k=z at p1 p2 hz
   obtain⟨zo,zc,hu,-,-⟩:=p1.form
   have HY:=zh p1
   subst hu
   clear p1 hpc c0
   go_wp2_with (first
    | (at_builtin;refine wpList_append_byt_at _ rfl _ _ rfl W1.heap.size u3 al.length al rfl (uh HR) (.slice zo z.length zc) z rfl (uh HY) (by omega) (by omega) ?_)
    | go_in)
   intro v4 w4 hown4 hg4 _
   have HR4:Hid (w4.ownsRow W1.heap.size 5 1 v4 (al++z).length ((al++z).map (Value.int .u8))):=by
    show w4.ownsRow _ _ _ _ _ _
    rw[List.length_append,List.map_append]
    exact hown4
   have HRG4:Hid (Rng (al++z)):=rng_app (uh HRG) (uh HY).range
   have HB4:Hid (Below W1.heap.size W1 w4):=(uh HBr).grown hg4 (by omega) (fun g hg=>(owns_lt (uh HR) g hg).1)
   clear hown4 hg4 HR HRG HBr HY p0 c1
   go_wp2
   go_roundw
   case rel=>exact⟨k+1,al++z,by omega,by omega,by go_num,by rw[List.length_append];omega,HR4,HRG4,HB4⟩
   case measure=>simp[intOf];omega
  ·rw[decide_eq_false hlt]
   obtain⟨aa,ca,hu3⟩:=owns_form (uh HR)
   subst hu3
   clear hpc hk
   have HBb:=zh ((uh HK1) wr (uh HBr)).2.2.2.2
   obtain⟨wl,hwl⟩:∃ wl,wl=wr:=⟨wr,rfl⟩
   subst hwl
   obtain⟨N,hN⟩:∃ N,N=al.length:=⟨_,rfl⟩
   rw[<- hN]at HR hal |-
   have HN:=zh hN
   clear hN
   by_cases h15:1500 < N
   ·go_wp2
    go_ret
    exact⟨rfl,uh HBb⟩
   clear hal HBb
   go_wp2_with fail
   refine (snew_any lim wl).mono ?_
   rintro e W2 ⟨rfl,hw2⟩
   have HSa2:Hid (Str W2 wl.heap.size (slim lim) 0 (.slice none 0 0) []):=by rw[hw2];exact str_new _ _
   have HB2:Hid (Below wl.heap.size wl W2):=by rw[hw2];exact bal _ _
   have hs2:W2.heap.size=wl.heap.size+1:=by rw[hw2];simp
   clear hw2 c0 c1 hlt hk20
   have HBr2:Hid (Below W1.heap.size W1 W2):=(uh HBr).trans ((uh HB2).mono hwr)
   have HR2:=zh (owns_below (uh HR) (uh HB2))
   obtain⟨Sa,hSa⟩:∃ Sa,Sa=wl.heap.size:=⟨_,rfl⟩
   have hRlt:∀ g,(Value.slice aa N ca).ownBlock=some g->g < Sa:=fun g e=>by
    rw[hSa];exact (owns_lt (uh HR) g e).2.1
   have HRLT:=zh hRlt
   rw[<- hSa]at HSa2 hs2 hwr |-
   have c2:=((uh HK1) W2 (uh HBr2)).1
   clear HB2 HBr HR hSa hRlt
   go_wp2_with fail
   refine (snew_any lim W2).mono ?_
   rintro e W3 ⟨rfl,hw3⟩
   have HSb3:Hid (Str W3 W2.heap.size (slim lim) 0 (.slice none 0 0) []):=by rw[hw3];exact str_new _ _
   have HB3:Hid (Below W2.heap.size W2 W3):=by rw[hw3];exact bal _ _
   have hs3:W3.heap.size=W2.heap.size+1:=by rw[hw3];simp
   clear hw3 c2
   have HSa3:=zh ((uh HSa2).below (uh HB3))
   have HBr3:Hid (Below W1.heap.size W1 W3):=(uh HBr2).trans ((uh HB3).mono (by omega))
   have HR3:=zh (owns_below (uh HR2) (uh HB3))
   obtain⟨Sb,hSb⟩:∃ Sb,Sb=W2.heap.size:=⟨_,rfl⟩
   rw[<- hSb]at HSb3 hs2 hs3 |-
   have hab:Sa < Sb:=by omega
   have hb3:Sb < W3.heap.size:=by omega
   clear hs2 hs3
   obtain⟨hl2,hl6⟩:=slim_ok lim
   generalize slim lim=L at HSa3 HSb3 hl2 hl6
   clear HSa2 HB3 HBr2 HR2 hSb
   have hYall:=byt_all (uh HR3) (uh HN) (uh HRG)
   have HFD:=zh (sfeed_ok Sa L (.slice none 0 0) [] (.slice aa N ca) al W3 ((uh HK1) W3 (uh HBr3)).2.2.2.1 (uh HSa3) hYall hl2 (by rw[List.nil_append,<- uh HN];omega))
   rw[List.nil_append]at HFD
   clear hYall
   go_wp2_with fail
   refine (uh HFD).mono ?_
   rintro e W4 ⟨x,E,qa,Pa4,na,ma,hva,rfl,hna,hruna,hma,hpka,hres,hhva,hfba⟩
   obtain⟨fa,bla,hfa,hbla,hsta,hera⟩:∃ fa bla,fa=(if ma=3 then 0 else ma)/\bla=(if ma=3 then al.drop na else [])/\Str W4 Sa L fa hva bla/\ErY W4 W3.heap.size E fa:=by
    rcases hres with⟨rfl,rfl,h⟩ | ⟨hm,_,h1,h2⟩
    ·exact⟨_,_,rfl,rfl,h,.inl ⟨rfl,rfl⟩⟩
    ·exact⟨_,_,rfl,rfl,by rw[if_neg hm,if_neg hm];exact h2,.inr (by rw[if_neg hm];exact h1)⟩
   have hfb4:FB Sa none W3 W4:=hfba
   have hw4:=hfb4.size
   have HR4:=zh (owns_fb (uh HR3) hfb4 (fun g hg=>⟨by have:=(uh HRLT) g hg;omega,by simp⟩))
   have HSb4:=zh ((uh HSb3).fb hfb4 (by omega) (by simp) (fun g hg=>by cases hg))
   have HBr4:Hid (Below W1.heap.size W1 W4):=hfb4.bel (uh HBr3) (by omega) hwr (fun g hg=>by cases hg)
   have HSTA:=zh hsta
   have HERA:=zh hera
   have HRUN:=zh hruna
   have HFA:=zh hfa
   have HBLA:=zh hbla
   have HPKA:=zh hpka.y
   have HHA:Hid (∀ g,hva.ownBlock=some g->W3.heap.size<=g):=fun g hg=>by
    rcases hhva with e | e
    ·rw[e]at hg;cases hg
    ·exact e g hg
   have HMA:=zh hma
   have hln:∃ Ns:List Nat,Ns.length=Pa4.length/\(∀ (i:Nat) (P:Pa) (M:Nat),Pa4[i]?=some P->Ns[i]?=some M->Told P M)/\Ns.sum<=na:=hruna.told (uh HRG)
   have hpl:Pa4.length<=na:=hruna.len
   rw[<- uh HN]at hna
   clear hres hsta hera hruna hfa hbla hpka hhva hma hfba hfb4 HFD HSa3 HSb3 HR3 HBr3 HB1
   go_wp2_with fail
   go_loopw [9,10,11] (fun y t i wr=>∃ (k:Nat) (hv:Value) (qs:List Pkv) (Ps:List Pa) (n:Nat) (e f:Int),k<=N/\i=.int .i64 k/\t=.int .i64 f/\Hid (f=if e=3 then 0 else e)/\Hid (LI W4 wr Sb L al k y hv qs Ps n e)) (fun _ _ i _=>N - (intOf i).toNat)
   case atStart=>exact⟨0,.slice none 0 0,[],[],0,3,0,Nat.zero_le _,rfl,rfl,rfl,⟨by rw[List.take_zero,<- snum_nil L hl2];exact SRun.stop [] (by rw[snum_nil L hl2];decide),by decide,PkY.nil _ _,by rw[if_pos rfl,if_pos rfl,List.take_zero,List.drop_nil];exact uh HSb4,(fun g h=>by cases h),FB.refl _ _ _⟩⟩
   case round =>
    obtain⟨k,hv,qs,Ps,n,e,f,hk,rfl,rfl,HF,HX⟩:=hrel
    have hwS:Sb < wr.heap.size:=cell_lt (uh HX).str.c0
    have hw4r:=(uh HX).fb.size
    have HRr:=zh (owns_fb (uh HR4) (uh HX).fb (fun g hg=>⟨by have:=(uh HRLT) g hg;omega,by simp⟩))
    have HBrr:Hid (Below W1.heap.size W1 wr):=(uh HX).fb.bel (uh HBr4) (by omega) (by omega) (fun g hg=>by cases hg)
    have HGr:=zh ((uh HK1) wr (uh HBrr)).2.2.2.1
    have hSW:Sb < W4.heap.size:=by omega
    by_cases hkN:k < N
    ·obtain⟨g,rfl,hca,hcm⟩:∃ g,aa=some ⟨g,0,none⟩/\N<=ca/\ca<=maxLen:=by
      rcases (uh HRr).2 with⟨_,h0⟩ | ⟨g,cp,cur,e0,_,_,h1,h2,_⟩
      ·omega
      ·cases e0
       exact⟨g,rfl,h1,h2⟩
     unfold maxLen at hcm
     have hY:=byt_all (uh HRr) (uh HN) (uh HRG)
     have hM:=hY.mid k 1 (by omega)
     rw[if_neg (by omega),Nat.zero_add]at hM
     have HST:=zh (feed_step (uh HX) hSW (uh HGr) hM List.take_add.symm (by rw[<- uh HN];exact hkN) hl2 hl6 (uh HRG) (by rw[<- uh HN];omega))
     have HPB:=zh (uh HX).fb.size
     clear hY hM HX HRr
     go_wp2_with fail
     refine (uh HST).mono ?_
     rintro e2 w2 ⟨v2,E2,hv2,qs2,Ps2,n2,m2,rfl,HJ⟩
     have hw2:W4.heap.size<=w2.heap.size:=(uh HJ).fb.size
     clear HST
     go_wp2_with (first
      | (at_builtin;refine wpList_append_pks _ rfl _ _ rfl W4.heap.size u9 qs Ps rfl (uh HJ).pk wr.heap.size v2 qs2 Ps2 rfl (uh HJ).pk2 hw4r ((uh HJ).lens (by omega)) hw2 ?_)
      | go_in)
     intro v3 w3 hp3 hg3
     obtain⟨hli,her⟩:=(uh HJ).app hSW hp3 hg3
     have HLI:=zh hli
     have HER:=zh her
     have HB3:Hid (Below W1.heap.size W1 w3):=hli.fb.bel (uh HBr4) (by omega) (by omega) (fun g hg=>by cases hg)
     have HG3:=zh ((uh HK1) w3 (uh HB3)).2.2.2.1
     clear hli her hp3 hg3 HJ HB3
     generalize hfe:(if m2=3 then (0:Int) else m2)=fe at HER
     have HFE:=zh hfe
     clear hfe
     go_wp2_with fail
     refine (num5 E2 fe w3 (uh HG3) (uh HER).errx).mono ?_
     rintro e3 w5 ⟨rfl,hb5⟩
     have HLI5:=zh ((uh HLI).below hb5)
     clear hb5 HLI HER HG3
     go_wp2
     go_roundw
     case rel=>exact⟨k+1,hv2,qs++qs2,Ps++Ps2,n2,m2,fe,by omega,by go_num,rfl,(uh HFE).symm,HLI5⟩
     case measure=>simp[intOf];omega
    ·have hkN':k=N:=by omega
     have hrun:=(uh HX).run
     rw[hkN',uh HN,List.take_length]at hrun
     obtain⟨e1,e2,e3⟩:=(uh HRUN).det hrun
     subst e1 e2 e3
     have HPA:=zh ((uh HPKA).fb (uh HX).fb (by omega) (fun g hg=>by cases hg))
     have HPB:=zh (uh HX).pk
     have HSA:=zh ((uh HSTA).fb (uh HX).fb (by omega) (by simp) (fun g hg=>⟨by have:=(uh HHA) g hg;omega,by simp⟩))
     have HSB:Hid (Str wr Sb L fa hv bla):=by
      have k1:=(uh HX).str
      rw[hkN',uh HN,List.take_length,<- uh HFA,<- uh HBLA]at k1
      exact k1
     have HEA:Hid (ErrX wr E fa):=((uh HERA).fb (uh HX).fb (by omega) (fun g hg=>by cases hg)).errx
     obtain rfl:f=fa:=(uh HF).trans (uh HFA).symm
     clear HF
     have hmd:∀ P ∈ Pa4,B.Md P:=fun P hP=>by
      obtain⟨Ns,g1,g2,-⟩:=hln
      obtain⟨i,hi,hi2⟩:=List.getElem_of_mem hP
      exact (g2 i P _ (by rw[List.getElem?_eq_getElem hi,hi2]) (List.getElem?_eq_getElem (by omega))).2.1
     have HMD:=zh hmd
     clear hmd hrun HX HRUN HPKA HSTA HERA HFA HBLA HHA HMA HR4 HSb4 HBr4 HRr hkN' hk hw4r
     obtain⟨W5,hW5⟩:∃ W5,W5=wr:=⟨wr,rfl⟩
     subst hW5
     obtain⟨ah,ch,hvh⟩:=owns_form (uh HSA).row
     obtain⟨bh,dh,hvb⟩:=owns_form (uh HSB).row
     obtain⟨xo,xc,hxf⟩:=owns_form (uh HPA).row
     subst hvh
     subst hvb
     subst hxf
     have HEQ:Hid (∀ W,Below W5.heap.size W5 W->Calls Tryz.prog 8 #[.slice xo qa.length xc,u9] W fun e w'=>e=.returned (.bool true)/\Below W.heap.size W w'):=fun W hW=>eqpks_y W3.heap.size W4.heap.size _ _ qa qs Pa4 W ((uh HPA).below hW) ((uh HPB).below hW) (uh HMD) (by omega)
     generalize hbn:bla.length=nb at HSA HSB
     clear hbn
     go_upto_region 23 with fail
     go_cut [101] from 80 to 101 (fun s101 wx=>s101=.bool false/\Hid (Below W5.heap.size W5 wx))
     case first =>
      have hff:(f != f)=false:=by simp
      have hnn:((nb:Int) != (nb:Int))=false:=by simp
      by_cases hN0:0 < N
      ·go_wp2_with fail
       refine (num5 E f W5 (uh HGr) (uh HEA)).mono ?_
       rintro e w6 ⟨rfl,hb6⟩
       have HB6:Hid (Below W5.heap.size W5 w6):=hb6
       clear hb6
       go_wp2_with fail
       refine ((uh HEQ) w6 (uh HB6)).mono ?_
       rintro e w7 ⟨rfl,hb7⟩
       have HB7:Hid (Below W5.heap.size W5 w7):=(uh HB6).trans (hb7.mono (uh HB6).size)
       clear hb7
       go_wp2_with fail
       refine (sheld_any Sa ah nb ch w7 ((uh HSA).below (uh HB7)).c1).mono ?_
       rintro e w8 ⟨rfl,hw8⟩
       obtain rfl:=hw8.symm
       clear hw8
       go_wp2_with fail
       refine (sheld_any Sb bh nb dh w7 ((uh HSB).below (uh HB7)).c1).mono ?_
       rintro e w8 ⟨rfl,hw8⟩
       obtain rfl:=hw8.symm
       clear hw8
       go_wp2
       go_meet
       case rel=>exact⟨by first | rfl | simp,HB7⟩
      ·have HB6:Hid (Below W5.heap.size W5 W5):=Below.refl _ _
       go_wp2_with fail
       refine ((uh HEQ) W5 (uh HB6)).mono ?_
       rintro e w7 ⟨rfl,hb7⟩
       have HB7:Hid (Below W5.heap.size W5 w7):=(uh HB6).trans (hb7.mono (uh HB6).size)
       clear hb7
       go_wp2_with fail
       refine (sheld_any Sa ah nb ch w7 ((uh HSA).below (uh HB7)).c1).mono ?_
       rintro e w8 ⟨rfl,hw8⟩
       obtain rfl:=hw8.symm
       clear hw8
       go_wp2_with fail
       refine (sheld_any Sb bh nb dh w7 ((uh HSB).below (uh HB7)).c1).mono ?_
       rintro e w8 ⟨rfl,hw8⟩
       obtain rfl:=hw8.symm
       clear hw8
       go_wp2
       go_meet
       case rel=>exact⟨by first | rfl | simp,HB7⟩
     case rest =>
      obtain⟨rfl,HB6⟩:=hcut
      have HPA6:=zh ((uh HPA).below (uh HB6))
      have HBr6:Hid (Below W1.heap.size W1 wc):=(uh HBrr).trans ((uh HB6).mono (by omega))
      obtain⟨W6,hW6⟩:∃ W6,W6=wc:=⟨wc,rfl⟩
      subst hW6
      have hw6:=(uh HBr6).size
      obtain⟨Ns,hNs1,hNs2,hNs3⟩:=hln
      have HNS2:=zh hNs2
      have HNS1:=zh hNs1
      have HQL:Hid (qa.length=Pa4.length):=(uh HPA6).len
      have hq15:qa.length<=1500:=by have:=uh HQL;omega
      clear HPA HPB HSA HSB HEA HEQ HB6 HGr HBrr hNs2 hNs1
      go_upto_region 26 with fail
      go_wp2
      go_loopw [14,15] (fun v i wr=>∃ (j:Nat) (bk:List Int),j<=qa.length/\i=.int .i64 j/\bk.length<=(Ns.take j).sum/\Hid (wr.ownsRow W6.heap.size 5 1 v bk.length (bk.map (Value.int .u8)))/\Hid (Below W6.heap.size W6 wr)) (fun _ i _=>qa.length - (intOf i).toNat)
      case atStart=>exact⟨0,[],Nat.zero_le _,rfl,Nat.zero_le _,World.ownsRow_nil _ _ _ _,Below.refl _ _⟩
      case round =>
       obtain⟨j,bk,hj,rfl,hbk,HR,HBj⟩:=hrel
       have hwj:=(uh HBj).size
       have HBrj:Hid (Below W1.heap.size W1 wr):=(uh HBr6).trans ((uh HBj).mono hw6)
       have hsum:=take_sum_le Ns j
       by_cases hjq:j < qa.length
       ·obtain⟨gx,rfl⟩:∃ gx,xo=some ⟨gx,0,none⟩:=by
         rcases (uh HPA6).row.2 with⟨_,h0⟩ | ⟨g,cp,cur,e0,_⟩
         ·omega
         ·cases e0
          exact⟨g,rfl⟩
        obtain⟨hrg,hrp⟩:=((uh HPA6).below (uh HBj)).range (uh HMD) j hjq
        rw[Nat.zero_add]at hrg
        have hql:=uh HQL
        have hPj:Pa4[j]?=some (Pa4.getD j (pa0 0 false 0 false)):=by rw[List.getD_eq_getElem?_getD,List.getElem?_eq_getElem (by omega)];rfl
        have hNl:=uh HNS1
        obtain⟨M,hMj⟩:∃ M,Ns[j]?=some M:=⟨_,List.getElem?_eq_getElem (by omega)⟩
        obtain⟨t1,t2,t3,ys,t4,t5⟩:=(uh HNS2) j _ M hPj hMj
        have htk:=take_sum Ns j M hMj
        have hEN:=enc_told hrp t2.big t1 t4 t5 t3
        have hsum1:=take_sum_le Ns (j+1)
        generalize qa.getD j pkz=q at hrg hEN
        have HRG5:=zh hrg
        have HEN:=zh hEN
        clear hql hrg hrp hEN hPj hNl hMj t1 t2 t3 t4 t5
        go_upto_region 29 with fail
        iterate 10 go_step
        refine wpList_load_mid rfl 45 _ rfl gx (j * 19) rfl q.cells _ (uh HRG5) Tryz.underlying45 rfl packet_size ?_
        simp only[Act.put,List.setIfInBounds_toArray,List.set_cons_zero,List.set_cons_succ]
        go_wp2_with fail
        refine (uh HEN).mono ?_
        rintro e w7 ⟨v7,zs,rfl,hzl,hz7,hb7⟩
        have HB7:Hid (Below W6.heap.size W6 w7):=(uh HBj).trans (hb7.mono hwj)
        have HR7:=zh (owns_below (uh HR) hb7)
        have hw7:=hb7.size
        clear hb7 HEN HRG5 HR HBj
        go_wp2_with fail
        refine (num5_nil w7).mono ?_
        rintro e w8 ⟨rfl,hw8⟩
        obtain rfl:=hw8.symm
        clear hw8
        obtain⟨zo,zc,hvz,-⟩:=(uh hz7).form
        subst hvz
        go_wp2_with (first
         | (at_builtin;refine wpList_append_byt_at _ rfl _ _ rfl W6.heap.size u14 bk.length bk rfl (uh HR7) (.slice zo zs.length zc) zs rfl (uh hz7) (by omega) (by omega) ?_)
         | go_in)
        intro v9 w9 hown9 hg9 _
        have HR9:Hid (w9.ownsRow W6.heap.size 5 1 v9 (bk++zs).length ((bk++zs).map (Value.int .u8))):=by
         show w9.ownsRow _ _ _ _ _ _
         rw[List.length_append,List.map_append]
         exact hown9
        have HB9:Hid (Below W6.heap.size W6 w9):=(uh HB7).grown hg9 (by omega) (fun g hg=>(owns_lt (uh HR7) g hg).1)
        clear hown9 hg9 HR7 HB7 hz7
        go_wp2
        go_roundw
        case rel=>exact⟨j+1,bk++zs,by omega,by go_num,by rw[List.length_append];omega,HR9,HB9⟩
        case measure=>simp[intOf];omega
       ·obtain⟨ab,cb,hu⟩:=owns_form (uh HR)
        subst hu
        have hfin:(bk.length:Int)<=(N:Int):=by omega
        have HGj:=zh ((uh HK1) wr (uh HBrj)).2.2.2.1
        have HBw:=zh ((uh HK1) wr (uh HBrj)).2.2.2.2
        generalize bk.length=nk at hfin
        clear HR HBj HBrj
        go_wp2_with (go_at_call 11;refine (wakes5 _ (uh HGj)).mono ?_;rintro e w' ⟨rfl,hbw⟩)
        go_ret
        exact⟨rfl,(uh HBw).trans (hbw.mono (uh HBw).size)⟩
end Go.Proofs.YtccnjdgaldbgnaaGreatDoor.K
