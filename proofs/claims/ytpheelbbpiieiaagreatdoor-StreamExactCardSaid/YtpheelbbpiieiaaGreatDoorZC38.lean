/- Proved here: helpers, one text behind the other. -/
import Derived.Test.YtpheelbbpiieiaaGreatDoorZC25
import Derived.Test.YtpheelbbpiieiaaGreatDoorZC22
import Derived.Test.YtpheelbbpiieiaaGreatDoorZC8
import Derived.Deep.MidRow
import Derived.Deep.RegionHeld3
import Derived.Test.YtpheelbbpiieiaaGreatDoorZC5
import Derived.Test.YtpheelbbpiieiaaGreatDoorZC10
import Derived.Test.YtpheelbbpiieiaaGreatDoorZC36
import Derived.Test.YtpheelbbpiieiaaGreatDoorZC37
import Derived.Test.YtpheelbbpiieiaaGreatDoorZC35
set_option maxHeartbeats 20000000
namespace Go.Proofs.YtpheelbbpiieiaaGreatDoor.K
open Go.RowKit
set_option maxRecDepth 100000
theorem Nms.below {w w':World} {v:Value} {l:List Int} (h:Nms w v l) (hb:Below w.heap.size w w'):Nms w' v l:=by
 obtain⟨ao,cap,h1,h2,h3⟩:=h
 refine⟨ao,cap,h1,h2,?_⟩
 rcases h3 with h3 | ⟨b,off,e,hc⟩
 ·exact .inl h3
 ·exact .inr ⟨b,off,e,fun j hj=>(hb.cell (p:=⟨b,off+j,none⟩) (cell_lt (hc j hj))).trans (hc j hj)⟩
theorem Txs.below {w w':World} {v:Value} {l:List ByteArray} (h:Txs w v l) (hb:Below w.heap.size w w'):Txs w' v l:=by
 obtain⟨ao,cap,h1,h2,h3⟩:=h
 refine⟨ao,cap,h1,h2,?_⟩
 rcases h3 with h3 | ⟨b,off,e,hc⟩
 ·exact .inl h3
 ·exact .inr ⟨b,off,e,fun j hj=>(hb.cell (p:=⟨b,off+j,none⟩) (cell_lt (hc j hj))).trans (hc j hj)⟩
theorem Sbs.below {w w':World} {v:Value} {l:List Sb} (h:Sbs w v l) (hb:Below w.heap.size w w'):Sbs w' v l:=by
 obtain⟨ao,cap,h1,h2,h3⟩:=h
 refine⟨ao,cap,h1,h2,?_⟩
 rcases h3 with h3 | ⟨b,off,e,hc⟩
 ·exact .inl h3
 ·refine .inr ⟨b,off,e,fun j hj=>?_⟩
  obtain⟨x1,x2,x3,x4,x5⟩:=hc j hj
  have hl:b < w.heap.size:=cell_lt x1
  exact⟨(hb.cell hl).trans x1,(hb.cell hl).trans x2,(hb.cell hl).trans x3,(hb.cell hl).trans x4,(hb.cell hl).trans x5⟩
theorem Wls.below {w w':World} {v:Value} {l:List Wl} (h:Wls w v l) (hb:Below w.heap.size w w'):Wls w' v l:=by
 obtain⟨ao,cap,h1,h2,h3⟩:=h
 refine⟨ao,cap,h1,h2,?_⟩
 rcases h3 with h3 | ⟨b,off,e,hc⟩
 ·exact .inl h3
 ·exact .inr ⟨b,off,e,fun j hj=>(hc j hj).below hb⟩
theorem tells_props {w:World} {va vb:Value} {l m:List Pr} (ha:Prp w va l) (hb:Prp w vb m) (hmx:l.length<=1000000000) (c:Bool) (hc:c=true ↔ l=m):Tells w 33 va vb c:=fun W hW=>by
 refine (eqp_any va vb l m W (ha.below hW) (hb.below hW) hmx).mono ?_
 rintro e w' ⟨⟨b,rfl,hbb⟩,k,rfl⟩
 obtain rfl:b=c:=Bool.eq_iff_iff.2 (hbb.trans hc.symm)
 exact⟨rfl,below_drewN (Below.refl _ _) k⟩
theorem tells_subs {w:World} {va vb:Value} {l m:List Sb} (ha:Sbs w va l) (hb:Sbs w vb m) (hmx:l.length<=1000000000) (c:Bool) (hc:c=true ↔ l=m):Tells w 36 va vb c:=fun W hW=>by
 refine (eqb_any va vb l m W (ha.below hW) (hb.below hW) hmx).mono ?_
 rintro e w' ⟨⟨b,rfl,hbb⟩,k,rfl⟩
 obtain rfl:b=c:=Bool.eq_iff_iff.2 (hbb.trans hc.symm)
 exact⟨rfl,below_drewN (Below.refl _ _) k⟩
theorem tells_wills {w:World} {va vb:Value} {l m:List Wl} (ha:Wls w va l) (hb:Wls w vb m) (hmx:l.length<=1000000000) (c:Bool) (hc:c=true ↔ l=m):Tells w 34 va vb c:=fun W hW=>by
 refine (eqws_any va vb l m W (ha.below hW) (hb.below hW) hmx).mono ?_
 rintro e w' ⟨⟨b,rfl,hbb⟩,hb'⟩
 obtain rfl:b=c:=Bool.eq_iff_iff.2 (hbb.trans hc.symm)
 exact⟨rfl,hb'⟩
theorem tells_strs {w:World} {va vb:Value} {l m:List ByteArray} (ha:Txs w va l) (hb:Txs w vb m) (c:Bool) (hc:c=true ↔ l=m):Tells w 35 va vb c:=fun W hW=>by
 refine (eqs_any va vb l m W (ha.below hW) (hb.below hW)).mono ?_
 rintro e w' ⟨rfl,k,rfl⟩
 exact⟨by rw[show c=decide (l=m) from Bool.eq_iff_iff.2 (hc.trans (decide_eq_true_iff).symm)],below_drewN (Below.refl _ _) k⟩
theorem tells_nums {w:World} {va vb:Value} {l m:List Int} (ha:Nms w va l) (hb:Nms w vb m) (c:Bool) (hc:c=true ↔ l=m):Tells w 37 va vb c:=fun W hW=>by
 refine (eqn_any va vb l m W (ha.below hW) (hb.below hW)).mono ?_
 rintro e w' ⟨rfl,k,rfl⟩
 exact⟨by rw[show c=decide (l=m) from Bool.eq_iff_iff.2 (hc.trans (decide_eq_true_iff).symm)],below_drewN (Below.refl _ _) k⟩
structure RPk (w:World) (p:Pkv) (P:Pa):Prop where
 sc:p.kind=P.kind/\p.dup=P.dup/\p.qos=P.qos/\p.retain=P.retain/\p.topic=P.topic/\p.id=P.id/\p.payload=P.payload/\p.client=P.client/\p.clean=P.clean/\p.keep=P.keep/\p.code=P.code/\p.session=P.session
 props:Prp w p.props.val P.props
 wills:Wls w p.wills.val P.wills
 user:Txs w p.user.val P.user
 pass:Txs w p.pass.val P.pass
 subs:Sbs w p.subs.val P.subs
 filters:Txs w p.filters.val P.filters
 codes:Nms w p.codes.val P.codes
theorem RPk.below {w w':World} {p:Pkv} {P:Pa} (h:RPk w p P) (hb:Below w.heap.size w w'):RPk w' p P :=
 ⟨h.sc,h.props.below hb,h.wills.below hb,h.user.below hb,h.pass.below hb,h.subs.below hb,h.filters.below hb,h.codes.below hb⟩
structure Small (P:Pa):Prop where
 props:P.props.length<=1000000000
 wills:P.wills.length<=1000000000
 subs:P.subs.length<=1000000000
theorem eqpk_same (p q:Pkv) (P:Pa) (w:World) (hp:RPk w p P) (hq:RPk w q P) (hs:Small P) :
  Calls Tryz.prog 10 #[p.val,q.val] w fun e w'=>e=.returned (.bool true)/\Below w.heap.size w w':=by
 obtain⟨x0,x1,x2,x3,x4,x5,x6,x7,x8,x9,x10,x11⟩:=hp.sc
 obtain⟨y0,y1,y2,y3,y4,y5,y6,y7,y8,y9,y10,y11⟩:=hq.sc
 exact eqpk_yes _ _ _ _ _ _ _ _ _ _ _ _ _ _ _ _ _ _ _ _ _ _ _ _ _ _ _ _ _ _ _ _ _ _ _ _ _ _ w
  (by rw[x0,y0];simp) (by rw[x1,y1];simp) (by rw[x2,y2];simp) (by rw[x3,y3];simp) (by rw[x4,y4];simp) (by rw[x5,y5];simp) (by rw[x6,y6];simp)
  (tells_props hp.props hq.props hs.props true (by simp)) (by rw[x7,y7];simp) (by rw[x8,y8];simp) (by rw[x9,y9];simp) (tells_wills hp.wills hq.wills hs.wills true (by simp))
  (tells_strs hp.user hq.user true (by simp)) (tells_strs hp.pass hq.pass true (by simp)) (by rw[x10,y10];simp) (by rw[x11,y11];simp) (tells_subs hp.subs hq.subs hs.subs true (by simp)) (tells_strs hp.filters hq.filters true (by simp)) (tells_nums hp.codes hq.codes true (by simp))
theorem range_below {w w':World} {b o:Nat} {cs:List Value} (h:w.rangeAt b o cs) (hb:Below w.heap.size w w'):w'.rangeAt b o cs:=fun j v hj=>(hb.cell (p:=⟨b,o+j,none⟩) (cell_lt (h j v hj))).trans (h j v hj)
theorem eqpks_same (ba oa bb ob n ca cb:Nat) (ps qs:Nat->Pkv) (Ps:Nat->Pa) (w:World) (hn:n<=1000000000)
  (hp:∀ k,k < n->w.rangeAt ba (oa+k * 19) (ps k).cells/\RPk w (ps k) (Ps k)) (hq:∀ k,k < n->w.rangeAt bb (ob+k * 19) (qs k).cells/\RPk w (qs k) (Ps k)) (hs:∀ k,k < n->Small (Ps k)) :
  Calls Tryz.prog 21 #[.slice (some ⟨ba,oa,none⟩) n ca,.slice (some ⟨bb,ob,none⟩) n cb] w fun e w'=>e=.returned (.bool true)/\Below w.heap.size w w':=by
 have HP:=zh hp
 have HQ:=zh hq
 have HS:=zh hs
 clear hp hq hs
 go_enter Tryz.func21,Tryz.ntmps21
 go_wp2
 go_loopw [5] (fun i wr=>∃ k:Nat,k<=n/\i=.int .i64 k/\Hid (Below w.heap.size w wr)) (fun i _=>n - (intOf i).toNat)
 case atStart=>exact⟨0,Nat.zero_le _,rfl,Below.refl _ _⟩
 case round =>
  obtain⟨k,hk,rfl,HBEL⟩:=hrel
  by_cases hlt:k < n
  ·obtain⟨hr,hu⟩:=(uh HP) k hlt
   obtain⟨hr',hv⟩:=(uh HQ) k hlt
   have HSM:=zh ((uh HS) k hlt)
   generalize ps k=u at hr hu
   generalize qs k=v at hr' hv
   generalize Ps k=P at hu hv HSM
   have HU:=zh (hu.below (uh HBEL))
   have HV:=zh (hv.below (uh HBEL))
   have hr1:=range_below hr (uh HBEL)
   have hr2:=range_below hr' (uh HBEL)
   have HK:Hid (∀ W,Below wr.heap.size wr W->W.rangeAt ba (oa+k * 19) u.cells/\W.rangeAt bb (ob+k * 19) v.cells):=fun W hW=>⟨range_below hr1 hW,range_below hr2 hW⟩
   clear hr hr' hu hv hr1 hr2
   go_wp2_with fail
   refine wp_region_noPanic ?_
   refine wp_region_held_drew (S:=(fun W=>W.rangeAt ba (oa+k * 19) u.cells/\W.rangeAt bb (ob+k * 19) v.cells)) (by kernel_rfl) ((uh HK) _ (below_drewN (Below.refl _ _) 1)) (fun hHeld=>?_)
   refine rtk 0 (h:=?_)
   refine rtk 1 (h:=?_)
   refine rtk 2 (h:=?_)
   refine wpAnyH_take (i:=3) (oi:={ dst:=some 20,op:=Op.load 29 (Operand.tmp 19),type:=29,pos := "help.go:274",after:=#[{ on:=2,ground:=Ground.data }],guard:=none }) (v:=u.val) rfl (by kernel_rfl) (by kernel_rfl) (by kernel_rfl) (fun _ _ _ h=>h) (yieldsIf_load_mid (by rfl) 29 _ rfl ba (oa+k * 19) rfl u.cells _ (fun _ h=>h.1) Tryz.underlying29 rfl packet_size) (by assumption) ?_
   simp only[Act.put,List.setIfInBounds_toArray,List.set_cons_zero,List.set_cons_succ]
   refine rtk 4 (h:=?_)
   refine rtk 5 (h:=?_)
   refine rtk 6 (h:=?_)
   refine wpAnyH_take (i:=7) (oi:={ dst:=some 24,op:=Op.load 29 (Operand.tmp 23),type:=29,pos := "help.go:274",after:=#[{ on:=6,ground:=Ground.data }],guard:=none }) (v:=v.val) rfl (by kernel_rfl) (by kernel_rfl) (by kernel_rfl) (fun _ _ _ h=>h) (yieldsIf_load_mid (by rfl) 29 _ rfl bb (ob+k * 19) rfl v.cells _ (fun _ h=>h.2) Tryz.underlying29 rfl packet_size) (by assumption) ?_
   simp only[Act.put,List.setIfInBounds_toArray,List.set_cons_zero,List.set_cons_succ]
   refine rcl 8 (h:=fun K hK=>?_)
   go_simp
   refine (eqpk_same u v P _ ((uh HU).below (below_drewN (Below.refl _ _) 1)) ((uh HV).below (below_drewN (Below.refl _ _) 1)) (uh HSM)).mono ?_
   rintro e w2 ⟨rfl,hb2⟩
   have HB2:Hid (Below wr.heap.size wr w2):=(below_drewN (Below.refl _ _) 1).trans hb2
   clear hb2
   refine hK.out _ _ ((uh HK) _ (uh HB2)) (fun hHeld=>?_)
   clear hK K
   refine rtk 9 (h:=?_)
   refine wpAnyH_done (by kernel_rfl) ?_ _
   refine NoPanic.normal ?_
   have HB3:Hid (Below w.heap.size w w2):=(uh HBEL).trans ((uh HB2).mono (uh HBEL).size)
   go_wp2
   go_roundw
   case rel=>exact⟨k+1,by omega,by go_num,HB3⟩
   case measure=>simp[intOf];omega
  ·go_wp2
   go_ret
   exact⟨rfl,uh HBEL⟩
theorem srun_stop {lim:Int} {l:List Int} {Ps:List Pa} {n:Nat} {m k:Int} (h:SRun lim l Ps n m) (hk:snum lim l=k) (h0:k≠0):Ps=[]/\n=0/\m=k:=by
 cases h with
 | stop _ _=>exact⟨rfl,rfl,hk⟩
 | step _ _ _ _ _ _ hz _ _=>exact absurd (hk.symm.trans hz) h0
theorem srun_step {lim:Int} {l r:List Int} {P:Pa} {Ps:List Pa} {n:Nat} {m:Int} (h:SRun lim l Ps n m) (hk:snum lim l=0) (hd:dbody l=some (P,r)):∃ Qs k,Ps=P :: Qs/\n=(meas l).2.1+k/\SRun lim (l.drop (meas l).2.1) Qs k m:=by
 cases h with
 | stop _ hz=>exact absurd hk hz
 | step _ P' r' Qs k e _ hd' hr =>
  rw[hd]at hd'
  simp only[Option.some.injEq,Prod.mk.injEq]at hd'
  obtain⟨rfl,rfl⟩:=hd'
  exact⟨Qs,k,rfl,rfl,hr⟩
def pingP:Pa:=pa0 12 false 0 false
theorem ping1:snum 100 [192]=3:=by decide +kernel
theorem ping2:snum 100 [192,0]=0:=by decide +kernel
theorem ping3:dbody [192,0]=some (pingP,[]):=by kernel_rfl
theorem ping4:(meas [192,0]).2.1=2:=by decide +kernel
theorem end3 (lim:Int) (h:2<=lim):snum lim []=3:=by
 unfold snum
 rw[if_pos (by have:(smeas []).2<=2:=by decide +kernel
               omega)]
 decide +kernel
theorem num5 (v:Value) (n:Int) (w:World) (hg:Laid w) (hv:ErrX w v n):Calls Tryz.prog 20 #[v] w fun e w'=>e=.returned (.int .i64 n)/\Below w.heap.size w w':=by
 have HG:=zh hg
 have HV:=zh hv
 clear hg hv
 go_enter Tryz.func20,Tryz.ntmps20
 go_wp2_with (go_at_call 32;refine (numx v n _ (uh HG) (uh HV)).mono ?_;rintro e w' ⟨rfl,hb⟩)
 go_ret
 exact⟨rfl,hb⟩
theorem num5_nil (w:World):Calls Tryz.prog 20 #[.nilIface] w fun e w'=>e=.returned (.int .i64 0)/\w'=w:=by
 go_enter Tryz.func20,Tryz.ntmps20
 go_wp2_with (go_at_call 32;refine (num_nil _).mono ?_;rintro e w' ⟨rfl,rfl⟩)
 go_ret
 exact⟨rfl,rfl⟩
theorem own0 {w:World} {B:Nat} {e:TypeId} {s:Nat} {v:Value} (h:w.ownsRow B e s v 0 []):∃ ao cap,v=.slice ao 0 cap/\cap<=maxLen:=by
 rcases h.2 with⟨rfl,_⟩ | ⟨g,cap,cur,rfl,_,_,_,h2,_⟩
 ·exact⟨none,0,rfl,by simp⟩
 ·exact⟨_,cap,rfl,h2⟩
theorem rpk_none {w:World} {B:Nat} {q:Pkv} {k:Int} {d:Bool} {x:Int} {r:Bool} (h:Mean w B q (pa0 k d x r)):RPk w q (pa0 k d x r):=by
 refine⟨h.sc,?_,?_,?_,?_,?_,?_,?_⟩
 ·obtain⟨ao,cap,e,hc⟩:=own0 h.props;exact⟨ao,cap,e,.inl rfl⟩
 ·obtain⟨ws,h1,h2,h3⟩:=h.wills
  have:ws=[]:=List.length_eq_zero_iff.1 h2
  subst this
  obtain⟨ao,cap,e,hc⟩:=own0 h1;exact⟨ao,cap,e,⟨Nat.zero_le _,hc⟩,.inl rfl⟩
 ·obtain⟨ao,cap,e,hc⟩:=own0 h.user;exact⟨ao,cap,e,⟨Nat.zero_le _,hc⟩,.inl rfl⟩
 ·obtain⟨ao,cap,e,hc⟩:=own0 h.pass;exact⟨ao,cap,e,⟨Nat.zero_le _,hc⟩,.inl rfl⟩
 ·obtain⟨ao,cap,e,hc⟩:=own0 h.subs;exact⟨ao,cap,e,⟨Nat.zero_le _,hc⟩,.inl rfl⟩
 ·obtain⟨ao,cap,e,hc⟩:=own0 h.filters;exact⟨ao,cap,e,⟨Nat.zero_le _,hc⟩,.inl rfl⟩
 ·obtain⟨ao,cap,e,hc⟩:=own0 h.codes;exact⟨ao,cap,e,⟨Nat.zero_le _,hc⟩,.inl rfl⟩
theorem rpk_zero (w:World) (k:Int) (d:Bool) (x:Int) (r:Bool):RPk w (pk0 k d x r) (pa0 k d x r) :=
 ⟨⟨rfl,rfl,rfl,rfl,rfl,rfl,rfl,rfl,rfl,rfl,rfl,rfl⟩,⟨none,0,rfl,.inl rfl⟩,⟨none,0,rfl,⟨Nat.le_refl _,by simp⟩,.inl rfl⟩,⟨none,0,rfl,⟨Nat.le_refl _,by simp⟩,.inl rfl⟩,⟨none,0,rfl,⟨Nat.le_refl _,by simp⟩,.inl rfl⟩,⟨none,0,rfl,⟨Nat.le_refl _,by simp⟩,.inl rfl⟩,⟨none,0,rfl,⟨Nat.le_refl _,by simp⟩,.inl rfl⟩,⟨none,0,rfl,⟨Nat.le_refl _,by simp⟩,.inl rfl⟩⟩
theorem str_new (w:World) (lim:Int):Str (w.alloc (.cells #[.int .i64 lim,.slice none 0 0,.int .i64 0] 91)) w.heap.size lim 0 (.slice none 0 0) [] :=
 ⟨by simp,by simp,by simp,by simp,by simp,World.ownsRow_nil _ _ _ _,fun j=>by simp⟩
theorem one_byt (x:Int) (h:0<=x/\x<=255) (w:World):Byt (w.alloc (.cells #[.int .u8 x] 5)) (.slice (some ⟨w.heap.size,0,none⟩) 1 1) [x]:=by
 refine⟨_,1,rfl,⟨by simp,by unfold maxLen;simp⟩,?_,.inr ⟨w.heap.size,0,rfl,?_⟩⟩
 ·intro j;rcases j with _ | j <;> simp[h]
 ·intro j hj;rcases j with _ | j
  ·simp
  ·simp at hj
theorem FB.bel {B S:Nat} {row:Option Nat} {w0 w w':World} (h:FB S row w w') (hb:Below B w0 w) (hB:B<=w.heap.size) (hS:B<=S) (hr:∀ g,row=some g->B<=g):Below B w0 w' :=
 ⟨h.os.trans hb.os,h.tape.trans hb.tape,h.output.trans hb.output,Nat.le_trans hb.size h.size,fun k hk=>(h.block k (by omega) (by omega) (fun e=>by have:=hr k e.symm;omega)).trans (hb.block k hk)⟩
theorem wakes5 (w:World) (hg:Laid w):Calls Tryz.prog 24 #[] w fun e w'=>e=.returned (.bool true)/\Below w.heap.size w w':=by
 have hsl:slim 100=100:=by decide
 have HN:=zh (snew_any 100 w)
 rw[hsl]at HN
 have HG:=zh hg
 clear hsl hg
 go_enter Tryz.func24,Tryz.ntmps24
 go_wp2_with fail
 refine (uh HN).mono ?_
 rintro e w1 ⟨rfl,hw1⟩
 have HS1:Hid (Str w1 w.heap.size 100 0 (.slice none 0 0) []):=by rw[hw1];exact str_new w 100
 have HB1:Hid (Below w.heap.size w w1):=by rw[hw1];exact bal _ _
 clear hw1 HN
 have hs1:w.heap.size<=w1.heap.size:=(uh HB1).size
 have HS2:=zh ((uh HS1).below (w':=w1.alloc (.cells #[.int .u8 192] 5)) (bal _ _))
 have HB2:Hid (Below w.heap.size w (w1.alloc (.cells #[.int .u8 192] 5))):=(uh HB1).alloc hs1 _
 have HY2:=zh (one_byt 192 (by decide) w1)
 have HG2:=zh ((uh HG).below (uh HB2) (uh HG).pos)
 clear HS1
 go_wp2_with fail
 refine (sfeed_ok w.heap.size 100 (.slice none 0 0) [] _ [192] _ (uh HG2) (uh HS2) (uh HY2) (by decide) (by decide)).mono ?_
 rintro e w3 ⟨v3,E3,qs3,Ps3,n3,m3,hv3,rfl,-,hrun3,-,hpk3,hres3,hown3,hfb3⟩
 obtain⟨rfl,rfl,rfl⟩:=srun_stop (l:=[192]) hrun3 ping1 (by decide)
 obtain⟨rfl,hst3⟩:E3=.nilIface/\Str w3 w.heap.size 100 0 hv3 [192]:=by
  rcases hres3 with⟨_,h1,h2⟩ | ⟨h1,_⟩
  ·exact⟨h1,h2⟩
  ·exact absurd rfl h1
 obtain⟨ao3,cap3,rfl,-⟩:=own0 (by have h:=hpk3.row;have hl:=hpk3.len;simp at hl;subst hl;exact h)
 have HB3:Hid (Below w.heap.size w w3):=hfb3.bel (uh HB2) (uh HB2).size (Nat.le_refl _) (fun g e=>by cases e)
 have HG3:=zh ((uh HG).below (uh HB3) (uh HG).pos)
 have HS3:=zh hst3
 have HR3:=zh (owns_blk hst3.row)
 clear hrun3 hpk3 hres3 hown3 hfb3 hst3 HS2 HB2 HY2 HG2
 have hs3:w.heap.size<=w3.heap.size:=(uh HB3).size
 have HS4:=zh ((uh HS3).below (w':=w3.alloc (.cells #[.int .u8 0] 5)) (bal _ _))
 have HB4:Hid (Below w.heap.size w (w3.alloc (.cells #[.int .u8 0] 5))):=(uh HB3).alloc hs3 _
 have HY4:=zh (one_byt 0 (by decide) w3)
 have HG4:=zh ((uh HG).below (uh HB4) (uh HG).pos)
 clear HS3 HB3 HG3
 go_wp2_with fail
 refine (sfeed_ok w.heap.size 100 hv3 [192] _ [0] _ (uh HG4) (uh HS4) (uh HY4) (by decide) (by decide)).mono ?_
 rintro e w5 ⟨v5,E5,qs5,Ps5,n5,m5,hv5,rfl,-,hrun5,-,hpk5,hres5,-,hfb5⟩
 obtain⟨Qs,k5,rfl,rfl,hrun6⟩:=srun_step (l:=[192,0]) hrun5 ping2 ping3
 rw[ping4]at hrun6 hres5
 obtain⟨rfl,rfl,rfl⟩:=srun_stop (l:=[]) hrun6 (end3 100 (by decide)) (by decide)
 obtain⟨rfl,hst5⟩:E5=.nilIface/\Str w5 w.heap.size 100 0 hv5 []:=by
  rcases hres5 with⟨_,h1,h2⟩ | ⟨h1,_⟩
  ·exact⟨h1,h2⟩
  ·exact absurd rfl h1
 obtain⟨q,rfl⟩:∃ q,qs5=[q]:=List.length_eq_one_iff.1 hpk5.len
 have hmean:=hpk5.mean 0 q pingP rfl rfl
 have HB5:Hid (Below w.heap.size w w5):=hfb5.bel (uh HB4) (uh HB4).size (Nat.le_refl _) (fun g e=>by have:=(uh HR3) g e;omega)
 have HG5:=zh ((uh HG).below (uh HB5) (uh HG).pos)
 obtain⟨g5,cap5,rfl,hr5⟩:∃ g cap,v5=.slice (some ⟨g,0,none⟩) 1 cap/\w5.rangeAt g 0 q.cells:=by
  have hrow:=hpk5.row
  rcases hrow.2 with⟨_,h0⟩ | ⟨g,cap,cur,rfl,_⟩
  ·simp at h0
  ·refine⟨g,cap,rfl,fun j v hj=>?_⟩
   have hj19:j < 19:=by
    rcases Nat.lt_or_ge j 19 with h | h
    ·exact h
    ·rw[List.getElem?_eq_none (by show 19<=j;exact h)]at hj;cases hj
   have:=hrow.cellAt j (by simp;omega)
   rw[Nat.zero_add]
   rw[this]
   simpa using hj
 obtain⟨aoh,caph,rfl,-⟩:=own0 hst5.row
 have HQ:=zh (rpk_none hmean)
 have HR:=zh hr5
 have c1:=hst5.c1
 have hSl:w.heap.size < w5.heap.size:=cell_lt hst5.c0
 clear hrun5 hrun6 hpk5 hres5 hfb5 hst5 hmean hr5 HS4 HB4 HY4 HG4 HR3 hs3
 have HEQ:Hid (∀ W,Below w5.heap.size w5 W->W.rangeAt w5.heap.size 0 (pk0 12 false 0 false).cells->Calls Tryz.prog 21 #[.slice (some ⟨g5,0,none⟩) 1 cap5,.slice (some ⟨w5.heap.size,0,none⟩) 1 1] W fun e w'=>e=.returned (.bool true)/\Below W.heap.size W w'):=fun W hW hr =>
  eqpks_same g5 0 w5.heap.size 0 1 cap5 1 (fun _=>q) (fun _=>pk0 12 false 0 false) (fun _=>pingP) W (by decide)
   (fun k hk=>by obtain rfl:k=0:=by omega
                 exact⟨range_below (uh HR) hW,(uh HQ).below hW⟩)
   (fun k hk=>by obtain rfl:k=0:=by omega
                 exact⟨hr,rpk_zero W 12 false 0 false⟩)
   (fun k _=>⟨by decide,by decide,by decide⟩)
 go_wp2_with (first | (go_at_call 20;refine (num5_nil _).mono ?_;rintro e w6 ⟨rfl,hw6⟩;obtain rfl:=hw6.symm;clear hw6))
 have HR6:=zh (pk_new w5 (pk0 12 false 0 false)).range
 refine ((uh HEQ) _ (bal _ _) (uh HR6)).mono ?_
 rintro e w7 ⟨rfl,hb7⟩
 have HB7:Hid (Below w5.heap.size w5 w7):=Below.trans (bal _ _) (hb7.mono (by simp))
 have c7:w7.cell? ⟨w.heap.size,1,none⟩=some (.slice aoh 0 caph):=((uh HB7).cell (p:=⟨w.heap.size,1,none⟩) hSl).trans c1
 clear hb7 HEQ HR6 HR HQ c1
 go_wp2_with (first | (go_at_call 22;refine (sheld_any w.heap.size aoh 0 caph _ c7).mono ?_;rintro e w8 ⟨rfl,hw8⟩;obtain rfl:=hw8.symm;clear hw8))
 go_ret
 exact⟨rfl,(uh HB5).trans ((uh HB7).mono (uh HB5).size)⟩
theorem bind_inv {α β:Type} {f:List Int->Option (α×List Int)} {g:α->List Int->Option (β×List Int)} {l l':List Int} {y:β} (h:bindR f g l=some (y,l')):∃ x l1,f l=some (x,l1)/\g x l1=some (y,l'):=by
 unfold bindR at h
 cases hf:f l with
 | none=>rw[hf]at h;cases h
 | some r=>rw[hf]at h;exact⟨r.1,r.2,rfl,h⟩
theorem pure_inv {α:Type} {x y:α} {l l':List Int} (h:pureR x l=some (y,l')):y=x:=by
 unfold pureR at h
 cases h
 rfl
theorem must_inv {b:Bool} {l l':List Int} {u:Unit} (h:mustR b l=some (u,l')):b=true:=by
 unfold mustR at h
 cases b
 ·cases h
 ·rfl
theorem props_len {k:Int} {l l':List Int} {x:List Pr} (h:props? k l=some (x,l')):x.length<=32:=by
 unfold props? at h
 split at h
 next h0 =>
  simp only[Option.some.injEq,Prod.mk.injEq]at h
  obtain⟨rfl,_⟩:=h
  unfold plist
  rw[if_pos h0]
  cases hp:parse (pbd l) with
  | none=>simp
  | some q =>
   show q.length<=32
   unfold pgt at h0
   split at h0
   ·contradiction
   ·split at h0
    ·cases h0
    ·rw[rdn_some k _ q hp]at h0
     unfold chkP at h0
     split at h0
     ·split at h0
      ·assumption
      ·cases h0
     ·cases h0
 next=>cases h
theorem reason_len {k:Int} {l l':List Int} {r:Int×List Pr} (h:reason? k l=some (r,l')):r.2.length<=32:=by
 unfold reason? at h
 cases l with
 | nil=>cases h;simp
 | cons c t =>
  simp only at h
  split at h
  ·cases h;simp
  ·cases hp:props? k t with
   | none=>rw[hp]at h;cases h
   | some q =>
    rw[hp]at h
    simp only[Option.map_some,Option.some.injEq,Prod.mk.injEq]at h
    obtain⟨rfl,_⟩:=h
    obtain⟨q1,q2⟩:=q
    exact props_len hp
theorem list_len {α:Type} {f:List Int->Option (α×List Int)} {l l':List Int} {d:List α} (h:list? f l=some (d,l')):d.length<=16:=by
 unfold list? at h
 obtain⟨x,l1,_,h⟩:=bind_inv h
 obtain⟨_,l2,h1,h⟩:=bind_inv h
 have e:=must_inv h1
 obtain rfl:=pure_inv h
 unfold mc at e
 simp only[Bool.and_eq_true,decide_eq_true_eq]at e
 omega
theorem opt_len {α:Type} (o:Option α):o.toList.length<=1:=by cases o <;> simp
theorem body_lts {k:Int} {d:Bool} {q:Int} {r:Bool} {l l':List Int} {P:Pa} (h:body? (pa0 k d q r) l=some (P,l')):Lts P:=by
 unfold body? at h
 by_cases h20:(pa0 k d q r).kind=1
 ·rw[if_pos h20]at h
  obtain⟨n,l1,h1,h⟩:=bind_inv h
  obtain rfl:=pure_inv h
  unfold connect? at h1
  obtain⟨_,_,_,h1⟩:=bind_inv h1
  obtain⟨_,_,_,h1⟩:=bind_inv h1
  obtain⟨_,_,_,h1⟩:=bind_inv h1
  obtain⟨_,_,_,h1⟩:=bind_inv h1
  obtain⟨x,_,_,h1⟩:=bind_inv h1
  obtain⟨kk,_,_,h1⟩:=bind_inv h1
  obtain⟨pr,_,hpr,h1⟩:=bind_inv h1
  obtain⟨c,_,_,h1⟩:=bind_inv h1
  obtain⟨wl,_,hwl,h1⟩:=bind_inv h1
  obtain⟨us,_,_,h1⟩:=bind_inv h1
  obtain⟨pa,_,_,h1⟩:=bind_inv h1
  obtain rfl:=pure_inv h1
  refine⟨props_len hpr,?_,?_,opt_len _,opt_len _,by simp[ofCn,pa0],by simp[ofCn,pa0],by simp[ofCn,pa0]⟩
  ·show (wlOf x wl).length<=1
   unfold wlOf
   split <;> simp
  ·intro u hu
   replace hu:u ∈ wlOf x wl:=hu
   unfold will? at hwl
   by_cases h4:btest x 4=true
   ·rw[if_pos h4]at hwl
    obtain⟨q2,_,hq,hwl⟩:=bind_inv hwl
    obtain⟨t,_,_,hwl⟩:=bind_inv hwl
    obtain⟨y,_,_,hwl⟩:=bind_inv hwl
    obtain rfl:=pure_inv hwl
    simp[wlOf]at hu
    subst hu
    exact props_len hq
   ·rw[if_neg h4]at hwl
    obtain rfl:=pure_inv hwl
    simp[wlOf]at hu
 ·rw[if_neg h20]at h
  by_cases h21:(pa0 k d q r).kind=2
  ·rw[if_pos h21]at h
   obtain⟨f,_,_,h⟩:=bind_inv h
   obtain⟨_,_,_,h⟩:=bind_inv h
   obtain⟨c,_,_,h⟩:=bind_inv h
   obtain⟨x,_,hx,h⟩:=bind_inv h
   obtain rfl:=pure_inv h
   exact⟨props_len hx,by simp[pa0],by simp[pa0],by simp[pa0],by simp[pa0],by simp[pa0],by simp[pa0],by simp[pa0]⟩
  ·rw[if_neg h21]at h
   by_cases h22:(pa0 k d q r).kind=3
   ·rw[if_pos h22]at h
    obtain⟨r',_,h1,h⟩:=bind_inv h
    obtain rfl:=pure_inv h
    unfold publish? at h1
    obtain⟨t,_,_,h1⟩:=bind_inv h1
    obtain⟨i,_,_,h1⟩:=bind_inv h1
    obtain⟨x,_,hx,h1⟩:=bind_inv h1
    obtain⟨y,_,_,h1⟩:=bind_inv h1
    obtain rfl:=pure_inv h1
    exact⟨props_len hx,by simp[pa0],by simp[pa0],by simp[pa0],by simp[pa0],by simp[pa0],by simp[pa0],by simp[pa0]⟩
   ·rw[if_neg h22]at h
    by_cases h23:(pa0 k d q r).kind=8
    ·rw[if_pos h23]at h
     obtain⟨i,_,_,h⟩:=bind_inv h
     obtain⟨x,_,hx,h⟩:=bind_inv h
     obtain⟨dd,_,hd,h⟩:=bind_inv h
     obtain rfl:=pure_inv h
     exact⟨props_len hx,by simp[pa0],by simp[pa0],by simp[pa0],by simp[pa0],list_len hd,by simp[pa0],by simp[pa0]⟩
    ·rw[if_neg h23]at h
     by_cases h24:(pa0 k d q r).kind=10
     ·rw[if_pos h24]at h
      obtain⟨i,_,_,h⟩:=bind_inv h
      obtain⟨x,_,hx,h⟩:=bind_inv h
      obtain⟨dd,_,hd,h⟩:=bind_inv h
      obtain rfl:=pure_inv h
      exact⟨props_len hx,by simp[pa0],by simp[pa0],by simp[pa0],by simp[pa0],by simp[pa0],list_len hd,by simp[pa0]⟩
     ·rw[if_neg h24]at h
      by_cases h25:(pa0 k d q r).kind=9\/(pa0 k d q r).kind=11
      ·rw[if_pos h25]at h
       obtain⟨i,_,_,h⟩:=bind_inv h
       obtain⟨x,_,hx,h⟩:=bind_inv h
       obtain⟨dd,_,hd,h⟩:=bind_inv h
       obtain rfl:=pure_inv h
       exact⟨props_len hx,by simp[pa0],by simp[pa0],by simp[pa0],by simp[pa0],by simp[pa0],by simp[pa0],list_len hd⟩
      ·rw[if_neg h25]at h
       by_cases h26:(pa0 k d q r).kind=4\/(pa0 k d q r).kind=5\/(pa0 k d q r).kind=6\/(pa0 k d q r).kind=7
       ·rw[if_pos h26]at h
        obtain⟨i,_,_,h⟩:=bind_inv h
        obtain⟨r',_,hr,h⟩:=bind_inv h
        obtain rfl:=pure_inv h
        exact⟨reason_len hr,by simp[pa0],by simp[pa0],by simp[pa0],by simp[pa0],by simp[pa0],by simp[pa0],by simp[pa0]⟩
       ·rw[if_neg h26]at h
        by_cases h27:(pa0 k d q r).kind=14\/(pa0 k d q r).kind=15
        ·rw[if_pos h27]at h
         obtain⟨r',_,hr,h⟩:=bind_inv h
         obtain rfl:=pure_inv h
         exact⟨reason_len hr,by simp[pa0],by simp[pa0],by simp[pa0],by simp[pa0],by simp[pa0],by simp[pa0],by simp[pa0]⟩
        ·rw[if_neg h27]at h
         obtain rfl:=pure_inv h
         exact⟨by simp[pa0],by simp[pa0],by simp[pa0],by simp[pa0],by simp[pa0],by simp[pa0],by simp[pa0],by simp[pa0]⟩
theorem dbody_lts {l l':List Int} {P:Pa} (h:dbody l=some (P,l')):Lts P:=by
 unfold dbody packet? at h
 obtain⟨P',_,h1,h⟩:=bind_inv h
 obtain⟨_,_,_,h⟩:=bind_inv h
 obtain rfl:=pure_inv h
 unfold bpa at h1
 split at h1
 ·exact body_lts h1
 ·exact body_lts h1
theorem scs_get (d:List Sb):∀ (i:Nat) (u:Sb),d[i]?=some u->∀ j,j < 5->(scs d)[i * 5+j]?=u.cells[j]?:=by
 induction d with
 | nil=>intro i u h;simp at h
 | cons v us ih =>
  intro i u h j hj
  cases i with
  | zero =>
   simp at h
   subst h
   unfold scs
   rw[List.flatMap_cons,Nat.zero_mul,Nat.zero_add,List.getElem?_append_left (by simp[Sb.cells];omega)]
  | succ i =>
   simp at h
   have:=ih i u h j hj
   unfold scs at *
   rw[List.flatMap_cons,List.getElem?_append_right (by simp[Sb.cells];omega),<- this]
   congr 1
   simp[Sb.cells]
   omega
theorem row_form {w:World} {B:Nat} {e:TypeId} {s:Nat} {v:Value} {n:Nat} {xs:List Value} (h:w.ownsRow B e s v n xs):∃ ao cap,v=.slice ao n cap/\(n<=cap/\cap<=maxLen)/\(n=0\/∃ b,ao=some ⟨b,0,none⟩/\∀ j,j < n * s->w.cell? ⟨b,j,none⟩=xs[j]?):=by
 have hl:=h.1
 rcases h.2 with⟨rfl,rfl⟩ | ⟨g,cap,cur,rfl,hB,hg,h1,h2,h3,h4⟩
 ·exact⟨none,0,rfl,⟨Nat.le_refl _,by simp⟩,.inl rfl⟩
 ·exact⟨_,cap,rfl,⟨h1,h2⟩,.inr ⟨g,rfl,fun j hj=>h.cellAt j hj⟩⟩
theorem sbs_of_owns {w:World} {B:Nat} {e:TypeId} {v:Value} {l:List Sb} (h:w.ownsRow B e 5 v l.length (scs l)):Sbs w v l:=by
 obtain⟨ao,cap,rfl,hc,h0 | ⟨b,rfl,hcell⟩⟩:=row_form h
 ·exact⟨ao,cap,rfl,hc,.inl (List.length_eq_zero_iff.1 h0)⟩
 ·refine⟨_,cap,rfl,hc,.inr ⟨b,0,rfl,fun k hk=>?_⟩⟩
  have hu:l[k]?=some (l.getD k sb0):=by rw[List.getD_eq_getElem?_getD,List.getElem?_eq_getElem hk];rfl
  have key:∀ j,j < 5->w.cell? ⟨b,k * 5+j,none⟩=(l.getD k sb0).cells[j]?:=fun j hj=>(hcell (k * 5+j) (by omega)).trans (scs_get l k _ hu j hj)
  simp only[Nat.zero_add]
  exact⟨key 0 (by omega),key 1 (by omega),key 2 (by omega),key 3 (by omega),key 4 (by omega)⟩
theorem wls_of {w:World} {B:Nat} {v:Value} {ws:List Wv} {us:List Wl} (h:w.ownsRow B 112 5 v us.length (wcs ws)) (hw:Ws w B ws us) (hl:∀ u ∈ us,u.props.length<=32):Wls w v us:=by
 obtain⟨ao,cap,rfl,hc,h0 | ⟨b,rfl,hcell⟩⟩:=row_form h
 ·exact⟨ao,cap,rfl,hc,.inl (List.length_eq_zero_iff.1 h0)⟩
 ·refine⟨_,cap,rfl,hc,.inr ⟨b,0,rfl,fun k hk=>?_⟩⟩
  obtain⟨a,ha⟩:∃ a,ws[k]?=some a:=⟨_,List.getElem?_eq_getElem (by rw[hw.1];exact hk)⟩
  have hu:us[k]?=some (us.getD k wl0):=by rw[List.getD_eq_getElem?_getD,List.getElem?_eq_getElem hk];rfl
  obtain⟨e1,e2,e3,e4,e5⟩:=hw.2 k a _ ha hu
  have key:∀ j,j < 5->w.cell? ⟨b,k * 5+j,none⟩=a.cells[j]?:=fun j hj=>(hcell (k * 5+j) (by omega)).trans (wcs_get ws k a ha j hj)
  have hm:us.getD k wl0 ∈ us:=List.mem_of_getElem? hu
  rw[Nat.zero_add]
  refine⟨a.props.ao,a.props.n,a.props.cap,⟨?_,?_,?_,?_,key 4 (by omega)⟩,prp_of_owns e5,by have:=hl _ hm;omega⟩
  ·rw[<- e1];exact key 0 (by omega)
  ·rw[<- e2];exact key 1 (by omega)
  ·rw[<- e3];exact key 2 (by omega)
  ·rw[<- e4];exact key 3 (by omega)
theorem Mean.bel {w w':World} {B:Nat} {p:Pkv} {P:Pa} (h:Mean w B p P) (hb:Below w.heap.size w w'):Mean w' B p P :=
 ⟨h.sc,owns_below h.props hb,by
  obtain⟨ws,h1,h2,h3⟩:=h.wills
  exact⟨ws,owns_below h1 hb,h2,fun i a b ha hb'=>by
   obtain⟨k1,k2,k3,k4,k5⟩:=h3 i a b ha hb'
   exact⟨k1,k2,k3,k4,owns_below k5 hb⟩⟩,owns_below h.user hb,owns_below h.pass hb,owns_below h.subs hb,owns_below h.filters hb,owns_below h.codes hb⟩
theorem Mean.rpk {w:World} {B:Nat} {q:Pkv} {P:Pa} (h:Mean w B q P) (hl:Lts P):RPk w q P:=by
 obtain⟨ws,h1,h2⟩:=h.wills
 exact⟨h.sc,prp_of_owns h.props,wls_of h1 h2 hl.wp,txs_of_owns h.user,txs_of_owns h.pass,sbs_of_owns h.subs,txs_of_owns h.filters,nms_of_owns h.codes⟩
theorem Lts.small {P:Pa} (h:Lts P):Small P:=⟨by have:=h.props;omega,by have:=h.wills;omega,by have:=h.subs;omega⟩
def paz:Pa:=pa0 0 false 0 false
end Go.Proofs.YtpheelbbpiieiaaGreatDoor.K
