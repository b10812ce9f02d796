/- Proved here: helpers, one text behind the other. -/
import Derived.Test.YtpheelbbpiieiaaGreatDoorZC23
import Derived.Test.YtpheelbbpiieiaaGreatDoorZC26
import Derived.Test.YtpheelbbpiieiaaGreatDoorZC1
import Derived.Test.YtpheelbbpiieiaaGreatDoorZC20
import Derived.Deep.MidRow
import Derived.Deep.RegionHeld3
import Derived.Test.YtpheelbbpiieiaaGreatDoorZC5
import Derived.Test.YtpheelbbpiieiaaGreatDoorZC8
import Derived.Test.YtpheelbbpiieiaaGreatDoorZC17
import Derived.Lib.AppendZerosOnto
set_option maxHeartbeats 20000000
namespace Go.Proofs.YtpheelbbpiieiaaGreatDoor.K
open Go.RowKit
set_option maxRecDepth 100000
theorem Nms.below {w w':World} {v:Value} {l:List Int} (h:Nms w v l) (hb:Below w.heap.size w w'):Nms w' v l:=by
 obtain⟨ao,cap,h1,h2,h3⟩:=h
 refine⟨ao,cap,h1,h2,?_⟩
 rcases h3 with h3 | ⟨b,off,e,hc⟩
 ·exact .inl h3
 ·exact .inr ⟨b,off,e,fun j hj=>(hb.cell (p:=⟨b,off+j,none⟩) (cell_lt (hc j hj))).trans (hc j hj)⟩
theorem Txs.below {w w':World} {v:Value} {l:List ByteArray} (h:Txs w v l) (hb:Below w.heap.size w w'):Txs w' v l:=by
 obtain⟨ao,cap,h1,h2,h3⟩:=h
 refine⟨ao,cap,h1,h2,?_⟩
 rcases h3 with h3 | ⟨b,off,e,hc⟩
 ·exact .inl h3
 ·exact .inr ⟨b,off,e,fun j hj=>(hb.cell (p:=⟨b,off+j,none⟩) (cell_lt (hc j hj))).trans (hc j hj)⟩
theorem Sbs.below {w w':World} {v:Value} {l:List Sb} (h:Sbs w v l) (hb:Below w.heap.size w w'):Sbs w' v l:=by
 obtain⟨ao,cap,h1,h2,h3⟩:=h
 refine⟨ao,cap,h1,h2,?_⟩
 rcases h3 with h3 | ⟨b,off,e,hc⟩
 ·exact .inl h3
 ·refine .inr ⟨b,off,e,fun j hj=>?_⟩
  obtain⟨x1,x2,x3,x4,x5⟩:=hc j hj
  have hl:b < w.heap.size:=cell_lt x1
  exact⟨(hb.cell hl).trans x1,(hb.cell hl).trans x2,(hb.cell hl).trans x3,(hb.cell hl).trans x4,(hb.cell hl).trans x5⟩
theorem Wls.below {w w':World} {v:Value} {l:List Wl} (h:Wls w v l) (hb:Below w.heap.size w w'):Wls w' v l:=by
 obtain⟨ao,cap,h1,h2,h3⟩:=h
 refine⟨ao,cap,h1,h2,?_⟩
 rcases h3 with h3 | ⟨b,off,e,hc⟩
 ·exact .inl h3
 ·exact .inr ⟨b,off,e,fun j hj=>(hc j hj).below hb⟩
theorem tells_props {w:World} {va vb:Value} {l m:List Pr} (ha:Prp w va l) (hb:Prp w vb m) (hmx:l.length<=1000000000) (c:Bool) (hc:c=true ↔ l=m):Tells w 33 va vb c:=fun W hW=>by
 refine (eqp_any va vb l m W (ha.below hW) (hb.below hW) hmx).mono ?_
 rintro e w' ⟨⟨b,rfl,hbb⟩,k,rfl⟩
 obtain rfl:b=c:=Bool.eq_iff_iff.2 (hbb.trans hc.symm)
 exact⟨rfl,below_drewN (Below.refl _ _) k⟩
theorem tells_subs {w:World} {va vb:Value} {l m:List Sb} (ha:Sbs w va l) (hb:Sbs w vb m) (hmx:l.length<=1000000000) (c:Bool) (hc:c=true ↔ l=m):Tells w 36 va vb c:=fun W hW=>by
 refine (eqb_any va vb l m W (ha.below hW) (hb.below hW) hmx).mono ?_
 rintro e w' ⟨⟨b,rfl,hbb⟩,k,rfl⟩
 obtain rfl:b=c:=Bool.eq_iff_iff.2 (hbb.trans hc.symm)
 exact⟨rfl,below_drewN (Below.refl _ _) k⟩
theorem tells_wills {w:World} {va vb:Value} {l m:List Wl} (ha:Wls w va l) (hb:Wls w vb m) (hmx:l.length<=1000000000) (c:Bool) (hc:c=true ↔ l=m):Tells w 34 va vb c:=fun W hW=>by
 refine (eqws_any va vb l m W (ha.below hW) (hb.below hW) hmx).mono ?_
 rintro e w' ⟨⟨b,rfl,hbb⟩,hb'⟩
 obtain rfl:b=c:=Bool.eq_iff_iff.2 (hbb.trans hc.symm)
 exact⟨rfl,hb'⟩
theorem tells_strs {w:World} {va vb:Value} {l m:List ByteArray} (ha:Txs w va l) (hb:Txs w vb m) (c:Bool) (hc:c=true ↔ l=m):Tells w 35 va vb c:=fun W hW=>by
 refine (eqs_any va vb l m W (ha.below hW) (hb.below hW)).mono ?_
 rintro e w' ⟨rfl,k,rfl⟩
 exact⟨by rw[show c=decide (l=m) from Bool.eq_iff_iff.2 (hc.trans (decide_eq_true_iff).symm)],below_drewN (Below.refl _ _) k⟩
theorem tells_nums {w:World} {va vb:Value} {l m:List Int} (ha:Nms w va l) (hb:Nms w vb m) (c:Bool) (hc:c=true ↔ l=m):Tells w 37 va vb c:=fun W hW=>by
 refine (eqn_any va vb l m W (ha.below hW) (hb.below hW)).mono ?_
 rintro e w' ⟨rfl,k,rfl⟩
 exact⟨by rw[show c=decide (l=m) from Bool.eq_iff_iff.2 (hc.trans (decide_eq_true_iff).symm)],below_drewN (Below.refl _ _) k⟩
structure RPk (w:World) (p:Pkv) (P:Pa):Prop where
 sc:p.kind=P.kind/\p.dup=P.dup/\p.qos=P.qos/\p.retain=P.retain/\p.topic=P.topic/\p.id=P.id/\p.payload=P.payload/\p.client=P.client/\p.clean=P.clean/\p.keep=P.keep/\p.code=P.code/\p.session=P.session
 props:Prp w p.props.val P.props
 wills:Wls w p.wills.val P.wills
 user:Txs w p.user.val P.user
 pass:Txs w p.pass.val P.pass
 subs:Sbs w p.subs.val P.subs
 filters:Txs w p.filters.val P.filters
 codes:Nms w p.codes.val P.codes
theorem RPk.below {w w':World} {p:Pkv} {P:Pa} (h:RPk w p P) (hb:Below w.heap.size w w'):RPk w' p P :=
 ⟨h.sc,h.props.below hb,h.wills.below hb,h.user.below hb,h.pass.below hb,h.subs.below hb,h.filters.below hb,h.codes.below hb⟩
structure Small (P:Pa):Prop where
 props:P.props.length<=1000000000
 wills:P.wills.length<=1000000000
 subs:P.subs.length<=1000000000
theorem eqpk_same (p q:Pkv) (P:Pa) (w:World) (hp:RPk w p P) (hq:RPk w q P) (hs:Small P) :
  Calls Tryz.prog 10 #[p.val,q.val] w fun e w'=>e=.returned (.bool true)/\Below w.heap.size w w':=by
 obtain⟨x0,x1,x2,x3,x4,x5,x6,x7,x8,x9,x10,x11⟩:=hp.sc
 obtain⟨y0,y1,y2,y3,y4,y5,y6,y7,y8,y9,y10,y11⟩:=hq.sc
 exact eqpk_yes _ _ _ _ _ _ _ _ _ _ _ _ _ _ _ _ _ _ _ _ _ _ _ _ _ _ _ _ _ _ _ _ _ _ _ _ _ _ w
  (by rw[x0,y0];simp) (by rw[x1,y1];simp) (by rw[x2,y2];simp) (by rw[x3,y3];simp) (by rw[x4,y4];simp) (by rw[x5,y5];simp) (by rw[x6,y6];simp)
  (tells_props hp.props hq.props hs.props true (by simp)) (by rw[x7,y7];simp) (by rw[x8,y8];simp) (by rw[x9,y9];simp) (tells_wills hp.wills hq.wills hs.wills true (by simp))
  (tells_strs hp.user hq.user true (by simp)) (tells_strs hp.pass hq.pass true (by simp)) (by rw[x10,y10];simp) (by rw[x11,y11];simp) (tells_subs hp.subs hq.subs hs.subs true (by simp)) (tells_strs hp.filters hq.filters true (by simp)) (tells_nums hp.codes hq.codes true (by simp))
theorem range_below {w w':World} {b o:Nat} {cs:List Value} (h:w.rangeAt b o cs) (hb:Below w.heap.size w w'):w'.rangeAt b o cs:=fun j v hj=>(hb.cell (p:=⟨b,o+j,none⟩) (cell_lt (h j v hj))).trans (h j v hj)
theorem eqpks_same (ba oa bb ob n ca cb:Nat) (ps qs:Nat->Pkv) (Ps:Nat->Pa) (w:World) (hn:n<=1000000000)
  (hp:∀ k,k < n->w.rangeAt ba (oa+k * 19) (ps k).cells/\RPk w (ps k) (Ps k)) (hq:∀ k,k < n->w.rangeAt bb (ob+k * 19) (qs k).cells/\RPk w (qs k) (Ps k)) (hs:∀ k,k < n->Small (Ps k)) :
  Calls Tryz.prog 21 #[.slice (some ⟨ba,oa,none⟩) n ca,.slice (some ⟨bb,ob,none⟩) n cb] w fun e w'=>e=.returned (.bool true)/\Below w.heap.size w w':=by
 have HP:=zh hp
 have HQ:=zh hq
 have HS:=zh hs
 clear hp hq hs
 go_enter Tryz.func21,Tryz.ntmps21
 go_wp2
 go_loopw [5] (fun i wr=>∃ k:Nat,k<=n/\i=.int .i64 k/\Hid (Below w.heap.size w wr)) (fun i _=>n - (intOf i).toNat)
 case atStart=>exact⟨0,Nat.zero_le _,rfl,Below.refl _ _⟩
 case round =>
  obtain⟨k,hk,rfl,HBEL⟩:=hrel
  by_cases hlt:k < n
  ·obtain⟨hr,hu⟩:=(uh HP) k hlt
   obtain⟨hr',hv⟩:=(uh HQ) k hlt
   have HSM:=zh ((uh HS) k hlt)
   generalize ps k=u at hr hu
   generalize qs k=v at hr' hv
   generalize Ps k=P at hu hv HSM
   have HU:=zh (hu.below (uh HBEL))
   have HV:=zh (hv.below (uh HBEL))
   have hr1:=range_below hr (uh HBEL)
   have hr2:=range_below hr' (uh HBEL)
   have HK:Hid (∀ W,Below wr.heap.size wr W->W.rangeAt ba (oa+k * 19) u.cells/\W.rangeAt bb (ob+k * 19) v.cells):=fun W hW=>⟨range_below hr1 hW,range_below hr2 hW⟩
   clear hr hr' hu hv hr1 hr2
   go_wp2_with fail
   refine wp_region_noPanic ?_
   refine wp_region_held_drew (S:=(fun W=>W.rangeAt ba (oa+k * 19) u.cells/\W.rangeAt bb (ob+k * 19) v.cells)) (by kernel_rfl) ((uh HK) _ (below_drewN (Below.refl _ _) 1)) (fun hHeld=>?_)
   refine rtk 0 (h:=?_)
   refine rtk 1 (h:=?_)
   refine rtk 2 (h:=?_)
   refine wpAnyH_take (i:=3) (oi:={ dst:=some 20,op:=Op.load 29 (Operand.tmp 19),type:=29,pos := "help.go:274",after:=#[{ on:=2,ground:=Ground.data }],guard:=none }) (v:=u.val) rfl (by kernel_rfl) (by kernel_rfl) (by kernel_rfl) (fun _ _ _ h=>h) (yieldsIf_load_mid (by rfl) 29 _ rfl ba (oa+k * 19) rfl u.cells _ (fun _ h=>h.1) Tryz.underlying29 rfl packet_size) (by assumption) ?_
   simp only[Act.put,List.setIfInBounds_toArray,List.set_cons_zero,List.set_cons_succ]
   refine rtk 4 (h:=?_)
   refine rtk 5 (h:=?_)
   refine rtk 6 (h:=?_)
   refine wpAnyH_take (i:=7) (oi:={ dst:=some 24,op:=Op.load 29 (Operand.tmp 23),type:=29,pos := "help.go:274",after:=#[{ on:=6,ground:=Ground.data }],guard:=none }) (v:=v.val) rfl (by kernel_rfl) (by kernel_rfl) (by kernel_rfl) (fun _ _ _ h=>h) (yieldsIf_load_mid (by rfl) 29 _ rfl bb (ob+k * 19) rfl v.cells _ (fun _ h=>h.2) Tryz.underlying29 rfl packet_size) (by assumption) ?_
   simp only[Act.put,List.setIfInBounds_toArray,List.set_cons_zero,List.set_cons_succ]
   refine rcl 8 (h:=fun K hK=>?_)
   go_simp
   refine (eqpk_same u v P _ ((uh HU).below (below_drewN (Below.refl _ _) 1)) ((uh HV).below (below_drewN (Below.refl _ _) 1)) (uh HSM)).mono ?_
   rintro e w2 ⟨rfl,hb2⟩
   have HB2:Hid (Below wr.heap.size wr w2):=(below_drewN (Below.refl _ _) 1).trans hb2
   clear hb2
   refine hK.out _ _ ((uh HK) _ (uh HB2)) (fun hHeld=>?_)
   clear hK K
   refine rtk 9 (h:=?_)
   refine wpAnyH_done (by kernel_rfl) ?_ _
   refine NoPanic.normal ?_
   have HB3:Hid (Below w.heap.size w w2):=(uh HBEL).trans ((uh HB2).mono (uh HBEL).size)
   go_wp2
   go_roundw
   case rel=>exact⟨k+1,by omega,by go_num,HB3⟩
   case measure=>simp[intOf];omega
  ·go_wp2
   go_ret
   exact⟨rfl,uh HBEL⟩
theorem srun_stop {lim:Int} {l:List Int} {Ps:List Pa} {n:Nat} {m k:Int} (h:SRun lim l Ps n m) (hk:snum lim l=k) (h0:k≠0):Ps=[]/\n=0/\m=k:=by
 cases h with
 | stop _ _=>exact⟨rfl,rfl,hk⟩
 | step _ _ _ _ _ _ hz _ _=>exact absurd (hk.symm.trans hz) h0
theorem srun_step {lim:Int} {l r:List Int} {P:Pa} {Ps:List Pa} {n:Nat} {m:Int} (h:SRun lim l Ps n m) (hk:snum lim l=0) (hd:dbody l=some (P,r)):∃ Qs k,Ps=P :: Qs/\n=(meas l).2.1+k/\SRun lim (l.drop (meas l).2.1) Qs k m:=by
 cases h with
 | stop _ hz=>exact absurd hk hz
 | step _ P' r' Qs k e _ hd' hr =>
  rw[hd]at hd'
  simp only[Option.some.injEq,Prod.mk.injEq]at hd'
  obtain⟨rfl,rfl⟩:=hd'
  exact⟨Qs,k,rfl,rfl,hr⟩
def pingP:Pa:=pa0 12 false 0 false
theorem ping1:snum 100 [192]=3:=by decide +kernel
theorem ping2:snum 100 [192,0]=0:=by decide +kernel
theorem ping3:dbody [192,0]=some (pingP,[]):=by kernel_rfl
theorem ping4:(meas [192,0]).2.1=2:=by decide +kernel
theorem end3 (lim:Int) (h:2<=lim):snum lim []=3:=by
 unfold snum
 rw[if_pos (by have:(smeas []).2<=2:=by decide +kernel
               omega)]
 decide +kernel
def pubL (n:Nat):List Int:=48 :: ((n:Int)+4) :: 0 :: 1 :: 97 :: 0 :: List.replicate n 0
def pubT (n:Nat):Bool:=decide (snum ((n:Int)+6) (pubL n)=0) && (decide ((meas (pubL n)).2.1=n+6) && (match dbody (pubL n)with | some (P,_)=>decide (P.payload.size=n) | none=>false))
theorem pubAll:(List.range 54).all pubT=true:=by kernel_rfl
theorem pub_facts (n:Nat) (h:n < 54):snum ((n:Int)+6) (pubL n)=0/\(meas (pubL n)).2.1=n+6/\∃ P r,dbody (pubL n)=some (P,r)/\P.payload.size=n:=by
 have:=List.all_eq_true.1 pubAll n (List.mem_range.2 h)
 unfold pubT at this
 simp only[Bool.and_eq_true,decide_eq_true_eq]at this
 obtain⟨h1,h2,h3⟩:=this
 refine⟨h1,h2,?_⟩
 cases hd:dbody (pubL n) with
 | none=>rw[hd]at h3;cases h3
 | some q =>
  obtain⟨P,r⟩:=q
  rw[hd]at h3
  exact⟨P,r,rfl,of_decide_eq_true h3⟩
theorem pub_len (n:Nat):(pubL n).length=n+6:=by simp[pubL]
def limT (k:Nat):Bool:=decide (snum ((k:Int)+1) [48,(k:Int)]=2)
theorem limAll:((List.range 58).drop 1).all limT=true:=by kernel_rfl
theorem lim_facts (k:Nat) (h1:1<=k) (h2:k < 58):snum ((k:Int)+1) [48,(k:Int)]=2:=by
 have hm:k ∈ (List.range 58).drop 1:=by
  rw[List.mem_drop_iff_getElem]
  exact⟨k - 1,by simp;omega,by simp;omega⟩
 exact of_decide_eq_true (List.all_eq_true.1 limAll k hm)
theorem num5 (v:Value) (n:Int) (w:World) (hg:Laid w) (hv:ErrX w v n):Calls Tryz.prog 20 #[v] w fun e w'=>e=.returned (.int .i64 n)/\Below w.heap.size w w':=by
 have HG:=zh hg
 have HV:=zh hv
 clear hg hv
 go_enter Tryz.func20,Tryz.ntmps20
 go_wp2_with (go_at_call 32;refine (numx v n _ (uh HG) (uh HV)).mono ?_;rintro e w' ⟨rfl,hb⟩)
 go_ret
 exact⟨rfl,hb⟩
theorem num5_nil (w:World):Calls Tryz.prog 20 #[.nilIface] w fun e w'=>e=.returned (.int .i64 0)/\w'=w:=by
 go_enter Tryz.func20,Tryz.ntmps20
 go_wp2_with (go_at_call 32;refine (num_nil _).mono ?_;rintro e w' ⟨rfl,rfl⟩)
 go_ret
 exact⟨rfl,rfl⟩
theorem own0 {w:World} {B:Nat} {e:TypeId} {s:Nat} {v:Value} (h:w.ownsRow B e s v 0 []):∃ ao cap,v=.slice ao 0 cap/\cap<=maxLen:=by
 rcases h.2 with⟨rfl,_⟩ | ⟨g,cap,cur,rfl,_,_,_,h2,_⟩
 ·exact⟨none,0,rfl,by simp⟩
 ·exact⟨_,cap,rfl,h2⟩
theorem rpk_none {w:World} {B:Nat} {q:Pkv} {k:Int} {d:Bool} {x:Int} {r:Bool} (h:Mean w B q (pa0 k d x r)):RPk w q (pa0 k d x r):=by
 refine⟨h.sc,?_,?_,?_,?_,?_,?_,?_⟩
 ·obtain⟨ao,cap,e,hc⟩:=own0 h.props;exact⟨ao,cap,e,.inl rfl⟩
 ·obtain⟨ws,h1,h2,h3⟩:=h.wills
  have:ws=[]:=List.length_eq_zero_iff.1 h2
  subst this
  obtain⟨ao,cap,e,hc⟩:=own0 h1;exact⟨ao,cap,e,⟨Nat.zero_le _,hc⟩,.inl rfl⟩
 ·obtain⟨ao,cap,e,hc⟩:=own0 h.user;exact⟨ao,cap,e,⟨Nat.zero_le _,hc⟩,.inl rfl⟩
 ·obtain⟨ao,cap,e,hc⟩:=own0 h.pass;exact⟨ao,cap,e,⟨Nat.zero_le _,hc⟩,.inl rfl⟩
 ·obtain⟨ao,cap,e,hc⟩:=own0 h.subs;exact⟨ao,cap,e,⟨Nat.zero_le _,hc⟩,.inl rfl⟩
 ·obtain⟨ao,cap,e,hc⟩:=own0 h.filters;exact⟨ao,cap,e,⟨Nat.zero_le _,hc⟩,.inl rfl⟩
 ·obtain⟨ao,cap,e,hc⟩:=own0 h.codes;exact⟨ao,cap,e,⟨Nat.zero_le _,hc⟩,.inl rfl⟩
theorem rpk_zero (w:World) (k:Int) (d:Bool) (x:Int) (r:Bool):RPk w (pk0 k d x r) (pa0 k d x r) :=
 ⟨⟨rfl,rfl,rfl,rfl,rfl,rfl,rfl,rfl,rfl,rfl,rfl,rfl⟩,⟨none,0,rfl,.inl rfl⟩,⟨none,0,rfl,⟨Nat.le_refl _,by simp⟩,.inl rfl⟩,⟨none,0,rfl,⟨Nat.le_refl _,by simp⟩,.inl rfl⟩,⟨none,0,rfl,⟨Nat.le_refl _,by simp⟩,.inl rfl⟩,⟨none,0,rfl,⟨Nat.le_refl _,by simp⟩,.inl rfl⟩,⟨none,0,rfl,⟨Nat.le_refl _,by simp⟩,.inl rfl⟩,⟨none,0,rfl,⟨Nat.le_refl _,by simp⟩,.inl rfl⟩⟩
theorem str_new (w:World) (lim:Int):Str (w.alloc (.cells #[.int .i64 lim,.slice none 0 0,.int .i64 0] 91)) w.heap.size lim 0 (.slice none 0 0) [] :=
 ⟨by simp,by simp,by simp,by simp,by simp,World.ownsRow_nil _ _ _ _,fun j=>by simp⟩
theorem one_byt (x:Int) (h:0<=x/\x<=255) (w:World):Byt (w.alloc (.cells #[.int .u8 x] 5)) (.slice (some ⟨w.heap.size,0,none⟩) 1 1) [x]:=by
 refine⟨_,1,rfl,⟨by simp,by unfold maxLen;simp⟩,?_,.inr ⟨w.heap.size,0,rfl,?_⟩⟩
 ·intro j;rcases j with _ | j <;> simp[h]
 ·intro j hj;rcases j with _ | j
  ·simp
  ·simp at hj
theorem FB.bel {B S:Nat} {row:Option Nat} {w0 w w':World} (h:FB S row w w') (hb:Below B w0 w) (hB:B<=w.heap.size) (hS:B<=S) (hr:∀ g,row=some g->B<=g):Below B w0 w' :=
 ⟨h.os.trans hb.os,h.tape.trans hb.tape,h.output.trans hb.output,Nat.le_trans hb.size h.size,fun k hk=>(h.block k (by omega) (by omega) (fun e=>by have:=hr k e.symm;omega)).trans (hb.block k hk)⟩
theorem wakes5 (w:World) (hg:Laid w):Calls Tryz.prog 24 #[] w fun e w'=>e=.returned (.bool true)/\Below w.heap.size w w':=by
 have hsl:slim 100=100:=by decide
 have HN:=zh (snew_any 100 w)
 rw[hsl]at HN
 have HG:=zh hg
 clear hsl hg
 go_enter Tryz.func24,Tryz.ntmps24
 go_wp2_with fail
 refine (uh HN).mono ?_
 rintro e w1 ⟨rfl,hw1⟩
 have HS1:Hid (Str w1 w.heap.size 100 0 (.slice none 0 0) []):=by rw[hw1];exact str_new w 100
 have HB1:Hid (Below w.heap.size w w1):=by rw[hw1];exact bal _ _
 clear hw1 HN
 have hs1:w.heap.size<=w1.heap.size:=(uh HB1).size
 have HS2:=zh ((uh HS1).below (w':=w1.alloc (.cells #[.int .u8 192] 5)) (bal _ _))
 have HB2:Hid (Below w.heap.size w (w1.alloc (.cells #[.int .u8 192] 5))):=(uh HB1).alloc hs1 _
 have HY2:=zh (one_byt 192 (by decide) w1)
 have HG2:=zh ((uh HG).below (uh HB2) (uh HG).pos)
 clear HS1
 go_wp2_with fail
 refine (sfeed_ok w.heap.size 100 (.slice none 0 0) [] _ [192] _ (uh HG2) (uh HS2) (uh HY2) (by decide) (by decide)).mono ?_
 rintro e w3 ⟨v3,E3,qs3,Ps3,n3,m3,hv3,rfl,-,hrun3,-,hpk3,hres3,hown3,hfb3⟩
 obtain⟨rfl,rfl,rfl⟩:=srun_stop (l:=[192]) hrun3 ping1 (by decide)
 obtain⟨rfl,hst3⟩:E3=.nilIface/\Str w3 w.heap.size 100 0 hv3 [192]:=by
  rcases hres3 with⟨_,h1,h2⟩ | ⟨h1,_⟩
  ·exact⟨h1,h2⟩
  ·exact absurd rfl h1
 obtain⟨ao3,cap3,rfl,-⟩:=own0 (by have h:=hpk3.row;have hl:=hpk3.len;simp at hl;subst hl;exact h)
 have HB3:Hid (Below w.heap.size w w3):=hfb3.bel (uh HB2) (uh HB2).size (Nat.le_refl _) (fun g e=>by cases e)
 have HG3:=zh ((uh HG).below (uh HB3) (uh HG).pos)
 have HS3:=zh hst3
 have HR3:=zh (owns_blk hst3.row)
 clear hrun3 hpk3 hres3 hown3 hfb3 hst3 HS2 HB2 HY2 HG2
 have hs3:w.heap.size<=w3.heap.size:=(uh HB3).size
 have HS4:=zh ((uh HS3).below (w':=w3.alloc (.cells #[.int .u8 0] 5)) (bal _ _))
 have HB4:Hid (Below w.heap.size w (w3.alloc (.cells #[.int .u8 0] 5))):=(uh HB3).alloc hs3 _
 have HY4:=zh (one_byt 0 (by decide) w3)
 have HG4:=zh ((uh HG).below (uh HB4) (uh HG).pos)
 clear HS3 HB3 HG3
 go_wp2_with fail
 refine (sfeed_ok w.heap.size 100 hv3 [192] _ [0] _ (uh HG4) (uh HS4) (uh HY4) (by decide) (by decide)).mono ?_
 rintro e w5 ⟨v5,E5,qs5,Ps5,n5,m5,hv5,rfl,-,hrun5,-,hpk5,hres5,-,hfb5⟩
 obtain⟨Qs,k5,rfl,rfl,hrun6⟩:=srun_step (l:=[192,0]) hrun5 ping2 ping3
 rw[ping4]at hrun6 hres5
 obtain⟨rfl,rfl,rfl⟩:=srun_stop (l:=[]) hrun6 (end3 100 (by decide)) (by decide)
 obtain⟨rfl,hst5⟩:E5=.nilIface/\Str w5 w.heap.size 100 0 hv5 []:=by
  rcases hres5 with⟨_,h1,h2⟩ | ⟨h1,_⟩
  ·exact⟨h1,h2⟩
  ·exact absurd rfl h1
 obtain⟨q,rfl⟩:∃ q,qs5=[q]:=List.length_eq_one_iff.1 hpk5.len
 have hmean:=hpk5.mean 0 q pingP rfl rfl
 have HB5:Hid (Below w.heap.size w w5):=hfb5.bel (uh HB4) (uh HB4).size (Nat.le_refl _) (fun g e=>by have:=(uh HR3) g e;omega)
 have HG5:=zh ((uh HG).below (uh HB5) (uh HG).pos)
 obtain⟨g5,cap5,rfl,hr5⟩:∃ g cap,v5=.slice (some ⟨g,0,none⟩) 1 cap/\w5.rangeAt g 0 q.cells:=by
  have hrow:=hpk5.row
  rcases hrow.2 with⟨_,h0⟩ | ⟨g,cap,cur,rfl,_⟩
  ·simp at h0
  ·refine⟨g,cap,rfl,fun j v hj=>?_⟩
   have hj19:j < 19:=by
    rcases Nat.lt_or_ge j 19 with h | h
    ·exact h
    ·rw[List.getElem?_eq_none (by show 19<=j;exact h)]at hj;cases hj
   have:=hrow.cellAt j (by simp;omega)
   rw[Nat.zero_add]
   rw[this]
   simpa using hj
 obtain⟨aoh,caph,rfl,-⟩:=own0 hst5.row
 have HQ:=zh (rpk_none hmean)
 have HR:=zh hr5
 have c1:=hst5.c1
 have hSl:w.heap.size < w5.heap.size:=cell_lt hst5.c0
 clear hrun5 hrun6 hpk5 hres5 hfb5 hst5 hmean hr5 HS4 HB4 HY4 HG4 HR3 hs3
 have HEQ:Hid (∀ W,Below w5.heap.size w5 W->W.rangeAt w5.heap.size 0 (pk0 12 false 0 false).cells->Calls Tryz.prog 21 #[.slice (some ⟨g5,0,none⟩) 1 cap5,.slice (some ⟨w5.heap.size,0,none⟩) 1 1] W fun e w'=>e=.returned (.bool true)/\Below W.heap.size W w'):=fun W hW hr =>
  eqpks_same g5 0 w5.heap.size 0 1 cap5 1 (fun _=>q) (fun _=>pk0 12 false 0 false) (fun _=>pingP) W (by decide)
   (fun k hk=>by obtain rfl:k=0:=by omega
                 exact⟨range_below (uh HR) hW,(uh HQ).below hW⟩)
   (fun k hk=>by obtain rfl:k=0:=by omega
                 exact⟨hr,rpk_zero W 12 false 0 false⟩)
   (fun k _=>⟨by decide,by decide,by decide⟩)
 go_wp2_with (first | (go_at_call 20;refine (num5_nil _).mono ?_;rintro e w6 ⟨rfl,hw6⟩;obtain rfl:=hw6.symm;clear hw6))
 have HR6:=zh (pk_new w5 (pk0 12 false 0 false)).range
 refine ((uh HEQ) _ (bal _ _) (uh HR6)).mono ?_
 rintro e w7 ⟨rfl,hb7⟩
 have HB7:Hid (Below w5.heap.size w5 w7):=Below.trans (bal _ _) (hb7.mono (by simp))
 have c7:w7.cell? ⟨w.heap.size,1,none⟩=some (.slice aoh 0 caph):=((uh HB7).cell (p:=⟨w.heap.size,1,none⟩) hSl).trans c1
 clear hb7 HEQ HR6 HR HQ c1
 go_wp2_with (first | (go_at_call 22;refine (sheld_any w.heap.size aoh 0 caph _ c7).mono ?_;rintro e w8 ⟨rfl,hw8⟩;obtain rfl:=hw8.symm;clear hw8))
 go_ret
 exact⟨rfl,(uh HB5).trans ((uh HB7).mono (uh HB5).size)⟩
theorem wpList_append_run (w:World) {ops:Array Oper} {rest:List Oper} {o:Oper} {a:Act} {Q:Exit->Act->World->Prop} {Z:Value->World->Prop} (hgd:o.guard=none) (s x:Operand) (t u:TypeId)
  (ho:o.op=.call { callee:=.builtin .append,args:=#[s,x],argTypes:=#[t,u] }) (v vx:Value) (hs:a.eval s=v) (hx:a.eval x=vx)
  (hr:∃ v' w',(Builtin.append_ #[t,u] o.type #[v,vx]).run Tryz.prog w=.ok v' w'/\Z v' w')
  (h:∀ v' w',Z v' w'->wpList Tryz.prog ops Q rest (a.put o.dst v') w'):wpList Tryz.prog ops Q (o :: rest) a w:=by
 refine wpList_plain hgd fun K hK=>?_
 obtain⟨v',w',hr,h2⟩:=hr
 unfold Oper.wp execOp
 simp only[ho,resolve,invoke,builtin,Sem.run_bind,Sem.run_pure,Result.andThen_ok,List.map_toArray,List.map_cons,List.map_nil,hs,hx,hr]
 exact hK _ _ (h v' w' h2)
theorem zero_cells (n:Nat):(Builtin.zeroCells #[.int .u8 0] n).toList=(List.replicate n (0:Int)).map (Value.int .u8):=by
 simp[Builtin.zeroCells,Nat.mod_one,List.map_const']
structure OwnB (w:World) (B g cap:Nat) (l:List Int):Prop where
 cap1:l.length<=cap
 cap2:cap<=maxLen
 at_:B<=g
 cell:∀ j,j < l.length->w.cell? ⟨g,j,none⟩=some (.int .u8 (l.getD j 0))/\w.frozen? ⟨g,j,none⟩=false
theorem OwnB.byt {w:World} {B g cap:Nat} {l:List Int} (h:OwnB w B g cap l) (hr:∀ j,0<=l.getD j 0/\l.getD j 0<=255):Byt w (.slice (some ⟨g,0,none⟩) l.length cap) l :=
 ⟨_,cap,rfl,⟨h.cap1,h.cap2⟩,hr,.inr ⟨g,0,rfl,fun j hj=>by rw[Nat.zero_add];exact (h.cell j hj).1⟩⟩
theorem owns_ownB {w:World} {B n:Nat} {v:Value} {l:List Int} (h:w.ownsRow B 5 1 v n (l.map (Value.int .u8))) (h1:1<=n):∃ g cap,v=.slice (some ⟨g,0,none⟩) n cap/\OwnB w B g cap l:=by
 have hl:l.length=n:=by simpa using h.1
 rcases h.2 with⟨_,h0⟩ | ⟨g,cap,cur,rfl,hB,hg,hnc,hcm,hcs,htake⟩
 ·omega
 ·refine⟨g,cap,rfl,by omega,hcm,hB,fun j hj=>⟨?_,?_⟩⟩
  ·rw[h.cellAt j (by omega),List.getElem?_map,List.getElem?_eq_getElem hj,List.getD_eq_getElem?_getD,List.getElem?_eq_getElem hj];rfl
  ·simp[World.frozen?,hg]
theorem zeros_own (xs:List Int) (n:Nat) (hx:1<=xs.length) (hl:xs.length+n<=1000) (W:World)
  (h0:∀ W':World,(Builtin.append_ #[30,3] 30 #[.slice (some ⟨W.heap.size,0,none⟩) xs.length xs.length,.int .i64 0]).run Tryz.prog W'=.ok (.slice (some ⟨W.heap.size,0,none⟩) xs.length xs.length) W') :
  ∃ v w',(Builtin.append_ #[30,3] 30 #[.slice (some ⟨W.heap.size,0,none⟩) xs.length xs.length,.int .i64 n]).run Tryz.prog (W.alloc (.cells (xs.map (Value.int .u8)).toArray 5))=.ok v w' /\
   (w'.ownsRow W.heap.size 5 1 v (xs.length+n) ((xs++List.replicate n 0).map (Value.int .u8))/\Below W.heap.size W w'):=by
 obtain⟨i0,hi,hz0,hz1,hz2⟩:=info_parts Tryz.infoU8
 have hb0:Below W.heap.size W (W.alloc (.cells (xs.map (Value.int .u8)).toArray 5)):=bal _ _
 rcases Nat.eq_zero_or_pos n with rfl | hn
 ·refine⟨_,_,h0 _,⟨by simp,.inr ⟨W.heap.size,xs.length,_,rfl,Nat.le_refl _,heap_alloc_new _ _,by omega,by unfold maxLen;omega,by simp,?_⟩⟩,hb0⟩
  simp
  exact List.take_of_length_le (by simp)
 ·have hold:=run_firstCells_some (P:=Tryz.prog) (W.alloc (.cells (xs.map (Value.int .u8)).toArray 5)).drew 1 xs.length ⟨W.heap.size,0,none⟩ xs.length xs.length (xs.map (Value.int .u8)) (by simp) (by
   intro j v hj
   have hj2:j < xs.length:=by
    rcases Nat.lt_or_ge j xs.length with h | h
    ·exact h
    ·rw[List.getElem?_eq_none (by simpa using h)]at hj;cases hj
   rw[addr_add,Nat.zero_add]
   show (W.alloc (.cells (xs.map (Value.int .u8)).toArray 5)).cell? ⟨W.heap.size,j,none⟩=some v
   rw[World.cell?_alloc_at _ _ _ _ rfl,List.getElem?_toArray]
   exact hj)
  have hnc:Builtin.nextslicecap (xs.length+n) xs.length * i0.bytes<=281474976710656:=by
   rw[hz2]
   exact growslice_fits (by omega) (by omega)
  have:=Lib.run_append_grow_zeros (P:=Tryz.prog) (W.alloc (.cells (xs.map (Value.int .u8)).toArray 5)) 30 3 30 5 i0 (.int .u8 0) .i64 .i64 Tryz.underlying30 Tryz.underlying3 hi hz0 (some ⟨W.heap.size,0,none⟩) xs.length xs.length (xs.map (Value.int .u8)) (by rw[hz1];exact hold) n hn (by rw[hz1];decide) (by omega) (by omega) (by rw[hz2];omega) hnc
  have hge:=grownCap_ge (W.alloc (.cells (xs.map (Value.int .u8)).toArray 5)) (xs.length+n) xs.length 5
  have hle:=grownCap_le_maxLen (W.alloc (.cells (xs.map (Value.int .u8)).toArray 5)) (xs.length+n) xs.length 5 (by unfold maxLen;omega)
  have hb1:Below W.heap.size W (W.alloc (.cells (xs.map (Value.int .u8)).toArray 5)).drew:=hb0.drew
  refine⟨_,_,this,?_,hb1.alloc hb1.size _⟩
  generalize grownCap (W.alloc (.cells (xs.map (Value.int .u8)).toArray 5)) (xs.length+n) xs.length 5=g at hge hle
  refine⟨by simp,.inr ⟨_,g,_,rfl,by simp,heap_alloc_new _ _,hge,hle,?_,?_⟩⟩
  ·simp[Builtin.zeroCells,Value.cells]
   omega
  ·show ((xs.map (Value.int .u8)).toArray++Builtin.zeroCells #[.int .u8 0] n++Builtin.zeroCells #[.int .u8 0] (g - (xs.length+n))).toList.take _=_
   rw[Array.toList_append,Array.toList_append,zero_cells,zero_cells,List.map_append]
   exact List.take_left' (by simp)
def Zrow (W:World) (l:List Int) (v:Value) (w':World):Prop:=w'.ownsRow W.heap.size 5 1 v l.length (l.map (Value.int .u8))/\Below W.heap.size W w'
theorem zeros_row (xs:List Int) (n:Nat) (hx:1<=xs.length) (hl:xs.length+n<=1000) (W:World)
  (h0:∀ W':World,(Builtin.append_ #[30,3] 30 #[.slice (some ⟨W.heap.size,0,none⟩) xs.length xs.length,.int .i64 0]).run Tryz.prog W'=.ok (.slice (some ⟨W.heap.size,0,none⟩) xs.length xs.length) W') :
  ∃ v w',(Builtin.append_ #[30,3] 30 #[.slice (some ⟨W.heap.size,0,none⟩) xs.length xs.length,.int .i64 n]).run Tryz.prog (W.alloc (.cells (xs.map (Value.int .u8)).toArray 5))=.ok v w'/\Zrow W (xs++List.replicate n 0) v w':=by
 obtain⟨v,w',h1,h2,h3⟩:=zeros_own xs n hx hl W h0
 exact⟨v,w',h1,by rw[List.length_append,List.length_replicate];exact h2,h3⟩
theorem Zrow.open_ {W w':World} {l:List Int} {v:Value} (h:Zrow W l v w') (hl:1<=l.length):∃ g cap,v=.slice (some ⟨g,0,none⟩) l.length cap/\OwnB w' W.heap.size g cap l/\Below W.heap.size W w':=by
 obtain⟨g,cap,h1,h2⟩:=owns_ownB h.1 hl
 exact⟨g,cap,h1,h2,h.2⟩
theorem Str.fb {w w':World} {S T:Nat} {lim:Int} (h:Str w T lim 0 (.slice none 0 0) []) (hf:FB S none w w') (hT:T≠S):Str w' T lim 0 (.slice none 0 0) []:=by
 have hl:T < w.heap.size:=cell_lt h.c0
 have hb:w'.heap[T]?=w.heap[T]?:=hf.block T hl hT (fun e=>by cases e)
 exact⟨(World.cell?_of_block (a:=⟨T,0,none⟩) hb).trans h.c0,(World.cell?_of_block (a:=⟨T,1,none⟩) hb).trans h.c1,(World.cell?_of_block (a:=⟨T,2,none⟩) hb).trans h.c2,(World.frozen?_of_block (a:=⟨T,1,none⟩) hb).trans h.f1,(World.frozen?_of_block (a:=⟨T,2,none⟩) hb).trans h.f2,World.ownsRow_nil _ _ _ _,h.rng⟩
theorem byt_fb {w w':World} {S g n cap:Nat} {l:List Int} (h:Byt w (.slice (some ⟨g,0,none⟩) n cap) l) (hf:FB S none w w') (hg:g≠S) (hl:g < w.heap.size):Byt w' (.slice (some ⟨g,0,none⟩) n cap) l:=by
 obtain⟨ao,cap',e,h2,h3,h4⟩:=h
 have hb:w'.heap[g]?=w.heap[g]?:=hf.block g hl hg (fun e=>by cases e)
 refine⟨ao,cap',e,h2,h3,?_⟩
 rcases h4 with h4 | ⟨b,off,e2,hc⟩
 ·exact .inl h4
 ·have hgb:g=b:=by
   simp only[Value.slice.injEq]at e
   rw[e2]at e
   have h5:=e.1
   simp at h5
   exact h5.1
  subst hgb
  exact .inr ⟨g,off,e2,fun j hj=>(World.cell?_of_block (a:=⟨g,off+j,none⟩) hb).trans (hc j hj)⟩
theorem pub_is (k:Nat) (h:4<=k):(48 :: (k:Int) :: 0 :: 1 :: 97 :: 0 :: List.replicate (k - 4) 0)=pubL (k - 4):=by
 unfold pubL
 rw[show ((k - 4:Nat):Int)+4=(k:Int) by omega]
theorem pub_range (k:Nat) (h:4<=k) (h2:k < 58):∀ j,0<=(pubL (k - 4)).getD j 0/\(pubL (k - 4)).getD j 0<=255:=by
 intro j
 rw[<- pub_is k h]
 match j with
 | 0=>simp
 | 1=>simp;omega
 | 2=>simp
 | 3=>simp
 | 4=>simp
 | 5=>simp
 | j+6 =>
  simp only[List.getD_cons_succ]
  rw[List.getD_eq_getElem?_getD,List.getElem?_replicate]
  split <;> simp
theorem pub_run {k:Nat} (h:4<=k) (h2:k < 58) {Ps:List Pa} {n:Nat} {m:Int} (hr:SRun ((k:Int)+2) (pubL (k - 4)) Ps n m):m=3/\n=k+2/\∃ P,Ps=[P]/\P.payload.size=k - 4:=by
 obtain⟨f1,f2,P,r,f3,f4⟩:=pub_facts (k - 4) (by omega)
 rw[show ((k - 4:Nat):Int)+6=(k:Int)+2 by omega]at f1
 obtain⟨Qs,j,rfl,rfl,hr2⟩:=srun_step hr f1 f3
 rw[f2,List.drop_of_length_le (by rw[pub_len];exact Nat.le_refl _)]at hr2
 obtain⟨rfl,rfl,rfl⟩:=srun_stop hr2 (end3 _ (by omega)) (by decide)
 exact⟨rfl,by rw[f2];omega,P,rfl,f4⟩
theorem ping_byt (w:World):Byt (w.alloc (.cells #[.int .u8 192,.int .u8 0] 5)) (.slice (some ⟨w.heap.size,0,none⟩) 2 2) [192,0]:=by
 refine⟨_,2,rfl,⟨by simp,by unfold maxLen;simp⟩,?_,.inr ⟨w.heap.size,0,rfl,?_⟩⟩
 ·intro j;rcases j with _ | _ | j <;> simp
 ·intro j hj;rcases j with _ | _ | j
  ·simp
  ·simp
  ·simp at hj;omega
theorem app0_two (B:Nat) (W:World):(Builtin.append_ #[30,3] 30 #[.slice (some ⟨B,0,none⟩) 2 2,.int .i64 0]).run Tryz.prog W=.ok (.slice (some ⟨B,0,none⟩) 2 2) W:=by kernel_rfl
theorem app0_six (B:Nat) (W:World):(Builtin.append_ #[30,3] 30 #[.slice (some ⟨B,0,none⟩) 6 6,.int .i64 0]).run Tryz.prog W=.ok (.slice (some ⟨B,0,none⟩) 6 6) W:=by kernel_rfl
theorem two_range (k:Nat) (h:k < 58):∀ j,0<=(48 :: (k:Int) :: List.replicate k 0).getD j 0/\(48 :: (k:Int) :: List.replicate k 0).getD j 0<=255:=by
 intro j
 match j with
 | 0=>simp
 | 1=>simp;omega
 | j+2 =>
  simp only[List.getD_cons_succ]
  rw[List.getD_eq_getElem?_getD,List.getElem?_replicate]
  split <;> simp
theorem byt_set {w1:World} {g1 cap1 n:Nat} {k:Nat} {l:List Int} (hc:2<=n) (h:Byt w1 (.slice (some ⟨g1,0,none⟩) n cap1) (48 :: (k:Int) :: l)) :
  Byt ((w1.setCell ⟨g1,3,none⟩ (.int .u8 1)).setCell ⟨g1,4,none⟩ (.int .u8 97)) (.slice (some ⟨g1,0,none⟩) 2 cap1) [48,(k:Int)]:=by
 have h2:=h.take 2 (by omega)
 obtain⟨ao,cap',e,h3,h4,h5⟩:=h2
 refine⟨ao,cap',e,h3,h4,?_⟩
 rcases h5 with h5 | ⟨b,off,e2,hc⟩
 ·exact .inl h5
 ·subst e2
  have e3:g1=b/\0=off:=by
   simp only[Value.slice.injEq,Option.some.injEq,Addr.mk.injEq]at e
   exact⟨e.1.1,e.1.2.1⟩
  obtain⟨rfl,rfl⟩:=e3
  refine .inr ⟨g1,0,rfl,fun j hj=>?_⟩
  have hj2:j < 2:=by simpa using hj
  have:=hc j hj
  have n4:(⟨g1,4,none⟩:Addr)≠⟨g1,0+j,none⟩:=by intro e;simp only[Addr.mk.injEq]at e;omega
  have n3:(⟨g1,3,none⟩:Addr)≠⟨g1,0+j,none⟩:=by intro e;simp only[Addr.mk.injEq]at e;omega
  exact (World.cell?_setCell_other _ _ _ _ n4).trans ((World.cell?_setCell_other _ _ _ _ n3).trans this)
theorem limits_walk (lim:Int) (ao:Option Addr) (len cap:Nat) (w:World) (hg:Laid w) :
  Calls Tryz.prog 5 #[.agg #[.int .i64 lim,.slice ao len cap]] w fun e w'=>e=.returned (.bool true)/\Below w.heap.size w w':=by
 have HG:=zh hg
 clear hg
 go_enter Tryz.func5,Tryz.ntmps5
 go_wp2
 have HW0:Hid (Below w.heap.size w (w.alloc (.cells #[.int .i64 lim,.slice ao len cap] 48))):=bal _ _
 have hcL:(w.alloc (.cells #[.int .i64 lim,.slice ao len cap] 48)).cell? ⟨w.heap.size,1,none⟩=some (.slice ao len cap):=by simp
 have hsz0:w.heap.size < (w.alloc (.cells #[.int .i64 lim,.slice ao len cap] 48)).heap.size:=by simp
 have HCL:=zh hcL
 clear hcL
 generalize w.alloc (.cells #[.int .i64 lim,.slice ao len cap] 48)=W0 at HW0 HCL hsz0 |-
 go_loopw [3] (fun i wr=>∃ k:Nat,k<=58/\i=.int .i64 ((k:Int)+2)/\Hid (Below W0.heap.size W0 wr)) (fun i _=>60 - (intOf i).toNat)
 case atStart=>exact⟨0,by omega,rfl,Below.refl _ _⟩
 case round =>
  obtain⟨k,hk,rfl,HBW⟩:=hrel
  have HGr:=zh ((uh HG).below ((uh HW0).trans ((uh HBW).mono (uh HW0).size)) (uh HG).pos)
  by_cases hlt:k < 58
  ·by_cases hk4:4<=k
   ·have h60:((k:Int)+2) < 60:=by omega
    have HAP1:Hid (∃ v w',(Builtin.append_ #[30,3] 30 #[.slice (some ⟨wr.heap.size,0,none⟩) 2 2,.int .i64 (k:Int)]).run Tryz.prog (wr.alloc (.cells #[.int .u8 48,.int .u8 (k:Int)] 5))=.ok v w'/\Zrow wr (48 :: (k:Int) :: List.replicate k 0) v w'):=zeros_row [48,(k:Int)] k (by simp) (by simp;omega) wr (fun W'=>app0_two _ W')
    go_wp2_with (first | (at_builtin;refine wpList_append_run _ rfl _ _ 30 3 rfl _ _ rfl rfl (uh HAP1) ?_) | fail)
    intro v1 w1 hz1
    obtain⟨g1,cap1,rfl,hob1,hb1⟩:=hz1.open_ (by simp)
    have HB1:=zh hb1
    have hg1:=hob1.at_
    have hc3:=hob1.cell 3 (by simp;omega)
    have hc4:=hob1.cell 4 (by simp;omega)
    obtain⟨hc3,hf3⟩:=hc3
    obtain⟨hc4,hf4⟩:=hc4
    clear hb1 hob1 hz1 HAP1
    have HAP2:Hid (∃ v w',(Builtin.append_ #[30,3] 30 #[.slice (some ⟨w1.heap.size,0,none⟩) 6 6,.int .i64 ((k:Int)+2 - 6)]).run Tryz.prog (((w1.setCell ⟨g1,3,none⟩ (.int .u8 1)).setCell ⟨g1,4,none⟩ (.int .u8 97)).alloc (.cells #[.int .u8 48,.int .u8 (k:Int),.int .u8 0,.int .u8 1,.int .u8 97,.int .u8 0] 5))=.ok v w'/\Zrow ((w1.setCell ⟨g1,3,none⟩ (.int .u8 1)).setCell ⟨g1,4,none⟩ (.int .u8 97)) (48 :: (k:Int) :: 0 :: 1 :: 97 :: 0 :: List.replicate (k - 4) 0) v w'):=by
     have e:((k:Int)+2 - 6)=((k - 4:Nat):Int):=by omega
     have hz:=zeros_row [48,(k:Int),0,1,97,0] (k - 4) (by simp) (by simp;omega) ((w1.setCell ⟨g1,3,none⟩ (.int .u8 1)).setCell ⟨g1,4,none⟩ (.int .u8 97)) (fun W'=>app0_six _ W')
     rw[show ((w1.setCell ⟨g1,3,none⟩ (.int .u8 1)).setCell ⟨g1,4,none⟩ (.int .u8 97)).heap.size=w1.heap.size by simp]at hz
     show ∃ v w',_
     rw[e]
     exact hz
    have HBs:Hid (Below wr.heap.size wr ((w1.setCell ⟨g1,3,none⟩ (.int .u8 1)).setCell ⟨g1,4,none⟩ (.int .u8 97))):=((uh HB1).setCell hg1 _).setCell hg1 _
    go_wp2_with (first | (at_builtin;refine wpList_append_run _ rfl _ _ 30 3 rfl _ _ rfl rfl (uh HAP2) ?_) | fail)
    intro v2 w2 hz2
    obtain⟨g2,cap2,hv2,hob2,hb2⟩:=hz2.open_ (by simp)
    have HB2:Hid (Below wr.heap.size wr w2):=(uh HBs).trans (hb2.mono (uh HBs).size)
    have hlen2:(48 :: (k:Int) :: 0 :: 1 :: 97 :: 0 :: List.replicate (k - 4) 0).length=k+2:=by simp;omega
    rw[hlen2]at hv2
    subst hv2
    have HY2:Hid (Byt w2 (.slice (some ⟨g2,0,none⟩) (k+2) cap2) (pubL (k - 4))):=by
     have h:=hob2.byt (by rw[pub_is k hk4];exact pub_range k hk4 hlt)
     rw[hlen2,pub_is k hk4]at h
     exact h
    have hg2:g2 < w2.heap.size:=cell_lt (hob2.cell 0 (by simp)).1
    have hcp2:k+2<=cap2:=by have:=hob2.cap1;rw[hlen2]at this;exact this
    clear hb2 hob2 hz2 HAP2 HBs hc3 hf3 hc4 hf4 HB1 hg1 hlen2
    have hsl:slim ((k:Int)+2)=(k:Int)+2:=by unfold slim;rw[if_neg (by omega),if_neg (by omega)]
    have hsl2:slim ((k:Int)+2 - 1)=(k:Int)+1:=by unfold slim;rw[if_neg (by omega),if_neg (by omega)];omega
    have HN1:=zh (snew_any ((k:Int)+2) w2)
    rw[hsl]at HN1
    go_wp2_with fail
    refine (uh HN1).mono ?_
    rintro e w3 ⟨rfl,hw3⟩
    have HS3:Hid (Str w3 w2.heap.size ((k:Int)+2) 0 (.slice none 0 0) []):=by rw[hw3];exact str_new _ _
    have HBd3:Hid (Below w2.heap.size w2 w3):=by rw[hw3];exact bal _ _
    have hs3:w3.heap.size=w2.heap.size+1:=by rw[hw3];simp
    clear hw3 HN1 hsl
    have HN2:=zh (snew_any ((k:Int)+2 - 1) w3)
    rw[hsl2]at HN2
    go_wp2_with fail
    refine (uh HN2).mono ?_
    rintro e w4 ⟨rfl,hw4⟩
    have HT4:Hid (Str w4 w3.heap.size ((k:Int)+1) 0 (.slice none 0 0) []):=by rw[hw4];exact str_new _ _
    have HBd4:Hid (Below w3.heap.size w3 w4):=by rw[hw4];exact bal _ _
    have hs4:w4.heap.size=w3.heap.size+1:=by rw[hw4];simp
    clear hw4 HN2 hsl2
    have HS4:=zh ((uh HS3).below (uh HBd4))
    have HB24:Hid (Below w2.heap.size w2 w4):=(uh HBd3).trans ((uh HBd4).mono (by omega))
    have HB4:Hid (Below wr.heap.size wr w4):=(uh HB2).trans ((uh HB24).mono (uh HB2).size)
    have HG4:=zh ((uh HGr).below (uh HB4) (uh HGr).pos)
    clear HS3 HBd3 HBd4
    have HY4:=zh ((uh HY2).below (uh HB24))
    go_wp2_with fail
    refine (sfeed_ok w2.heap.size ((k:Int)+2) (.slice none 0 0) [] _ (pubL (k - 4)) _ (uh HG4) (uh HS4) (uh HY4) (by omega) (by rw[List.nil_append,pub_len];omega)).mono ?_
    rintro e w5 ⟨v5,E5,qs5,Ps5,n5,m5,hv5,rfl,-,hrun5,-,hpk5,hres5,-,hfb5⟩
    rw[List.nil_append]at hrun5
    obtain⟨rfl,rfl,P,rfl,hpay⟩:=pub_run hk4 hlt hrun5
    obtain rfl:E5=.nilIface:=by
     rcases hres5 with⟨_,h1,_⟩ | ⟨h1,_⟩
     ·exact h1
     ·exact absurd rfl h1
    obtain⟨q,rfl⟩:∃ q,qs5=[q]:=List.length_eq_one_iff.1 hpk5.len
    have hmean:=hpk5.mean 0 q P rfl rfl
    have hqp:q.payload.size=k - 4:=by rw[hmean.sc.2.2.2.2.2.2.1];exact hpay
    obtain⟨g5,cap5,rfl,hc5⟩:∃ g cap,v5=.slice (some ⟨g,0,none⟩) 1 cap/\w5.cell? ⟨g,6,none⟩=some (.string q.payload):=by
     have hrow:=hpk5.row
     rcases hrow.2 with⟨_,h0⟩ | ⟨g,cap,cur,rfl,_⟩
     ·simp at h0
     ·exact⟨g,cap,rfl,by rw[hrow.cellAt 6 (by simp)];rfl⟩
    have HT5:=zh ((uh HT4).fb hfb5 (by omega))
    have HY5:=zh (byt_fb (uh HY4) hfb5 (by omega) (by omega))
    have HB5:Hid (Below wr.heap.size wr w5):=hfb5.bel (uh HB4) (uh HB4).size (uh HB2).size (fun g e=>by cases e)
    have hs5:w4.heap.size<=w5.heap.size:=hfb5.size
    have HG5:=zh ((uh HGr).below (uh HB5) (uh HGr).pos)
    clear hrun5 hpk5 hres5 hfb5 hmean hpay HT4 HY4 HB4 HG4 HS4 HY2 HB24
    have hqz:(((k - 4:Nat):Int) != (k:Int)+2 - 6)=false:=by rw[bne_eq_false_iff_eq];omega
    rw[hs3]at HT5
    go_wp2_with (first | (go_at_call 20;refine (num5_nil _).mono ?_;rintro e w6 ⟨rfl,hw6⟩;obtain rfl:=hw6.symm;clear hw6))
    have hsr:=(uh HB2).size
    have HYt:Hid (Byt w5 (.slice (some ⟨g2,0,none⟩) 2 cap2) [48,(k:Int)]):=by
     have h:=(uh HY5).take 2 (by omega)
     rw[<- pub_is k hk4]at h
     exact h
    refine (sfeed_ok (w2.heap.size+1) ((k:Int)+1) (.slice none 0 0) [] _ [48,(k:Int)] _ (uh HG5) (uh HT5) (uh HYt) (by omega) (by simp)).mono ?_
    rintro e w6 ⟨v6,E6,qs6,Ps6,n6,m6,hv6,rfl,-,hrun6,-,-,hres6,-,hfb6⟩
    rw[List.nil_append]at hrun6
    obtain⟨rfl,rfl,rfl⟩:=srun_stop hrun6 (lim_facts k (by omega) (by omega)) (by decide)
    obtain⟨x6,rfl,her6,hst6⟩:∃ x,E6=.iface 118 x/\Er w6 1 (.iface 118 x) 2/\Str w6 (w2.heap.size+1) ((k:Int)+1) 2 hv6 []:=by
     rcases hres6 with⟨h1,_⟩ | ⟨_,⟨x,rfl⟩,h2,h3⟩
     ·exact absurd h1 (by decide)
     ·exact⟨x,rfl,h2.er,h3⟩
    obtain⟨aoh,caph,rfl,-⟩:=own0 hst6.row
    have HB6:Hid (Below wr.heap.size wr w6):=hfb6.bel (uh HB5) (uh HB5).size (by omega) (fun g e=>by cases e)
    have hs6:=(uh HB6).size
    have HE6:=zh her6
    have HS6:=zh hst6
    clear hrun6 hres6 hfb6 her6 hst6 HYt HT5 HY5 HB5 HG5
    have HA7:Hid (Below w6.heap.size w6 (w6.alloc (.cells #[.int .u8 192,.int .u8 0] 5))):=bal _ _
    go_wp2_with fail
    refine (sfeed_bad (w2.heap.size+1) ((k:Int)+1) 2 (.slice aoh 0 caph) [] _ [192,0] _ ((uh HS6).below (uh HA7)) (ping_byt w6) (by decide)).mono ?_
    rintro e w8 ⟨x8,rfl,her8b,hb8⟩;have her8:=zh (uh her8b).er;clear her8b
    have HB68:Hid (Below w6.heap.size w6 w8):=(uh HA7).trans (hb8.mono (uh HA7).size)
    have HB8:Hid (Below wr.heap.size wr w8):=(uh HB6).trans ((uh HB68).mono hs6)
    have HG8:=zh ((uh HGr).below (uh HB8) (uh HGr).pos)
    have HF8:=zh (Er.below (uh HB68) (uh HE6))
    have HE8:=zh her8
    have HS8:=zh ((uh HS6).below (uh HB68))
    clear hb8 her8 HA7 HB68 HB6 HS6 HE6
    go_wp2_with (first
     | (go_at_call 20;refine (num5 _ 2 _ (uh HG8) (.inr ⟨1,by decide,uh HF8⟩)).mono ?_;rintro e w9 ⟨rfl,hb9⟩;have HB9:Hid (Below wr.heap.size wr w9):=(uh HB8).trans (hb9.mono (uh HB8).size);have HG9:=zh ((uh HGr).below (uh HB9) (uh HGr).pos);have HE9:=zh (Er.below hb9 (uh HE8));have HS9:=zh ((uh HS8).below hb9);clear hb9 HB8 HG8 HE8 HS8 HF8)
     | (go_at_call 20;refine (num5 _ 2 _ (uh HG9) (.inr ⟨1,by decide,uh HE9⟩)).mono ?_;rintro e w10 ⟨rfl,hb10⟩;have HB10:Hid (Below wr.heap.size wr w10):=(uh HB9).trans (hb10.mono (uh HB9).size);have c10:=((uh HS9).below hb10).c1;clear hb10 HB9 HG9 HE9 HS9)
     | (go_at_call 22;refine (sheld_any (w2.heap.size+1) aoh 0 caph _ c10).mono ?_;rintro e w11 ⟨rfl,hw11⟩;obtain rfl:=hw11.symm;clear hw11))
    exact⟨⟨k+1,by omega,by congr 1 <;> omega,(uh HBW).trans ((uh HB10).mono (uh HBW).size)⟩,by simp[intOf];omega⟩
   ·by_cases hk3:3<=k
    ·have h60:((k:Int)+2) < 60:=by omega
     have HAP1:Hid (∃ v w',(Builtin.append_ #[30,3] 30 #[.slice (some ⟨wr.heap.size,0,none⟩) 2 2,.int .i64 (k:Int)]).run Tryz.prog (wr.alloc (.cells #[.int .u8 48,.int .u8 (k:Int)] 5))=.ok v w'/\Zrow wr (48 :: (k:Int) :: List.replicate k 0) v w'):=zeros_row [48,(k:Int)] k (by simp) (by simp;omega) wr (fun W'=>app0_two _ W')
     go_wp2_with (first | (at_builtin;refine wpList_append_run _ rfl _ _ 30 3 rfl _ _ rfl rfl (uh HAP1) ?_) | fail)
     intro v1 w1 hz1
     obtain⟨g1,cap1,hv1,hob1,hb1⟩:=hz1.open_ (by simp)
     have HB1:=zh hb1
     have hg1:=hob1.at_
     have hlen1:(48 :: (k:Int) :: List.replicate k 0).length=k+2:=by simp
     rw[hlen1]at hv1
     subst hv1
     have hcp1:k+2<=cap1:=by have:=hob1.cap1;rw[hlen1]at this;exact this
     have HY1:Hid (Byt w1 (.slice (some ⟨g1,0,none⟩) (k+2) cap1) (48 :: (k:Int) :: List.replicate k 0)):=by
      have h:=hob1.byt (two_range k (by omega))
      rw[hlen1]at h
      exact h
     have hg1b:g1 < w1.heap.size:=cell_lt (hob1.cell 0 (by simp)).1
     obtain⟨hc3,hf3⟩:=hob1.cell 3 (by simp;omega)
     obtain⟨hc4,hf4⟩:=hob1.cell 4 (by simp;omega)
     have HB2:Hid (Below wr.heap.size wr ((w1.setCell ⟨g1,3,none⟩ (.int .u8 1)).setCell ⟨g1,4,none⟩ (.int .u8 97))):=((uh HB1).setCell hg1 _).setCell hg1 _
     have HYc:Hid (Byt ((w1.setCell ⟨g1,3,none⟩ (.int .u8 1)).setCell ⟨g1,4,none⟩ (.int .u8 97)) (.slice (some ⟨g1,0,none⟩) 2 cap1) [48,(k:Int)]):=byt_set (by omega) (uh HY1)
     have hsz1:((w1.setCell ⟨g1,3,none⟩ (.int .u8 1)).setCell ⟨g1,4,none⟩ (.int .u8 97)).heap.size=w1.heap.size:=by simp
     clear hb1 hob1 hz1 HAP1 HY1
     have hsl:slim ((k:Int)+2)=(k:Int)+2:=by unfold slim;rw[if_neg (by omega),if_neg (by omega)]
     have hsl2:slim ((k:Int)+2 - 1)=(k:Int)+1:=by unfold slim;rw[if_neg (by omega),if_neg (by omega)];omega
     have HN1:=zh (snew_any ((k:Int)+2) ((w1.setCell ⟨g1,3,none⟩ (.int .u8 1)).setCell ⟨g1,4,none⟩ (.int .u8 97)))
     rw[hsl]at HN1
     go_wp2_with fail
     refine (uh HN1).mono ?_
     rintro e w3 ⟨rfl,hw3⟩
     have HS3:Hid (Str w3 ((w1.setCell ⟨g1,3,none⟩ (.int .u8 1)).setCell ⟨g1,4,none⟩ (.int .u8 97)).heap.size ((k:Int)+2) 0 (.slice none 0 0) []):=by rw[hw3];exact str_new _ _
     have HBd3:Hid (Below ((w1.setCell ⟨g1,3,none⟩ (.int .u8 1)).setCell ⟨g1,4,none⟩ (.int .u8 97)).heap.size ((w1.setCell ⟨g1,3,none⟩ (.int .u8 1)).setCell ⟨g1,4,none⟩ (.int .u8 97)) w3):=by rw[hw3];exact bal _ _
     have hs3:w3.heap.size=((w1.setCell ⟨g1,3,none⟩ (.int .u8 1)).setCell ⟨g1,4,none⟩ (.int .u8 97)).heap.size+1:=by rw[hw3];simp
     clear hw3 HN1 hsl
     have HN2:=zh (snew_any ((k:Int)+2 - 1) w3)
     rw[hsl2]at HN2
     go_wp2_with fail
     refine (uh HN2).mono ?_
     rintro e w4 ⟨rfl,hw4⟩
     have HT4:Hid (Str w4 w3.heap.size ((k:Int)+1) 0 (.slice none 0 0) []):=by rw[hw4];exact str_new _ _
     have HBd4:Hid (Below w3.heap.size w3 w4):=by rw[hw4];exact bal _ _
     have hs4:w4.heap.size=w3.heap.size+1:=by rw[hw4];simp
     clear hw4 HN2 hsl2
     have HS4:=zh ((uh HS3).below (uh HBd4))
     have HB24:Hid (Below ((w1.setCell ⟨g1,3,none⟩ (.int .u8 1)).setCell ⟨g1,4,none⟩ (.int .u8 97)).heap.size ((w1.setCell ⟨g1,3,none⟩ (.int .u8 1)).setCell ⟨g1,4,none⟩ (.int .u8 97)) w4):=(uh HBd3).trans ((uh HBd4).mono (by omega))
     have HB4:Hid (Below wr.heap.size wr w4):=(uh HB2).trans ((uh HB24).mono (uh HB2).size)
     have HG4:=zh ((uh HGr).below (uh HB4) (uh HGr).pos)
     clear HS3 HBd3 HBd4
     have HY4:=zh ((uh HYc).below (uh HB24))
     rw[hsz1]at hs3
     rw[hs3]at HT4
     go_wp2_with fail
     have hsr:=(uh HB2).size
     have HYt:Hid (Byt w4 (.slice (some ⟨g1,0,none⟩) 2 cap1) [48,(k:Int)]):=by
      have h:=(uh HY4).take 2 (by omega)
      skip
      exact h
     refine (sfeed_ok (w1.heap.size+1) ((k:Int)+1) (.slice none 0 0) [] _ [48,(k:Int)] _ (uh HG4) (uh HT4) (uh HYt) (by omega) (by simp)).mono ?_
     rintro e w6 ⟨v6,E6,qs6,Ps6,n6,m6,hv6,rfl,-,hrun6,-,-,hres6,-,hfb6⟩
     rw[List.nil_append]at hrun6
     obtain⟨rfl,rfl,rfl⟩:=srun_stop hrun6 (lim_facts k (by omega) (by omega)) (by decide)
     obtain⟨x6,rfl,her6,hst6⟩:∃ x,E6=.iface 118 x/\Er w6 1 (.iface 118 x) 2/\Str w6 (w1.heap.size+1) ((k:Int)+1) 2 hv6 []:=by
      rcases hres6 with⟨h1,_⟩ | ⟨_,⟨x,rfl⟩,h2,h3⟩
      ·exact absurd h1 (by decide)
      ·exact⟨x,rfl,h2.er,h3⟩
     obtain⟨aoh,caph,rfl,-⟩:=own0 hst6.row
     have HB6:Hid (Below wr.heap.size wr w6):=hfb6.bel (uh HB4) (uh HB4).size (by omega) (fun g e=>by cases e)
     have hs6:=(uh HB6).size
     have HE6:=zh her6
     have HS6:=zh hst6
     clear hrun6 hres6 hfb6 her6 hst6 HYt HT4 HY4 HB4 HG4
     have HA7:Hid (Below w6.heap.size w6 (w6.alloc (.cells #[.int .u8 192,.int .u8 0] 5))):=bal _ _
     go_wp2_with fail
     refine (sfeed_bad (w1.heap.size+1) ((k:Int)+1) 2 (.slice aoh 0 caph) [] _ [192,0] _ ((uh HS6).below (uh HA7)) (ping_byt w6) (by decide)).mono ?_
     rintro e w8 ⟨x8,rfl,her8b,hb8⟩;have her8:=zh (uh her8b).er;clear her8b
     have HB68:Hid (Below w6.heap.size w6 w8):=(uh HA7).trans (hb8.mono (uh HA7).size)
     have HB8:Hid (Below wr.heap.size wr w8):=(uh HB6).trans ((uh HB68).mono hs6)
     have HG8:=zh ((uh HGr).below (uh HB8) (uh HGr).pos)
     have HF8:=zh (Er.below (uh HB68) (uh HE6))
     have HE8:=zh her8
     have HS8:=zh ((uh HS6).below (uh HB68))
     clear hb8 her8 HA7 HB68 HB6 HS6 HE6
     go_wp2_with (first
      | (go_at_call 20;refine (num5 _ 2 _ (uh HG8) (.inr ⟨1,by decide,uh HF8⟩)).mono ?_;rintro e w9 ⟨rfl,hb9⟩;have HB9:Hid (Below wr.heap.size wr w9):=(uh HB8).trans (hb9.mono (uh HB8).size);have HG9:=zh ((uh HGr).below (uh HB9) (uh HGr).pos);have HE9:=zh (Er.below hb9 (uh HE8));have HS9:=zh ((uh HS8).below hb9);clear hb9 HB8 HG8 HE8 HS8 HF8)
      | (go_at_call 20;refine (num5 _ 2 _ (uh HG9) (.inr ⟨1,by decide,uh HE9⟩)).mono ?_;rintro e w10 ⟨rfl,hb10⟩;have HB10:Hid (Below wr.heap.size wr w10):=(uh HB9).trans (hb10.mono (uh HB9).size);have c10:=((uh HS9).below hb10).c1;clear hb10 HB9 HG9 HE9 HS9)
      | (go_at_call 22;refine (sheld_any (w1.heap.size+1) aoh 0 caph _ c10).mono ?_;rintro e w11 ⟨rfl,hw11⟩;obtain rfl:=hw11.symm;clear hw11))
     exact⟨⟨k+1,by omega,by congr 1 <;> omega,(uh HBW).trans ((uh HB10).mono (uh HBW).size)⟩,by simp[intOf];omega⟩
    ·by_cases hk1:1<=k
     ·have h60:((k:Int)+2) < 60:=by omega
      have HAP1:Hid (∃ v w',(Builtin.append_ #[30,3] 30 #[.slice (some ⟨wr.heap.size,0,none⟩) 2 2,.int .i64 (k:Int)]).run Tryz.prog (wr.alloc (.cells #[.int .u8 48,.int .u8 (k:Int)] 5))=.ok v w'/\Zrow wr (48 :: (k:Int) :: List.replicate k 0) v w'):=zeros_row [48,(k:Int)] k (by simp) (by simp;omega) wr (fun W'=>app0_two _ W')
      go_wp2_with (first | (at_builtin;refine wpList_append_run _ rfl _ _ 30 3 rfl _ _ rfl rfl (uh HAP1) ?_) | fail)
      intro v1 w1 hz1
      obtain⟨g1,cap1,hv1,hob1,hb1⟩:=hz1.open_ (by simp)
      have HB1:=zh hb1
      have hg1:=hob1.at_
      have hlen1:(48 :: (k:Int) :: List.replicate k 0).length=k+2:=by simp
      rw[hlen1]at hv1
      subst hv1
      have hcp1:k+2<=cap1:=by have:=hob1.cap1;rw[hlen1]at this;exact this
      have HY1:Hid (Byt w1 (.slice (some ⟨g1,0,none⟩) (k+2) cap1) (48 :: (k:Int) :: List.replicate k 0)):=by
       have h:=hob1.byt (two_range k (by omega))
       rw[hlen1]at h
       exact h
      have hg1b:g1 < w1.heap.size:=cell_lt (hob1.cell 0 (by simp)).1
      have HB2:=HB1
      clear hb1 hob1 hz1 HAP1
      have hsl:slim ((k:Int)+2)=(k:Int)+2:=by unfold slim;rw[if_neg (by omega),if_neg (by omega)]
      have hsl2:slim ((k:Int)+2 - 1)=(k:Int)+1:=by unfold slim;rw[if_neg (by omega),if_neg (by omega)];omega
      have HN1:=zh (snew_any ((k:Int)+2) w1)
      rw[hsl]at HN1
      go_wp2_with fail
      refine (uh HN1).mono ?_
      rintro e w3 ⟨rfl,hw3⟩
      have HS3:Hid (Str w3 w1.heap.size ((k:Int)+2) 0 (.slice none 0 0) []):=by rw[hw3];exact str_new _ _
      have HBd3:Hid (Below w1.heap.size w1 w3):=by rw[hw3];exact bal _ _
      have hs3:w3.heap.size=w1.heap.size+1:=by rw[hw3];simp
      clear hw3 HN1 hsl
      have HN2:=zh (snew_any ((k:Int)+2 - 1) w3)
      rw[hsl2]at HN2
      go_wp2_with fail
      refine (uh HN2).mono ?_
      rintro e w4 ⟨rfl,hw4⟩
      have HT4:Hid (Str w4 w3.heap.size ((k:Int)+1) 0 (.slice none 0 0) []):=by rw[hw4];exact str_new _ _
      have HBd4:Hid (Below w3.heap.size w3 w4):=by rw[hw4];exact bal _ _
      have hs4:w4.heap.size=w3.heap.size+1:=by rw[hw4];simp
      clear hw4 HN2 hsl2
      have HS4:=zh ((uh HS3).below (uh HBd4))
      have HB24:Hid (Below w1.heap.size w1 w4):=(uh HBd3).trans ((uh HBd4).mono (by omega))
      have HB4:Hid (Below wr.heap.size wr w4):=(uh HB2).trans ((uh HB24).mono (uh HB2).size)
      have HG4:=zh ((uh HGr).below (uh HB4) (uh HGr).pos)
      clear HS3 HBd3 HBd4
      have HY4:=zh ((uh HY1).below (uh HB24))
      rw[hs3]at HT4
      go_wp2_with fail
      have hsr:=(uh HB2).size
      have HYt:Hid (Byt w4 (.slice (some ⟨g1,0,none⟩) 2 cap1) [48,(k:Int)]):=by
       have h:=(uh HY4).take 2 (by omega)
       skip
       exact h
      refine (sfeed_ok (w1.heap.size+1) ((k:Int)+1) (.slice none 0 0) [] _ [48,(k:Int)] _ (uh HG4) (uh HT4) (uh HYt) (by omega) (by simp)).mono ?_
      rintro e w6 ⟨v6,E6,qs6,Ps6,n6,m6,hv6,rfl,-,hrun6,-,-,hres6,-,hfb6⟩
      rw[List.nil_append]at hrun6
      obtain⟨rfl,rfl,rfl⟩:=srun_stop hrun6 (lim_facts k (by omega) (by omega)) (by decide)
      obtain⟨x6,rfl,her6,hst6⟩:∃ x,E6=.iface 118 x/\Er w6 1 (.iface 118 x) 2/\Str w6 (w1.heap.size+1) ((k:Int)+1) 2 hv6 []:=by
       rcases hres6 with⟨h1,_⟩ | ⟨_,⟨x,rfl⟩,h2,h3⟩
       ·exact absurd h1 (by decide)
       ·exact⟨x,rfl,h2.er,h3⟩
      obtain⟨aoh,caph,rfl,-⟩:=own0 hst6.row
      have HB6:Hid (Below wr.heap.size wr w6):=hfb6.bel (uh HB4) (uh HB4).size (by omega) (fun g e=>by cases e)
      have hs6:=(uh HB6).size
      have HE6:=zh her6
      have HS6:=zh hst6
      clear hrun6 hres6 hfb6 her6 hst6 HYt HT4 HY4 HB4 HG4
      have HA7:Hid (Below w6.heap.size w6 (w6.alloc (.cells #[.int .u8 192,.int .u8 0] 5))):=bal _ _
      go_wp2_with fail
      refine (sfeed_bad (w1.heap.size+1) ((k:Int)+1) 2 (.slice aoh 0 caph) [] _ [192,0] _ ((uh HS6).below (uh HA7)) (ping_byt w6) (by decide)).mono ?_
      rintro e w8 ⟨x8,rfl,her8b,hb8⟩;have her8:=zh (uh her8b).er;clear her8b
      have HB68:Hid (Below w6.heap.size w6 w8):=(uh HA7).trans (hb8.mono (uh HA7).size)
      have HB8:Hid (Below wr.heap.size wr w8):=(uh HB6).trans ((uh HB68).mono hs6)
      have HG8:=zh ((uh HGr).below (uh HB8) (uh HGr).pos)
      have HF8:=zh (Er.below (uh HB68) (uh HE6))
      have HE8:=zh her8
      have HS8:=zh ((uh HS6).below (uh HB68))
      clear hb8 her8 HA7 HB68 HB6 HS6 HE6
      go_wp2_with (first
       | (go_at_call 20;refine (num5 _ 2 _ (uh HG8) (.inr ⟨1,by decide,uh HF8⟩)).mono ?_;rintro e w9 ⟨rfl,hb9⟩;have HB9:Hid (Below wr.heap.size wr w9):=(uh HB8).trans (hb9.mono (uh HB8).size);have HG9:=zh ((uh HGr).below (uh HB9) (uh HGr).pos);have HE9:=zh (Er.below hb9 (uh HE8));have HS9:=zh ((uh HS8).below hb9);clear hb9 HB8 HG8 HE8 HS8 HF8)
       | (go_at_call 20;refine (num5 _ 2 _ (uh HG9) (.inr ⟨1,by decide,uh HE9⟩)).mono ?_;rintro e w10 ⟨rfl,hb10⟩;have HB10:Hid (Below wr.heap.size wr w10):=(uh HB9).trans (hb10.mono (uh HB9).size);have c10:=((uh HS9).below hb10).c1;clear hb10 HB9 HG9 HE9 HS9)
       | (go_at_call 22;refine (sheld_any (w1.heap.size+1) aoh 0 caph _ c10).mono ?_;rintro e w11 ⟨rfl,hw11⟩;obtain rfl:=hw11.symm;clear hw11))
      exact⟨⟨k+1,by omega,by congr 1 <;> omega,(uh HBW).trans ((uh HB10).mono (uh HBW).size)⟩,by simp[intOf];omega⟩
     ·have h60:((k:Int)+2) < 60:=by omega
      have HAP1:Hid (∃ v w',(Builtin.append_ #[30,3] 30 #[.slice (some ⟨wr.heap.size,0,none⟩) 2 2,.int .i64 (k:Int)]).run Tryz.prog (wr.alloc (.cells #[.int .u8 48,.int .u8 (k:Int)] 5))=.ok v w'/\Zrow wr (48 :: (k:Int) :: List.replicate k 0) v w'):=zeros_row [48,(k:Int)] k (by simp) (by simp;omega) wr (fun W'=>app0_two _ W')
      go_wp2_with (first | (at_builtin;refine wpList_append_run _ rfl _ _ 30 3 rfl _ _ rfl rfl (uh HAP1) ?_) | fail)
      intro v1 w1 hz1
      obtain⟨g1,cap1,hv1,hob1,hb1⟩:=hz1.open_ (by simp)
      have HB1:=zh hb1
      have hg1:=hob1.at_
      have hlen1:(48 :: (k:Int) :: List.replicate k 0).length=k+2:=by simp
      rw[hlen1]at hv1
      subst hv1
      have hcp1:k+2<=cap1:=by have:=hob1.cap1;rw[hlen1]at this;exact this
      have HY1:Hid (Byt w1 (.slice (some ⟨g1,0,none⟩) (k+2) cap1) (48 :: (k:Int) :: List.replicate k 0)):=by
       have h:=hob1.byt (two_range k (by omega))
       rw[hlen1]at h
       exact h
      have hg1b:g1 < w1.heap.size:=cell_lt (hob1.cell 0 (by simp)).1
      have HB2:=HB1
      clear hb1 hob1 hz1 HAP1 HY1
      have HN1:=zh (snew_any ((k:Int)+2) w1)
      go_wp2_with fail
      refine (uh HN1).mono ?_
      rintro e w3 ⟨rfl,hw3⟩
      have HBd3:Hid (Below wr.heap.size wr w3):=by rw[hw3];exact (uh HB1).alloc (uh HB1).size _
      clear hw3 HN1
      have HN2:=zh (snew_any ((k:Int)+2 - 1) w3)
      go_wp2_with fail
      refine (uh HN2).mono ?_
      rintro e w4 ⟨rfl,hw4⟩
      have HB10:Hid (Below wr.heap.size wr w4):=by rw[hw4];exact (uh HBd3).alloc (uh HBd3).size _
      clear hw4 HN2
      go_wp2_with fail
      exact⟨⟨k+1,by omega,by congr 1 <;> omega,(uh HBW).trans ((uh HB10).mono (uh HBW).size)⟩,by simp[intOf];omega⟩
  ·have h60:¬ ((k:Int)+2) < 60:=by omega
   have hcL:wr.cell? ⟨w.heap.size,1,none⟩=some (.slice ao len cap):=(World.cell?_of_block (a:=⟨w.heap.size,1,none⟩) ((uh HBW).block _ hsz0)).trans (uh HCL)
   go_wp2_with (go_at_call 24;refine (wakes5 _ (uh HGr)).mono ?_;rintro e w9 ⟨rfl,hb9⟩)
   go_ret
   exact⟨rfl,(uh HW0).trans (((uh HBW).mono (uh HW0).size).trans (hb9.mono (by have:=(uh HBW).size;omega)))⟩
end Go.Proofs.YtpheelbbpiieiaaGreatDoor.K
