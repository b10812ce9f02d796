/- Proved here: helpers, one text behind the other. -/
import Derived.Test.YtdkmmmjjdlnnoaaGreatDoorZC26
import Derived.Test.YtdkmmmjjdlnnoaaGreatDoorZC27
import Derived.Test.YtdkmmmjjdlnnoaaGreatDoorZK9R2
import Derived.Test.YtdkmmmjjdlnnoaaGreatDoorZC29
import Derived.Test.YtdkmmmjjdlnnoaaGreatDoorZC32
import Derived.Deep.Cut
import Derived.Deep.CutBlock
import Derived.Test.YtdkmmmjjdlnnoaaGreatDoorZC33
import Derived.Test.YtdkmmmjjdlnnoaaGreatDoorZC38
import Derived.Test.YtdkmmmjjdlnnoaaGreatDoorZC6
set_option maxHeartbeats 20000000
namespace Go.Proofs.YtdkmmmjjdlnnoaaGreatDoor.K
open Go.RowKit
set_option maxRecDepth 100000
theorem pk_codes {w0 w:World} {W:Nat} {p:Pkv} (h:WQ w0 w W p (some []) 0) (hf:Fit p) (l:List Pr) (hP:Prp w0 p.props.val l) (hmx:l.length<=4398046511104) (hsm:Go.Proofs.YtdkmmmjjdlnnoaaGreatDoor.Small l) (ss:List Int) (hS:Nms w0 p.codes.val ss) (hz:∀ k,k < ss.length->-9223372036854775808<=ss.getD k 0/\ss.getD k 0<=9223372036854775807) (c:Nat) (hc:70001<=c) (hm:5000002+ss.length * c<=4611686018427300000) (hk:p.kind=9\/p.kind=11) :
  Calls Tryz.prog 36 #[.pointer (some ⟨W,0,none⟩)] w (GPost w0 W p.no_id.no_props.no_codes ((((((some []).bind (sAdd (in16 p.id && p.id != 0) (b2 p.id))).bind (sAdd (okP p.kind l) (pbs l))).bind (sMust (mc ss.length))).bind (sEach sCode ss)).bind (sMust (emp (p.no_id.no_props.no_codes)))) (5000002+ss.length * c)):=by
 have hkc:=h.pk.kind
 have HP:=zh hP
 have HSM:=zh hsm
 clear hP hsm
 have HS:=zh hS
 have HZ:=zh hz
 clear hS hz
 have HQ:=zh h
 have HKK:=zh hk
 rcases hk with hk | hk <;> rw[hk]at hkc <;> clear hk h
 all_goals (
  go_enter Tryz.func36,Tryz.ntmps36
  go_wp2_with fail
  refine (take_id_q (uh HQ) p.id rfl).mono ?_
  rintro e w1 ⟨rfl,hq1⟩
  have HQ1:=zh hq1
  clear hq1 HQ hkc
  go_wp2_with fail
  refine (id_q (uh HQ1) p.id hf.nums.2.1 (by omega)).mono ?_
  rintro e w2 ⟨rfl,hq2,-⟩
  have HQ2:=zh hq2
  have HG2:=zh (Ge2.of_add (some []) (in16 p.id && p.id != 0) (show 2<=(b2 p.id).length from Nat.le_refl _))
  clear hq2 HQ1
  go_wp2_with fail
  have HQd:=zh ((uh HQ2).below (below_drewN (Below.refl _ _) 1))
  clear HQ2
  refine wp_region_noPanic ?_
  refine wp_region_held_drew (S:=fun w'=>w'.cell? ⟨W,0,none⟩=some (.int .i64 p.kind)) (by kernel_rfl) (uh HQd).pk.kind (fun hHeld=>?_)
  refine rtk 0 (h:=?_)
  refine rtk 1 (h:=?_)
  refine rtk 2 (h:=?_)
  refine rtk 3 (h:=?_)
  refine rtk 5 (h:=?_)
  refine rtk 6 (h:=?_)
  refine rtk 7 (h:=?_)
  refine rtk 8 (h:=?_)
  refine rcl 4 (h:=fun K hK=>?_)
  go_simp
  refine (take_props_q (uh HQd) p.props rfl).mono ?_
  rintro e wp1 ⟨rfl,hqp⟩
  have HQp:=zh hqp
  clear hqp HQd
  refine hK.out _ _ (uh HQp).pk.kind (fun hHeld=>?_)
  clear hK K
  refine rcl 9 (h:=fun K hK=>?_)
  go_simp
  refine (props_q (uh HQp) p.props.val l p.kind ((uh HP).below (uh HQp).bel) hmx (uh HSM) (uh HG2).one (by omega)).mono ?_
  rintro e wp2 ⟨rfl,hqp,-⟩
  have HQ3:=zh hqp
  clear hqp HQp
  refine hK.out _ _ (uh HQ3).pk.kind (fun hHeld=>?_)
  clear hK K
  refine wpAnyH_done (by kernel_rfl) ?_ _
  refine NoPanic.normal ?_
  have HG3:=zh ((uh HG2).add (okP p.kind l) (pbs l))
  clear HG2
  go_wp2_with fail
  refine (wl_codes (uh HQ3) (show p.kind≠8/\p.kind≠10 from by have:=uh HKK;omega) ss (uh HS) (uh HZ) (uh HG3) c hc (by omega)).mono ?_
  rintro e w5 ⟨rfl,hq5⟩
  have HF:=zh (hq5.wf.mono (show _<=5000002+ss.length * c from by omega))
  clear hq5 HQ3 HG3
  go_upto_region 25 with fail
  iterate 13 go_step
  refine wpList_load_mid rfl 31 _ rfl W 0 rfl (p.no_id.no_props.no_codes).cells _ (uh HF).pk.range Tryz.underlying31 rfl packet_size ?_
  simp only[Act.put,List.setIfInBounds_toArray,List.set_cons_zero,List.set_cons_succ]
  go_wp2_with fail
  refine (empty_any (p.no_id.no_props.no_codes) hf.no_id.no_props.no_codes _).mono ?_
  rintro e x1 ⟨rfl,hx1⟩
  have HFa:=zh ((uh HF).below hx1)
  clear hx1 HF
  go_wp2_with fail
  refine (must_f (uh HFa) (emp (p.no_id.no_props.no_codes))).mono ?_
  rintro e x2 ⟨rfl,hx2⟩
  have HFb:=zh hx2
  clear hx2 HFa
  go_wp2
  go_end0
  exact⟨rfl,uh HFb⟩)
theorem gid_any (n:Int) (w:World):Calls Tryz.prog 77 #[.int .i64 n] w fun e w'=>e=.returned (.bool (idO n))/\w'=w:=by
 unfold idO
 by_cases h:1<=n
 ·rw[decide_eq_true h]
  go_enter Tryz.func77,Tryz.ntmps77
  go_wp2
  go_ret
  exact⟨rfl,rfl⟩
 ·rw[decide_eq_false h]
  go_enter Tryz.func77,Tryz.ntmps77
  go_wp2
  go_ret
  exact⟨rfl,rfl⟩
theorem gcode_any (n:Int) (w:World):Calls Tryz.prog 76 #[.int .i64 n] w fun e w'=>e=.returned (.bool (codeO n))/\w'=w:=by
 unfold codeO
 by_cases h:0<=n
 ·rw[decide_eq_true h]
  go_enter Tryz.func76,Tryz.ntmps76
  go_wp2
  go_ret
  exact⟨rfl,rfl⟩
 ·rw[decide_eq_false h]
  go_enter Tryz.func76,Tryz.ntmps76
  go_wp2
  go_ret
  exact⟨rfl,rfl⟩
theorem gsome_any (n:Int) (w:World):Calls Tryz.prog 78 #[.int .i64 n] w fun e w'=>e=.returned (.bool (mc n))/\w'=w:=by
 unfold mc
 by_cases h:1<=n
 ·rw[decide_eq_true h]
  go_enter Tryz.func78,Tryz.ntmps78
  go_wp2
  go_ret
  exact⟨rfl,rfl⟩
 ·rw[decide_eq_false h]
  go_enter Tryz.func78,Tryz.ntmps78
  go_wp2
  go_ret
  exact⟨rfl,rfl⟩
def Pkv.wi_id (p:Pkv) (x:Int):Pkv:={ p with id:=x }
theorem MS.wi_id {w0 w:World} {B X:Nat} {q x:Pkv} (h:MS w0 w B X q x) (y:Int):MS w0 (w.setCell ⟨X,5,none⟩ (.int .i64 y)) B X q (x.wi_id y) :=
 h.set (x.wi_id y) 5 (by omega) (fun j hj=>by unfold Pkv.wi_id Pkv.cell;split <;> first | rfl | exact absurd rfl hj)
theorem gtwo_any (n:Int) (w:World):Calls Tryz.prog 85 #[.int .i64 n] w fun e w'=>∃ v,e=.returned v/\Hid (Rwb w' w.heap.size v (b2 n))/\Below w.heap.size w w':=by
 have HR:Hid (Rwb (w.alloc (.cells #[.int .u8 (n / 256 % 256),.int .u8 (n % 256)] 5)) w.heap.size (.slice (some ⟨w.heap.size,0,none⟩) 2 2) (b2 n)):=rwb_new w (b2 n) (by simp) (by simp) (rng2 (by omega) (by omega))
 have HB:Hid (Below w.heap.size w (w.alloc (.cells #[.int .u8 (n / 256 % 256),.int .u8 (n % 256)] 5))):=bal _ _
 go_enter Tryz.func85,Tryz.ntmps85
 go_wp2
 go_ret
 exact⟨_,rfl,HR,uh HB⟩
theorem Pk.grow2 {w w':World} {B:Nat} {q:Pkv} {row:Option Nat} (h:Pk w B q) (hg:w.grownBy w' row) (hr:some B≠row):Pk w' B q:=fun j hj=>by
 have hb:=hg.block B (cell_lt h.kind) hr
 exact⟨(World.cell?_of_block hb).trans (h j hj).1,(World.frozen?_of_block hb).trans (h j hj).2⟩
theorem below_grown {w0 w w':World} {v:Value} {l:List Int} (h:Below w0.heap.size w0 w) (hr:Rwb w (w0.heap.size+1) v l) (hg:w.grownBy w' v.ownBlock):Below w0.heap.size w0 w':=h.grown hg h.size (fun g e=>by have:=owns_blk hr.1 g e;omega)
def sbz:Sb:=⟨⟨#[]⟩,0,false,false,0⟩
theorem sub_size:(Tryz.prog.info? 93).map (·.size)=some 5:=by kernel_rfl
theorem gsub_alloc (ρ:Operand->Value) (dst:Option Tmp) (ty:TypeId) (pos:String) (after:Array Edge) (w:World) :
  (execOp ρ ⟨dst,.alloc 93,ty,pos,after,none⟩).run Tryz.prog w=.ok (.value (.pointer (some ⟨w.heap.size,0,none⟩))) (w.alloc (.cells (sbc sbz) 93)):=by
 kernel_rfl
theorem gsub_store (a:Act) (dst:Option Tmp) (x y:Operand) (ty:TypeId) (pos:String) (after:Array Edge) (s:Sb) (w:World) (hx:a.eval x=.pointer (some ⟨w.heap.size,0,none⟩)) (hy:a.eval y=s.val) :
  (execOp a.eval ⟨dst,.store 93 x y,ty,pos,after,none⟩).run Tryz.prog (w.alloc (.cells (sbc sbz) 93))=.ok .skip (w.alloc (.cells (sbc s) 93)):=by
 show Sem.run Tryz.prog (do Instr.storeAt 93 (a.eval x) (a.eval y);pure Next.skip) _=_
 rw[hx,hy,show s.val=.agg (sbc s) from rfl]
 simp only[Sem.run_bind]
 rw[run_storeAt_new w 93 (sbc sbz) (sbc s) (by rw[sub_size];rfl) rfl (by simp[sbc,Value.oneCell'])]
 rfl
theorem sbx_new (w:World) (s:Sb):SBx (w.alloc (.cells (sbc s) 93)) w.heap.size s:=.of (heap_alloc_new _ _)
theorem lst_le {r c k:Nat} (h:r<=c+k * 70000) (hk:k<=16):r<=c+1120000:=by omega
theorem gopt_wrap {s:Sb} (h1:0<=s.qos) (h2:s.qos<=3) (h3:0<=s.handling) (h4:s.handling<=3):IntKind.u8.wrap (IntKind.i64.wrap (IntKind.i64.wrap (IntKind.i64.wrap (s.qos+fv s.nolocal 4)+fv s.aspub 8)+IntKind.i64.wrap (16 * s.handling)))=gopt s % 256:=by
 have r1:=fv_range s.nolocal 4 (by omega)
 have r2:=fv_range s.aspub 8 (by omega)
 unfold gopt
 generalize fv s.nolocal 4=x at r1 |-
 generalize fv s.aspub 8=y at r2 |-
 simp[IntKind.wrap,IntKind.bits,IntKind.signed]
 omega
theorem flat_snoc {α:Type} (f:α->List Int) (l:List α) (d:α) (k:Nat) (hk:k < l.length):(l.take (k+1)).flatMap f=(l.take k).flatMap f++f (l.getD k d):=by
 rw[List.take_add_one,List.getElem?_eq_getElem hk,List.flatMap_append,List.getD_eq_getElem?_getD,List.getElem?_eq_getElem hk]
 simp
theorem box_off {w:World} {B g:Nat} {v:Value} {l:List Int} {c:Array Value} (h:Rwb w B v l) (hb:w.heap[g]?=some (.cells c 93)):v.ownBlock≠some g:=fun e=>by
 rcases h.1.2 with⟨rfl,_⟩ | ⟨g',cap,cur,rfl,_,hg,_⟩
 ·cases e
 ·cases e
  rw[hg]at hb
  cases hb
theorem gb_lists (q:Pkv) (l:List Pr) (w:World) (hP:Prp w q.props.val l) (hok:okP q.kind l=true) (ss:List Sb) (fs:List ByteArray) (cs:List Int) (hS:Sbs w q.subs.val ss) (hF:Txs w q.filters.val fs) (hC:Nms w q.codes.val cs) (ns:ss.length<=16) (nf:fs.length<=16) (nc:cs.length<=16) (zs:∀ k,k < ss.length->(ss.getD k sb0).filter.size<=65535/\0<=(ss.getD k sb0).qos/\(ss.getD k sb0).qos<=3/\0<=(ss.getD k sb0).handling/\(ss.getD k sb0).handling<=3) (zf:∀ k,k < fs.length->(fs.getD k ⟨#[]⟩).size<=65535) (hk:q.kind=8\/q.kind=9\/q.kind=10\/q.kind=11):Calls Tryz.prog 40 #[q.val] w (GPut ((((b2 q.id++pbs l)++ss.flatMap gsub)++fs.flatMap tx)++cs.flatMap gcod) w):=by
 obtain⟨ao1,cap1,hv,⟨hlc1,hcm1⟩,hx⟩:=hS
 obtain⟨m1,hm1⟩:∃ m,m=ss.length:=⟨_,rfl⟩
 rw[<- hm1]at hv hlc1 ns
 have HV1:=zh hv
 have HS1:=zh hx
 have HN1:=zh hm1.symm
 clear hv hx hm1
 obtain⟨ao2,cap2,hv,⟨hlc2,hcm2⟩,hx⟩:=hF
 obtain⟨m2,hm2⟩:∃ m,m=fs.length:=⟨_,rfl⟩
 rw[<- hm2]at hv hlc2 nf
 have HV2:=zh hv
 have HS2:=zh hx
 have HN2:=zh hm2.symm
 clear hv hx hm2
 obtain⟨ao3,cap3,hv,⟨hlc3,hcm3⟩,hx⟩:=hC
 obtain⟨m3,hm3⟩:∃ m,m=cs.length:=⟨_,rfl⟩
 rw[<- hm3]at hv hlc3 nc
 have HV3:=zh hv
 have HS3:=zh hx
 have HN3:=zh hm3.symm
 clear hv hx hm3
 have HZS:=zh zs
 have HZF:=zh zf
 clear zs zf
 obtain⟨hok1,h32⟩:=chkP0 (of_decide_eq_true hok)
 have hple:=pbs_le (of_decide_eq_true hok)
 have HPN:=zh (pk_new w q)
 have HB0:Hid (Below w.heap.size w (w.alloc (.cells q.cells.toArray 31))):=bal _ _
 have HBY:Hid (∀ W,Below w.heap.size w W->Calls Tryz.prog 83 #[.slice q.props.ao l.length q.props.cap] W (PutP (pbs l) W)):=fun W hW=>by
  have k:=rbytes_any q.props.val l q.kind W (hP.below hW) (by omega) hok1
  rw[show q.props.val=.slice q.props.ao q.props.n q.props.cap from rfl,prp_n hP]at k
  exact k
 have HTL:Hid (∀ W,Below w.heap.size w W->Calls Tryz.prog 86 #[.agg q.cells.toArray] W (GPut (gtl q.code l) W)):=fun W hW=>gtail_any q l q.kind W (hP.below hW) hok
 have HQN:=zh (prp_n hP)
 have HKK:=zh hk
 clear hP hok hok1 hk
 go_enter Tryz.func40,Tryz.ntmps40
 go_upto_region 1 with fail
 change Code.wp _ _ _ _ (w.alloc (.cells q.cells.toArray 31))
 have hsz:(w.alloc (.cells q.cells.toArray 31)).heap.size=w.heap.size+1:=by simp
 generalize w.alloc (.cells q.cells.toArray 31)=wa at HPN HB0 hsz |-
 have b0:=(uh HPN).kind
 obtain⟨kd,hkd⟩:∃ k,k=q.kind:=⟨_,rfl⟩
 rw[<- hkd]at b0 HKK
 clear hkd
 -- cutA
 go_upto_block 0 with fail
 go_cut [] from 8 (fun wx=>wx=wa)
 case first =>
  rcases uh HKK with rfl | rfl | rfl | rfl
  all_goals (
   go_wp2_with fail
   go_meet
   case rel=>rfl)
 case rest =>
  obtain rfl:=hcut.symm
  clear hcut b0
  -- cutB
  have b7:=(uh HPN).props
  rw[show q.props.val=.slice q.props.ao q.props.n q.props.cap from rfl,uh HQN]at b7
  go_wp2_with fail
  have HS:Hid (∀ W,Below wa.heap.size wa W->W.cell? ⟨w.heap.size,5,none⟩=some (.int .i64 q.id)/\W.cell? ⟨w.heap.size,7,none⟩=some (.slice q.props.ao l.length q.props.cap)):=fun W hW=>⟨((uh HPN).below hW).id,(hW.cell (cell_lt b7)).trans b7⟩
  refine wp_region_noPanic ?_
  refine wp_region_held_drew (S:=(fun w'=>w'.cell? ⟨w.heap.size,5,none⟩=some (.int .i64 q.id)/\w'.cell? ⟨w.heap.size,7,none⟩=some (.slice q.props.ao l.length q.props.cap))) (by kernel_rfl) ((uh HS) _ (below_drewN (Below.refl _ _) 1)) (fun hHeld=>?_)
  have HBd:Hid (Below wa.heap.size wa wa.drew):=below_drewN (Below.refl _ _) 1
  have hszd:wa.drew.heap.size=w.heap.size+1:=hsz
  generalize wa.drew=wd at HBd hHeld hszd |-
  clear b7
  refine rtk 0 (h:=?_)
  refine rtk 1 (h:=?_)
  refine rtk 3 (h:=?_)
  refine rtk 4 (h:=?_)
  refine rcl 2 (h:=fun K hK=>?_)
  go_simp
  refine (gtwo_any q.id _).mono ?_
  rintro e w1 ⟨v1,rfl,hr1,hb1⟩
  have HB1:Hid (Below wa.heap.size wa w1):=bnx2 (uh HBd) hb1
  have HR1:Hid (Rwb w1 (w.heap.size+1) v1 (b2 q.id)):=(uh hr1).mono (by omega)
  clear hr1 hb1
  refine hK.out _ _ ((uh HS) _ (uh HB1)) (fun hHeld=>?_)
  clear hK K
  refine rcl 5 (h:=fun K hK=>?_)
  go_simp
  refine ((uh HBY) _ (bnx2 (uh HB0) (uh HB1))).mono ?_
  rintro e w2 ⟨v2,rfl,hy2,hb2⟩
  have HB2:Hid (Below wa.heap.size wa w2):=bnx2 (uh HB1) hb2
  have HR2:=zh ((uh HR1).below hb2)
  clear hb2
  refine hK.out _ _ ((uh HS) _ (uh HB2)) (fun hHeld=>?_)
  clear hK K
  refine rcl 6 (h:=fun K hK=>?_)
  refine step_append_byt rfl _ _ rfl (w.heap.size+1) v1 2 (b2 q.id) rfl (uh HR2).1 v2 (pbs l) rfl (uh hy2) (by omega) (by have:=(uh HB2).size;omega) ?_
  intro v3 w3 hown3 hg3
  have HB3:Hid (Below wa.heap.size wa w3):=(uh HB2).grown hg3 (uh HB2).size (fun g hg=>by have:=owns_blk (uh HR2).1 g hg;omega)
  have HR3:Hid (Rwb w3 (w.heap.size+1) v3 (b2 q.id++pbs l)):=⟨by rw[List.length_append];exact hown3,range_app (uh HR2).2 (uh hy2).range⟩
  clear hown3 hg3
  refine hK.out _ _ ((uh HS) _ (uh HB3)) (fun hHeld=>?_)
  clear hK K
  simp only[Act.put,List.setIfInBounds_toArray,List.set_cons_zero,List.set_cons_succ]
  refine rtk 7 (h:=?_)
  refine wpAnyH_done (by kernel_rfl) ?_ _
  refine NoPanic.normal ?_
  have HP3:=zh ((uh HPN).below (uh HB3))
  have HB3:=zh (bnx2 (uh HB0) (uh HB3))
  obtain⟨va3,vn3,vc3,rfl⟩:=(uh HR3).form
  clear hHeld HPN HS HBd HB1 HB2 HR1 HR2 hy2
  obtain⟨L0,HEL0⟩:∃ L:List Int,Hid (L=b2 q.id++pbs l):=⟨_,rfl⟩
  have nL0:L0.length<=5000002:=by rw[uh HEL0];rw[List.length_append];simp;omega
  rw[<- uh HEL0]at HR3
  -- cutC
  go_wp2_with fail
  go_loopw [3,4,5] (fun s3 s4 s5 wr=>∃ (k:Nat) (R:List Int),k<=m1/\s4=.int .i64 k/\R.length<=5000002+k * 70000/\Hid (R=L0++(ss.take k).flatMap gsub)/\Hid (Rwb wr (w.heap.size+1) s3 R)/\Hid (Below w.heap.size w wr)/\Hid (Pk wr w.heap.size q)) (fun _ s4 _ _=>m1 - (intOf s4).toNat)
  case atStart=>exact⟨0,L0,Nat.zero_le _,rfl,by omega,by show _=_;simp,HR3,HB3,HP3⟩
  case round =>
   clear HR3 HB3 HP3
   obtain⟨k,R,hk,rfl,hRl,HER,HR,HB,HP⟩:=hrel
   obtain⟨bva,bvn,bvc,rfl⟩:=(uh HR).form
   have p16:=(uh HP).subs
   rw[uh HV1]at p16
   by_cases hlt:k < m1
   ·have hkl:k < ss.length:=by rw[uh HN1];exact hlt
    have HSN:=zh (flat_snoc gsub ss sb0 k hkl)
    obtain⟨b,off,hao,hat⟩:∃ b off,ao1=some ⟨b,off,none⟩/\SbAt w b off ss:=by
     rcases uh HS1 with e | k
     ·rw[e]at hkl;simp at hkl
     ·exact k
    rw[hao]at p16
    have HAO:=zh hao
    have hat:=hat k hkl
    have hB:=(uh HB)
    obtain⟨d0,d1,d2,d3,d4⟩:=hat
    have hbl:b < w.heap.size:=cell_lt d0
    have e0:=(hB.cell hbl).trans d0
    have e1:=(hB.cell hbl).trans d1
    have e2:=(hB.cell hbl).trans d2
    have e3:=(hB.cell hbl).trans d3
    have e4:=(hB.cell hbl).trans d4
    have hzz:=(uh HZS) k hkl
    clear d0 d1 d2 d3 d4
    generalize ss.getD k sb0=sv at e0 e1 e2 e3 e4 hzz HSN
    go_upto_region 28 with fail
    iterate 16 go_step
    refine Go.Proofs.YtdkmmmjjdlnnoaaGreatDoor.wpList_value rfl (gsub_alloc _ _ _ _ _ _) ?_
    simp only[Act.put,List.setIfInBounds_toArray,List.set_cons_zero,List.set_cons_succ]
    refine Go.Proofs.YtdkmmmjjdlnnoaaGreatDoor.wpList_skip rfl (gsub_store _ _ _ _ _ _ _ sv wr rfl rfl) ?_
    simp only[Act.put]
    have HX:=zh (sbx_new wr sv)
    have hbx:Below wr.heap.size wr (wr.alloc (.cells (sbc sv) 93)):=bal _ _
    have HBx:=zh (bnx2 (uh HB) hbx)
    have HPx:=zh ((uh HP).below hbx)
    have HRx:=zh ((uh HR).below hbx)
    have hszr:=(uh HB).size
    generalize wr.alloc (.cells (sbc sv) 93)=wx at HX HBx HPx HRx |-
    obtain⟨G,hG⟩:∃ g,g=wr.heap.size:=⟨_,rfl⟩
    rw[<- hG]at HX |-
    clear hbx HB HP HR e0 e1 e2 e3 e4 p16 hG
    have f0:=(uh HX).c0
    obtain⟨hz0,hz1,hz2,hz3,hz4⟩:=hzz
    obtain⟨fl,hfl⟩:∃ s,s=sv.filter:=⟨_,rfl⟩
    rw[<- hfl]at f0 hz0
    have HFL:=zh hfl
    clear hfl
    have HB:=HBx
    have HP:=HPx
    have HR:=HRx
    clear HBx HPx HRx
    go_wp2_with fail
    refine (Go.Proofs.YtdkmmmjjdlnnoaaGreatDoor.bin_any fl _ hz0).mono ?_
    rintro e w1 ⟨v1,rfl,hown1,hb1⟩
    have hzz:=hz0
    have HX1:=zh ((uh HX).below hb1)
    clear f0 HX
    have HB1:=zh (bnx2 (uh HB) hb1)
    have HP1:=zh ((uh HP).below hb1)
    have HR1:=zh ((uh HR).below hb1)
    have HG1:=zh (tx_range fl hzz)
    have HY1:Hid (Byt w1 v1 (tx fl)):=Rwb.byt (B:=0) ⟨by rw[tx_length];exact owns_mono (uh hown1) (Nat.zero_le _),uh HG1⟩
    obtain⟨va1,vc1,rfl,-,-⟩:=(uh HY1).form
    clear hown1 hb1 HB HP HR
    obtain⟨M1,HEM1⟩:∃ L:List Int,Hid (L=tx fl):=⟨_,rfl⟩
    have nM1:M1.length<=65537:=by rw[uh HEM1];rw[tx_length];omega
    rw[<- uh HEM1]at HY1 HG1 |-
    go_wp2_with (first
     | (at_builtin;refine wpList_append_byt _ rfl _ _ rfl (w.heap.size+1) (.slice bva bvn bvc) R.length R rfl (uh HR1).1 (.slice va1 M1.length vc1) M1 rfl (uh HY1) (by first | omega | (simp;omega)) (cell_lt (uh HP1).kind) ?_)
     | go_in)
    intro v2 w2 hown hg
    have HR2:=zh ((uh HR1).more (uh HG1) (by first | exact hown | (rw[<- List.map_append];exact hown)))
    have HB2:Hid (Below w.heap.size w w2):=below_grown (uh HB1) (uh HR1) hg
    have HP2:=zh ((uh HP1).grow2 hg (uh HR1).off)
    have HX2:=zh ((uh HX1).grow hg (fun e=>box_off (uh HR1) (uh HX1).blk e.symm))
    obtain⟨va2,vn2,vc2,rfl⟩:=(uh HR2).form
    clear hown hg HR1 HB1 HP1 HX1 HY1
    obtain⟨R2,HER2⟩:∃ L:List Int,Hid (L=R++M1):=⟨_,rfl⟩
    have nR2:R2.length<=R.length+65537:=by rw[uh HER2];rw[List.length_append];omega
    rw[<- uh HER2]at HR2
    go_wp2_with fail
    have HS:Hid (∀ W,Below w2.heap.size w2 W->(fun w'=>w'.cell? ⟨G,1,none⟩=some (.int .i64 sv.qos)/\w'.cell? ⟨G,2,none⟩=some (.bool sv.nolocal)/\w'.cell? ⟨G,3,none⟩=some (.bool sv.aspub)/\w'.cell? ⟨G,4,none⟩=some (.int .i64 sv.handling)) W):=fun W hW=>by
     have k:=(uh HX2).below hW
     exact⟨k.c1,k.c2,k.c3,k.c4⟩
    refine wp_region_noPanic ?_
    have hbd:Below w2.heap.size w2 w2.drew:=below_drewN (Below.refl _ _) 1
    refine wp_region_held_drew (S:=(fun w'=>w'.cell? ⟨G,1,none⟩=some (.int .i64 sv.qos)/\w'.cell? ⟨G,2,none⟩=some (.bool sv.nolocal)/\w'.cell? ⟨G,3,none⟩=some (.bool sv.aspub)/\w'.cell? ⟨G,4,none⟩=some (.int .i64 sv.handling))) (by kernel_rfl) ((uh HS) _ hbd) (fun hHeld=>?_)
    have HBd:=zh hbd
    have HRd:=zh ((uh HR2).below hbd)
    have HPd:=zh ((uh HP2).below hbd)
    have HBB:=zh (bnx2 (uh HB2) hbd)
    generalize w2.drew=wd at HBd HRd HPd HBB hHeld |-
    clear hbd HR2 HP2 HB2
    have r1:=fv_range sv.nolocal 4 (by omega)
    have r2:=fv_range sv.aspub 8 (by omega)
    have hz:IntKind.u8.wrap (IntKind.i64.wrap (IntKind.i64.wrap (IntKind.i64.wrap (sv.qos+fv sv.nolocal 4)+fv sv.aspub 8)+IntKind.i64.wrap (16 * sv.handling)))=gopt sv % 256:=gopt_wrap hz1 hz2 hz3 hz4
    have HRNG:∀ j,0<=([gopt sv % 256]:List Int).getD j 0/\([gopt sv % 256]:List Int).getD j 0<=255:=rng1 (by omega)
    obtain⟨z,hzz2⟩:∃ z,z=gopt sv % 256:=⟨_,rfl⟩
    rw[<- hzz2]at hz HRNG
    have HZ2:=zh hzz2
    clear hzz2
    refine rtk 0 (h:=?_)
    refine rtk 1 (h:=?_)
    refine rtk 2 (h:=?_)
    refine rtk 3 (h:=?_)
    refine rtk 4 (h:=?_)
    refine rtk 7 (h:=?_)
    refine rtk 8 (h:=?_)
    refine rtk 11 (h:=?_)
    refine rtk 12 (h:=?_)
    refine rtk 13 (h:=?_)
    refine rcl 5 (h:=fun K hK=>?_)
    go_simp
    refine (gflag_any sv.nolocal 4 _).mono ?_
    rintro e w0 ⟨rfl,hw0⟩
    obtain rfl:=hw0.symm
    clear hw0
    refine hK.out _ _ hHeld (fun hHeld=>?_)
    clear hK K
    refine rtk 6 (h:=?_)
    refine rcl 9 (h:=fun K hK=>?_)
    go_simp
    refine (gflag_any sv.aspub 8 _).mono ?_
    rintro e w0 ⟨rfl,hw0⟩
    obtain rfl:=hw0.symm
    clear hw0
    refine hK.out _ _ hHeld (fun hHeld=>?_)
    clear hK K
    refine rtk 10 (h:=?_)
    refine rtk 14 (h:=?_)
    refine rtk 15 (h:=?_)
    refine rcl 16 (h:=fun K hK=>?_)
    go_simp
    have hba:Below wd.heap.size wd (wd.alloc (.cells #[.int .u8 z] 5)):=bal _ _
    have HRx:Hid (Rwb (wd.alloc (.cells #[.int .u8 z] 5)) wd.heap.size (.slice (some ⟨wd.heap.size,0,none⟩) 1 1) [z]):=rwb_new wd [z] (by simp) (by simp) HRNG
    have HB3:=zh (bnx2 (uh HBd) hba)
    have HR3:=zh ((uh HRd).below hba)
    have HP3:=zh ((uh HPd).below hba)
    have HBB3:=zh (bnx2 (uh HBB) hba)
    have HY3:=zh (uh HRx).byt
    refine hK.out _ _ ((uh HS) _ (uh HB3)) (fun hHeld=>?_)
    clear hK K hba HRx HBd HRd HPd HBB
    generalize wd.alloc (.cells #[.int .u8 z] 5)=w3 at HB3 HR3 HP3 HBB3 HY3 hHeld |-
    refine rcl 17 (h:=fun K hK=>?_)
    refine step_append_byt rfl _ _ rfl (w.heap.size+1) (.slice va2 vn2 vc2) R2.length R2 rfl (uh HR3).1 (.slice (some ⟨wd.heap.size,0,none⟩) 1 1) [z] rfl (uh HY3) (by simp;omega) (cell_lt (uh HP3).kind) ?_
    intro v4 w4 hown hg
    have HR4:=zh ((uh HR3).more HRNG (by first | exact hown | (rw[<- List.map_append];exact hown)))
    have HB4:Hid (Below w.heap.size w w4):=below_grown (uh HBB3) (uh HR3) hg
    have HP4:=zh ((uh HP3).grow2 hg (uh HR3).off)
    have hX3:SBx w3 G sv:=(uh HX2).below (uh HB3)
    have hX4:SBx w4 G sv:=hX3.grow hg (fun e=>box_off (uh HR3) hX3.blk e.symm)
    refine hK.out _ _ ⟨hX4.c1,hX4.c2,hX4.c3,hX4.c4⟩ (fun hHeld=>?_)
    obtain⟨va4,vn4,vc4,rfl⟩:=(uh HR4).form
    clear hK K hown hg HR3 HP3 HBB3 HY3 HB3 hX3 hX4 HX2 HS
    simp only[Act.put,List.setIfInBounds_toArray,List.set_cons_zero,List.set_cons_succ]
    refine rtk 18 (h:=?_)
    refine wpAnyH_done (by kernel_rfl) ?_ _
    refine NoPanic.normal ?_
    clear hHeld
    go_wp2
    go_roundw
    case rel=>exact⟨k+1,R2++[z],by omega,by go_num,by rw[List.length_append,Nat.succ_mul];simp;omega,by show _=_;rw[uh HER2,uh HEM1,uh HZ2,uh HER,uh HSN,uh HFL];simp[gsub],HR4,HB4,HP4⟩
    case measure=>simp[intOf];omega
   ·obtain rfl:m1=k:=by omega
    have HER2:Hid (R=L0++ss.flatMap gsub):=by show _=_;rw[uh HER,List.take_of_length_le (Nat.le_of_eq (uh HN1))]
    have hR2:R.length<=6120002:=lst_le hRl ns
    clear HER hRl
    obtain⟨L1,hL⟩:∃ L:List Int,L=R:=⟨_,rfl⟩
    subst hL
    have HEL1:=HER2
    have nL1:=hR2
    clear HER2 hR2
    go_wp2_with fail
    go_loopw [3,6] (fun s3 s6 wr=>∃ (k:Nat) (R:List Int),k<=m2/\s6=.int .i64 k/\R.length<=6120002+k * 70000/\Hid (R=L1++(fs.take k).flatMap tx)/\Hid (Rwb wr (w.heap.size+1) s3 R)/\Hid (Below w.heap.size w wr)/\Hid (Pk wr w.heap.size q)) (fun _ s6 _=>m2 - (intOf s6).toNat)
    case atStart=>exact⟨0,L1,Nat.zero_le _,rfl,by omega,by show _=_;simp,HR,HB,HP⟩
    case round =>
     clear HR HB HP
     obtain⟨k,R,hk,rfl,hRl,HER,HR,HB,HP⟩:=hrel
     obtain⟨bva,bvn,bvc,rfl⟩:=(uh HR).form
     have p17:=(uh HP).filters
     rw[uh HV2]at p17
     by_cases hlt:k < m2
     ·have hkl:k < fs.length:=by rw[uh HN2];exact hlt
      have HSN:=zh (flat_snoc tx fs ⟨#[]⟩ k hkl)
      obtain⟨b,off,hao,hat⟩:∃ b off,ao2=some ⟨b,off,none⟩/\∀ j,j < fs.length->w.cell? ⟨b,off+j,none⟩=some (.string (fs.getD j ⟨#[]⟩)):=by
       rcases uh HS2 with e | k
       ·rw[e]at hkl;simp at hkl
       ·exact k
      rw[hao]at p17
      have HAO:=zh hao
      have hat:=hat k hkl
      have hB:=(uh HB)
      have hbl:b < w.heap.size:=cell_lt hat
      have e0:=(hB.cell hbl).trans hat
      have hzz:=(uh HZF) k hkl
      generalize fs.getD k ⟨#[]⟩=fl at e0 hzz HSN hat
      clear hat
      go_wp2_with fail
      refine (Go.Proofs.YtdkmmmjjdlnnoaaGreatDoor.bin_any fl _ hzz).mono ?_
      rintro e w1 ⟨v1,rfl,hown1,hb1⟩
      have HB1:=zh (bnx2 (uh HB) hb1)
      have HP1:=zh ((uh HP).below hb1)
      have HR1:=zh ((uh HR).below hb1)
      have HG1:=zh (tx_range fl hzz)
      have HY1:Hid (Byt w1 v1 (tx fl)):=Rwb.byt (B:=0) ⟨by rw[tx_length];exact owns_mono (uh hown1) (Nat.zero_le _),uh HG1⟩
      obtain⟨va1,vc1,rfl,-,-⟩:=(uh HY1).form
      clear hown1 hb1 HB HP HR
      obtain⟨M1,HEM1⟩:∃ L:List Int,Hid (L=tx fl):=⟨_,rfl⟩
      have nM1:M1.length<=65537:=by rw[uh HEM1];rw[tx_length];omega
      rw[<- uh HEM1]at HY1 HG1 |-
      go_wp2_with (first
       | (at_builtin;refine wpList_append_byt _ rfl _ _ rfl (w.heap.size+1) (.slice bva bvn bvc) R.length R rfl (uh HR1).1 (.slice va1 M1.length vc1) M1 rfl (uh HY1) (by first | omega | (simp;omega)) (cell_lt (uh HP1).kind) ?_)
       | go_in)
      intro v2 w2 hown hg
      have HR2:=zh ((uh HR1).more (uh HG1) (by first | exact hown | (rw[<- List.map_append];exact hown)))
      have HB2:Hid (Below w.heap.size w w2):=below_grown (uh HB1) (uh HR1) hg
      have HP2:=zh ((uh HP1).grow2 hg (uh HR1).off)
      obtain⟨va2,vn2,vc2,rfl⟩:=(uh HR2).form
      clear hown hg HR1 HB1 HP1 p17 e0
      go_wp2
      go_roundw
      case rel=>exact⟨k+1,R++M1,by omega,by go_num,by rw[List.length_append,Nat.succ_mul];omega,by show _=_;rw[uh HEM1,uh HER,uh HSN,List.append_assoc],HR2,HB2,HP2⟩
      case measure=>simp[intOf];omega
     ·obtain rfl:m2=k:=by omega
      have HER2:Hid (R=L1++fs.flatMap tx):=by show _=_;rw[uh HER,List.take_of_length_le (Nat.le_of_eq (uh HN2))]
      have hR2:R.length<=7240002:=lst_le hRl nf
      clear HER hRl
      obtain⟨L2,hL⟩:∃ L:List Int,L=R:=⟨_,rfl⟩
      subst hL
      have HEL2:=HER2
      have nL2:=hR2
      clear HER2 hR2
      go_wp2_with fail
      go_loopw [3,7] (fun s3 s7 wr=>∃ (k:Nat) (R:List Int),k<=m3/\s7=.int .i64 k/\R.length<=7240002+k * 70000/\Hid (R=L2++(cs.take k).flatMap gcod)/\Hid (Rwb wr (w.heap.size+1) s3 R)/\Hid (Below w.heap.size w wr)/\Hid (Pk wr w.heap.size q)) (fun _ s7 _=>m3 - (intOf s7).toNat)
      case atStart=>exact⟨0,L2,Nat.zero_le _,rfl,by omega,by show _=_;simp,HR,HB,HP⟩
      case round =>
       clear HR HB HP
       obtain⟨k,R,hk,rfl,hRl,HER,HR,HB,HP⟩:=hrel
       obtain⟨bva,bvn,bvc,rfl⟩:=(uh HR).form
       have p18:=(uh HP).codes
       rw[uh HV3]at p18
       by_cases hlt:k < m3
       ·have hkl:k < cs.length:=by rw[uh HN3];exact hlt
        have HSN:=zh (flat_snoc gcod cs 0 k hkl)
        obtain⟨b,off,hao,hat⟩:∃ b off,ao3=some ⟨b,off,none⟩/\∀ j,j < cs.length->w.cell? ⟨b,off+j,none⟩=some (.int .i64 (cs.getD j 0)):=by
         rcases uh HS3 with e | k
         ·rw[e]at hkl;simp at hkl
         ·exact k
        rw[hao]at p18
        have HAO:=zh hao
        have hat:=hat k hkl
        have hB:=(uh HB)
        have hbl:b < w.heap.size:=cell_lt hat
        have e0:=(hB.cell hbl).trans hat
        generalize cs.getD k 0=cd at e0 HSN hat
        clear hat
        have hz:IntKind.u8.wrap cd=cd % 256:=by rfl
        have HG1:=zh (rng1 (x:=cd % 256) (by omega))
        have HBx:Hid (Below w.heap.size w (wr.alloc (.cells #[.int .u8 (cd % 256)] 5))):=(uh HB).alloc (uh HB).size _
        have HRx:Hid (Rwb (wr.alloc (.cells #[.int .u8 (cd % 256)] 5)) wr.heap.size (.slice (some ⟨wr.heap.size,0,none⟩) 1 1) [cd % 256]):=rwb_new wr [cd % 256] (by simp) (by simp) (uh HG1)
        have HPx:=zh ((uh HP).below ((Below.refl _ _).alloc (Nat.le_refl _) (.cells #[.int .u8 (cd % 256)] 5)))
        have HR1:=zh ((uh HR).below ((Below.refl _ _).alloc (Nat.le_refl _) (.cells #[.int .u8 (cd % 256)] 5)))
        have HY1:=zh (uh HRx).byt
        have hszr:=(uh HB).size
        go_wp2_with (first
         | (at_builtin;refine wpList_append_byt _ rfl _ _ rfl (w.heap.size+1) (.slice bva bvn bvc) R.length R rfl (uh HR1).1 (.slice (some ⟨wr.heap.size,0,none⟩) 1 1) [cd % 256] rfl (uh HY1) (by first | omega | (simp;omega)) (cell_lt (uh HPx).kind) ?_)
         | go_in)
        intro v2 w2 hown hg
        have HR2:=zh ((uh HR1).more (uh HG1) (by first | exact hown | (rw[<- List.map_append];exact hown)))
        have HB2:Hid (Below w.heap.size w w2):=below_grown (uh HBx) (uh HR1) hg
        have HP2:=zh ((uh HPx).grow2 hg (uh HR1).off)
        obtain⟨va2,vn2,vc2,rfl⟩:=(uh HR2).form
        clear hown hg HR1 HBx HPx HRx HY1 p18 e0
        go_wp2
        go_roundw
        case rel=>exact⟨k+1,R++[cd % 256],by omega,by go_num,by rw[List.length_append,Nat.succ_mul];simp;omega,by show _=_;rw[uh HER,uh HSN,List.append_assoc];rfl,HR2,HB2,HP2⟩
        case measure=>simp[intOf];omega
       ·obtain rfl:m3=k:=by omega
        have HER2:Hid (R=L2++cs.flatMap gcod):=by show _=_;rw[uh HER,List.take_of_length_le (Nat.le_of_eq (uh HN3))]
        have hR2:R.length<=8360002:=lst_le hRl nc
        clear HER hRl
        go_wp2
        go_ret
        exact⟨_,rfl,by rw[uh HER2,uh HEL2,uh HEL1,uh HEL0]at HR;exact (uh HR).mono (Nat.le_succ _),uh HB⟩
theorem only_codes (P:Pa):empA P.no_id.no_props.no_codes=true ↔ (⟨P.kind,false,0,false,⟨#[]⟩,P.id,⟨#[]⟩,P.props,⟨#[]⟩,false,0,[],[],[],0,false,[],[],P.codes⟩:Pa)=P:=by
 unfold empA
 rw[decide_eq_true_iff]
 obtain⟨p_kind,p_dup,p_qos,p_retain,p_topic,p_id,p_payload,p_props,p_client,p_clean,p_keep,p_wills,p_user,p_pass,p_code,p_session,p_subs,p_filters,p_codes⟩:=P
 constructor
 ·rintro⟨⟨e_dup,e_retain,e_clean,e_session⟩,⟨e_qos,e_id,e_keep,e_code⟩,⟨e_topic,e_payload,e_client⟩,e_props,e_wills,e_user,e_pass,e_subs,e_filters,e_codes⟩
  simp only[Pa.mk.injEq]
  exact⟨trivial,e_dup.symm,e_qos.symm,e_retain.symm,(bsz.1 e_topic).symm,trivial,(bsz.1 e_payload).symm,trivial,(bsz.1 e_client).symm,e_clean.symm,e_keep.symm,(List.length_eq_zero_iff.1 e_wills).symm,(List.length_eq_zero_iff.1 e_user).symm,(List.length_eq_zero_iff.1 e_pass).symm,e_code.symm,e_session.symm,(List.length_eq_zero_iff.1 e_subs).symm,(List.length_eq_zero_iff.1 e_filters).symm,trivial⟩
 ·intro h
  simp only[Pa.mk.injEq]at h
  obtain⟨h_kind,h_dup,h_qos,h_retain,h_topic,h_id,h_payload,h_props,h_client,h_clean,h_keep,h_wills,h_user,h_pass,h_code,h_session,h_subs,h_filters,h_codes⟩:=h
  exact⟨⟨h_dup.symm,h_retain.symm,h_clean.symm,h_session.symm⟩,⟨h_qos.symm,rfl,h_keep.symm,h_code.symm⟩,⟨bsz.2 h_topic.symm,bsz.2 h_payload.symm,bsz.2 h_client.symm⟩,rfl,List.length_eq_zero_iff.2 h_wills.symm,List.length_eq_zero_iff.2 h_user.symm,List.length_eq_zero_iff.2 h_pass.symm,List.length_eq_zero_iff.2 h_subs.symm,List.length_eq_zero_iff.2 h_filters.symm,rfl⟩
theorem all_false {α:Type} {f:α->Bool} {l:List α} {k:Nat} {c0:Bool} (h:false=(c0 && (l.take k).all f)):(c0 && l.all f)=false:=by
 cases c0
 ·rfl
 ·rw[Bool.true_and]at h |-
  rw[<- List.take_append_drop k l,List.all_append,<- h]
  rfl
theorem all_snoc {α:Type} (f:α->Bool) (l:List α) (k:Nat) (hk:k < l.length) {c0:Bool} (h:true=(c0 && (l.take k).all f)):f l[k]=(c0 && (l.take (k+1)).all f):=by
 cases c0
 ·cases h
 ·rw[Bool.true_and]at h |-
  rw[List.take_add_one,List.getElem?_eq_getElem hk,List.all_append,<- h,Bool.true_and]
  simp
theorem may_codes (q:Pkv) (P:Pa) (w:World) (hR:RPk w q P) (hmx:P.props.length<=1000000000) (hsm:Go.Proofs.YtdkmmmjjdlnnoaaGreatDoor.Small P.props) (E:Bool) (hEQ:∀ W,Below w.heap.size w W->Calls Tryz.prog 24 #[.agg (((xk q).wi_id q.id).wi_codes q.codes).cells.toArray,.agg q.cells.toArray] W fun e w'=>e=.returned (.bool E)/\Below W.heap.size W w') (hz:∀ k,k < P.codes.length->-9223372036854775808<=P.codes.getD k 0/\P.codes.getD k 0<=9223372036854775807) (len:Nat) (hln:P.codes.length=len) (hlb:len<=1000000000) (hk:P.kind=9\/P.kind=11) :
  Calls Tryz.prog 39 #[q.val] w fun e w'=>e=.returned (.bool (tlB P ((idO q.id && mc P.codes.length) && P.codes.all codeO) E))/\Below w.heap.size w w':=by
 have HEQ:=zh hEQ
 have HMX0:=zh hmx
 have HSM:=zh hsm
 have HRP:=zh hR.props
 have HQN:=zh hR.cnt.ns.1
 have HKP:=zh hR.sc.1
 obtain⟨ao,cap,hv,⟨hlc,hcm⟩,hS⟩:=hR.codes
 rw[hln]at hv hlc
 have HLN:=zh hln
 clear hln
 have HV:=zh hv
 have HS:=zh hS
 have HZ:=zh hz
 clear hv hS hz
 have hk2:=hk
 rw[<- hR.sc.1]at hk2
 have HKK:=zh hk2
 have HSC:=zh hR
 clear hEQ hsm hR hk hk2
 have HPN:=zh (pk_new w q)
 have HMN:=zh (ms_new w q)
 have HX:Hid ((w.alloc (.cells q.cells.toArray 31)).heap.size=w.heap.size+1):=by show _=_;simp
 go_enter Tryz.func39,Tryz.ntmps39
 go_upto_region 1 with fail
 change Code.wp _ _ _ _ (w.alloc (.cells q.cells.toArray 31))
 generalize w.alloc (.cells q.cells.toArray 31)=wa at HPN HMN HX |-
 have c0:=(uh HPN).kind
 have c7:=(uh HPN).props
 iterate 13 go_step
 refine Go.Proofs.YtdkmmmjjdlnnoaaGreatDoor.wpList_value rfl (packet_build2 _ _ _ _ _ _ _ q rfl rfl _) ?_
 simp only[Act.put,List.setIfInBounds_toArray,List.set_cons_zero,List.set_cons_succ]
 refine Go.Proofs.YtdkmmmjjdlnnoaaGreatDoor.wpList_value rfl (mpacket_alloc _ _ _ _ _ _) ?_
 simp only[Act.put,List.setIfInBounds_toArray,List.set_cons_zero,List.set_cons_succ]
 refine Go.Proofs.YtdkmmmjjdlnnoaaGreatDoor.wpList_skip rfl (mpacket_store _ _ _ _ _ _ _ (xk q) wa rfl rfl) ?_
 simp only[Act.put]
 have HM:Hid (MS w (wa.alloc (.cells (xk q).cells.toArray 31)) w.heap.size wa.heap.size q (xk q)):=by rw[uh HX];exact uh HMN
 generalize wa.alloc (.cells (xk q).cells.toArray 31)=w1 at HM |-
 generalize wa.heap.size=X at HM |-
 generalize hBB:w.heap.size=B at HM |-
 have HBB:=zh hBB
 clear c0 c7 HPN HMN HX hBB
 have c0:=(uh HM).pb.kind
 rcases uh HKK with hk | hk <;> rw[hk]at c0 <;> clear hk
 all_goals (
  go_wp2_with fail
  have HMd0:Hid (MS w w1.drew B X q (xk q)):=(uh HM).below (below_drewN (Below.refl _ _) 1)
  clear HM c0
  refine wp_region_noPanic ?_
  refine wp_region_held_drew (S:=(fun w'=>w'.cell? ⟨B,5,none⟩=some (.int .i64 q.id)/\w'.cell? ⟨B,18,none⟩=some (q.codes.val))) (by kernel_rfl) ⟨(uh HMd0).pb.id,(uh HMd0).pb.codes⟩ (fun hHeld=>?_)
  generalize w1.drew=wd0 at HMd0 hHeld |-
  refine rtk 0 (h:=?_)
  refine rtk 1 (h:=?_)
  refine rtk 2 (h:=?_)
  refine rtk 3 (h:=?_)
  refine rtk 4 (h:=?_)
  have x5:=(uh HMd0).px.id
  have y5:=(uh HMd0).px.id_f
  have HMd1:=zh ((uh HMd0).wi_id q.id)
  refine rcl 5 (h:=fun K hK=>?_)
  go_simp
  refine hK.out _ _ ⟨(uh HMd1).pb.id,(uh HMd1).pb.codes⟩ (fun hHeld=>?_)
  clear hK K x5 y5 HMd0
  generalize World.setCell _ ⟨X,5,none⟩ (.int .i64 q.id)=wd1 at HMd1 hHeld |-
  refine rtk 6 (h:=?_)
  have x18:=(uh HMd1).px.codes
  have y18:=(uh HMd1).px.codes_f
  have HMd2:=zh ((uh HMd1).wi_codes q.codes)
  refine rcl 7 (h:=fun K hK=>?_)
  go_simp
  refine hK.out _ _ ⟨(uh HMd2).pb.id,(uh HMd2).pb.codes⟩ (fun hHeld=>?_)
  clear hK K x18 y18 HMd1
  generalize World.setCell _ ⟨X,18,none⟩ (q.codes.val)=wd2 at HMd2 hHeld |-
  refine wpAnyH_done (by kernel_rfl) ?_ _
  refine NoPanic.normal ?_
  have HM:=HMd2
  clear HMd2 hHeld
  have b5:=(uh HM).pb.id
  have b18:=(uh HM).pb.codes
  rw[uh HV]at b18
  go_wp2_with fail
  refine (gid_any q.id _).mono ?_
  rintro e w3 ⟨rfl,hw3⟩
  obtain rfl:=hw3.symm
  clear hw3
  cases hid:idO q.id
  ·have HR:Hid (tlB P ((idO q.id && mc P.codes.length) && P.codes.all codeO) E=false):=by show _=_;rw[hid];rfl
   clear hid
   go_wp2
   refine wp_loop_rounds 1 ?_
   rw[rounds_succ]
   go_wp2
   all_goals (
    go_ret
    exact⟨by rw[uh HR];rfl,(uh HM).bel⟩)
  ·have HID:=zh hid
   clear hid
   go_wp2_with fail
   refine (gsome_any _ _).mono ?_
   rintro e w4 ⟨rfl,hw4⟩
   obtain rfl:=hw4.symm
   clear hw4 b5
   obtain⟨c0,HC0⟩:∃ c0,Hid (c0=mc len):=⟨_,rfl⟩
   rw[<- uh HC0]
   go_wp2
   go_loopw [4,7] (fun cv i wr=>∃ (k:Nat) (c:Bool),k<=len/\i=.int .i64 k/\cv=.bool c/\Hid (c=(c0 && (P.codes.take k).all codeO))/\Hid (MS w wr B X q (((xk q).wi_id q.id).wi_codes q.codes))) (fun _ i _=>len - (intOf i).toNat)
   case atStart=>exact⟨0,c0,Nat.zero_le _,rfl,rfl,by show _=_;simp,HM⟩
   case round =>
    obtain⟨k,c,hk,rfl,rfl,HC,HM1⟩:=hrel
    clear HM
    have HM:=HM1
    clear HM1
    have b18:=(uh HM).pb.codes
    rw[uh HV]at b18
    by_cases hlt:k < len
    ·cases c
     ·have HR:Hid (tlB P ((idO q.id && mc P.codes.length) && P.codes.all codeO) E=false):=by
       show _=_
       rw[uh HLN,<- uh HC0,uh HID,Bool.true_and,all_false (uh HC)]
       rfl
      go_wp2
      go_ret
      exact⟨by rw[uh HR];rfl,(uh HM).bel⟩
     ·have hkl:k < P.codes.length:=by rw[uh HLN];exact hlt
      have HN:=zh (all_snoc codeO P.codes k hkl (uh HC))
      obtain⟨b,off,rfl,hcl⟩:∃ b off,ao=some ⟨b,off,none⟩/\∀ j,j < P.codes.length->w.cell? ⟨b,off+j,none⟩=some (.int .i64 (P.codes.getD j 0)):=by
       rcases uh HS with e | k
       ·rw[e]at hkl;simp at hkl
       ·exact k
      have hb:=hcl k hkl
      have hB:=(uh HM).bel
      have e0:=(hB.cell (cell_lt hb)).trans hb
      have hzz:=(uh HZ) k hkl
      have hgd:P.codes.getD k 0=P.codes[k]:=by rw[List.getD_eq_getElem?_getD,List.getElem?_eq_getElem hkl];rfl
      rw[hgd]at e0 hzz
      clear hb
      generalize P.codes[k]=sv at e0 hzz HN
      clear hgd
      clear hcl hB
      go_wp2_with fail
      refine (gcode_any sv _).mono ?_
      rintro e w5 ⟨rfl,hw5⟩
      have HM2:Hid (MS w w5 B X q (((xk q).wi_id q.id).wi_codes q.codes)):=by rw[hw5];exact HM
      clear hw5 e0
      go_wp2
      go_roundw
      case rel=>exact⟨k+1,_,by omega,by go_num,rfl,uh HN,HM2⟩
      case measure=>simp[intOf];omega
    ·obtain rfl:len=k:=by omega
     have HCC:Hid (c=((idO q.id && mc P.codes.length) && P.codes.all codeO)):=by
      show _=_
      rw[uh HLN,uh HC,List.take_of_length_le (Nat.le_of_eq (uh HLN)),uh HC0,uh HID,Bool.true_and]
     cases c
     ·have HR:Hid (tlB P ((idO q.id && mc P.codes.length) && P.codes.all codeO) E=false):=by show _=_;rw[<- uh HCC];rfl
      go_wp2
      go_ret
      exact⟨by rw[uh HR];rfl,(uh HM).bel⟩
     ·go_upto_region 55 with fail
      iterate 7 go_step
      refine mpList_wanted (by rfl) fun K hK=>wp_load_mid 31 _ rfl X 0 rfl (((xk q).wi_id q.id).wi_codes q.codes).cells _ (uh HM).px.range Tryz.underlying31 rfl packet_size (hK _ _ ?_)
      clear hK K
      simp only[Act.put,List.setIfInBounds_toArray,List.set_cons_zero,List.set_cons_succ]
      refine mpList_wanted (by rfl) fun K hK=>wp_load_mid 31 _ rfl B 0 rfl q.cells _ (uh HM).pb.range Tryz.underlying31 rfl packet_size (hK _ _ ?_)
      clear hK K
      simp only[Act.put,List.setIfInBounds_toArray,List.set_cons_zero,List.set_cons_succ]
      go_wp2_with fail
      refine ((uh HEQ) _ (uh HM).bel).mono ?_
      rintro e wz ⟨rfl,hbz⟩
      have HZ:=zh ((uh HM).below hbz)
      clear hbz HM
      have z0:=(uh HZ).pb.kind
      have z7:=(uh HZ).pb.props
      rw[show q.props.val=.slice q.props.ao q.props.n q.props.cap from rfl,uh HQN]at z7
      cases E
      ·have HR:Hid (tlB P ((idO q.id && mc P.codes.length) && P.codes.all codeO) false=false):=by show _=_;rw[<- uh HCC];rfl
       go_wp2
       go_ret
       exact⟨by rw[uh HR];rfl,(uh HZ).bel⟩
      ·by_cases hp0:P.props.length=0
       ·have HR:Hid (tlB P ((idO q.id && mc P.codes.length) && P.codes.all codeO) true=true):=by show _=_;rw[<- uh HCC];unfold tlB;rw[decide_eq_true hp0];rfl
        rw[hp0]at z7
        clear hp0
        go_wp2
        go_ret
        exact⟨by rw[uh HR];rfl,(uh HZ).bel⟩
       ·have HR:Hid (tlB P ((idO q.id && mc P.codes.length) && P.codes.all codeO) true=okP P.kind P.props):=by show _=_;rw[<- uh HCC];unfold tlB;rw[decide_eq_false hp0];rfl
        have hp1:((P.props.length:Int) == 0)=false:=beq_false_of_ne (by omega)
        clear hp0
        rw[uh HKP]at z0
        go_wp2_with fail
        refine (gprops_any _ P.props P.kind _ (by rw[<- uh HQN];exact (uh HRP).below (uh HZ).bel) hmx (uh HSM)).mono ?_
        rintro e wy ⟨rfl,hby⟩
        have HY:=zh ((uh HZ).below hby)
        clear hby HZ
        go_wp2
        go_ret
        exact⟨by rw[uh HR];rfl,(uh HY).bel⟩)
end Go.Proofs.YtdkmmmjjdlnnoaaGreatDoor.K
