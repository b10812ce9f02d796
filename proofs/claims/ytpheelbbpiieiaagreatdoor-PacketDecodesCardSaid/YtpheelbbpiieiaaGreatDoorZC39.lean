/- Proved here: helpers, one text behind the other. -/
import Derived.Test.YtpheelbbpiieiaaGreatDoorZC24
import Derived.Test.YtpheelbbpiieiaaGreatDoorZC31
import Derived.Test.YtpheelbbpiieiaaGreatDoorZC38
import Derived.Test.YtpheelbbpiieiaaGreatDoorZC28
import Derived.Test.YtpheelbbpiieiaaGreatDoorZC30
import Derived.Test.YtpheelbbpiieiaaGreatDoorZC12
import Derived.Test.YtpheelbbpiieiaaGreatDoorZC13
import Derived.Test.YtpheelbbpiieiaaGreatDoorZC11
import Derived.Deep.CutRange
import Derived.Test.YtpheelbbpiieiaaGreatDoorZC15
set_option maxHeartbeats 20000000
namespace Go.Proofs.YtpheelbbpiieiaaGreatDoor.K
open Go.RowKit
set_option maxRecDepth 100000
theorem scs_get (d:List Sb):∀ (i:Nat) (u:Sb),d[i]?=some u->∀ j,j < 5->(scs d)[i * 5+j]?=u.cells[j]?:=by
 induction d with
 | nil=>intro i u h;simp at h
 | cons v us ih =>
  intro i u h j hj
  cases i with
  | zero =>
   simp at h
   subst h
   unfold scs
   rw[List.flatMap_cons,Nat.zero_mul,Nat.zero_add,List.getElem?_append_left (by simp[Sb.cells];omega)]
  | succ i =>
   simp at h
   have:=ih i u h j hj
   unfold scs at *
   rw[List.flatMap_cons,List.getElem?_append_right (by simp[Sb.cells];omega),<- this]
   congr 1
   simp[Sb.cells]
   omega
theorem row_form {w:World} {B:Nat} {e:TypeId} {s:Nat} {v:Value} {n:Nat} {xs:List Value} (h:w.ownsRow B e s v n xs):∃ ao cap,v=.slice ao n cap/\(n<=cap/\cap<=maxLen)/\(n=0\/∃ b,ao=some ⟨b,0,none⟩/\∀ j,j < n * s->w.cell? ⟨b,j,none⟩=xs[j]?):=by
 have hl:=h.1
 rcases h.2 with⟨rfl,rfl⟩ | ⟨g,cap,cur,rfl,hB,hg,h1,h2,h3,h4⟩
 ·exact⟨none,0,rfl,⟨Nat.le_refl _,by simp⟩,.inl rfl⟩
 ·exact⟨_,cap,rfl,⟨h1,h2⟩,.inr ⟨g,rfl,fun j hj=>h.cellAt j hj⟩⟩
theorem sbs_of_owns {w:World} {B:Nat} {e:TypeId} {v:Value} {l:List Sb} (h:w.ownsRow B e 5 v l.length (scs l)):Sbs w v l:=by
 obtain⟨ao,cap,rfl,hc,h0 | ⟨b,rfl,hcell⟩⟩:=row_form h
 ·exact⟨ao,cap,rfl,hc,.inl (List.length_eq_zero_iff.1 h0)⟩
 ·refine⟨_,cap,rfl,hc,.inr ⟨b,0,rfl,fun k hk=>?_⟩⟩
  have hu:l[k]?=some (l.getD k sb0):=by rw[List.getD_eq_getElem?_getD,List.getElem?_eq_getElem hk];rfl
  have key:∀ j,j < 5->w.cell? ⟨b,k * 5+j,none⟩=(l.getD k sb0).cells[j]?:=fun j hj=>(hcell (k * 5+j) (by omega)).trans (scs_get l k _ hu j hj)
  simp only[Nat.zero_add]
  exact⟨key 0 (by omega),key 1 (by omega),key 2 (by omega),key 3 (by omega),key 4 (by omega)⟩
theorem wls_of {w:World} {B:Nat} {v:Value} {ws:List Wv} {us:List Wl} (h:w.ownsRow B 112 5 v us.length (wcs ws)) (hw:Ws w B ws us) (hl:∀ u ∈ us,u.props.length<=32):Wls w v us:=by
 obtain⟨ao,cap,rfl,hc,h0 | ⟨b,rfl,hcell⟩⟩:=row_form h
 ·exact⟨ao,cap,rfl,hc,.inl (List.length_eq_zero_iff.1 h0)⟩
 ·refine⟨_,cap,rfl,hc,.inr ⟨b,0,rfl,fun k hk=>?_⟩⟩
  obtain⟨a,ha⟩:∃ a,ws[k]?=some a:=⟨_,List.getElem?_eq_getElem (by rw[hw.1];exact hk)⟩
  have hu:us[k]?=some (us.getD k wl0):=by rw[List.getD_eq_getElem?_getD,List.getElem?_eq_getElem hk];rfl
  obtain⟨e1,e2,e3,e4,e5⟩:=hw.2 k a _ ha hu
  have key:∀ j,j < 5->w.cell? ⟨b,k * 5+j,none⟩=a.cells[j]?:=fun j hj=>(hcell (k * 5+j) (by omega)).trans (wcs_get ws k a ha j hj)
  have hm:us.getD k wl0 ∈ us:=List.mem_of_getElem? hu
  rw[Nat.zero_add]
  refine⟨a.props.ao,a.props.n,a.props.cap,⟨?_,?_,?_,?_,key 4 (by omega)⟩,prp_of_owns e5,by have:=hl _ hm;omega⟩
  ·rw[<- e1];exact key 0 (by omega)
  ·rw[<- e2];exact key 1 (by omega)
  ·rw[<- e3];exact key 2 (by omega)
  ·rw[<- e4];exact key 3 (by omega)
theorem Mean.bel {w w':World} {B:Nat} {p:Pkv} {P:Pa} (h:Mean w B p P) (hb:Below w.heap.size w w'):Mean w' B p P :=
 ⟨h.sc,owns_below h.props hb,by
  obtain⟨ws,h1,h2,h3⟩:=h.wills
  exact⟨ws,owns_below h1 hb,h2,fun i a b ha hb'=>by
   obtain⟨k1,k2,k3,k4,k5⟩:=h3 i a b ha hb'
   exact⟨k1,k2,k3,k4,owns_below k5 hb⟩⟩,owns_below h.user hb,owns_below h.pass hb,owns_below h.subs hb,owns_below h.filters hb,owns_below h.codes hb⟩
theorem Mean.rpk {w:World} {B:Nat} {q:Pkv} {P:Pa} (h:Mean w B q P) (hl:Lts P):RPk w q P:=by
 obtain⟨ws,h1,h2⟩:=h.wills
 exact⟨h.sc,prp_of_owns h.props,wls_of h1 h2 hl.wp,txs_of_owns h.user,txs_of_owns h.pass,sbs_of_owns h.subs,txs_of_owns h.filters,nms_of_owns h.codes⟩
theorem Lts.small {P:Pa} (h:Lts P):Small P:=⟨by have:=h.props;omega,by have:=h.wills;omega,by have:=h.subs;omega⟩
def paz:Pa:=pa0 0 false 0 false
def dP (l:List Int):Pa:=match dbody l with
 | some r=>if dnum l=0 then r.1 else paz
 | none=>paz
def dN (l:List Int):Nat:=if dnum l=0 then (meas l).2.1 else 0
theorem mean_z (w:World) (B:Nat):Mean w B pkz paz:=⟨⟨rfl,rfl,rfl,rfl,rfl,rfl,rfl,rfl,rfl,rfl,rfl,rfl⟩,row0 _ _ _ _,wills0 _ _,row0 _ _ _ _,row0 _ _ _ _,row0 _ _ _ _,row0 _ _ _ _,row0 _ _ _ _⟩
theorem lts_z:Lts paz:=⟨by simp[paz,pa0],by simp[paz,pa0],by simp[paz,pa0],by simp[paz,pa0],by simp[paz,pa0],by simp[paz,pa0],by simp[paz,pa0],by simp[paz,pa0]⟩
theorem dP_lts (l:List Int):Lts (dP l):=by
 unfold dP
 cases h:dbody l with
 | none=>exact lts_z
 | some r =>
  show Lts (if dnum l=0 then r.1 else paz)
  split
  ·exact dbody_lts (P:=r.1) (l':=r.2) h
  ·exact lts_z
theorem dP_bad {l:List Int} (h:dnum l≠0):dP l=paz:=by
 unfold dP
 cases dbody l with
 | none=>rfl
 | some r=>exact if_neg h
theorem dP_good {l r:List Int} {P:Pa} (h:dnum l=0) (hd:dbody l=some (P,r)):dP l=P:=by
 unfold dP
 rw[hd]
 exact if_pos h
theorem dec_uni (v:Value) (l:List Int) (w:World) (h:Byt w v l):Calls Tryz.prog 7 #[v] w fun e w'=>∃ (q:Pkv) (E:Value),e=.returned (.tuple #[q.val,.int .i64 (dN l:Nat),E])/\Hid (Mean w' w.heap.size q (dP l))/\Hid (ErrX w' E (dnum l))/\Below w.heap.size w w':=by
 refine (decode_any v l w h).mono ?_
 rintro e w' ⟨q,n,E,rfl,h1 | h1,hb⟩
 ·obtain⟨h0,rfl,rfl,hE⟩:=h1
  obtain⟨x,d,rfl,hd,hE⟩:=uh hE
  exact⟨pkz,_,by unfold dN;rw[if_neg h0],by rw[dP_bad h0];exact mean_z _ _,.inr ⟨d,hd,hE⟩,hb⟩
 ·obtain⟨h0,rfl,rfl,P,r,hd,hm⟩:=h1
  exact⟨q,_,by unfold dN;rw[if_pos h0],by rw[dP_good h0 hd];exact hm,.inl ⟨h0,rfl⟩,hb⟩
theorem pdec_uni (v:Value) (l:List Int) (w:World) (h:Byt w v l):Calls Tryz.prog 8 #[v,.int .i64 65536] w fun e w'=>∃ q:Pkv,e=.returned (.tuple #[q.val,.int .i64 (dN l:Nat),.int .i64 (dnum l)])/\Hid (Mean w' w.heap.size q (dP l))/\Below w.heap.size w w':=by
 refine (pdec_pg v l 65536 w h (by omega)).mono ?_
 rintro e w' ⟨q,n,rfl,h1,hb⟩
 rw[pnum_is]at h1 |-
 rcases h1 with⟨h0,rfl,rfl⟩ | ⟨h0,rfl,P,r,hd,hm⟩
 ·exact⟨pkz,by unfold dN;rw[if_neg h0],by rw[dP_bad h0];exact mean_z _ _,hb⟩
 ·exact⟨q,by unfold dN;rw[if_pos h0],by rw[dP_good h0 hd];exact hm,hb⟩
abbrev pkp:Pkv:=pk0 12 false 0 false
theorem empty_ping (w:World):Calls Tryz.prog 110 #[.agg pkp.cells.toArray] w fun e w'=>e=.returned (.bool true)/\Below w.heap.size w w':=by
 have hz:bits .or .i64 0 0=0:=by kernel_rfl
 show Calls Tryz.prog 110 #[.agg #[.int .i64 12,.bool false,.int .i64 0,.bool false,.string ⟨#[]⟩,.int .i64 0,.string ⟨#[]⟩,.slice none 0 0,.string ⟨#[]⟩,.bool false,.int .i64 0,.slice none 0 0,.slice none 0 0,.slice none 0 0,.int .i64 0,.bool false,.slice none 0 0,.slice none 0 0,.slice none 0 0]] w _
 go_enter Tryz.func110,Tryz.ntmps110
 go_wp2
 go_ret
 exact⟨rfl,by go_grown⟩
theorem wpacket_ping (W:Nat) (w:World) (hp:Pk w W pkp):Calls Tryz.prog 71 #[.pointer (some ⟨W,0,none⟩)] w fun e w'=>e=.returned (.tuple #[])/\Below w.heap.size w w':=by
 have c0:w.cell? ⟨W,0,none⟩=some (.int .i64 12):=hp.kind
 have HP:=zh hp
 clear hp
 go_enter Tryz.func71,Tryz.ntmps71
 go_upto_region 25 with fail
 iterate 13 go_step
 refine wpList_load_mid rfl 29 _ rfl W 0 rfl pkp.cells _ (uh HP).range Tryz.underlying29 rfl packet_size ?_
 simp only[Act.put,List.setIfInBounds_toArray,List.set_cons_zero,List.set_cons_succ]
 go_wp2_with fail
 refine (empty_ping w).mono ?_
 rintro e w1 ⟨rfl,hb1⟩
 have HB1:=zh hb1
 clear hb1 c0
 go_wp2_with fail
 refine (wmust_true W w1).mono ?_
 rintro e w2 ⟨rfl,hw2⟩
 obtain rfl:=hw2.symm
 clear hw2
 go_wp2
 go_end0
 exact⟨rfl,uh HB1⟩
def wrc (q:Pkv):Array Value:=#[.int .i64 q.kind,.bool q.dup,.int .i64 q.qos,.bool q.retain,.string q.topic,.int .i64 q.id,.string q.payload,q.props.val,.string q.client,.bool q.clean,.int .i64 q.keep,q.wills.val,q.user.val,q.pass.val,.int .i64 q.code,.bool q.session,q.subs.val,q.filters.val,q.codes.val,.slice none 0 0,.int .i64 0,.nilIface]
theorem writer_build (a:Act) (dst:Option Tmp) (x:Operand) (ty:TypeId) (pos:String) (after:Array Edge) (q:Pkv) (hx:a.eval x=q.val) (w:World) :
  (execOp a.eval ⟨dst,.build 116 #[(0,x)],ty,pos,after,none⟩).run Tryz.prog w=.ok (.value (.agg (wrc q))) w:=by
 unfold execOp
 simp only[List.map_toArray,List.map_cons,List.map_nil,hx]
 kernel_rfl
theorem writer_alloc (ρ:Operand->Value) (dst:Option Tmp) (ty:TypeId) (pos:String) (after:Array Edge) (w:World) :
  (execOp ρ ⟨dst,.alloc 116,ty,pos,after,none⟩).run Tryz.prog w=.ok (.value (.pointer (some ⟨w.heap.size,0,none⟩))) (w.alloc (.cells (wrc pkz) 116)):=by
 kernel_rfl
theorem writer_size:(Tryz.prog.info? 116).map (·.size)=some 22:=by kernel_rfl
theorem wrc_one (q:Pkv):(wrc q).all (·.oneCell')=true:=by
 unfold wrc
 kernel_rfl
theorem writer_store (a:Act) (dst:Option Tmp) (x y:Operand) (ty:TypeId) (pos:String) (after:Array Edge) (q:Pkv) (w:World) (hx:a.eval x=.pointer (some ⟨w.heap.size,0,none⟩)) (hy:a.eval y=.agg (wrc q)) :
  (execOp a.eval ⟨dst,.store 116 x y,ty,pos,after,none⟩).run Tryz.prog (w.alloc (.cells (wrc pkz) 116))=.ok .skip (w.alloc (.cells (wrc q) 116)):=by
 show Sem.run Tryz.prog (do Instr.storeAt 116 (a.eval x) (a.eval y);pure Next.skip) _=_
 rw[hx,hy]
 simp only[Sem.run_bind]
 rw[run_storeAt_new w 116 (wrc pkz) (wrc q) (by rw[writer_size];rfl) rfl (wrc_one q)]
 rfl
theorem wrc_cell {w:World} {q:Pkv} (j:Nat) (v:Value) (h:(wrc q)[j]?=some v):(w.alloc (.cells (wrc q) 116)).cell? ⟨w.heap.size,j,none⟩=some v:=by
 have k:=heap_alloc_new w (.cells (wrc q) 116)
 unfold World.cell?
 dsimp only
 rw[k]
 simpa using h
theorem wrc_pk (w:World) (q:Pkv):Pk (w.alloc (.cells (wrc q) 116)) w.heap.size q:=fun j hj=>by
 refine⟨wrc_cell j _ ?_,by simp⟩
 rw[<- cells_get q j hj]
 match j,hj with
 | 0,_=>rfl
 | 1,_=>rfl
 | 2,_=>rfl
 | 3,_=>rfl
 | 4,_=>rfl
 | 5,_=>rfl
 | 6,_=>rfl
 | 7,_=>rfl
 | 8,_=>rfl
 | 9,_=>rfl
 | 10,_=>rfl
 | 11,_=>rfl
 | 12,_=>rfl
 | 13,_=>rfl
 | 14,_=>rfl
 | 15,_=>rfl
 | 16,_=>rfl
 | 17,_=>rfl
 | 18,_=>rfl
 | n+19,h=>exact absurd h (by omega)
theorem enc_ping (w:World):Calls Tryz.prog 43 #[pkp.val] w fun e w'=>∃ v,e=.returned (.tuple #[v,.nilIface])/\Hid (Byt w' v [192,0])/\Below w.heap.size w w':=by
 have HPN:=zh (pk_new w pkp)
 have HBN:Hid (Below w.heap.size w (w.alloc (.cells pkp.cells.toArray 29))):=bal _ _
 have hk:IntKind.i64.wrap (12 * 16)=192:=by kernel_rfl
 have hz:bits .or .i64 192 0=192:=by kernel_rfl
 show Calls Tryz.prog 43 #[.agg #[.int .i64 12,.bool false,.int .i64 0,.bool false,.string ⟨#[]⟩,.int .i64 0,.string ⟨#[]⟩,.slice none 0 0,.string ⟨#[]⟩,.bool false,.int .i64 0,.slice none 0 0,.slice none 0 0,.slice none 0 0,.int .i64 0,.bool false,.slice none 0 0,.slice none 0 0,.slice none 0 0]] w _
 go_enter Tryz.func43,Tryz.ntmps43
 go_upto_region 1 with fail
 go_step
 refine wpList_load_mid rfl 29 _ rfl w.heap.size 0 rfl pkp.cells _ (uh HPN).range Tryz.underlying29 rfl packet_size ?_
 simp only[Act.put,List.setIfInBounds_toArray,List.set_cons_zero,List.set_cons_succ]
 go_wp2_with fail
 have HFF:Calls Tryz.prog 49 #[.agg pkp.cells.toArray] (w.alloc (.cells pkp.cells.toArray 29)) fun e w'=>e=.returned (.tuple #[.int .i64 0,.bool true])/\Below (w.alloc (.cells pkp.cells.toArray 29)).heap.size (w.alloc (.cells pkp.cells.toArray 29)) w':=flagsOf_other pkp _ (by decide) (by decide) (by decide) (by decide)
 refine HFF.mono ?_
 rintro e w1 ⟨rfl,hb1⟩
 have HP1:=zh ((uh HPN).below hb1)
 have HB1:Hid (Below w.heap.size w w1):=(uh HBN).trans (hb1.mono (uh HBN).size)
 have c0:w1.cell? ⟨w.heap.size,0,none⟩=some (.int .i64 12):=(uh HP1).kind
 have hAl:w.heap.size < w1.heap.size:=cell_lt c0
 clear hb1 HPN HBN
 go_upto_region 4 with fail
 go_step
 refine wpList_load_mid rfl 29 _ rfl w.heap.size 0 rfl pkp.cells _ (uh HP1).range Tryz.underlying29 rfl packet_size ?_
 simp only[Act.put,List.setIfInBounds_toArray,List.set_cons_zero,List.set_cons_succ]
 refine Go.Proofs.YtpheelbbpiieiaaGreatDoor.wpList_value rfl (writer_build _ _ _ _ _ _ pkp rfl _) ?_
 simp only[Act.put,List.setIfInBounds_toArray,List.set_cons_zero,List.set_cons_succ]
 refine Go.Proofs.YtpheelbbpiieiaaGreatDoor.wpList_value rfl (writer_alloc _ _ _ _ _ _) ?_
 simp only[Act.put,List.setIfInBounds_toArray,List.set_cons_zero,List.set_cons_succ]
 refine Go.Proofs.YtpheelbbpiieiaaGreatDoor.wpList_skip rfl (writer_store _ _ _ _ _ _ _ pkp w1 rfl rfl) ?_
 simp only[Act.put]
 have HPW:=zh (wrc_pk w1 pkp)
 have c19:(w1.alloc (.cells (wrc pkp) 116)).cell? ⟨w1.heap.size,19,none⟩=some (.slice none 0 0):=wrc_cell 19 _ rfl
 have c20:(w1.alloc (.cells (wrc pkp) 116)).cell? ⟨w1.heap.size,20,none⟩=some (.int .i64 0):=wrc_cell 20 _ rfl
 have c21:(w1.alloc (.cells (wrc pkp) 116)).cell? ⟨w1.heap.size,21,none⟩=some .nilIface:=wrc_cell 21 _ rfl
 have d0:(w1.alloc (.cells (wrc pkp) 116)).cell? ⟨w.heap.size,0,none⟩=some (.int .i64 12):=(World.cell?_alloc_lt _ _ ⟨w.heap.size,0,none⟩ hAl).trans c0
 have HB2:Hid (Below w.heap.size w (w1.alloc (.cells (wrc pkp) 116))):=(uh HB1).trans ((bal _ _).mono (uh HB1).size)
 have hWl:w1.heap.size < (w1.alloc (.cells (wrc pkp) 116)).heap.size:=by simp
 generalize w1.alloc (.cells (wrc pkp) 116)=w2 at HPW c19 c20 c21 d0 HB2 hWl |-
 clear c0 HP1 HB1
 go_wp2_with fail
 refine (wpacket_ping w1.heap.size w2 (uh HPW)).mono ?_
 rintro e w3 ⟨rfl,hb3⟩
 have e19:=(hb3.cell (p:=⟨w1.heap.size,19,none⟩) hWl).trans c19
 have e20:=(hb3.cell (p:=⟨w1.heap.size,20,none⟩) hWl).trans c20
 have e21:=(hb3.cell (p:=⟨w1.heap.size,21,none⟩) hWl).trans c21
 have e0:=(hb3.cell (p:=⟨w.heap.size,0,none⟩) (Nat.lt_trans hAl hWl)).trans d0
 have HB3:Hid (Below w.heap.size w w3):=(uh HB2).trans (hb3.mono (uh HB2).size)
 have hWl3:w1.heap.size < w3.heap.size:=Nat.lt_of_lt_of_le hWl hb3.size
 clear hb3 c19 c20 c21 d0 HB2 HPW hWl
 go_wp2_with fail
 refine (vput_use 0 w3 (by decide) (by decide)).mono ?_
 rintro e w4 ⟨v,rfl,hO4,hy4,hb4⟩
 have f19:=(hb4.cell (p:=⟨w1.heap.size,19,none⟩) hWl3).trans e19
 have f20:=(hb4.cell (p:=⟨w1.heap.size,20,none⟩) hWl3).trans e20
 have f0:=(hb4.cell (p:=⟨w.heap.size,0,none⟩) (Nat.lt_trans hAl hWl3)).trans e0
 have HB4:Hid (Below w.heap.size w w4):=(uh HB3).trans (hb4.mono (uh HB3).size)
 have hWl4:w1.heap.size < w4.heap.size:=Nat.lt_of_lt_of_le hWl3 hb4.size
 have HY4:Hid (Byt w4 v [0]):=uh hy4
 obtain⟨bo,off,cap,hvf,hc1,hc2⟩:=(uh HY4).form1 (by decide)
 have hvf:v=.slice (some ⟨bo,off,none⟩) 1 cap:=hvf
 subst hvf
 clear hb4 e19 e20 e21 e0 HB3 hO4 hy4
 have HO5:Hid ((w4.alloc (.cells #[.int .u8 192] 5)).ownsRow w4.heap.size 5 1 (.slice (some ⟨w4.heap.size,0,none⟩) 1 1) 1 (([192]:List Int).map (Value.int .u8))) :=
  ⟨rfl,.inr ⟨w4.heap.size,1,_,rfl,Nat.le_refl _,heap_alloc_new _ _,Nat.le_refl _,by unfold maxLen;simp,rfl,rfl⟩⟩
 have HY5:Hid (Byt (w4.alloc (.cells #[.int .u8 192] 5)) (.slice (some ⟨bo,off,none⟩) 1 cap) [0]):=(uh HY4).below (bal _ _)
 go_wp2_with (first
  | (at_builtin;refine wpList_append_byt _ rfl _ _ rfl w4.heap.size _ 1 [192] rfl (uh HO5) (.slice (some ⟨bo,off,none⟩) 1 cap) [0] rfl (uh HY5) (by decide) (by simp) ?_)
  | go_in)
 intro v6 w6 hown6 hgrow6
 have hrow:∀ g,(Value.slice (some ⟨w4.heap.size,0,none⟩) 1 1).ownBlock=some g->g=w4.heap.size:=fun g hg=>by cases hg;rfl
 have g19:w6.cell? ⟨w1.heap.size,19,none⟩=some (.slice none 0 0):=hgrow6.cell ((World.cell?_alloc_lt _ _ ⟨w1.heap.size,19,none⟩ hWl4).trans f19) (fun e=>by have:=hrow _ e.symm;simp at this;omega)
 have HO6:Hid (w6.ownsRow w4.heap.size 5 1 v6 2 (([192,0]:List Int).map (Value.int .u8))):=hown6
 have hs6:w4.heap.size<=w6.heap.size:=Nat.le_trans (by simp) hgrow6.size
 have HB6:Hid (Below w.heap.size w w6):=((uh HB4).trans ((bal _ _).mono (uh HB4).size)).grown hgrow6 (Nat.le_trans (uh HB4).size (by simp)) (fun g hg=>by rw[hrow g hg];exact (uh HB4).size)
 have HYN:Hid (Byt w6 (.slice none 0 0) []):=⟨none,0,rfl,⟨by simp,by simp⟩,by intro j;simp,.inl rfl⟩
 clear hown6 hgrow6 hrow f19 f20 f0 HO5 HY5 HY4
 go_wp2_with (first
  | (at_builtin;refine wpList_append_byt _ rfl _ _ rfl w4.heap.size _ 2 [192,0] rfl (uh HO6) (.slice none 0 0) [] rfl (uh HYN) (by decide) hs6 ?_)
  | go_in)
 intro v7 w7 hown7 hgrow7
 have HB7:Hid (Below w.heap.size w w7):=(uh HB6).grown hgrow7 (uh HB6).size (fun g hg=>Nat.le_trans (uh HB4).size ((uh HO6).lt g hg).1)
 have HY7:Hid (Byt w7 v7 [192,0]):=byt_of_owns hown7 (by intro j;match j with | 0=>simp | 1=>simp | n+2=>simp)
 clear hown7 hgrow7 g19
 go_wp2
 go_returns
 exact⟨v7,rfl,HY7,uh HB7⟩
theorem num4 (v:Value) (n:Int) (w:World) (hg:Laid w) (hv:ErrX w v n):Calls Tryz.prog 9 #[v] w fun e w'=>e=.returned (.int .i64 n)/\Below w.heap.size w w':=by
 have HG:=zh hg
 have HV:=zh hv
 clear hg hv
 go_enter Tryz.func9,Tryz.ntmps9
 go_wp2_with (go_at_call 32;refine (numx v n _ (uh HG) (uh HV)).mono ?_;rintro e w' ⟨rfl,hb⟩)
 go_ret
 exact⟨rfl,hb⟩
theorem num4_nil (w:World):Calls Tryz.prog 9 #[.nilIface] w fun e w'=>e=.returned (.int .i64 0)/\w'=w:=by
 go_enter Tryz.func9,Tryz.ntmps9
 go_wp2_with (go_at_call 32;refine (num_nil _).mono ?_;rintro e w' ⟨rfl,rfl⟩)
 go_ret
 exact⟨rfl,rfl⟩
theorem two_byt (w:World):Byt (w.alloc (.cells #[.int .u8 192,.int .u8 0] 5)) (.slice (some ⟨w.heap.size,0,none⟩) 2 2) [192,0]:=by
 refine⟨_,2,rfl,⟨by simp,by unfold maxLen;simp⟩,?_,.inr ⟨w.heap.size,0,rfl,?_⟩⟩
 ·intro j;rcases j with _ | _ | j <;> simp
 ·intro j hj;rcases j with _ | _ | j
  ·simp
  ·simp
  ·simp at hj;omega
theorem wakes4 (w:World):Calls Tryz.prog 13 #[] w fun e w'=>e=.returned (.bool true)/\Below w.heap.size w w':=by
 have HEN:Hid (∀ W:World,Calls Tryz.prog 43 #[.agg #[.int .i64 12,.bool false,.int .i64 0,.bool false,.string ⟨#[]⟩,.int .i64 0,.string ⟨#[]⟩,.slice none 0 0,.string ⟨#[]⟩,.bool false,.int .i64 0,.slice none 0 0,.slice none 0 0,.slice none 0 0,.int .i64 0,.bool false,.slice none 0 0,.slice none 0 0,.slice none 0 0]] W fun e w'=>∃ v,e=.returned (.tuple #[v,.nilIface])/\Hid (Byt w' v [192,0])/\Below W.heap.size W w'):=fun W=>enc_ping W
 go_enter Tryz.func13,Tryz.ntmps13
 go_wp2_with fail
 refine ((uh HEN) w).mono ?_
 rintro e w1 ⟨v,rfl,hy,hb1⟩
 have ha:Hid (Byt (w1.alloc (.cells #[.int .u8 192,.int .u8 0] 5)) v [192,0]):=(uh hy).below (bal _ _)
 have hbb:=zh (two_byt w1)
 have HB1:=zh hb1
 clear hb1 hy
 go_wp2_with (first | (go_at_call 9;refine (num4_nil _).mono ?_;rintro e w' ⟨rfl,hw⟩;obtain rfl:=hw.symm;clear hw) | (go_at_call 11;refine (eq_any _ _ [192,0] [192,0] _ (uh ha) (uh hbb)).mono ?_;rintro e w' ⟨rfl,q,rfl⟩))
 go_ret
 exact⟨rfl,below_drewN ((uh HB1).alloc (uh HB1).size _) _⟩
def AskB (W:World) (b off:Nat) (vb:Value) (bs:List Int):Prop:=W.cell? ⟨b,off+19,none⟩=some vb/\Byt W vb bs/\bs.length<=140737488351232
theorem decodes_walk (b off len cap:Nat) (vb:Nat->Value) (bs:Nat->List Int) (w:World) (_hlen:len<=maxLen) (hg:Laid w) (hc:∀ k,k < len->AskB w b (off+k * 20) (vb k) (bs k)) :
  Calls Tryz.prog 3 #[.slice (some ⟨b,off,none⟩) len cap] w fun e w'=>e=.returned (.bool true)/\Below w.heap.size w w':=by
 unfold maxLen at _hlen
 have HC:=zh hc
 have HG:=zh hg
 clear hc hg
 go_enter Tryz.func3,Tryz.ntmps3
 go_wp2
 go_loopw [3] (fun i wr=>∃ k:Nat,k<=len/\k<=10/\i=.int .i64 k/\Below w.heap.size w wr) (fun i _=>10 - (intOf i).toNat)
 case atStart=>exact⟨0,Nat.zero_le _,by omega,rfl,Below.refl _ _⟩
 case round =>
  obtain⟨k,hk,hk10,rfl,hbel⟩:=hrel
  by_cases hlt:k < len/\k < 10
  ·obtain⟨hlt,hlt10⟩:=hlt
   obtain⟨hc0,hby,hbl⟩:=(uh HC) k hlt
   have c0:=(hbel.cell (p:=⟨b,off+k * 20+19,none⟩) (cell_lt hc0)).trans hc0
   have hbw:b < w.heap.size:=cell_lt hc0
   have HY:Hid (Byt wr (vb k) (bs k)):=hby.below hbel
   have HG0:Hid (Laid wr):=(uh HG).below hbel (uh HG).pos
   have hsz:=hbel.size
   have HBEL:=zh hbel
   clear hc0 hby hbel
   generalize vb k=u at c0 HY
   generalize bs k=z at HY hbl
   obtain⟨ao,vc,rfl,-,-⟩:=(uh HY).form
   generalize hn:z.length=n at c0 hbl HY
   have HN:=zh hn
   clear hn
   have HD:Hid (∀ W,Below wr.heap.size wr W->W.cell? ⟨b,off+k * 20+19,none⟩=some (.slice ao n vc)/\Byt W (.slice ao n vc) z/\Laid W/\Below w.heap.size w W):=fun W hW=>by
    refine⟨(hW.cell (p:=⟨b,off+k * 20+19,none⟩) (cell_lt c0)).trans c0,(uh HY).below hW,(uh HG0).below hW (uh HG0).pos,(uh HBEL).trans (hW.mono hsz)⟩
   clear HG0
   go_upto_region 4 with fail
   go_cut [40] from 11 to 97 (fun s40 wx=>∃ c:Bool,s40=.bool c/\wx=wr)
   case first =>
    by_cases h7:70000 < n
    ·go_wp2
     go_meet
     case rel=>exact⟨_,rfl,rfl⟩
    ·by_cases hk2:2 < k
     ·by_cases h5:5000 < n
      ·go_wp2
       go_meet
       case rel=>exact⟨_,rfl,rfl⟩
      ·go_wp2
       go_meet
       case rel=>exact⟨_,rfl,rfl⟩
     ·go_wp2
      go_meet
      case rel=>exact⟨_,rfl,rfl⟩
   case rest =>
   obtain⟨c,rfl,hwr⟩:=hcut
   obtain rfl:wc=wr:=hwr
   obtain⟨wr,hwr⟩:∃ wr,wr=wc:=⟨_,rfl⟩
   subst hwr
   cases c
   ·go_wp2_with fail
    refine (copyb_any _ z _ (uh HY) (by rw[uh HN];omega)).mono ?_
    rintro e w2 ⟨vx,rfl,-,hx2,hb2⟩
    have HC2:=zh hb2
    have d2:=((uh HD) w2 hb2).1
    obtain⟨xo,xc,hvx,-,-⟩:=(uh hx2).form
    subst hvx
    have HX2:=hx2
    clear hb2 hx2 c0
    go_wp2_with fail
    refine (dec_uni _ z w2 (uh HX2)).mono ?_
    rintro e w3 ⟨q,E,rfl,hm3,hE3,hb3⟩
    have HM3:=hm3
    have HE3:=hE3
    have HX3:=zh ((uh HX2).below hb3)
    have HC3:Hid (Below wr.heap.size wr w3):=(uh HC2).trans (hb3.mono (uh HC2).size)
    have HB3:=zh hb3
    have HLT:=zh (dP_lts z)
    clear hm3 hE3 hb3 d2
    generalize hdp:dP z=P at HM3 HLT
    have HPZ:=zh hdp
    clear hdp
    dsimp only
    iterate 13 go_step
    refine wpList_value rfl (packet_alloc _ _ _ _ _ _) ?_
    simp only[Act.put,List.setIfInBounds_toArray,List.set_cons_zero,List.set_cons_succ]
    refine wpList_skip rfl (packet_store _ _ _ _ _ _ _ q _ rfl rfl) ?_
    simp only[Act.put]
    have HA4:Hid (Below w3.heap.size w3 (w3.alloc (.cells q.cells.toArray 29))):=bal _ _
    have HP4:=zh (pk_new w3 q)
    obtain⟨B5,hB5⟩:∃ B5,B5=w3.heap.size:=⟨_,rfl⟩
    rw[<- hB5]at HP4 |-
    have h35:w2.heap.size<=B5:=by rw[hB5];exact (uh HB3).size
    generalize w3.alloc (.cells q.cells.toArray 29)=w4 at HA4 HP4 |-
    have HM4:Hid (Mean w4 w2.heap.size q P):=(uh HM3).bel (uh HA4)
    have HE4:Hid (ErrX w4 E (dnum z)):=(uh HE3).below (uh HA4)
    have HX4:=zh ((uh HX3).below (uh HA4))
    have HB4:Hid (Below w2.heap.size w2 w4):=(uh HB3).trans ((uh HA4).mono (uh HB3).size)
    have HC4:Hid (Below wr.heap.size wr w4):=(uh HC3).trans ((uh HA4).mono (uh HC3).size)
    have d4:=((uh HD) w4 (uh HC4)).1
    have HY4:=zh ((uh HD) w4 (uh HC4)).2.1
    clear HM3 HE3 HX3 HB3 HC3 HA4 hB5
    have HU:=zh (pdec_uni (.slice ao n vc) z w4 (uh HY4))
    generalize hdn:dN z=nn at HU |-
    generalize hdm:dnum z=mm at HU HE4
    clear hdn hdm
    go_wp2_with fail
    refine (uh HU).mono ?_
    rintro e w5 ⟨q2,rfl,hm5,hb5⟩
    have HM5:Hid (Mean w5 w4.heap.size q2 P):=by
     have k:=uh hm5
     rw[uh HPZ]at k
     exact k
    have HMq:Hid (Mean w5 w2.heap.size q P):=(uh HM4).bel hb5
    have HE5:Hid (ErrX w5 E mm):=(uh HE4).below hb5
    have HX5:=zh ((uh HX4).below hb5)
    have HP5:=zh ((uh HP4).below hb5)
    have HB5:Hid (Below w2.heap.size w2 w5):=(uh HB4).trans (hb5.mono (uh HB4).size)
    have HC5:Hid (Below wr.heap.size wr w5):=(uh HC4).trans (hb5.mono (uh HC4).size)
    clear hm5 hb5 HM4 HE4 HX4 HP4 HB4 HC4 HY4 HU d4
    dsimp only
    iterate 13 go_step
    refine wpList_value rfl (packet_alloc _ _ _ _ _ _) ?_
    simp only[Act.put,List.setIfInBounds_toArray,List.set_cons_zero,List.set_cons_succ]
    refine wpList_skip rfl (packet_store _ _ _ _ _ _ _ q2 _ rfl rfl) ?_
    simp only[Act.put]
    have HA6:Hid (Below w5.heap.size w5 (w5.alloc (.cells q2.cells.toArray 29))):=bal _ _
    have HQ6:=zh (pk_new w5 q2)
    obtain⟨B8,hB8⟩:∃ B8,B8=w5.heap.size:=⟨_,rfl⟩
    rw[<- hB8]at HQ6 |-
    clear hB8
    generalize w5.alloc (.cells q2.cells.toArray 29)=w6 at HA6 HQ6 |-
    have HM6:Hid (Mean w6 w4.heap.size q2 P):=(uh HM5).bel (uh HA6)
    have HMq6:Hid (Mean w6 w2.heap.size q P):=(uh HMq).bel (uh HA6)
    have HE6:Hid (ErrX w6 E mm):=(uh HE5).below (uh HA6)
    have HX6:=zh ((uh HX5).below (uh HA6))
    have HP6:=zh ((uh HP5).below (uh HA6))
    have HB6:Hid (Below w2.heap.size w2 w6):=(uh HB5).trans ((uh HA6).mono (uh HB5).size)
    have HC6:Hid (Below wr.heap.size wr w6):=(uh HC5).trans ((uh HA6).mono (uh HC5).size)
    clear HM5 HMq HE5 HX5 HP5 HB5 HC5 HA6
    have HG6:=zh ((uh HD) w6 (uh HC6)).2.2.1
    go_wp2_with fail
    refine (num4 E mm w6 (uh HG6) (uh HE6)).mono ?_
    rintro e w7 ⟨rfl,hb7⟩
    have HM7:Hid (Mean w7 w4.heap.size q2 P):=(uh HM6).bel hb7
    have HMq7:Hid (Mean w7 w2.heap.size q P):=(uh HMq6).bel hb7
    have HX7:=zh ((uh HX6).below hb7)
    have HP7:=zh ((uh HP6).below hb7)
    have HQ7:=zh ((uh HQ6).below hb7)
    have HB7:Hid (Below w2.heap.size w2 w7):=(uh HB6).trans (hb7.mono (uh HB6).size)
    have HC7:Hid (Below wr.heap.size wr w7):=(uh HC6).trans (hb7.mono (uh HC6).size)
    clear hb7 HM6 HMq6 HE6 HX6 HP6 HQ6 HB6 HC6 HG6
    have hmm:(mm != mm)=false:=by simp
    dsimp only
    iterate 22 go_step
    refine wpList_wanted (by rfl) fun K hK=>wp_load_mid 29 _ rfl B5 0 rfl q.cells _ (uh HP7).range Tryz.underlying29 rfl packet_size (hK _ _ ?_)
    clear hK K
    simp only[Act.put,List.setIfInBounds_toArray,List.set_cons_zero,List.set_cons_succ]
    refine wpList_wanted (by rfl) fun K hK=>wp_load_mid 29 _ rfl B8 0 rfl q2.cells _ (uh HQ7).range Tryz.underlying29 rfl packet_size (hK _ _ ?_)
    clear hK K
    simp only[Act.put,List.setIfInBounds_toArray,List.set_cons_zero,List.set_cons_succ]
    have HEQ:Hid (Calls Tryz.prog 10 #[.agg q.cells.toArray,.agg q2.cells.toArray] w7 fun e w'=>e=.returned (.bool true)/\Below w7.heap.size w7 w'):=eqpk_same q q2 P w7 ((uh HMq7).rpk (uh HLT)) ((uh HM7).rpk (uh HLT)) (uh HLT).small
    go_wp2_with fail
    refine (uh HEQ).mono ?_
    rintro e w8 ⟨rfl,hb8⟩
    have HMq8:Hid (Mean w8 w2.heap.size q P):=(uh HMq7).bel hb8
    have HX8:=zh ((uh HX7).below hb8)
    have HP8:=zh ((uh HP7).below hb8)
    have HB8:Hid (Below w2.heap.size w2 w8):=(uh HB7).trans (hb8.mono (uh HB7).size)
    have HC8:Hid (Below wr.heap.size wr w8):=(uh HC7).trans (hb8.mono (uh HC7).size)
    have d8:=((uh HD) w8 (uh HC8)).1
    have HY8:=zh ((uh HD) w8 (uh HC8)).2.1
    clear hb8 HM7 HMq7 HX7 HP7 HQ7 HB7 HC7 HEQ hmm
    go_wp2_with fail
    refine (eq_any _ _ z z w8 (uh HX8) (uh HY8)).mono ?_
    rintro e w9 ⟨rfl,kk,hw9⟩
    rw[decide_eq_true (rfl:z=z)]
    have hb9:Below w8.heap.size w8 w9:=by rw[hw9];exact below_drewN (Below.refl _ _) kk
    have HMq9:Hid (Mean w9 w2.heap.size q P):=(uh HMq8).bel hb9
    have HP9:=zh ((uh HP8).below hb9)
    have HB9:Hid (Below w2.heap.size w2 w9):=(uh HB8).trans (hb9.mono (uh HB8).size)
    have HC9:Hid (Below wr.heap.size wr w9):=(uh HC8).trans (hb9.mono (uh HC8).size)
    clear hw9 hb9 HMq8 HX8 HP8 HB8 HC8 HY8 d8
    go_upto_region 11 with fail
    go_step
    refine wpList_load_mid rfl 29 _ rfl B5 0 rfl q.cells _ (uh HP9).range Tryz.underlying29 rfl packet_size ?_
    simp only[Act.put,List.setIfInBounds_toArray,List.set_cons_zero,List.set_cons_succ]
    have HSP:Hid (Calls Tryz.prog 12 #[.agg q.cells.toArray] w9 fun e w'=>e=.returned (.tuple #[])/\Below w2.heap.size w9 w'):=packet_sp w2.heap.size q P w9 (uh HB9).size (uh HMq9) (uh HLT)
    go_wp2_with fail
    refine (uh HSP).mono ?_
    rintro e wa ⟨rfl,hba⟩
    have HXa:Hid (Byt wa (.slice xo z.length xc) z):=(uh HX2).below ((uh HB9).trans hba)
    have HCa:Hid (Below wr.heap.size wr wa):=(uh HC9).trans (hba.mono (uh HC2).size)
    have da:=((uh HD) wa (uh HCa)).1
    have HYa:=zh ((uh HD) wa (uh HCa)).2.1
    clear hba HMq9 HP9 HB9 HC9 HSP
    go_wp2_with fail
    refine (eq_any _ _ z z wa (uh HXa) (uh HYa)).mono ?_
    rintro e wb ⟨rfl,kk,hwb⟩
    rw[decide_eq_true (rfl:z=z)]
    have hbb:Below wa.heap.size wa wb:=by rw[hwb];exact below_drewN (Below.refl _ _) kk
    have HCb:Hid (Below wr.heap.size wr wb):=(uh HCa).trans (hbb.mono (uh HCa).size)
    have HBb:=zh ((uh HD) wb (uh HCb)).2.2.2
    clear hwb hbb HXa HCa HYa da HCb
    go_wp2
    go_roundw
    case rel=>exact⟨k+1,by omega,by omega,by go_num,uh HBb⟩
    case measure=>simp[intOf];omega
   ·go_wp2
    go_ret
    exact⟨rfl,uh HBEL⟩
  ·go_wp2_with (go_at_call 13;refine (wakes4 _).mono ?_;rintro e w' ⟨rfl,hbw⟩)
   all_goals (
    go_ret
    exact⟨rfl,hbel.trans (hbw.mono hbel.size)⟩)
theorem decodes_walk0 (ao:Option Addr) (cap:Nat) (w:World):Calls Tryz.prog 3 #[.slice ao 0 cap] w fun e w'=>e=.returned (.bool true)/\Below w.heap.size w w':=by
 go_enter Tryz.func3,Tryz.ntmps3
 go_wp2
 refine wp_loop_rounds 1 ?_
 rw[rounds_succ]
 go_wp2_with (go_at_call 13;refine (wakes4 _).mono ?_;rintro e w' ⟨rfl,hbw⟩)
 go_ret
 exact⟨rfl,hbw⟩
end Go.Proofs.YtpheelbbpiieiaaGreatDoor.K
