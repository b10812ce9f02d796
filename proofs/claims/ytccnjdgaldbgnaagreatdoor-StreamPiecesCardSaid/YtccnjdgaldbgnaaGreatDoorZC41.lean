/- Proved here: helpers, one text behind the other. -/
import Derived.Deep.MidRow
import Derived.Deep.RegionHeld3
import Derived.Test.YtccnjdgaldbgnaaGreatDoorZC5
import Derived.Test.YtccnjdgaldbgnaaGreatDoorZC35
import Derived.Test.YtccnjdgaldbgnaaGreatDoorZC23
import Derived.Test.YtccnjdgaldbgnaaGreatDoorZC40
import Derived.Test.YtccnjdgaldbgnaaGreatDoorZC31
import Derived.Test.YtccnjdgaldbgnaaGreatDoorZC9
import Derived.Test.YtccnjdgaldbgnaaGreatDoorZC32
set_option maxHeartbeats 20000000
namespace Go.Proofs.YtccnjdgaldbgnaaGreatDoor.K
open Go.RowKit
set_option maxRecDepth 100000
theorem range_below {w w':World} {b o:Nat} {cs:List Value} (h:w.rangeAt b o cs) (hb:Below w.heap.size w w'):w'.rangeAt b o cs:=fun j v hj=>(hb.cell (p:=⟨b,o+j,none⟩) (cell_lt (h j v hj))).trans (h j v hj)
theorem eqpks_same (ba oa bb ob n ca cb:Nat) (ps qs:Nat->Pkv) (Ps:Nat->Pa) (w:World) (hn:n<=1000000000)
  (hp:∀ k,k < n->w.rangeAt ba (oa+k * 19) (ps k).cells/\RPk w (ps k) (Ps k)) (hq:∀ k,k < n->w.rangeAt bb (ob+k * 19) (qs k).cells/\RPk w (qs k) (Ps k)) (hs:∀ k,k < n->Small (Ps k)) :
  Calls Tryz.prog 8 #[.slice (some ⟨ba,oa,none⟩) n ca,.slice (some ⟨bb,ob,none⟩) n cb] w fun e w'=>e=.returned (.bool true)/\Below w.heap.size w w':=by
 have HP:=zh hp
 have HQ:=zh hq
 have HS:=zh hs
 clear hp hq hs
 go_enter Tryz.func8,Tryz.ntmps8
 go_wp2
 go_loopw [5] (fun i wr=>∃ k:Nat,k<=n/\i=.int .i64 k/\Hid (Below w.heap.size w wr)) (fun i _=>n - (intOf i).toNat)
 case atStart=>exact⟨0,Nat.zero_le _,rfl,Below.refl _ _⟩
 case round =>
  obtain⟨k,hk,rfl,HBEL⟩:=hrel
  by_cases hlt:k < n
  ·obtain⟨hr,hu⟩:=(uh HP) k hlt
   obtain⟨hr',hv⟩:=(uh HQ) k hlt
   have HSM:=zh ((uh HS) k hlt)
   generalize ps k=u at hr hu
   generalize qs k=v at hr' hv
   generalize Ps k=P at hu hv HSM
   have HU:=zh (hu.below (uh HBEL))
   have HV:=zh (hv.below (uh HBEL))
   have hr1:=range_below hr (uh HBEL)
   have hr2:=range_below hr' (uh HBEL)
   have HK:Hid (∀ W,Below wr.heap.size wr W->W.rangeAt ba (oa+k * 19) u.cells/\W.rangeAt bb (ob+k * 19) v.cells):=fun W hW=>⟨range_below hr1 hW,range_below hr2 hW⟩
   clear hr hr' hu hv hr1 hr2
   go_wp2_with fail
   refine wp_region_noPanic ?_
   refine wp_region_held_drew (S:=(fun W=>W.rangeAt ba (oa+k * 19) u.cells/\W.rangeAt bb (ob+k * 19) v.cells)) (by kernel_rfl) ((uh HK) _ (below_drewN (Below.refl _ _) 1)) (fun hHeld=>?_)
   refine rtk 0 (h:=?_)
   refine rtk 1 (h:=?_)
   refine rtk 2 (h:=?_)
   refine wpAnyH_take (i:=3) (oi:={ dst:=some 20,op:=Op.load 45 (Operand.tmp 19),type:=45,pos := "help.go:274",after:=#[{ on:=2,ground:=Ground.data }],guard:=none }) (v:=u.val) rfl (by kernel_rfl) (by kernel_rfl) (by kernel_rfl) (fun _ _ _ h=>h) (yieldsIf_load_mid (by rfl) 45 _ rfl ba (oa+k * 19) rfl u.cells _ (fun _ h=>h.1) Tryz.underlying45 rfl packet_size) (by assumption) ?_
   simp only[Act.put,List.setIfInBounds_toArray,List.set_cons_zero,List.set_cons_succ]
   refine rtk 4 (h:=?_)
   refine rtk 5 (h:=?_)
   refine rtk 6 (h:=?_)
   refine wpAnyH_take (i:=7) (oi:={ dst:=some 24,op:=Op.load 45 (Operand.tmp 23),type:=45,pos := "help.go:274",after:=#[{ on:=6,ground:=Ground.data }],guard:=none }) (v:=v.val) rfl (by kernel_rfl) (by kernel_rfl) (by kernel_rfl) (fun _ _ _ h=>h) (yieldsIf_load_mid (by rfl) 45 _ rfl bb (ob+k * 19) rfl v.cells _ (fun _ h=>h.2) Tryz.underlying45 rfl packet_size) (by assumption) ?_
   simp only[Act.put,List.setIfInBounds_toArray,List.set_cons_zero,List.set_cons_succ]
   refine rcl 8 (h:=fun K hK=>?_)
   go_simp
   refine (eqpk_same u v P _ ((uh HU).below (below_drewN (Below.refl _ _) 1)) ((uh HV).below (below_drewN (Below.refl _ _) 1)) (uh HSM)).mono ?_
   rintro e w2 ⟨rfl,hb2⟩
   have HB2:Hid (Below wr.heap.size wr w2):=(below_drewN (Below.refl _ _) 1).trans hb2
   clear hb2
   refine hK.out _ _ ((uh HK) _ (uh HB2)) (fun hHeld=>?_)
   clear hK K
   refine rtk 9 (h:=?_)
   refine wpAnyH_done (by kernel_rfl) ?_ _
   refine NoPanic.normal ?_
   have HB3:Hid (Below w.heap.size w w2):=(uh HBEL).trans ((uh HB2).mono (uh HBEL).size)
   go_wp2
   go_roundw
   case rel=>exact⟨k+1,by omega,by go_num,HB3⟩
   case measure=>simp[intOf];omega
  ·go_wp2
   go_ret
   exact⟨rfl,uh HBEL⟩
end Go.Proofs.YtccnjdgaldbgnaaGreatDoor.K
namespace Go.Proofs.YtccnjdgaldbgnaaGreatDoor.K.B
open Go.RowKit
open Go.Proofs.YtccnjdgaldbgnaaGreatDoor.K
set_option maxRecDepth 100000
theorem scs_get (d:List Sb):∀ (i:Nat) (u:Sb),d[i]?=some u->∀ j,j < 5->(scs d)[i * 5+j]?=u.cells[j]?:=by
 induction d with
 | nil=>intro i u h;simp at h
 | cons v us ih =>
  intro i u h j hj
  cases i with
  | zero =>
   simp at h
   subst h
   unfold scs
   rw[List.flatMap_cons,Nat.zero_mul,Nat.zero_add,List.getElem?_append_left (by simp[Sb.cells];omega)]
  | succ i =>
   simp at h
   have:=ih i u h j hj
   unfold scs at *
   rw[List.flatMap_cons,List.getElem?_append_right (by simp[Sb.cells];omega),<- this]
   congr 1
   simp[Sb.cells]
   omega
theorem row_form {w:World} {B:Nat} {e:TypeId} {s:Nat} {v:Value} {n:Nat} {xs:List Value} (h:w.ownsRow B e s v n xs):∃ ao cap,v=.slice ao n cap/\(n<=cap/\cap<=maxLen)/\(n=0\/∃ b,ao=some ⟨b,0,none⟩/\∀ j,j < n * s->w.cell? ⟨b,j,none⟩=xs[j]?):=by
 have hl:=h.1
 rcases h.2 with⟨rfl,rfl⟩ | ⟨g,cap,cur,rfl,hB,hg,h1,h2,h3,h4⟩
 ·exact⟨none,0,rfl,⟨Nat.le_refl _,by simp⟩,.inl rfl⟩
 ·exact⟨_,cap,rfl,⟨h1,h2⟩,.inr ⟨g,rfl,fun j hj=>h.cellAt j hj⟩⟩
theorem sbs_of_owns {w:World} {B:Nat} {e:TypeId} {v:Value} {l:List Sb} (h:w.ownsRow B e 5 v l.length (scs l)):Sbs w v l:=by
 obtain⟨ao,cap,rfl,hc,h0 | ⟨b,rfl,hcell⟩⟩:=row_form h
 ·exact⟨ao,cap,rfl,hc,.inl (List.length_eq_zero_iff.1 h0)⟩
 ·refine⟨_,cap,rfl,hc,.inr ⟨b,0,rfl,fun k hk=>?_⟩⟩
  have hu:l[k]?=some (l.getD k sb0):=by rw[List.getD_eq_getElem?_getD,List.getElem?_eq_getElem hk];rfl
  have key:∀ j,j < 5->w.cell? ⟨b,k * 5+j,none⟩=(l.getD k sb0).cells[j]?:=fun j hj=>(hcell (k * 5+j) (by omega)).trans (scs_get l k _ hu j hj)
  simp only[Nat.zero_add]
  exact⟨key 0 (by omega),key 1 (by omega),key 2 (by omega),key 3 (by omega),key 4 (by omega)⟩
theorem wls_of {w:World} {B:Nat} {v:Value} {ws:List Wv} {us:List Wl} (h:w.ownsRow B 120 5 v us.length (wcs ws)) (hw:Ws w B ws us) (hl:∀ u ∈ us,u.props.length<=32):Wls w v us:=by
 obtain⟨ao,cap,rfl,hc,h0 | ⟨b,rfl,hcell⟩⟩:=row_form h
 ·exact⟨ao,cap,rfl,hc,.inl (List.length_eq_zero_iff.1 h0)⟩
 ·refine⟨_,cap,rfl,hc,.inr ⟨b,0,rfl,fun k hk=>?_⟩⟩
  obtain⟨a,ha⟩:∃ a,ws[k]?=some a:=⟨_,List.getElem?_eq_getElem (by rw[hw.1];exact hk)⟩
  have hu:us[k]?=some (us.getD k wl0):=by rw[List.getD_eq_getElem?_getD,List.getElem?_eq_getElem hk];rfl
  obtain⟨e1,e2,e3,e4,e5⟩:=hw.2 k a _ ha hu
  have key:∀ j,j < 5->w.cell? ⟨b,k * 5+j,none⟩=a.cells[j]?:=fun j hj=>(hcell (k * 5+j) (by omega)).trans (wcs_get ws k a ha j hj)
  have hm:us.getD k wl0 ∈ us:=List.mem_of_getElem? hu
  rw[Nat.zero_add]
  refine⟨a.props.ao,a.props.n,a.props.cap,⟨?_,?_,?_,?_,key 4 (by omega)⟩,prp_of_owns e5,by have:=hl _ hm;omega⟩
  ·rw[<- e1];exact key 0 (by omega)
  ·rw[<- e2];exact key 1 (by omega)
  ·rw[<- e3];exact key 2 (by omega)
  ·rw[<- e4];exact key 3 (by omega)
theorem mean_rpk {w:World} {B:Nat} {q:Pkv} {P:Pa} (h:Mean w B q P) (hl:Md P):RPk w q P:=by
 obtain⟨ws,h1,h2⟩:=h.wills
 exact⟨h.sc,prp_of_owns h.props,wls_of h1 h2 (fun u hu=>(hl.wills2 u hu).2.1),txs_of_owns h.user,txs_of_owns h.pass,sbs_of_owns h.subs,txs_of_owns h.filters,nms_of_owns h.codes⟩
end Go.Proofs.YtccnjdgaldbgnaaGreatDoor.K.B
namespace Go.Proofs.YtccnjdgaldbgnaaGreatDoor.K
open Go.RowKit
set_option maxRecDepth 100000
theorem swhole_any (S:Nat) (lim:Int) (hv:Value) (L:List Int) (w:World) (B:Nat) (hr:w.ownsRow B 5 1 hv L.length (L.map (Value.int .u8))) (rng:∀ j,0<=L.getD j 0/\L.getD j 0<=255) (hS:w.cell? ⟨S,0,none⟩=some (.int .i64 lim)) (hS1:w.cell? ⟨S,1,none⟩=some hv) (hlim:2<=lim) (hLN:L.length<=1073741824) :
  Calls Tryz.prog 13 #[.pointer (some ⟨S,0,none⟩)] w (WholePost lim L w):=by
 have hy:=byt_of_owns hr rng
 rcases hr.2 with⟨rfl,h0⟩ | ⟨g,cap,cur,rfl,_⟩
 ·obtain rfl:L=[]:=List.length_eq_zero_iff.1 h0
  exact swhole_nil S lim w hS hS1 hlim
 ·exact swhole_own S lim g 0 cap L w hy hS hS1 hlim hLN
structure Str (w:World) (S:Nat) (lim f:Int) (hv:Value) (L:List Int):Prop where
 c0:w.cell? ⟨S,0,none⟩=some (.int .i64 lim)
 c1:w.cell? ⟨S,1,none⟩=some hv
 c2:w.cell? ⟨S,2,none⟩=some (.int .i64 f)
 f1:w.frozen? ⟨S,1,none⟩=false
 f2:w.frozen? ⟨S,2,none⟩=false
 row:w.ownsRow (S+1) 5 1 hv L.length (L.map (Value.int .u8))
 rng:∀ j,0<=L.getD j 0/\L.getD j 0<=255
theorem Str.below {w w':World} {S:Nat} {lim f:Int} {hv:Value} {L:List Int} (h:Str w S lim f hv L) (hb:Below w.heap.size w w'):Str w' S lim f hv L :=
 have hS:S < w.heap.size:=cell_lt h.c0
 ⟨(hb.cell hS).trans h.c0,(hb.cell hS).trans h.c1,(hb.cell hS).trans h.c2,(hb.frozen hS).trans h.f1,(hb.frozen hS).trans h.f2,owns_below h.row hb,h.rng⟩
theorem FB.laid {S:Nat} {row:Option Nat} {a b:World} (h:FB S row a b) (hg:Laid a) (hS:0≠S) (hr:∀ g,row=some g->S+1<=g):Laid b:=by
 have k:b.heap[0]?=a.heap[0]?:=h.block 0 hg.pos hS (fun e=>by have:=hr 0 e.symm;omega)
 unfold Laid at *
 exact (World.cell?_of_block (a:=⟨0,0,none⟩) k).trans hg
theorem Str.pos {w:World} {S:Nat} {lim f:Int} {hv:Value} {L:List Int} (h:Str w S lim f hv L) (hg:Laid w):0≠S:=by
 rintro rfl
 have k:=h.c0
 unfold Laid at hg
 rw[hg]at k
 cases k
theorem Str.put {w w1:World} {S:Nat} {lim f:Int} {hv v1:Value} {L M:List Int} {row:Option Nat} (h:Str w S lim f hv L) (hg:w.grownBy w1 row) (hr:∀ g,row=some g->S+1<=g) (ho:w1.ownsRow (S+1) 5 1 v1 M.length (M.map (Value.int .u8))) (rng:∀ j,0<=M.getD j 0/\M.getD j 0<=255):Str (w1.setCell ⟨S,1,none⟩ v1) S lim f v1 M:=by
 have hS:S < w.heap.size:=cell_lt h.c0
 have hb:w1.heap[S]?=w.heap[S]?:=hg.block S hS (fun e=>by have:=hr S e.symm;omega)
 have hc:∀ j,w1.cell? ⟨S,j,none⟩=w.cell? ⟨S,j,none⟩:=fun j=>World.cell?_of_block hb
 have hf:∀ j,w1.frozen? ⟨S,j,none⟩=w.frozen? ⟨S,j,none⟩:=fun j=>World.frozen?_of_block hb
 exact⟨(World.cell?_setCell_other _ _ _ _ (fun e=>by simp at e)).trans ((hc 0).trans h.c0),World.cell?_setCell_same _ _ _ ((hc 1).trans h.c1),(World.cell?_setCell_other _ _ _ _ (fun e=>by simp at e)).trans ((hc 2).trans h.c2),by rw[World.frozen?_setCell];exact (hf 1).trans h.f1,by rw[World.frozen?_setCell];exact (hf 2).trans h.f2,owns_out ho (Nat.lt_succ_self _),rng⟩
theorem FB.put {S:Nat} {row:Option Nat} {a b:World} (h:FB S row a b) (v:Value):FB S row a (b.setCell ⟨S,1,none⟩ v) :=
 h.trans (row':=none) (FB.of_bx ((BX.refl S isAny b).set 1 v trivial)) (fun g e=>by cases e)
theorem drop_rng {M:List Int} (h:∀ j,0<=M.getD j 0/\M.getD j 0<=255) (n:Nat):∀ j,0<=(M.drop n).getD j 0/\(M.drop n).getD j 0<=255:=fun j=>by
 have k:=h (n+j)
 rw[List.getD_eq_getElem?_getD,List.getElem?_drop,<- List.getD_eq_getElem?_getD]
 exact k
def FedTo (S:Nat) (lim:Int) (hv:Value) (M:List Int) (w:World) (e:Ending) (w':World):Prop :=
 ∃ (v E:Value) (qs:List Pkv) (Ps:List Pa) (n:Nat) (m:Int) (hv':Value),e=.returned (.tuple #[v,E])/\n<=M.length/\SRun lim M Ps n m/\m≠0/\Pks w' w.heap.size v qs Ps /\
  ((m=3/\E=.nilIface/\Str w' S lim 0 hv' (M.drop n))\/(m≠3/\(∃ x,E=.iface 62 x)/\ErB w' w.heap.size E m/\Str w' S lim m hv' [])) /\
  (hv'.ownBlock=hv.ownBlock\/∀ g,hv'.ownBlock=some g->w.heap.size<=g)/\FB S hv.ownBlock w w'
theorem sfeed_bad (S:Nat) (lim f:Int) (hv:Value) (L:List Int) (vb:Value) (ys:List Int) (w:World) (h:Str w S lim f hv L) (hy:Byt w vb ys) (hf:f≠0):Calls Tryz.prog 6 #[.pointer (some ⟨S,0,none⟩),vb] w fun e w'=>∃ x,e=.returned (.tuple #[.slice none 0 0,.iface 62 x])/\Hid (ErB w' w.heap.size (.iface 62 x) f)/\Below w.heap.size w w':=by
 have c2:=h.c2
 have hf1:(f == 0)=false:=beq_eq_false_iff_ne.2 hf
 obtain⟨ao,cap,rfl,_⟩:=hy.form
 clear h hy
 go_enter Tryz.func6,Tryz.ntmps6
 go_wp2_with fail
 refine (sfault_use f _).mono ?_
 rintro e w1 ⟨x,rfl,hE,hb⟩
 go_wp2
 go_returns
 exact⟨_,rfl,hE,hb⟩
theorem sfeed_ok (S:Nat) (lim:Int) (hv:Value) (L:List Int) (vb:Value) (ys:List Int) (w:World) (hg:Laid w) (h:Str w S lim 0 hv L) (hy:Byt w vb ys) (hlim:2<=lim) (hLN:(L++ys).length<=1073741824):Calls Tryz.prog 6 #[.pointer (some ⟨S,0,none⟩),vb] w (FedTo S lim hv (L++ys) w):=by
 have hS:S < w.heap.size:=cell_lt h.c0
 have hS0:=h.pos hg
 have hrow:=owns_blk h.row
 have c1:=h.c1
 have c2:=h.c2
 have hrng:∀ j,0<=(L++ys).getD j 0/\(L++ys).getD j 0<=255:=by
  intro j
  have k1:=h.rng j
  have k2:=hy.range (j - L.length)
  by_cases hj:j < L.length
  ·rw[List.getD_eq_getElem?_getD,List.getElem?_append_left hj,<- List.getD_eq_getElem?_getD];exact k1
  ·rw[List.getD_eq_getElem?_getD,List.getElem?_append_right (by omega),<- List.getD_eq_getElem?_getD];exact k2
 have HH:=zh h
 have HY:=zh hy
 have HG:=zh hg
 have HROW:=zh hrow
 have HRNG:=zh hrng
 have hlen:L.length+ys.length<=1073741824:=by rw[<- List.length_append];exact hLN
 obtain⟨ao,cap,rfl,_⟩:=hy.form
 clear h hy hg hrow hrng
 go_enter Tryz.func6,Tryz.ntmps6
 go_wp2_with (first
  | (at_builtin;refine wpList_append_byt_at _ rfl _ _ rfl (S+1) hv L.length L rfl (uh HH).row (.slice ao ys.length cap) ys rfl (uh HY) (by omega) (by omega) ?_)
  | go_in)
 intro v1 w1 hown1 hgrow1 hv1
 have k1:w1.cell? ⟨S,1,none⟩=some hv:=(World.cell?_of_block (hgrow1.block S hS (fun e=>by have:=(uh HROW) S e.symm;omega))).trans c1
 have fz1:w1.frozen? ⟨S,1,none⟩=false:=(World.frozen?_of_block (hgrow1.block S hS (fun e=>by have:=(uh HROW) S e.symm;omega))).trans (uh HH).f1
 have HST:Hid (Str (w1.setCell ⟨S,1,none⟩ v1) S lim 0 v1 (L++ys)):=(uh HH).put hgrow1 (uh HROW) (by rw[List.length_append,List.map_append];exact hown1) (uh HRNG)
 have HFB:Hid (FB S hv.ownBlock w (w1.setCell ⟨S,1,none⟩ v1)):=(FB.of_grown hgrow1).put v1
 have HV1:Hid (v1.ownBlock=hv.ownBlock\/∀ g,v1.ownBlock=some g->w.heap.size<=g):=by
  rcases hv1 with e | e
  ·exact .inl e
  ·exact .inr (fun g k=>by rw[e]at k;cases k;exact Nat.le_refl _)
 obtain⟨a1,n1,p1,rfl⟩:∃ a1 n1 p1,v1=.slice a1 n1 p1:=by
  rcases hown1.2 with⟨rfl,_⟩ | ⟨g,cap,cur,rfl,_⟩
  ·exact⟨_,_,_,rfl⟩
  ·exact⟨_,_,_,rfl⟩
 clear hown1 hgrow1 hv1
 generalize hM:L++ys=M at HST HRNG hLN |-
 have HMM:=zh hM
 clear hM hlen HH HY
 go_wp2_with fail
 have hS2:S < (w1.setCell ⟨S,1,none⟩ (.slice a1 n1 p1)).heap.size:=cell_lt (uh HST).c0
 generalize w1.setCell ⟨S,1,none⟩ (.slice a1 n1 p1)=w2 at HST HFB hS2 |-
 refine (swhole_any S lim _ M w2 (S+1) (uh HST).row (uh HRNG) (uh HST).c0 (uh HST).c1 hlim hLN).mono ?_
 rintro e w3 ⟨v,n,E,qs,Ps,m,rfl,hn,HSR,hm0,HP3,HE3,hb3⟩
 have HST3:Hid (Str w3 S lim 0 (.slice a1 n1 p1) M):=(uh HST).below hb3
 have HFB3:Hid (FB S hv.ownBlock w w3):=(uh HFB).trans (row':=none) (FB.of_below hb3) (fun g e=>by cases e)
 have HPK:Hid (Pks w3 w.heap.size v qs Ps):=⟨owns_mono (uh HP3).row (uh HFB).size,(uh HP3).len,fun i q P h1 h2=>((uh HP3).mean i q P h1 h2).base (uh HFB).size,(uh HP3).dist⟩
 clear hb3 HST HFB HP3 k1 c1 c2 fz1
 obtain⟨d,hd,hE⟩:=uh HE3
 obtain⟨t,x,rfl⟩:=hE.iface
 have HE:=zh hE
 clear hE HE3
 go_wp2_with fail
 refine (er_Is d hd _ m 3 w3 (uh HE)).mono ?_
 rintro e w4 ⟨rfl,hw4⟩
 obtain rfl:=hw4.symm
 clear hw4
 by_cases hm:m=3
 ·subst hm
  by_cases hn0:n=0
  ·subst hn0
   go_wp2
   go_returns
   show FedTo S lim hv (L++ys) w _ _
   rw[uh HMM]
   exact⟨_,_,qs,Ps,0,3,_,rfl,hn,uh HSR,hm0,uh HPK,.inl ⟨rfl,rfl,uh HST3⟩,uh HV1,uh HFB3⟩
  ·have hS3:S < w3.heap.size:=cell_lt (uh HST3).c0
   have hS3':S+1<=w3.heap.size:=hS3
   obtain⟨g,rfl,rfl⟩:∃ g,a1=some ⟨g,0,none⟩/\n1=M.length:=by
    rcases (uh HST3).row.2 with⟨e,h0⟩ | ⟨g,cap,cur,e,_⟩
    ·omega
    ·cases e
     exact⟨g,rfl,rfl⟩
   obtain⟨hp1,hp2⟩:M.length<=p1/\p1<=maxLen:=by
    obtain⟨_,_,e,k1,k2⟩:=(byt_of_owns (uh HST3).row (uh HRNG)).form
    cases e
    exact⟨k1,k2⟩
   unfold maxLen at hp2
   have HT0:=zh ((byt_of_owns (uh HST3).row (uh HRNG)).drop' n hn)
   have c1:=(uh HST3).c1
   generalize hN:M.length=N at *
   by_cases hpn:p1=n
   ·obtain rfl:N=p1:=by omega
    subst hpn
    have HT:Hid (Byt w3 (.slice (some ⟨g,0,none⟩) 0 0) (M.drop N)):=by
     have k:=uh HT0
     rw[if_pos rfl,Nat.sub_self]at k
     exact k
    clear HT0
    go_wp2_with (first
     | (at_builtin;refine wpList_append_byt_at _ rfl _ _ rfl (S+1) (.slice none 0 0) 0 [] rfl (World.ownsRow_nil _ _ _ _) (.slice (some ⟨g,0,none⟩) 0 0) (M.drop N) rfl (uh HT) (by rw[List.length_drop];omega) hS3' ?_)
     | go_in)
    intro v5 w5 hown5 hgrow5 hv5
    have HG5:=zh hgrow5
    have k1:w5.cell? ⟨S,1,none⟩=some (.slice (some ⟨g,0,none⟩) N N):=(World.cell?_of_block (hgrow5.block S hS3 (fun e=>by cases e))).trans (uh HST3).c1
    have fz1:w5.frozen? ⟨S,1,none⟩=false:=(World.frozen?_of_block (hgrow5.block S hS3 (fun e=>by cases e))).trans (uh HST3).f1
    have HST5:Hid (Str (w5.setCell ⟨S,1,none⟩ v5) S lim 0 v5 (M.drop N)):=(uh HST3).put hgrow5 (fun g e=>by cases e) (by first | (rw[List.length_drop,hN,List.map_drop];exact hown5) | simpa [List.map_drop,hN] using hown5) (drop_rng (uh HRNG) N)
    have HFB5:Hid (FB S hv.ownBlock w (w5.setCell ⟨S,1,none⟩ v5)):=((uh HFB3).trans (FB.of_grown hgrow5) (fun g e=>by cases e)).put v5
    have HV5:Hid (v5.ownBlock=hv.ownBlock\/∀ g,v5.ownBlock=some g->w.heap.size<=g):=by
     rcases hv5 with e | e
     ·exact .inr (fun g k=>by rw[e]at k;cases k)
     ·exact .inr (fun g k=>by rw[e]at k;cases k;exact (uh HFB3).size)
    have HPK5:Hid (Pks (w5.setCell ⟨S,1,none⟩ v5) w.heap.size v qs Ps):=by
     have hb:Below w3.heap.size w3 w5:=⟨hgrow5.os,hgrow5.tape,hgrow5.output,hgrow5.size,fun k hk=>hgrow5.block k hk (fun e=>by cases e)⟩
     have kp:=(uh HPK).below hb
     have hx:=(BX.refl S isAny w5).set 1 v5 trivial
     exact⟨owns_bx kp.row hx hS,kp.len,fun i q P h1 h2=>(kp.mean i q P h1 h2).bx hx hS,kp.dist⟩
    obtain⟨a5,n5,p5,rfl⟩:∃ a1 n1 p1,v5=.slice a1 n1 p1:=by
     rcases hown5.2 with⟨rfl,_⟩ | ⟨g,cap,cur,rfl,_⟩
     ·exact⟨_,_,_,rfl⟩
     ·exact⟨_,_,_,rfl⟩
    clear hown5 hgrow5 hv5 HG5 HFB3 HPK HE
    go_wp2
    go_returns
    show FedTo S lim hv (L++ys) w _ _
    rw[uh HMM]
    exact⟨_,_,qs,Ps,N,3,_,rfl,by rw[hN];exact hn,uh HSR,hm0,uh HPK5,.inl ⟨rfl,rfl,uh HST5⟩,uh HV5,uh HFB5⟩
   ·have HT:Hid (Byt w3 (.slice (some ⟨g,0+n,none⟩) (N - n) (p1 - n)) (M.drop n)):=by
     have k:=uh HT0
     rw[if_neg hpn]at k
     exact k
    rw[Nat.zero_add]at HT
    clear HT0
    go_wp2_with (first
     | (at_builtin;refine wpList_append_byt_at _ rfl _ _ rfl (S+1) (.slice none 0 0) 0 [] rfl (World.ownsRow_nil _ _ _ _) (.slice (some ⟨g,n,none⟩) (N - n) (p1 - n)) (M.drop n) rfl (uh HT) (by rw[List.length_drop];omega) hS3' ?_)
     | go_in)
    intro v5 w5 hown5 hgrow5 hv5
    have HG5:=zh hgrow5
    have k1:w5.cell? ⟨S,1,none⟩=some (.slice (some ⟨g,0,none⟩) N p1):=(World.cell?_of_block (hgrow5.block S hS3 (fun e=>by cases e))).trans (uh HST3).c1
    have fz1:w5.frozen? ⟨S,1,none⟩=false:=(World.frozen?_of_block (hgrow5.block S hS3 (fun e=>by cases e))).trans (uh HST3).f1
    have HST5:Hid (Str (w5.setCell ⟨S,1,none⟩ v5) S lim 0 v5 (M.drop n)):=(uh HST3).put hgrow5 (fun g e=>by cases e) (by first | (rw[List.length_drop,hN,List.map_drop];exact hown5) | simpa [List.map_drop,hN] using hown5) (drop_rng (uh HRNG) n)
    have HFB5:Hid (FB S hv.ownBlock w (w5.setCell ⟨S,1,none⟩ v5)):=((uh HFB3).trans (FB.of_grown hgrow5) (fun g e=>by cases e)).put v5
    have HV5:Hid (v5.ownBlock=hv.ownBlock\/∀ g,v5.ownBlock=some g->w.heap.size<=g):=by
     rcases hv5 with e | e
     ·exact .inr (fun g k=>by rw[e]at k;cases k)
     ·exact .inr (fun g k=>by rw[e]at k;cases k;exact (uh HFB3).size)
    have HPK5:Hid (Pks (w5.setCell ⟨S,1,none⟩ v5) w.heap.size v qs Ps):=by
     have hb:Below w3.heap.size w3 w5:=⟨hgrow5.os,hgrow5.tape,hgrow5.output,hgrow5.size,fun k hk=>hgrow5.block k hk (fun e=>by cases e)⟩
     have kp:=(uh HPK).below hb
     have hx:=(BX.refl S isAny w5).set 1 v5 trivial
     exact⟨owns_bx kp.row hx hS,kp.len,fun i q P h1 h2=>(kp.mean i q P h1 h2).bx hx hS,kp.dist⟩
    obtain⟨a5,n5,p5,rfl⟩:∃ a1 n1 p1,v5=.slice a1 n1 p1:=by
     rcases hown5.2 with⟨rfl,_⟩ | ⟨g,cap,cur,rfl,_⟩
     ·exact⟨_,_,_,rfl⟩
     ·exact⟨_,_,_,rfl⟩
    clear hown5 hgrow5 hv5 HG5 HFB3 HPK HE
    go_wp2
    go_returns
    show FedTo S lim hv (L++ys) w _ _
    rw[uh HMM]
    exact⟨_,_,qs,Ps,n,3,_,rfl,by rw[hN];exact hn,uh HSR,hm0,uh HPK5,.inl ⟨rfl,rfl,uh HST5⟩,uh HV5,uh HFB5⟩
 ·have hm1:(m == 3)=false:=beq_eq_false_iff_ne.2 hm
  have HG3:Hid (Laid w3):=(uh HFB3).laid (uh HG) hS0 (uh HROW)
  have HSF:=zh (sfail_any S d hd _ m 0 _ w3 (uh HG3) (uh HE) (uh HST3).c1 (uh HST3).c2 (uh HST3).f1 (uh HST3).f2)
  go_wp2_with fail
  refine (uh HSF).mono ?_
  rintro e w4 ⟨y,rfl,hE4,k1,k2,hx4⟩
  have hS3:S < w3.heap.size:=cell_lt (uh HST3).c0
  have HST4:Hid (Str w4 S lim m (.slice none 0 0) []):=⟨((uh hx4).cell 0 (by omega)).trans (uh HST3).c0,k1,k2,((uh hx4).frozen 1).trans (uh HST3).f1,((uh hx4).frozen 2).trans (uh HST3).f2,World.ownsRow_nil _ _ _ _,fun j=>by simp⟩
  have HFB4:Hid (FB S hv.ownBlock w w4):=(uh HFB3).trans (row':=none) (FB.of_bx (uh hx4)) (fun g e=>by cases e)
  have HPK4:Hid (Pks w4 w.heap.size v qs Ps):=⟨owns_bx (uh HPK).row (uh hx4) hS,(uh HPK).len,fun i q P h1 h2=>((uh HPK).mean i q P h1 h2).bx (uh hx4) hS,(uh HPK).dist⟩
  have HEB4:Hid (ErB w4 w.heap.size (.iface 62 y) m):=(uh hE4).mono (uh HFB3).size
  clear k1 k2 hx4 HSF
  go_wp2
  go_returns
  show FedTo S lim hv (L++ys) w _ _
  rw[uh HMM]
  exact⟨_,_,qs,Ps,n,m,_,rfl,hn,uh HSR,hm0,uh HPK4,.inr ⟨hm,⟨_,rfl⟩,uh HEB4,uh HST4⟩,.inr (fun g e=>by cases e),uh HFB4⟩
theorem srun_stop {lim:Int} {l:List Int} {Ps:List Pa} {n:Nat} {m k:Int} (h:SRun lim l Ps n m) (hk:snum lim l=k) (h0:k≠0):Ps=[]/\n=0/\m=k:=by
 cases h with
 | stop _ _=>exact⟨rfl,rfl,hk⟩
 | step _ _ _ _ _ _ hz _ _=>exact absurd (hk.symm.trans hz) h0
theorem srun_step {lim:Int} {l r:List Int} {P:Pa} {Ps:List Pa} {n:Nat} {m:Int} (h:SRun lim l Ps n m) (hk:snum lim l=0) (hd:dbody l=some (P,r)):∃ Qs k,Ps=P :: Qs/\n=(meas l).2.1+k/\SRun lim (l.drop (meas l).2.1) Qs k m:=by
 cases h with
 | stop _ hz=>exact absurd hk hz
 | step _ P' r' Qs k e _ hd' hr =>
  rw[hd]at hd'
  simp only[Option.some.injEq,Prod.mk.injEq]at hd'
  obtain⟨rfl,rfl⟩:=hd'
  exact⟨Qs,k,rfl,rfl,hr⟩
def pingP:Pa:=pa0 12 false 0 false
theorem ping1:snum 100 [192]=3:=by decide +kernel
theorem ping2:snum 100 [192,0]=0:=by decide +kernel
theorem ping3:dbody [192,0]=some (pingP,[]):=by kernel_rfl
theorem ping4:(meas [192,0]).2.1=2:=by decide +kernel
theorem end3 (lim:Int) (h:2<=lim):snum lim []=3:=by
 unfold snum
 rw[if_pos (by have:(smeas []).2<=2:=by decide +kernel
               omega)]
 decide +kernel
theorem num5 (v:Value) (n:Int) (w:World) (hg:Laid w) (hv:ErrX w v n):Calls Tryz.prog 7 #[v] w fun e w'=>e=.returned (.int .i64 n)/\Below w.heap.size w w':=by
 have HG:=zh hg
 have HV:=zh hv
 clear hg hv
 go_enter Tryz.func7,Tryz.ntmps7
 go_wp2_with (go_at_call 16;refine (numx v n _ (uh HG) (uh HV)).mono ?_;rintro e w' ⟨rfl,hb⟩)
 go_ret
 exact⟨rfl,hb⟩
theorem num5_nil (w:World):Calls Tryz.prog 7 #[.nilIface] w fun e w'=>e=.returned (.int .i64 0)/\w'=w:=by
 go_enter Tryz.func7,Tryz.ntmps7
 go_wp2_with (go_at_call 16;refine (num_nil _).mono ?_;rintro e w' ⟨rfl,rfl⟩)
 go_ret
 exact⟨rfl,rfl⟩
theorem own0 {w:World} {B:Nat} {e:TypeId} {s:Nat} {v:Value} (h:w.ownsRow B e s v 0 []):∃ ao cap,v=.slice ao 0 cap/\cap<=maxLen:=by
 rcases h.2 with⟨rfl,_⟩ | ⟨g,cap,cur,rfl,_,_,_,h2,_⟩
 ·exact⟨none,0,rfl,by simp⟩
 ·exact⟨_,cap,rfl,h2⟩
theorem rpk_none {w:World} {B:Nat} {q:Pkv} {k:Int} {d:Bool} {x:Int} {r:Bool} (h:Mean w B q (pa0 k d x r)):RPk w q (pa0 k d x r):=by
 refine⟨h.sc,?_,?_,?_,?_,?_,?_,?_⟩
 ·obtain⟨ao,cap,e,hc⟩:=own0 h.props;exact⟨ao,cap,e,.inl rfl⟩
 ·obtain⟨ws,h1,h2,h3⟩:=h.wills
  have:ws=[]:=List.length_eq_zero_iff.1 h2
  subst this
  obtain⟨ao,cap,e,hc⟩:=own0 h1;exact⟨ao,cap,e,⟨Nat.zero_le _,hc⟩,.inl rfl⟩
 ·obtain⟨ao,cap,e,hc⟩:=own0 h.user;exact⟨ao,cap,e,⟨Nat.zero_le _,hc⟩,.inl rfl⟩
 ·obtain⟨ao,cap,e,hc⟩:=own0 h.pass;exact⟨ao,cap,e,⟨Nat.zero_le _,hc⟩,.inl rfl⟩
 ·obtain⟨ao,cap,e,hc⟩:=own0 h.subs;exact⟨ao,cap,e,⟨Nat.zero_le _,hc⟩,.inl rfl⟩
 ·obtain⟨ao,cap,e,hc⟩:=own0 h.filters;exact⟨ao,cap,e,⟨Nat.zero_le _,hc⟩,.inl rfl⟩
 ·obtain⟨ao,cap,e,hc⟩:=own0 h.codes;exact⟨ao,cap,e,⟨Nat.zero_le _,hc⟩,.inl rfl⟩
theorem rpk_zero (w:World) (k:Int) (d:Bool) (x:Int) (r:Bool):RPk w (pk0 k d x r) (pa0 k d x r) :=
 ⟨⟨rfl,rfl,rfl,rfl,rfl,rfl,rfl,rfl,rfl,rfl,rfl,rfl⟩,⟨none,0,rfl,.inl rfl⟩,⟨none,0,rfl,⟨Nat.le_refl _,by simp⟩,.inl rfl⟩,⟨none,0,rfl,⟨Nat.le_refl _,by simp⟩,.inl rfl⟩,⟨none,0,rfl,⟨Nat.le_refl _,by simp⟩,.inl rfl⟩,⟨none,0,rfl,⟨Nat.le_refl _,by simp⟩,.inl rfl⟩,⟨none,0,rfl,⟨Nat.le_refl _,by simp⟩,.inl rfl⟩,⟨none,0,rfl,⟨Nat.le_refl _,by simp⟩,.inl rfl⟩⟩
theorem str_new (w:World) (lim:Int):Str (w.alloc (.cells #[.int .i64 lim,.slice none 0 0,.int .i64 0] 49)) w.heap.size lim 0 (.slice none 0 0) [] :=
 ⟨by simp,by simp,by simp,by simp,by simp,World.ownsRow_nil _ _ _ _,fun j=>by simp⟩
theorem one_byt (x:Int) (h:0<=x/\x<=255) (w:World):Byt (w.alloc (.cells #[.int .u8 x] 5)) (.slice (some ⟨w.heap.size,0,none⟩) 1 1) [x]:=by
 refine⟨_,1,rfl,⟨by simp,by unfold maxLen;simp⟩,?_,.inr ⟨w.heap.size,0,rfl,?_⟩⟩
 ·intro j;rcases j with _ | j <;> simp[h]
 ·intro j hj;rcases j with _ | j
  ·simp
  ·simp at hj
theorem FB.bel {B S:Nat} {row:Option Nat} {w0 w w':World} (h:FB S row w w') (hb:Below B w0 w) (hB:B<=w.heap.size) (hS:B<=S) (hr:∀ g,row=some g->B<=g):Below B w0 w' :=
 ⟨h.os.trans hb.os,h.tape.trans hb.tape,h.output.trans hb.output,Nat.le_trans hb.size h.size,fun k hk=>(h.block k (by omega) (by omega) (fun e=>by have:=hr k e.symm;omega)).trans (hb.block k hk)⟩
theorem wakes5 (w:World) (hg:Laid w):Calls Tryz.prog 11 #[] w fun e w'=>e=.returned (.bool true)/\Below w.heap.size w w':=by
 have hsl:slim 100=100:=by decide
 have HN:=zh (snew_any 100 w)
 rw[hsl]at HN
 have HG:=zh hg
 clear hsl hg
 go_enter Tryz.func11,Tryz.ntmps11
 go_wp2_with fail
 refine (uh HN).mono ?_
 rintro e w1 ⟨rfl,hw1⟩
 have HS1:Hid (Str w1 w.heap.size 100 0 (.slice none 0 0) []):=by rw[hw1];exact str_new w 100
 have HB1:Hid (Below w.heap.size w w1):=by rw[hw1];exact bal _ _
 clear hw1 HN
 have hs1:w.heap.size<=w1.heap.size:=(uh HB1).size
 have HS2:=zh ((uh HS1).below (w':=w1.alloc (.cells #[.int .u8 192] 5)) (bal _ _))
 have HB2:Hid (Below w.heap.size w (w1.alloc (.cells #[.int .u8 192] 5))):=(uh HB1).alloc hs1 _
 have HY2:=zh (one_byt 192 (by decide) w1)
 have HG2:=zh ((uh HG).below (uh HB2) (uh HG).pos)
 clear HS1
 go_wp2_with fail
 refine (sfeed_ok w.heap.size 100 (.slice none 0 0) [] _ [192] _ (uh HG2) (uh HS2) (uh HY2) (by decide) (by decide)).mono ?_
 rintro e w3 ⟨v3,E3,qs3,Ps3,n3,m3,hv3,rfl,-,hrun3,-,hpk3,hres3,hown3,hfb3⟩
 obtain⟨rfl,rfl,rfl⟩:=srun_stop (l:=[192]) hrun3 ping1 (by decide)
 obtain⟨rfl,hst3⟩:E3=.nilIface/\Str w3 w.heap.size 100 0 hv3 [192]:=by
  rcases hres3 with⟨_,h1,h2⟩ | ⟨h1,_⟩
  ·exact⟨h1,h2⟩
  ·exact absurd rfl h1
 obtain⟨ao3,cap3,rfl,-⟩:=own0 (by have h:=hpk3.row;have hl:=hpk3.len;simp at hl;subst hl;exact h)
 have HB3:Hid (Below w.heap.size w w3):=hfb3.bel (uh HB2) (uh HB2).size (Nat.le_refl _) (fun g e=>by cases e)
 have HG3:=zh ((uh HG).below (uh HB3) (uh HG).pos)
 have HS3:=zh hst3
 have HR3:=zh (owns_blk hst3.row)
 clear hrun3 hpk3 hres3 hown3 hfb3 hst3 HS2 HB2 HY2 HG2
 have hs3:w.heap.size<=w3.heap.size:=(uh HB3).size
 have HS4:=zh ((uh HS3).below (w':=w3.alloc (.cells #[.int .u8 0] 5)) (bal _ _))
 have HB4:Hid (Below w.heap.size w (w3.alloc (.cells #[.int .u8 0] 5))):=(uh HB3).alloc hs3 _
 have HY4:=zh (one_byt 0 (by decide) w3)
 have HG4:=zh ((uh HG).below (uh HB4) (uh HG).pos)
 clear HS3 HB3 HG3
 go_wp2_with fail
 refine (sfeed_ok w.heap.size 100 hv3 [192] _ [0] _ (uh HG4) (uh HS4) (uh HY4) (by decide) (by decide)).mono ?_
 rintro e w5 ⟨v5,E5,qs5,Ps5,n5,m5,hv5,rfl,-,hrun5,-,hpk5,hres5,-,hfb5⟩
 obtain⟨Qs,k5,rfl,rfl,hrun6⟩:=srun_step (l:=[192,0]) hrun5 ping2 ping3
 rw[ping4]at hrun6 hres5
 obtain⟨rfl,rfl,rfl⟩:=srun_stop (l:=[]) hrun6 (end3 100 (by decide)) (by decide)
 obtain⟨rfl,hst5⟩:E5=.nilIface/\Str w5 w.heap.size 100 0 hv5 []:=by
  rcases hres5 with⟨_,h1,h2⟩ | ⟨h1,_⟩
  ·exact⟨h1,h2⟩
  ·exact absurd rfl h1
 obtain⟨q,rfl⟩:∃ q,qs5=[q]:=List.length_eq_one_iff.1 hpk5.len
 have hmean:=hpk5.mean 0 q pingP rfl rfl
 have HB5:Hid (Below w.heap.size w w5):=hfb5.bel (uh HB4) (uh HB4).size (Nat.le_refl _) (fun g e=>by have:=(uh HR3) g e;omega)
 have HG5:=zh ((uh HG).below (uh HB5) (uh HG).pos)
 obtain⟨g5,cap5,rfl,hr5⟩:∃ g cap,v5=.slice (some ⟨g,0,none⟩) 1 cap/\w5.rangeAt g 0 q.cells:=by
  have hrow:=hpk5.row
  rcases hrow.2 with⟨_,h0⟩ | ⟨g,cap,cur,rfl,_⟩
  ·simp at h0
  ·refine⟨g,cap,rfl,fun j v hj=>?_⟩
   have hj19:j < 19:=by
    rcases Nat.lt_or_ge j 19 with h | h
    ·exact h
    ·rw[List.getElem?_eq_none (by show 19<=j;exact h)]at hj;cases hj
   have:=hrow.cellAt j (by simp;omega)
   rw[Nat.zero_add]
   rw[this]
   simpa using hj
 obtain⟨aoh,caph,rfl,-⟩:=own0 hst5.row
 have HQ:=zh (rpk_none hmean)
 have HR:=zh hr5
 have c1:=hst5.c1
 have hSl:w.heap.size < w5.heap.size:=cell_lt hst5.c0
 clear hrun5 hrun6 hpk5 hres5 hfb5 hst5 hmean hr5 HS4 HB4 HY4 HG4 HR3 hs3
 have HEQ:Hid (∀ W,Below w5.heap.size w5 W->W.rangeAt w5.heap.size 0 (pk0 12 false 0 false).cells->Calls Tryz.prog 8 #[.slice (some ⟨g5,0,none⟩) 1 cap5,.slice (some ⟨w5.heap.size,0,none⟩) 1 1] W fun e w'=>e=.returned (.bool true)/\Below W.heap.size W w'):=fun W hW hr =>
  eqpks_same g5 0 w5.heap.size 0 1 cap5 1 (fun _=>q) (fun _=>pk0 12 false 0 false) (fun _=>pingP) W (by decide)
   (fun k hk=>by obtain rfl:k=0:=by omega
                 exact⟨range_below (uh HR) hW,(uh HQ).below hW⟩)
   (fun k hk=>by obtain rfl:k=0:=by omega
                 exact⟨hr,rpk_zero W 12 false 0 false⟩)
   (fun k _=>⟨by decide,by decide,by decide⟩)
 go_wp2_with (first | (go_at_call 7;refine (num5_nil _).mono ?_;rintro e w6 ⟨rfl,hw6⟩;obtain rfl:=hw6.symm;clear hw6))
 have HR6:=zh (pk_new w5 (pk0 12 false 0 false)).range
 refine ((uh HEQ) _ (bal _ _) (uh HR6)).mono ?_
 rintro e w7 ⟨rfl,hb7⟩
 have HB7:Hid (Below w5.heap.size w5 w7):=Below.trans (bal _ _) (hb7.mono (by simp))
 have c7:w7.cell? ⟨w.heap.size,1,none⟩=some (.slice aoh 0 caph):=((uh HB7).cell (p:=⟨w.heap.size,1,none⟩) hSl).trans c1
 clear hb7 HEQ HR6 HR HQ c1
 go_wp2_with (first | (go_at_call 9;refine (sheld_any w.heap.size aoh 0 caph _ c7).mono ?_;rintro e w8 ⟨rfl,hw8⟩;obtain rfl:=hw8.symm;clear hw8))
 go_ret
 exact⟨rfl,(uh HB5).trans ((uh HB7).mono (uh HB5).size)⟩
end Go.Proofs.YtccnjdgaldbgnaaGreatDoor.K
