/- Proved here: helpers, one text behind the other. -/
import Derived.Laws.AppendOwn
import Derived.Deep.CutRange
import Derived.Test.YtpheelbbpiieiaaGreatDoorZC32
set_option maxHeartbeats 20000000
namespace Go.Proofs.YtpheelbbpiieiaaGreatDoor.K
open Go.RowKit
set_option maxRecDepth 100000
def Listsfilters (w0:GW) (R A:Nat) (p:Pkv) (st:Option (List Int)) (w:World) (e:Ending) (w':World):Prop :=
 e=.returned (.tuple #[])/\∃ (i:Int) (s:Sl) (x:List Pr) (t:Sl) (d:List ByteArray) (st':Option (List Int)),Pk w' A { p with id:=i,props:=s,filters:=t }/\Hid (w'.ownsRow w.heap.size 109 4 s.val x.length (pcs x))/\Hid (w'.ownsRow w.heap.size 9 1 t.val d.length (d.map Value.string))/\Stp (pglist? p.kind text?) st (i,x,d) st'/\RP w0 w' R st'/\B2 R A w w'
theorem lists_filters (R A:Nat) (p:Pkv) (st:Option (List Int)) (w0:GW) (w:World) (h:RP w0 w R st) (hp:Pk w A p) (hA:A≠R) (hA0:w0.heap.size<=A) (hF:p.filters=⟨none,0,0⟩) (hl:∀ l,st=some l->l.length<=65536) (h10:p.kind=10):Calls Tryz.prog 68 #[.pointer (some ⟨R,0,none⟩),.pointer (some ⟨A,0,none⟩)] w (Listsfilters w0 R A p st w):=by
 obtain⟨i0,hi0,hz0,hz1,hz2⟩:=info_parts infoStr
 have hRw:=h.lt
 have hAw:=hp.lt
 have hw0:=h.keep.size
 have HP:=zh hp
 have HS:=zh h
 have HL:=zh hl
 have HF:=zh hF
 have HK:=zh h10;clear h10
 clear hp h hl hF
 go_enter Tryz.func68,Tryz.ntmps68
 go_wp2_with fail
 refine (pair_pg R st w0 w (uh HS)).mono ?_
 rintro e w1 ⟨i,st1,rfl,hir,hs1,h1,hx1⟩
 have hp1:=(uh HP).oth hx1 hA
 have c5:=hp1.id
 have f5:=hp1.id_f
 have c0:=hp1.kind
 have HP1:=zh (hp1.set_id i)
 have HS1:=zh (h1.set A 5 (.int .i64 i) hA hA0)
 have HB1:Hid (B2 R A w (w1.setCell ⟨A,5,none⟩ (.int .i64 i))):=(B2.bx hx1).set 5 _
 have HST1:=zh hs1
 have HL1:=zh (stp_leq two?_shw hs1 (uh HL))
 clear hp1 h1 hx1 hs1 hir
 go_wp2_with fail
 refine (props_pg R _ st1 w0 _ (uh HS1)).mono ?_
 rintro e w2 ⟨s,x1,st2,rfl,hO2,hs2,h2,hx2⟩
 have hp2:=(uh HP1).oth hx2 hA
 have c7:=hp2.props
 have f7:=hp2.props_f
 have HP2:=zh (hp2.set_props s)
 have HS2:=zh (h2.set A 7 s.val hA hA0)
 have HB2:Hid (B2 R A w (w2.setCell ⟨A,7,none⟩ s.val)):=((uh HB1).trans (B2.bx hx2)).set 7 _
 have HST2:=zh hs2
 have HL2:=zh (stp_leq (props?_shw p.kind) hs2 (uh HL1))
 have HO2:Hid ((w2.setCell ⟨A,7,none⟩ s.val).ownsRow w.heap.size 109 4 s.val x1.length (pcs x1)):=owns_mono (owns_b2 (R:=R) (uh hO2) ((B2.refl R A w2).set 7 _) (Nat.lt_of_lt_of_le hRw (uh HB1).size) (Nat.lt_of_lt_of_le hAw (uh HB1).size)) (uh HB1).size
 clear hp2 h2 hx2 hs2 c5 f5 c0 hO2 HP1 HS1
 go_wp2
 generalize w2.setCell ⟨A,7,none⟩ s.val=wl at HP2 HS2 HB2 HO2 |-
 have hwl:w.heap.size<=wl.heap.size:=(uh HB2).size
 have hlt:R < wl.heap.size:=Nat.lt_of_lt_of_le hRw hwl
 have hla:A < wl.heap.size:=Nat.lt_of_lt_of_le hAw hwl
 have h0w:w0.heap.size<=wl.heap.size:=Nat.le_trans hw0 hwl
 clear c7 f7
 go_loopw [4] (fun n0 wr=>∃ (d:List ByteArray) (st3:Option (List Int)) (t:Sl) (k:Nat),n0=.int .i64 k/\k<=65536/\Hid (d.length=k)/\Hid (∀ l,st3=some l->k+l.length<=65536)/\Hid (Pk wr A { p with id:=i,props:=s,filters:=t })/\Hid (wr.ownsRow wl.heap.size 9 1 t.val k (d.map Value.string))/\Hid (Acc text? st2 d st3)/\Hid (RP w0 wr R st3)/\Hid (B2 R A wl wr)) (fun _ wr=>mlp R wr)
 case atStart =>
  refine⟨[],st2,⟨none,0,0⟩,0,rfl,Nat.zero_le _,rfl,fun l hl=>by have:=(uh HL2) l hl;omega,?_,World.ownsRow_nil _ _ _ _,Acc.start _ _,uh HS2,B2.refl _ _ _⟩
  show Pk _ _ _
  have e:{ p with id:=i,props:=s,filters:=⟨none,0,0⟩ }={ p with id:=i,props:=s }:=by rw[<- uh HF]
  rw[e]
  exact uh HP2
 case round =>
  obtain⟨d,st3,⟨ta,tn,tc⟩,k,rfl,hk,HD,HLN,HPk,HOwn,HAcc,HRP,HBB⟩:=hrel
  go_wp2_with fail
  refine (more_pg R st3 w0 wr (uh HRP)).mono ?_
  rintro e wm ⟨rfl,hbm⟩
  cases hm:moreB st3
  ·have hwlR:R < w.heap.size:=hRw
   have hwlA:A < w.heap.size:=hAw
   have HEND:Hid (∀ b:Bool,(!(i == 0) && mc (k:Nat))=b->∀ W,(if b then W=wm else W=wm.setCell ⟨R,2,none⟩ (.bool true))->Listsfilters w0 R A p st w (.returned (.tuple #[])) W):=by
    intro b hb W hW
    have hO:wm.ownsRow wl.heap.size 9 1 (Sl.val ⟨ta,tn,tc⟩) d.length (d.map Value.string):=by rw[uh HD];exact owns_below (uh HOwn) hbm
    have hst:Stp (pglist? p.kind text?) st (i,x1,d) (if b then st3 else none):=(uh HST1).bind ((uh HST2).bind (((uh HAcc).done (moreB_no hm)).bind ((?_:Stp (mustR (!(i == 0) && mc d.length)) st3 () (if b then st3 else none)).bind (Stp.pure _ _))))
    ·have hBB:=(uh HBB).trans (B2.bel hbm)
     cases b
     ·obtain rfl:W=wm.setCell ⟨R,2,none⟩ (.bool true):=hW
      exact⟨rfl,i,s,x1,⟨ta,tn,tc⟩,d,none,((uh HPk).below hbm).blk (Below.heap_setCell _ _ _ _ hA),owns_b2 (uh HO2) (hBB.setR 2 _) hwlR hwlA,owns_mono (owns_b2 (A:=A) hO ((B2.refl R A wm).setR 2 _) hlt hla) hwl,hst,((uh HRP).below hbm).bad,(uh HB2).trans (hBB.setR 2 _)⟩
     ·obtain rfl:W=wm:=hW
      exact⟨rfl,i,s,x1,⟨ta,tn,tc⟩,d,st3,(uh HPk).below hbm,owns_b2 (uh HO2) hBB hwlR hwlA,owns_mono hO hwl,hst,(uh HRP).below hbm,(uh HB2).trans hBB⟩
    ·rw[uh HD,hb]
     exact Stp.must b st3
   obtain⟨bb,c2m,f2m,_⟩:=((uh HRP).below hbm).c2
   have c5m:=((uh HPk).below hbm).id
   simp only at c5m
   clear hm hbm HD HLN HPk HOwn HAcc HRP HBB
   by_cases hi0:i=0
   ·subst hi0
    go_wp2
    go_end0
    exact uh HEND false rfl _ rfl
   ·have hib:(i == 0)=false:=by simpa using hi0
    by_cases hk0:k=0
    ·subst hk0
     go_wp2
     go_end0
     exact uh HEND false (by rw[hib];rfl) _ rfl
    ·have hkb:((k:Int) == 0)=false:=by simp;omega
     by_cases hk16:16 < k
     ·go_wp2
      go_end0
      exact uh HEND false (by rw[hib];unfold mc;rw[decide_eq_false (show ¬ (k:Int)<=16 by omega)];simp) _ rfl
     ·go_wp2
      go_end0
      exact uh HEND true (by rw[hib];unfold mc;rw[decide_eq_true (show (1:Int)<=k by omega),decide_eq_true (show (k:Int)<=16 by omega)];rfl) _ rfl
  ·obtain⟨l,rfl,hl0⟩:=moreB_yes hm
   have hbd:=bel_drew wm
   have hbm':Below wr.heap.size wr wm.drew:=hbm.trans (hbd.mono hbm.size)
   have HPm:=zh ((uh HPk).below hbm)
   have HRPm:=zh ((uh HRP).below hbm)
   have HBBm:Hid (B2 R A wl wm):=(uh HBB).trans (B2.bel hbm)
   have HOm:Hid (wm.ownsRow wl.heap.size 9 1 (.slice ta tn tc) k (d.map Value.string)):=owns_below (uh HOwn) hbm
   have HPd:=zh ((uh HPk).below hbm')
   have HRPd:=zh ((uh HRP).below hbm')
   have HBBd:Hid (B2 R A wl wm.drew):=(uh HBB).trans (B2.bel hbm')
   have HOd:Hid (wm.drew.ownsRow wl.heap.size 9 1 (.slice ta tn tc) k (d.map Value.string)):=owns_below (uh HOwn) hbm'
   have c0:=(uh HPm).kind
   simp only at c0
   have cF:wm.cell? ⟨A,17,none⟩=some (.slice ta tn tc):=(uh HPm).filters
   rw[uh HK]at c0
   clear hbd hbm hbm' hm HPk HOwn HBB
   go_wp2_with fail
   refine wp_region_noPanic ?_
   refine wp_region_held_drew (S:=fun _=>True) (by kernel_rfl) trivial (fun hHeld=>?_)
   refine rtk 0 (h:=?_)
   refine rtk 1 (h:=?_)
   refine rtk 2 (h:=?_)
   refine rtk 3 (h:=?_)
   refine rtk 5 (h:=?_)
   refine wpAnyH_ready (rs:=[4,6]) (by kernel_rfl) (by simp) ?_
   refine rac (h:=fun K hK=>?ra) (hs:=(rac (h:=fun K hK=>?rb) (hs:=AllReadyH.nil)))
   case' ra =>
    go_simp
    refine hK.out _ _ trivial (fun hHeld=>?_)
    clear hK K
    refine rcl 6 (h:=fun K hK=>?_)
    go_simp
    refine (text_pg R (some l) w0 _ (uh HRPd)).mono ?_
    rintro e w4 ⟨x,st4,rfl,hs4,h4,hx4⟩
    have hp4:=(uh HPd).oth hx4 hA
    have cF4:w4.cell? ⟨A,17,none⟩=some (.slice ta tn tc):=hp4.filters
    have cF5:(w4.alloc (.cells #[.string x] 9)).cell? ⟨A,17,none⟩=some (.slice ta tn tc):=(World.cell?_alloc_lt _ _ ⟨A,17,none⟩ hp4.lt).trans cF4
    have HP4:=zh hp4
    have HRP4:=zh h4
    have HST4:=zh hs4
    have HBB4:Hid (B2 R A wl w4):=(uh HBBd).trans (B2.bx hx4)
    have HO4:Hid (w4.ownsRow wl.heap.size 9 1 (.slice ta tn tc) k (d.map Value.string)):=owns_b2 (A:=A) (uh HOd) (B2.bx hx4) hlt hla
    clear hx4 h4 hs4 hp4 HPd HRPd HBBd HOd
    refine hK.out _ _ trivial (fun hHeld=>?_)
    clear hK K
    refine rcl 7 (h:=fun K hK=>?_)
    go_simp
    refine hK.out _ _ trivial (fun hHeld=>?_)
    clear hK K
   case' rb =>
    go_simp
    refine (text_pg R (some l) w0 _ (uh HRPd)).mono ?_
    rintro e w4 ⟨x,st4,rfl,hs4,h4,hx4⟩
    have hp4:=(uh HPd).oth hx4 hA
    have cF4:w4.cell? ⟨A,17,none⟩=some (.slice ta tn tc):=hp4.filters
    have cF5:(w4.alloc (.cells #[.string x] 9)).cell? ⟨A,17,none⟩=some (.slice ta tn tc):=(World.cell?_alloc_lt _ _ ⟨A,17,none⟩ hp4.lt).trans cF4
    have HP4:=zh hp4
    have HRP4:=zh h4
    have HST4:=zh hs4
    have HBB4:Hid (B2 R A wl w4):=(uh HBBd).trans (B2.bx hx4)
    have HO4:Hid (w4.ownsRow wl.heap.size 9 1 (.slice ta tn tc) k (d.map Value.string)):=owns_b2 (A:=A) (uh HOd) (B2.bx hx4) hlt hla
    clear hx4 h4 hs4 hp4 HPd HRPd HBBd HOd
    refine hK.out _ _ trivial (fun hHeld=>?_)
    clear hK K
    refine wpAnyH_ready (rs:=[4,7]) (by kernel_rfl) (by simp) ?_
    refine rac (h:=fun K hK=>?rc) (hs:=(rac (h:=fun K hK=>?rd) (hs:=AllReadyH.nil)))
    case' rc =>
     go_simp
     refine hK.out _ _ trivial (fun hHeld=>?_)
     clear hK K
     refine rcl 7 (h:=fun K hK=>?_)
     go_simp
     refine hK.out _ _ trivial (fun hHeld=>?_)
     clear hK K
    case' rd =>
     go_simp
     refine hK.out _ _ trivial (fun hHeld=>?_)
     clear hK K
     refine rcl 4 (h:=fun K hK=>?_)
     go_simp
     refine hK.out _ _ trivial (fun hHeld=>?_)
     clear hK K
   all_goals (
    have hsz4:wl.heap.size<=w4.heap.size:=(uh HBB4).size
    refine rcl 8 (h:=fun K hK=>?_)
    refine step_append_run (Z:=fun v' w'=>w'.ownsRow wl.heap.size 9 1 v' (k+1) ((d.map Value.string)++[.string x])/\(w4.alloc (.cells #[.string x] 9)).grownBy w' (Value.slice ta tn tc).ownBlock) rfl _ _ 25 rfl (.slice ta tn tc) (.slice (some ⟨w4.heap.size,0,none⟩) 1 1) rfl rfl ?hr ?_
    case hr =>
     obtain⟨v6,w6,h1,h2,h3,_⟩:=run_append_own (P:=Tryz.prog) (w:=(w4.alloc (.cells #[.string x] 9))) wl.heap.size 25 25 9 i0 _ 1 16 Tryz.underlying25 hi0 hz0 hz1 hz2 rfl (by decide) (.slice ta tn tc) k _ ((uh HO4).alloc _) ⟨w4.heap.size,0,none⟩ 1 1 [.string x] rfl (one_cell _ _ _) (one_str _) (by unfold maxLen;omega) (by omega) (by simp;omega)
     exact⟨v6,w6,h1,h2,h3⟩
    rintro v6 w6 ⟨hO6,hg6⟩
    have hrow:∀ g,(Value.slice ta tn tc).ownBlock=some g->wl.heap.size<=g/\g < w4.heap.size:=fun g hg=>(uh HO4).lt g hg
    have hrR:(Value.slice ta tn tc).ownBlock≠some R:=fun e=>by have:=(hrow R e).1;omega
    have hrA:(Value.slice ta tn tc).ownBlock≠some A:=fun e=>by have:=(hrow A e).1;omega
    have HP6:Hid (Pk w6 A { p with id:=i,props:=s,filters:=⟨ta,tn,tc⟩ }):=((uh HP4).below (bal _ _)).grown hg6 hrA
    have HRP6:Hid (RP w0 w6 R st4):=((uh HRP4).below (bal _ _)).grown hg6 hrR (fun g hg=>Nat.le_trans h0w (hrow g hg).1)
    have HBB6:Hid (B2 R A wl w6):=((uh HBB4).trans (B2.bel (bal _ _))).grown hg6 (fun g hg=>(hrow g hg).1)
    obtain⟨⟨sa,sn,sc⟩,hv6,_⟩:=owns_sl hO6
    have hv6:v6=.slice sa sn sc:=hv6
    subst hv6
    have HO6:=zh hO6
    have cF6:w6.cell? ⟨A,17,none⟩=some (.slice ta tn tc):=(uh HP6).filters
    have fF6:w6.frozen? ⟨A,17,none⟩=false:=(uh HP6).filters_f
    clear hO6 hg6 hrow cF4 cF5 HP4 HRP4 HBB4
    refine hK.out _ _ trivial (fun hHeld=>?_)
    clear hK K
    simp only[Act.put,List.setIfInBounds_toArray,List.set_cons_zero,List.set_cons_succ]
    refine rtk 9 (h:=?_)
    refine rtk 10 (h:=?_)
    refine rcl 11 (h:=fun K hK=>?_)
    go_simp
    refine hK.out _ _ trivial (fun hHeld=>?_)
    clear hK K
    refine wpAnyH_done (by kernel_rfl) ?_ _
    refine NoPanic.normal ?_
    have HRP7:Hid (RP w0 (w6.setCell ⟨A,17,none⟩ (.slice sa sn sc)) R st4):=(uh HRP6).set A 17 _ hA hA0
    have HP7:Hid (Pk (w6.setCell ⟨A,17,none⟩ (.slice sa sn sc)) A { p with id:=i,props:=s,filters:=⟨sa,sn,sc⟩ }):=(uh HP6).set_filters ⟨sa,sn,sc⟩
    have HBB7:Hid (B2 R A wl (w6.setCell ⟨A,17,none⟩ (.slice sa sn sc))):=(uh HBB6).set 17 _
    have HO7:Hid ((w6.setCell ⟨A,17,none⟩ (.slice sa sn sc)).ownsRow wl.heap.size 9 1 (.slice sa sn sc) (k+1) ((d++[x]).map Value.string)):=by
     show World.ownsRow _ _ _ _ _ _ _
     rw[show ((d++[x]).map Value.string)=(d.map Value.string)++[.string x] from by simp]
     exact owns_b2 (R:=R) (uh HO6) ((B2.refl R A w6).set 17 _) hlt hla
    have HA7:Hid (Acc text? st2 (d++[x]) st4):=(uh HAcc).step text?_shr (uh HST4) hl0
    have HB7:Hid (∀ l',st4=some l'->(k+1)+l'.length<=65536):=by
     intro l' hl'
     subst hl'
     have h2:=stp_len text?_shr (uh HST4)
     have h3:=(uh HLN) l rfl
     omega
    have hM:mlp R (w6.setCell ⟨A,17,none⟩ (.slice sa sn sc)) < mlp R wr:=by
     rw[mlp_some (uh HRP)]
     cases st4 with
     | none=>rw[mlp_none (uh HRP7)];omega
     | some l' =>
      rw[mlp_some (uh HRP7)]
      have:=stp_len text?_shr (uh HST4)
      omega
    have hk1:k+1<=65536:=by
     have h3:=(uh HLN) l rfl
     have:=List.length_pos_iff.2 hl0
     omega
    have HD7:Hid ((d++[x]).length=k+1):=by show _=_;rw[List.length_append,uh HD];rfl
    clear HRP6 HP6 HBB6 HO6 cF6 fF6
    go_wp2
    go_roundw
    case rel=>exact⟨d++[x],st4,⟨sa,sn,sc⟩,k+1,by go_num,hk1,HD7,HB7,HP7,HO7,HA7,HRP7,HBB7⟩
    case measure=>exact hM)
def Listssubs (w0:GW) (R A:Nat) (p:Pkv) (st:Option (List Int)) (w:World) (e:Ending) (w':World):Prop :=
 e=.returned (.tuple #[])/\∃ (i:Int) (s:Sl) (x:List Pr) (t:Sl) (d:List Sb) (st':Option (List Int)),Pk w' A { p with id:=i,props:=s,subs:=t }/\Hid (w'.ownsRow w.heap.size 109 4 s.val x.length (pcs x))/\Hid (w'.ownsRow w.heap.size 114 5 t.val d.length (scs d))/\Stp (pglist? p.kind sub?) st (i,x,d) st'/\RP w0 w' R st'/\B2 R A w w'
theorem lists_subs (R A:Nat) (p:Pkv) (st:Option (List Int)) (w0:GW) (w:World) (h:RP w0 w R st) (hp:Pk w A p) (hA:A≠R) (hA0:w0.heap.size<=A) (hF:p.subs=⟨none,0,0⟩) (hl:∀ l,st=some l->l.length<=65536) (h8:p.kind=8):Calls Tryz.prog 68 #[.pointer (some ⟨R,0,none⟩),.pointer (some ⟨A,0,none⟩)] w (Listssubs w0 R A p st w):=by
 obtain⟨i0,hi0,hz0,hz1,hz2⟩:=info_parts infoSub
 have hRw:=h.lt
 have hAw:=hp.lt
 have hw0:=h.keep.size
 have HP:=zh hp
 have HS:=zh h
 have HL:=zh hl
 have HF:=zh hF
 have HK:=zh h8;clear h8
 clear hp h hl hF
 go_enter Tryz.func68,Tryz.ntmps68
 go_wp2_with fail
 refine (pair_pg R st w0 w (uh HS)).mono ?_
 rintro e w1 ⟨i,st1,rfl,hir,hs1,h1,hx1⟩
 have hp1:=(uh HP).oth hx1 hA
 have c5:=hp1.id
 have f5:=hp1.id_f
 have c0:=hp1.kind
 have HP1:=zh (hp1.set_id i)
 have HS1:=zh (h1.set A 5 (.int .i64 i) hA hA0)
 have HB1:Hid (B2 R A w (w1.setCell ⟨A,5,none⟩ (.int .i64 i))):=(B2.bx hx1).set 5 _
 have HST1:=zh hs1
 have HL1:=zh (stp_leq two?_shw hs1 (uh HL))
 clear hp1 h1 hx1 hs1 hir
 go_wp2_with fail
 refine (props_pg R _ st1 w0 _ (uh HS1)).mono ?_
 rintro e w2 ⟨s,x1,st2,rfl,hO2,hs2,h2,hx2⟩
 have hp2:=(uh HP1).oth hx2 hA
 have c7:=hp2.props
 have f7:=hp2.props_f
 have HP2:=zh (hp2.set_props s)
 have HS2:=zh (h2.set A 7 s.val hA hA0)
 have HB2:Hid (B2 R A w (w2.setCell ⟨A,7,none⟩ s.val)):=((uh HB1).trans (B2.bx hx2)).set 7 _
 have HST2:=zh hs2
 have HL2:=zh (stp_leq (props?_shw p.kind) hs2 (uh HL1))
 have HO2:Hid ((w2.setCell ⟨A,7,none⟩ s.val).ownsRow w.heap.size 109 4 s.val x1.length (pcs x1)):=owns_mono (owns_b2 (R:=R) (uh hO2) ((B2.refl R A w2).set 7 _) (Nat.lt_of_lt_of_le hRw (uh HB1).size) (Nat.lt_of_lt_of_le hAw (uh HB1).size)) (uh HB1).size
 clear hp2 h2 hx2 hs2 c5 f5 c0 hO2 HP1 HS1
 go_wp2
 generalize w2.setCell ⟨A,7,none⟩ s.val=wl at HP2 HS2 HB2 HO2 |-
 have hwl:w.heap.size<=wl.heap.size:=(uh HB2).size
 have hlt:R < wl.heap.size:=Nat.lt_of_lt_of_le hRw hwl
 have hla:A < wl.heap.size:=Nat.lt_of_lt_of_le hAw hwl
 have h0w:w0.heap.size<=wl.heap.size:=Nat.le_trans hw0 hwl
 clear c7 f7
 go_loopw [4] (fun n0 wr=>∃ (d:List Sb) (st3:Option (List Int)) (t:Sl) (k:Nat),n0=.int .i64 k/\k<=65536/\Hid (d.length=k)/\Hid (∀ l,st3=some l->k+l.length<=65536)/\Hid (Pk wr A { p with id:=i,props:=s,subs:=t })/\Hid (wr.ownsRow wl.heap.size 114 5 t.val k (scs d))/\Hid (Acc sub? st2 d st3)/\Hid (RP w0 wr R st3)/\Hid (B2 R A wl wr)) (fun _ wr=>mlp R wr)
 case atStart =>
  refine⟨[],st2,⟨none,0,0⟩,0,rfl,Nat.zero_le _,rfl,fun l hl=>by have:=(uh HL2) l hl;omega,?_,World.ownsRow_nil _ _ _ _,Acc.start _ _,uh HS2,B2.refl _ _ _⟩
  show Pk _ _ _
  have e:{ p with id:=i,props:=s,subs:=⟨none,0,0⟩ }={ p with id:=i,props:=s }:=by rw[<- uh HF]
  rw[e]
  exact uh HP2
 case round =>
  obtain⟨d,st3,⟨ta,tn,tc⟩,k,rfl,hk,HD,HLN,HPk,HOwn,HAcc,HRP,HBB⟩:=hrel
  go_wp2_with fail
  refine (more_pg R st3 w0 wr (uh HRP)).mono ?_
  rintro e wm ⟨rfl,hbm⟩
  cases hm:moreB st3
  ·have hwlR:R < w.heap.size:=hRw
   have hwlA:A < w.heap.size:=hAw
   have HEND:Hid (∀ b:Bool,(!(i == 0) && mc (k:Nat))=b->∀ W,(if b then W=wm else W=wm.setCell ⟨R,2,none⟩ (.bool true))->Listssubs w0 R A p st w (.returned (.tuple #[])) W):=by
    intro b hb W hW
    have hO:wm.ownsRow wl.heap.size 114 5 (Sl.val ⟨ta,tn,tc⟩) d.length (scs d):=by rw[uh HD];exact owns_below (uh HOwn) hbm
    have hst:Stp (pglist? p.kind sub?) st (i,x1,d) (if b then st3 else none):=(uh HST1).bind ((uh HST2).bind (((uh HAcc).done (moreB_no hm)).bind ((?_:Stp (mustR (!(i == 0) && mc d.length)) st3 () (if b then st3 else none)).bind (Stp.pure _ _))))
    ·have hBB:=(uh HBB).trans (B2.bel hbm)
     cases b
     ·obtain rfl:W=wm.setCell ⟨R,2,none⟩ (.bool true):=hW
      exact⟨rfl,i,s,x1,⟨ta,tn,tc⟩,d,none,((uh HPk).below hbm).blk (Below.heap_setCell _ _ _ _ hA),owns_b2 (uh HO2) (hBB.setR 2 _) hwlR hwlA,owns_mono (owns_b2 (A:=A) hO ((B2.refl R A wm).setR 2 _) hlt hla) hwl,hst,((uh HRP).below hbm).bad,(uh HB2).trans (hBB.setR 2 _)⟩
     ·obtain rfl:W=wm:=hW
      exact⟨rfl,i,s,x1,⟨ta,tn,tc⟩,d,st3,(uh HPk).below hbm,owns_b2 (uh HO2) hBB hwlR hwlA,owns_mono hO hwl,hst,(uh HRP).below hbm,(uh HB2).trans hBB⟩
    ·rw[uh HD,hb]
     exact Stp.must b st3
   obtain⟨bb,c2m,f2m,_⟩:=((uh HRP).below hbm).c2
   have c5m:=((uh HPk).below hbm).id
   simp only at c5m
   clear hm hbm HD HLN HPk HOwn HAcc HRP HBB
   by_cases hi0:i=0
   ·subst hi0
    go_wp2
    go_end0
    exact uh HEND false rfl _ rfl
   ·have hib:(i == 0)=false:=by simpa using hi0
    by_cases hk0:k=0
    ·subst hk0
     go_wp2
     go_end0
     exact uh HEND false (by rw[hib];rfl) _ rfl
    ·have hkb:((k:Int) == 0)=false:=by simp;omega
     by_cases hk16:16 < k
     ·go_wp2
      go_end0
      exact uh HEND false (by rw[hib];unfold mc;rw[decide_eq_false (show ¬ (k:Int)<=16 by omega)];simp) _ rfl
     ·go_wp2
      go_end0
      exact uh HEND true (by rw[hib];unfold mc;rw[decide_eq_true (show (1:Int)<=k by omega),decide_eq_true (show (k:Int)<=16 by omega)];rfl) _ rfl
  ·obtain⟨l,rfl,hl0⟩:=moreB_yes hm
   have hbd:=bel_drew wm
   have hbm':Below wr.heap.size wr wm.drew:=hbm.trans (hbd.mono hbm.size)
   have HPm:=zh ((uh HPk).below hbm)
   have HRPm:=zh ((uh HRP).below hbm)
   have HBBm:Hid (B2 R A wl wm):=(uh HBB).trans (B2.bel hbm)
   have HOm:Hid (wm.ownsRow wl.heap.size 114 5 (.slice ta tn tc) k (scs d)):=owns_below (uh HOwn) hbm
   have HPd:=zh ((uh HPk).below hbm')
   have HRPd:=zh ((uh HRP).below hbm')
   have HBBd:Hid (B2 R A wl wm.drew):=(uh HBB).trans (B2.bel hbm')
   have HOd:Hid (wm.drew.ownsRow wl.heap.size 114 5 (.slice ta tn tc) k (scs d)):=owns_below (uh HOwn) hbm'
   have c0:=(uh HPm).kind
   simp only at c0
   have cF:wm.cell? ⟨A,16,none⟩=some (.slice ta tn tc):=(uh HPm).subs
   rw[uh HK]at c0
   clear hbd hbm hbm' hm HPk HOwn HBB
   go_wp2_with fail
   refine (text_pg R (some l) w0 _ (uh HRPm)).mono ?_
   rintro e wa ⟨f,sta,rfl,hsa,ha,hxa⟩
   have hpa:=(uh HPm).oth hxa hA
   have HPa:=zh hpa
   have HRPa:=zh ha
   have HSTa:=zh hsa
   have HBBa:Hid (B2 R A wl wa):=(uh HBBm).trans (B2.bx hxa)
   have HOa:Hid (wa.ownsRow wl.heap.size 114 5 (.slice ta tn tc) k (scs d)):=owns_b2 (A:=A) (uh HOm) (B2.bx hxa) hlt hla
   clear hxa ha hsa hpa HPm HRPm HBBm HOm
   go_wp2_with fail
   refine (byte_pg R sta w0 _ ((uh HRPa).below (bal _ _))).mono ?_
   rintro e wb ⟨o,stb,rfl,ho,hsb,hb,hxb⟩
   have hV:wa.heap.size < wb.heap.size:=by have:=hxb.size;simp at this;omega
   have hRV:R < wa.heap.size:=(uh HRPa).lt
   have hAV:A < wa.heap.size:=(uh HPa).lt
   have v0:=hxb.far (p:=⟨wa.heap.size,0,none⟩) (v:=.string f) (by simp) (by simp;omega)
   have v1:=hxb.far (p:=⟨wa.heap.size,1,none⟩) (v:=.int .i64 0) (by simp) (by simp;omega)
   have v2:=hxb.far (p:=⟨wa.heap.size,2,none⟩) (v:=.bool false) (by simp) (by simp;omega)
   have v3:=hxb.far (p:=⟨wa.heap.size,3,none⟩) (v:=.bool false) (by simp) (by simp;omega)
   have v4:=hxb.far (p:=⟨wa.heap.size,4,none⟩) (v:=.int .i64 0) (by simp) (by simp;omega)
   have g:∀ j,wb.frozen? ⟨wa.heap.size,j,none⟩=false:=fun j=>(hxb.frz (p:=⟨wa.heap.size,j,none⟩) (by simp) (by simp;omega)).trans (by simp)
   have g1:=g 1
   have g2:=g 2
   have g3:=g 3
   have g4:=g 4
   clear g
   have e3:=and3 o ho.1 ho.2
   have e4:=and4 o ho.1 ho.2
   have e8:=and8 o ho.1 ho.2
   have es:=sh4 o ho.1 ho.2
   have hpb:=((uh HPa).below (bal _ _)).oth hxb hA
   have HPb:=zh hpb
   have HRPb:=zh hb
   have HSTb:=zh hsb
   have HBBb:Hid (B2 R A wl wb):=((uh HBBa).trans (B2.bel (bal _ _))).trans (B2.bx hxb)
   have hVl:wl.heap.size<=wa.heap.size:=(uh HBBa).size
   have hVrow:∀ g,(Value.slice ta tn tc).ownBlock=some g->g≠wa.heap.size:=fun g hg=>by have:=((uh HOa).lt g hg).2;omega
   have HOb:Hid (wb.ownsRow wl.heap.size 114 5 (.slice ta tn tc) k (scs d)):=owns_b2 (A:=A) ((uh HOa).alloc _) (B2.bx hxb) hlt hla
   clear hxb hb hsb hpb HPa HRPa HBBa HOa HPd HRPd HBBd HOd
   have hV0:w0.heap.size<=wa.heap.size:=Nat.le_trans h0w hVl
   generalize wa.heap.size=V at hV hRV hAV v0 v1 v2 v3 v4 g1 g2 g3 g4 hVl hVrow hV0 |-
   go_upto_region 14 with fail
   have hVR:V≠R:=by omega
   have hVA:V≠A:=by omega
   have x0:((((wb.setCell ⟨V,1,none⟩ (.int .i64 (o % 4))).setCell ⟨V,2,none⟩ (.bool (btest o 4))).setCell ⟨V,3,none⟩ (.bool (btest o 8))).setCell ⟨V,4,none⟩ (.int .i64 (o / 16))).cell? ⟨V,0,none⟩=some (.string f):=by simp (maxDischargeDepth:=12) [cell_set,v0]
   have x1c:((((wb.setCell ⟨V,1,none⟩ (.int .i64 (o % 4))).setCell ⟨V,2,none⟩ (.bool (btest o 4))).setCell ⟨V,3,none⟩ (.bool (btest o 8))).setCell ⟨V,4,none⟩ (.int .i64 (o / 16))).cell? ⟨V,1,none⟩=some (.int .i64 (o % 4)):=by simp (maxDischargeDepth:=12) [cell_set,v1]
   have x2:((((wb.setCell ⟨V,1,none⟩ (.int .i64 (o % 4))).setCell ⟨V,2,none⟩ (.bool (btest o 4))).setCell ⟨V,3,none⟩ (.bool (btest o 8))).setCell ⟨V,4,none⟩ (.int .i64 (o / 16))).cell? ⟨V,2,none⟩=some (.bool (btest o 4)):=by simp (maxDischargeDepth:=12) [cell_set,v2]
   have x3:((((wb.setCell ⟨V,1,none⟩ (.int .i64 (o % 4))).setCell ⟨V,2,none⟩ (.bool (btest o 4))).setCell ⟨V,3,none⟩ (.bool (btest o 8))).setCell ⟨V,4,none⟩ (.int .i64 (o / 16))).cell? ⟨V,3,none⟩=some (.bool (btest o 8)):=by simp (maxDischargeDepth:=12) [cell_set,v3]
   have x4:((((wb.setCell ⟨V,1,none⟩ (.int .i64 (o % 4))).setCell ⟨V,2,none⟩ (.bool (btest o 4))).setCell ⟨V,3,none⟩ (.bool (btest o 8))).setCell ⟨V,4,none⟩ (.int .i64 (o / 16))).cell? ⟨V,4,none⟩=some (.int .i64 (o / 16)):=by simp (maxDischargeDepth:=12) [cell_set,v4]
   have HRPc:Hid (RP w0 ((((wb.setCell ⟨V,1,none⟩ (.int .i64 (o % 4))).setCell ⟨V,2,none⟩ (.bool (btest o 4))).setCell ⟨V,3,none⟩ (.bool (btest o 8))).setCell ⟨V,4,none⟩ (.int .i64 (o / 16))) R stb):=((((uh HRPb).set V 1 _ hVR hV0).set V 2 _ hVR hV0).set V 3 _ hVR hV0).set V 4 _ hVR hV0
   have HPc:Hid (Pk ((((wb.setCell ⟨V,1,none⟩ (.int .i64 (o % 4))).setCell ⟨V,2,none⟩ (.bool (btest o 4))).setCell ⟨V,3,none⟩ (.bool (btest o 8))).setCell ⟨V,4,none⟩ (.int .i64 (o / 16))) A { p with id:=i,props:=s,subs:=⟨ta,tn,tc⟩ }):=((((uh HPb).blk (Below.heap_setCell _ _ _ _ (fun e=>hVA e.symm))).blk (Below.heap_setCell _ _ _ _ (fun e=>hVA e.symm))).blk (Below.heap_setCell _ _ _ _ (fun e=>hVA e.symm))).blk (Below.heap_setCell _ _ _ _ (fun e=>hVA e.symm))
   have HBBc:Hid (B2 R A wl ((((wb.setCell ⟨V,1,none⟩ (.int .i64 (o % 4))).setCell ⟨V,2,none⟩ (.bool (btest o 4))).setCell ⟨V,3,none⟩ (.bool (btest o 8))).setCell ⟨V,4,none⟩ (.int .i64 (o / 16)))):=((((uh HBBb).setOut V 1 _ hVl).setOut V 2 _ hVl).setOut V 3 _ hVl).setOut V 4 _ hVl
   have HOc:Hid (((((wb.setCell ⟨V,1,none⟩ (.int .i64 (o % 4))).setCell ⟨V,2,none⟩ (.bool (btest o 4))).setCell ⟨V,3,none⟩ (.bool (btest o 8))).setCell ⟨V,4,none⟩ (.int .i64 (o / 16))).ownsRow wl.heap.size 114 5 (.slice ta tn tc) k (scs d)):=owns_ne (owns_ne (owns_ne (owns_ne (uh HOb) hVrow) hVrow) hVrow) hVrow
   clear v0 v1 v2 v3 v4 g1 g2 g3 g4 e3 e4 e8 es HRPb HPb HBBb HOb
   generalize ((((wb.setCell ⟨V,1,none⟩ (.int .i64 (o % 4))).setCell ⟨V,2,none⟩ (.bool (btest o 4))).setCell ⟨V,3,none⟩ (.bool (btest o 8))).setCell ⟨V,4,none⟩ (.int .i64 (o / 16)))=wz at x0 x1c x2 x3 x4 HRPc HPc HBBc HOc |-
   have HOK:Hid (opk (o % 4) (o / 16)=!((o % 4 == 3) || decide (2 < o / 16))):=byte_cases (P:=fun o=>opk (o % 4) (o / 16)=!((o % 4 == 3) || decide (2 < o / 16))) (by decide +kernel) o ho.1 ho.2
   go_cut [68] from 21 to 94 (fun s68 wx=>s68=.bool (!opk (o % 4) (o / 16))/\wx=wz)
   case first =>
    cases hq3:(o % 4 == 3)
    ·cases hq4:decide (2 < o / 16)
     ·have hq5:¬ 2 < o / 16:=of_decide_eq_false hq4
      go_wp2
      go_meet
      case rel=>exact⟨by rw[uh HOK,hq3,hq4];rfl,rfl⟩
     ·have hq5:2 < o / 16:=of_decide_eq_true hq4
      go_wp2
      go_meet
      case rel=>exact⟨by rw[uh HOK,hq3,hq4];rfl,rfl⟩
    ·go_wp2
     go_meet
     case rel=>exact⟨by rw[uh HOK,hq3];rfl,rfl⟩
   case rest =>
   obtain⟨rfl,hwz⟩:=hcut
   obtain rfl:wc=wz:=hwz
   have HSTs:∀ b,opk (o % 4) (o / 16)=b->Hid (Stp sub? (some l) (sbOf f o) (if b then stb else none)):=fun b hb=>(uh HSTa).bind ((uh HSTb).bind ((show Stp (mustR (opk (o % 4) (o / 16))) stb () (if b then stb else none) from by rw[hb];exact Stp.must b stb).bind (Stp.pure _ _)))
   obtain⟨bb,c2m,f2m,_⟩:=(uh HRPc).c2
   go_upto_if 68 with fail
   go_cut [] from 21 to 94 (fun wx=>∃ st4,Hid (Stp sub? (some l) (sbOf f o) st4)/\Hid (RP w0 wx R st4)/\Hid (Pk wx A { p with id:=i,props:=s,subs:=⟨ta,tn,tc⟩ })/\Hid (B2 R A wl wx)/\Hid (wx.ownsRow wl.heap.size 114 5 (.slice ta tn tc) k (scs d))/\Hid (wx.cell? ⟨V,0,none⟩=some (.string f)/\wx.cell? ⟨V,1,none⟩=some (.int .i64 (o % 4))/\wx.cell? ⟨V,2,none⟩=some (.bool (btest o 4))/\wx.cell? ⟨V,3,none⟩=some (.bool (btest o 8))/\wx.cell? ⟨V,4,none⟩=some (.int .i64 (o / 16))))
   case first =>
    cases hb:opk (o % 4) (o / 16)
    ·have HSTe:=HSTs false hb
     go_wp2
     go_meet
     case rel=>exact⟨none,HSTe,(uh HRPc).bad,(uh HPc).blk (Below.heap_setCell _ _ _ _ hA),(uh HBBc).setR 2 _,owns_b2 (A:=A) (uh HOc) ((B2.refl R A wc).setR 2 _) hlt hla,(World.cell?_setCell_other _ _ _ _ (by intro e;injection e with e1;exact hVR e1.symm)).trans x0,(World.cell?_setCell_other _ _ _ _ (by intro e;injection e with e1;exact hVR e1.symm)).trans x1c,(World.cell?_setCell_other _ _ _ _ (by intro e;injection e with e1;exact hVR e1.symm)).trans x2,(World.cell?_setCell_other _ _ _ _ (by intro e;injection e with e1;exact hVR e1.symm)).trans x3,(World.cell?_setCell_other _ _ _ _ (by intro e;injection e with e1;exact hVR e1.symm)).trans x4⟩
    ·have HSTe:=HSTs true hb
     go_wp2
     go_meet
     case rel=>exact⟨stb,HSTe,HRPc,HPc,HBBc,HOc,x0,x1c,x2,x3,x4⟩
   case rest =>
   obtain⟨st4,HST4,HRP4,HP4,HBB4,HO4,HVv⟩:=hcut
   obtain⟨y0,y1,y2,y3,y4⟩:=uh HVv
   have cF4:wc.cell? ⟨A,16,none⟩=some (.slice ta tn tc):=(uh HP4).subs
   have cF5:(wc.alloc (.cells #[.string f,.int .i64 (o % 4),.bool (btest o 4),.bool (btest o 8),.int .i64 (o / 16)] 114)).cell? ⟨A,16,none⟩=some (.slice ta tn tc):=(World.cell?_alloc_lt _ _ ⟨A,16,none⟩ (uh HP4).lt).trans cF4
   clear HVv x0 x1c x2 x3 x4 HRPc HPc HBBc HOc c2m f2m HSTs HSTa HSTb cF c0
   go_wp2_with fail
   refine wp_region_noPanic ?_
   refine wp_region_held_drew (S:=fun _=>True) (by kernel_rfl) trivial (fun hHeld=>?_)
   refine rtk 0 (h:=?_)
   refine rtk 1 (h:=?_)
   refine rtk 2 (h:=?_)
   refine rtk 3 (h:=?_)
   refine wpAnyH_ready (rs:=[4,5]) (by kernel_rfl) (by simp) ?_
   refine rac (h:=fun K hK=>?ra) (hs:=(rac (h:=fun K hK=>?rb) (hs:=AllReadyH.nil)))
   case' ra =>
    go_simp
    refine hK.out _ _ trivial (fun hHeld=>?_)
    clear hK K
    refine rcl 5 (h:=fun K hK=>?_)
    go_simp
    refine hK.out _ _ trivial (fun hHeld=>?_)
    clear hK K
    refine rcl 6 (h:=fun K hK=>?_)
    go_simp
    refine hK.out _ _ trivial (fun hHeld=>?_)
    clear hK K
   case' rb =>
    go_simp
    refine hK.out _ _ trivial (fun hHeld=>?_)
    clear hK K
    refine wpAnyH_ready (rs:=[4,6]) (by kernel_rfl) (by simp) ?_
    refine rac (h:=fun K hK=>?rc) (hs:=(rac (h:=fun K hK=>?rd) (hs:=AllReadyH.nil)))
    case' rc =>
     go_simp
     refine hK.out _ _ trivial (fun hHeld=>?_)
     clear hK K
     refine rcl 6 (h:=fun K hK=>?_)
     go_simp
     refine hK.out _ _ trivial (fun hHeld=>?_)
     clear hK K
    case' rd =>
     go_simp
     refine hK.out _ _ trivial (fun hHeld=>?_)
     clear hK K
     refine rcl 4 (h:=fun K hK=>?_)
     go_simp
     refine hK.out _ _ trivial (fun hHeld=>?_)
     clear hK K
   all_goals (
    have hsz4:wl.heap.size<=wc.heap.size:=(uh HBB4).size
    refine rcl 7 (h:=fun K hK=>?_)
    refine step_append_run (Z:=fun v' w'=>w'.ownsRow wl.heap.size 114 5 v' (k+1) ((scs d)++(sbOf f o).cells)/\(wc.alloc (.cells #[.string f,.int .i64 (o % 4),.bool (btest o 4),.bool (btest o 8),.int .i64 (o / 16)] 114)).drew.grownBy w' (Value.slice ta tn tc).ownBlock) rfl _ _ 26 rfl (.slice ta tn tc) (.slice (some ⟨wc.heap.size,0,none⟩) 1 1) rfl rfl ?hr ?_
    case hr =>
     obtain⟨v6,w6,h1,h2,h3,_⟩:=run_append_own (P:=Tryz.prog) (w:=(wc.alloc (.cells #[.string f,.int .i64 (o % 4),.bool (btest o 4),.bool (btest o 8),.int .i64 (o / 16)] 114)).drew) wl.heap.size 26 26 114 i0 _ 5 40 Tryz.underlying26 hi0 hz0 hz1 hz2 rfl (by decide) (.slice ta tn tc) k _ (owns_below ((uh HO4).alloc _) (bel_drew _)) ⟨wc.heap.size,0,none⟩ 1 1 (sbOf f o).cells rfl (five_cell _ _ _ _ _ _ _) (five_one _) (by unfold maxLen;omega) (by omega) (by simp;omega)
     exact⟨v6,w6,h1,h2,h3⟩
    rintro v6 w6 ⟨hO6,hg6⟩
    have hrow:∀ g,(Value.slice ta tn tc).ownBlock=some g->wl.heap.size<=g/\g < wc.heap.size:=fun g hg=>(uh HO4).lt g hg
    have hrR:(Value.slice ta tn tc).ownBlock≠some R:=fun e=>by have:=(hrow R e).1;omega
    have hrA:(Value.slice ta tn tc).ownBlock≠some A:=fun e=>by have:=(hrow A e).1;omega
    have HP6:Hid (Pk w6 A { p with id:=i,props:=s,subs:=⟨ta,tn,tc⟩ }):=((uh HP4).below ((bal _ _).trans ((bel_drew _).mono (by simp)))).grown hg6 hrA
    have HRP6:Hid (RP w0 w6 R st4):=((uh HRP4).below ((bal _ _).trans ((bel_drew _).mono (by simp)))).grown hg6 hrR (fun g hg=>Nat.le_trans h0w (hrow g hg).1)
    have HBB6:Hid (B2 R A wl w6):=((uh HBB4).trans (B2.bel ((bal _ _).trans ((bel_drew _).mono (by simp))))).grown hg6 (fun g hg=>(hrow g hg).1)
    obtain⟨⟨sa,sn,sc⟩,hv6,_⟩:=owns_sl hO6
    have hv6:v6=.slice sa sn sc:=hv6
    subst hv6
    have HO6:=zh hO6
    have cF6:w6.cell? ⟨A,16,none⟩=some (.slice ta tn tc):=(uh HP6).subs
    have fF6:w6.frozen? ⟨A,16,none⟩=false:=(uh HP6).subs_f
    clear hO6 hg6 hrow cF4 cF5 HP4 HRP4 HBB4
    refine hK.out _ _ trivial (fun hHeld=>?_)
    clear hK K
    simp only[Act.put,List.setIfInBounds_toArray,List.set_cons_zero,List.set_cons_succ]
    refine rtk 8 (h:=?_)
    refine rtk 9 (h:=?_)
    refine rcl 10 (h:=fun K hK=>?_)
    go_simp
    refine hK.out _ _ trivial (fun hHeld=>?_)
    clear hK K
    refine wpAnyH_done (by kernel_rfl) ?_ _
    refine NoPanic.normal ?_
    have HRP7:Hid (RP w0 (w6.setCell ⟨A,16,none⟩ (.slice sa sn sc)) R st4):=(uh HRP6).set A 16 _ hA hA0
    have HP7:Hid (Pk (w6.setCell ⟨A,16,none⟩ (.slice sa sn sc)) A { p with id:=i,props:=s,subs:=⟨sa,sn,sc⟩ }):=(uh HP6).set_subs ⟨sa,sn,sc⟩
    have HBB7:Hid (B2 R A wl (w6.setCell ⟨A,16,none⟩ (.slice sa sn sc))):=(uh HBB6).set 16 _
    have HO7:Hid ((w6.setCell ⟨A,16,none⟩ (.slice sa sn sc)).ownsRow wl.heap.size 114 5 (.slice sa sn sc) (k+1) (scs (d++[(sbOf f o)]))):=by
     show World.ownsRow _ _ _ _ _ _ _
     rw[show (scs (d++[(sbOf f o)]))=(scs d)++(sbOf f o).cells from by rw[scs_app]]
     exact owns_b2 (R:=R) (uh HO6) ((B2.refl R A w6).set 16 _) hlt hla
    have HA7:Hid (Acc sub? st2 (d++[(sbOf f o)]) st4):=(uh HAcc).step sub?_shr (uh HST4) hl0
    have HB7:Hid (∀ l',st4=some l'->(k+1)+l'.length<=65536):=by
     intro l' hl'
     subst hl'
     have h2:=stp_len sub?_shr (uh HST4)
     have h3:=(uh HLN) l rfl
     omega
    have hM:mlp R (w6.setCell ⟨A,16,none⟩ (.slice sa sn sc)) < mlp R wr:=by
     rw[mlp_some (uh HRP)]
     cases st4 with
     | none=>rw[mlp_none (uh HRP7)];omega
     | some l' =>
      rw[mlp_some (uh HRP7)]
      have:=stp_len sub?_shr (uh HST4)
      omega
    have hk1:k+1<=65536:=by
     have h3:=(uh HLN) l rfl
     have:=List.length_pos_iff.2 hl0
     omega
    have HD7:Hid ((d++[(sbOf f o)]).length=k+1):=by show _=_;rw[List.length_append,uh HD];rfl
    clear HRP6 HP6 HBB6 HO6 cF6 fF6
    go_wp2
    go_roundw
    case rel=>exact⟨d++[(sbOf f o)],st4,⟨sa,sn,sc⟩,k+1,by go_num,hk1,HD7,HB7,HP7,HO7,HA7,HRP7,HBB7⟩
    case measure=>exact hM)
def BodyPg (w0:GW) (R A:Nat) (P:Pa) (st:Option (List Int)) (w:World) (e:Ending) (w':World):Prop :=
 e=.returned (.tuple #[])/\∃ (p':Pkv) (P':Pa) (st':Option (List Int)),Pk w' A p'/\Stp (body? P) st P' st'/\RP w0 w' R st'/\B2 R A w w'/\(st'=none\/Hid (Mean w' w.heap.size p' P'))
theorem stp_id {st st1:Option (List Int)} {i:Int} (h:Stp two? st i st1):Stp id? st i (if i=0 then none else st1):=by
 cases st with
 | none=>obtain rfl:st1=none:=h;split <;> rfl
 | some l =>
  unfold Stp at h |-
  simp only at h |-
  unfold id?
  cases hq:two? l with
  | none=>rw[hq]at h;obtain rfl:st1=none:=h;simp
  | some r =>
   obtain⟨y,t⟩:=r
   rw[hq]at h
   obtain⟨rfl,rfl⟩:=h
   simp only
   by_cases hi:i=0
   ·simp[hi]
   ·simp[hi]
theorem RP.gone {w0:GW} {w:World} {R:Nat} {st:Option (List Int)} (h:RP w0 w R st):∃ ao n cap,w.cell? ⟨R,0,none⟩=some (.slice ao n cap)/\(n<=cap/\cap<=maxLen)/\(∃ k:Nat,w.cell? ⟨R,1,none⟩=some (.int .i64 k))/\w.frozen? ⟨R,1,none⟩=false/\RP w0 (w.setCell ⟨R,1,none⟩ (.int .i64 n)) R (st.map fun _=>[]):=by
 obtain⟨ao,n,cap,k,bad,L,hc,hy,hk,hn,hw,hR,hst⟩:=h
 have hl:=byt_len hy
 refine⟨ao,n,cap,hc.1,hl.2,⟨k,hc.2.1.1⟩,hc.2.1.2,⟨ao,n,cap,n,bad,L,hc.setAt n,hy,Nat.le_refl _,hn,((BX.refl R isAny w).set 1 _ trivial).keep hw hR,hR,?_⟩⟩
 subst hst
 cases bad
 ·show some []=some (L.drop n)
  rw[List.drop_of_length_le (by omega)]
 ·rfl
theorem pglist_eq {α β:Type} (kind:Int) (f:List Int->Option (α×List Int)) (g:Int->List Pr->List α->β) (l:List Int):bindR (pglist? kind f) (fun r=>pureR (g r.1 r.2.1 r.2.2)) l=bindR id? (fun i=>bindR (props? kind) fun x=>bindR (list? f) fun d=>pureR (g i x d)) l:=by
 unfold pglist? list? id?
 simp only[bindR,mustR,pureR]
 cases two? l with
 | none=>rfl
 | some a =>
  simp only[Option.bind_some]
  by_cases hi:a.1=0
  ·simp only[hi,if_true,beq_self_eq_true,Bool.not_true,Bool.false_and,Bool.false_eq_true,if_false,Option.bind_none,bind_none']
  ·have hb:(a.1 == 0)=false:=by simpa using hi
   simp only[hi,if_false,hb,Bool.not_false,Bool.true_and,Option.bind_some]
   cases props? kind a.2 with
   | none=>rfl
   | some b =>
    simp only[Option.bind_some]
    cases manyR f b.2 with
    | none=>rfl
    | some c =>
     simp only[Option.bind_some]
     cases mc c.1.length
     ·rfl
     ·rfl
theorem body_1 (R A:Nat) (d:Bool) (q:Int) (r:Bool) (st:Option (List Int)) (w0:GW) (w:World) (h:RP w0 w R st) (hp:Pk w A (pk0 1 d q r)) (hA:A≠R) (hA0:w0.heap.size<=A):Calls Tryz.prog 31 #[.pointer (some ⟨R,0,none⟩),.pointer (some ⟨A,0,none⟩)] w (BodyPg w0 R A (pa0 1 d q r) st w):=by
 have hRw:=h.lt
 have hAw:=hp.lt
 have c0:=hp.kind
 simp only[pk0]at c0
 have HP:=zh hp
 have HS:=zh h
 clear hp h
 go_enter Tryz.func31,Tryz.ntmps31
 go_wp2_with fail
 refine (connect_pg R A d q r st w0 w (uh HS) (uh HP) hA hA0).mono ?_
 rintro e w1 ⟨rfl,p',n,st',h1,h2,h3,h4,h5⟩
 have H1:=zh h1
 have H2:=zh h2
 have H3:=zh h3
 have H4:=zh h4
 have H5:=zh h5
 clear h1 h2 h3 h4 h5
 go_wp2
 go_end0
 have k:Stp (body? (pa0 1 d q r)) st (ofCn (pa0 1 d q r) n) st':=Stp.bind (g:=fun n=>pureR (ofCn (pa0 1 d q r) n)) (Stp.congr connectP_eq (uh H2)) (Stp.pure _ _)
 exact⟨rfl,p',_,st',uh H1,k,uh H3,uh H4,uh H5⟩
theorem connack_eq {β:Type} (g:Int->Int->List Pr->β) (l:List Int):bindR one? (fun f=>bindR one? fun c=>bindR (props? 2) fun x=>bindR (mustR (decide (f<=1))) fun _=>pureR (g f c x)) l=bindR one? (fun f=>bindR (mustR (decide (f<=1))) fun _=>bindR one? fun c=>bindR (props? 2) fun x=>pureR (g f c x)) l:=by
 simp only[bindR,mustR,pureR]
 cases one? l with
 | none=>rfl
 | some a =>
  simp only[Option.bind_some]
  cases decide (a.1<=1)
  ·simp only[Bool.false_eq_true,if_false,Option.bind_none,bind_none']
  ·simp only[if_true,Option.bind_some]
theorem body_2 (R A:Nat) (d:Bool) (q:Int) (r:Bool) (st:Option (List Int)) (w0:GW) (w:World) (h:RP w0 w R st) (hp:Pk w A (pk0 2 d q r)) (hA:A≠R) (hA0:w0.heap.size<=A):Calls Tryz.prog 31 #[.pointer (some ⟨R,0,none⟩),.pointer (some ⟨A,0,none⟩)] w (BodyPg w0 R A (pa0 2 d q r) st w):=by
 have hRw:=h.lt
 have hAw:=hp.lt
 have c0:=hp.kind
 simp only[pk0]at c0
 have HP:=zh hp
 have HS:=zh h
 clear hp h
 go_enter Tryz.func31,Tryz.ntmps31
 go_wp2_with fail
 refine (byte_pg R st w0 w (uh HS)).mono ?_
 rintro e w1 ⟨f,st1,rfl,hf,hs1,h1,hx1⟩
 have hp1:=(uh HP).oth hx1 hA
 have c15:=hp1.session
 have f15:=hp1.session_f
 have HP1:=zh (hp1.set_session (f == 1))
 have HS1:=zh (h1.set A 15 (.bool (f == 1)) hA hA0)
 have HB1:Hid (B2 R A w (w1.setCell ⟨A,15,none⟩ (.bool (f == 1)))):=(B2.bx hx1).set 15 _
 have HST1:=zh hs1
 clear hp1 h1 hx1 hs1 HP HS c0
 go_wp2_with fail
 refine (byte_pg R st1 w0 _ (uh HS1)).mono ?_
 rintro e w2 ⟨c,st2,rfl,hc,hs2,h2,hx2⟩
 have hp2:=(uh HP1).oth hx2 hA
 have c14:=hp2.code
 have f14:=hp2.code_f
 have HP2:=zh (hp2.set_code c)
 have HS2:=zh (h2.set A 14 (.int .i64 c) hA hA0)
 have HB2:Hid (B2 R A w (w2.setCell ⟨A,14,none⟩ (.int .i64 c))):=((uh HB1).trans (B2.bx hx2)).set 14 _
 have HST2:=zh hs2
 clear hp2 h2 hx2 hs2 HP1 HS1 HB1 c15 f15
 go_wp2_with fail
 refine (props_pg R 2 st2 w0 _ (uh HS2)).mono ?_
 rintro e w3 ⟨t,x,st3,rfl,hO3,hs3,h3,hx3⟩
 have hp3:=(uh HP2).oth hx3 hA
 have c7:=hp3.props
 have f7:=hp3.props_f
 have HP3:=zh (hp3.set_props t)
 have HS3:=zh (h3.set A 7 t.val hA hA0)
 have HB3:Hid (B2 R A w (w3.setCell ⟨A,7,none⟩ t.val)):=((uh HB2).trans (B2.bx hx3)).set 7 _
 have HO3:Hid ((w3.setCell ⟨A,7,none⟩ t.val).ownsRow w.heap.size 109 4 t.val x.length (pcs x)):=owns_mono (owns_b2 (R:=R) (uh hO3) ((B2.refl R A w3).set 7 _) (Nat.lt_of_lt_of_le hRw (uh HB2).size) (Nat.lt_of_lt_of_le hAw (uh HB2).size)) (uh HB2).size
 have HST3:=zh hs3
 clear hp3 h3 hx3 hs3 HP2 HS2 HB2 hO3 c14 f14
 have HEQ:Hid (∀ st',Stp (mustR (decide (f<=1))) st3 () st'->Stp (body? (pa0 2 d q r)) st { pa0 2 d q r with session:=f == 1,code:=c,props:=x } st'):=fun st' k=>Stp.congr (connack_eq fun f c x=>({ pa0 2 d q r with session:=f == 1,code:=c,props:=x }:Pa)) ((uh HST1).bind ((uh HST2).bind ((uh HST3).bind (k.bind (Stp.pure _ _)))))
 by_cases hf1:f<=1
 ·go_upto_region 9 with fail
  generalize w3.setCell ⟨A,7,none⟩ t.val=wz at HP3 HS3 HB3 HO3 |-
  clear c7 f7
  go_wp2
  go_end0
  exact⟨rfl,_,_,st3,uh HP3,(uh HEQ) _ (Stp.yes (decide_eq_true hf1)),uh HS3,uh HB3,.inr ⟨⟨rfl,rfl,rfl,rfl,rfl,rfl,rfl,rfl,rfl,rfl,rfl,rfl⟩,uh HO3,wills0 _ _,row0 _ _ _ _,row0 _ _ _ _,row0 _ _ _ _,row0 _ _ _ _,row0 _ _ _ _⟩⟩
 ·go_upto_region 9 with fail
  generalize w3.setCell ⟨A,7,none⟩ t.val=wz at HP3 HS3 HB3 HO3 |-
  clear c7 f7
  obtain⟨bb,c2,f2,_⟩:=(uh HS3).c2
  go_wp2
  go_end0
  exact⟨rfl,_,_,none,(uh HP3).blk (Below.heap_setCell _ _ _ _ hA),(uh HEQ) _ (Stp.not (decide_eq_false (by omega))),(uh HS3).bad,(uh HB3).setR 2 _,.inl rfl⟩
theorem body_3 (R A:Nat) (d:Bool) (q:Int) (r:Bool) (st:Option (List Int)) (w0:GW) (w:World) (h:RP w0 w R st) (hp:Pk w A (pk0 3 d q r)) (hA:A≠R) (hA0:w0.heap.size<=A) (hq:0<=q/\q<=2):Calls Tryz.prog 31 #[.pointer (some ⟨R,0,none⟩),.pointer (some ⟨A,0,none⟩)] w (BodyPg w0 R A (pa0 3 d q r) st w):=by
 have hRw:=h.lt
 have hAw:=hp.lt
 have c0:=hp.kind
 simp only[pk0]at c0
 have HP:=zh hp
 have HS:=zh h
 clear hp h
 go_enter Tryz.func31,Tryz.ntmps31
 go_wp2_with fail
 refine (text_pg R st w0 w (uh HS)).mono ?_
 rintro e w1 ⟨t,st1,rfl,hs1,h1,hx1⟩
 have hp1:=(uh HP).oth hx1 hA
 have c4:=hp1.topic
 have f4:=hp1.topic_f
 have c2q:=hp1.qos
 simp only[pk0]at c2q c4
 have HP1:=zh (hp1.set_topic t)
 have HS1:=zh (h1.set A 4 (.string t) hA hA0)
 have HB1:Hid (B2 R A w (w1.setCell ⟨A,4,none⟩ (.string t))):=(B2.bx hx1).set 4 _
 have HST1:=zh hs1
 clear hp1 h1 hx1 hs1 HP HS c0
 go_upto_if 52 with fail
 generalize w1.setCell ⟨A,4,none⟩ (.string t)=wy at HP1 HS1 HB1 |-
 clear c4 f4 c2q
 have c5:=(uh HP1).id
 have f5:=(uh HP1).id_f
 simp only[pk0]at c5
 go_cut [] from 5 (fun wx=>∃ (i:Int) (st2:Option (List Int)),Hid (Stp (if 0 < q then id? else pureR 0) st1 i st2)/\Hid (RP w0 wx R st2)/\Hid (Pk wx A { pk0 3 d q r with topic:=t,id:=i })/\Hid (B2 R A w wx))
 case first =>
  by_cases hq0:0 < q
  ·go_wp2_with fail
   refine (pair_pg R st1 w0 _ (uh HS1)).mono ?_
   rintro e w2 ⟨i,st2,rfl,hi,hs2,h2,hx2⟩
   have hp2:=(uh HP1).oth hx2 hA
   have d5:=hp2.id
   have g5:=hp2.id_f
   simp only[pk0]at d5
   have HP2:=zh (hp2.set_id i)
   have HS2:=zh (h2.set A 5 (.int .i64 i) hA hA0)
   have HB2:Hid (B2 R A w (w2.setCell ⟨A,5,none⟩ (.int .i64 i))):=((uh HB1).trans (B2.bx hx2)).set 5 _
   have HST2:=zh (stp_id hs2)
   clear hp2 h2 hx2 hs2 HP1 HS1 HB1 c5 f5
   go_upto_region 15 with fail
   generalize w2.setCell ⟨A,5,none⟩ (.int .i64 i)=wx at HP2 HS2 HB2 |-
   clear d5 g5
   have e5:=(uh HP2).id
   simp only at e5
   by_cases hi0:i=0
   ·rw[if_pos hi0]at HST2
    have HI:=zh hi0
    have hib:(i == 0)=true:=by simpa using hi0
    clear hi0
    obtain⟨bb,c2,f2,_⟩:=(uh HS2).c2
    go_wp2
    go_meet
    case rel=>exact⟨i,none,(by show Stp _ _ _ _;rw[if_pos hq0];exact uh HST2),(uh HS2).bad,(uh HP2).blk (Below.heap_setCell _ _ _ _ hA),(uh HB2).setR 2 _⟩
   ·rw[if_neg hi0]at HST2
    have hib:(i == 0)=false:=by simpa using hi0
    go_wp2
    go_meet
    case rel=>exact⟨i,st2,(by show Stp _ _ _ _;rw[if_pos hq0];exact uh HST2),HS2,HP2,HB2⟩
  ·go_wp2
   go_meet
   case rel=>exact⟨0,st1,(by show Stp _ _ _ _;rw[if_neg (by omega)];exact Stp.pure _ _),HS1,HP1,HB1⟩
 case rest =>
 obtain⟨i,st2,HST2,HS2,HP2,HB2⟩:=hcut
 obtain⟨wx,hwx⟩:∃ wx,wx=wc:=⟨_,rfl⟩
 subst hwx
 clear HP1 HS1 HB1 c5 f5
 have hRx:R < wx.heap.size:=(uh HS2).lt
 have hAx:A < wx.heap.size:=(uh HP2).lt
 go_wp2_with fail
 refine (props_pg R 3 st2 w0 _ (uh HS2)).mono ?_
 rintro e w3 ⟨s,x,st3,rfl,hO3,hs3,h3,hx3⟩
 have hp3:=(uh HP2).oth hx3 hA
 have c7:=hp3.props
 have f7:=hp3.props_f
 simp only[pk0]at c7
 have HP3:=zh (hp3.set_props s)
 have HS3:=zh (h3.set A 7 s.val hA hA0)
 have HB3:Hid (B2 R A w (w3.setCell ⟨A,7,none⟩ s.val)):=((uh HB2).trans (B2.bx hx3)).set 7 _
 have HO3:Hid ((w3.setCell ⟨A,7,none⟩ s.val).ownsRow wx.heap.size 109 4 s.val x.length (pcs x)):=owns_b2 (R:=R) (uh hO3) ((B2.refl R A w3).set 7 _) hRx hAx
 have hxw:w.heap.size<=wx.heap.size:=(uh HB2).size
 have HST3:=zh hs3
 clear hp3 h3 hx3 hs3 HP2 HS2 HB2 hO3
 go_wp2_with fail
 refine (left_pg R st3 w0 _ (uh HS3)).mono ?_
 rintro e w4 ⟨v,l,rfl,hv,he1,he2,hb4⟩
 have hp4:=(uh HP3).below hb4
 have c6:=hp4.payload
 have f6:=hp4.payload_f
 simp only[pk0]at c6
 have hs4:=(uh HS3).below hb4
 have hcv:=conv_byt w4 v l ((uh hv).below hs4.keep)
 have HP4:=zh (hp4.set_payload (bs l))
 have HS4:=zh (hs4.set A 6 (.string (bs l)) hA hA0)
 have HB4:Hid (B2 R A w (w4.setCell ⟨A,6,none⟩ (.string (bs l)))):=((uh HB3).trans (B2.bel hb4)).set 6 _
 have HO4:Hid ((w4.setCell ⟨A,6,none⟩ (.string (bs l))).ownsRow wx.heap.size 109 4 s.val x.length (pcs x)):=owns_b2 (R:=R) (uh HO3) ((B2.bel hb4).set 6 _) hRx hAx
 have HE:=zh he1
 clear hp4 hs4 hb4 HP3 HS3 HB3 HO3 c7 f7 he1 he2 hv
 go_upto_region 19 with fail
 generalize w4.setCell ⟨A,6,none⟩ (.string (bs l))=wz at HP4 HS4 HB4 HO4 |-
 clear c6 f6 hcv
 obtain⟨ao,n,cap,e0,⟨en1,en2⟩,⟨kk,e1⟩,g1,hS5⟩:=(uh HS4).gone
 unfold maxLen at en2
 have HS5:=zh hS5
 clear hS5
 go_wp2
 go_end0
 refine⟨rfl,_,{ pa0 3 d q r with topic:=t,id:=i,props:=x,payload:=bs l },_,(uh HP4).blk (Below.heap_setCell _ _ _ _ hA),?_,uh HS5,(uh HB4).setR 1 _,.inr ⟨⟨rfl,rfl,rfl,rfl,rfl,rfl,rfl,rfl,rfl,rfl,rfl,rfl⟩,owns_mono (owns_b2 (A:=A) (uh HO4) ((B2.refl R A wz).setR 1 _) hRx hAx) hxw,wills0 _ _,row0 _ _ _ _,row0 _ _ _ _,row0 _ _ _ _,row0 _ _ _ _,row0 _ _ _ _⟩⟩
 have hall:Stp allR st3 (bs l) (st3.map fun _=>[]):=by
  cases st3 with
  | none=>rfl
  | some l'=>obtain rfl:=(uh HE) l' rfl;exact⟨rfl,rfl⟩
 have k2:Stp (publish? q) st (t,i,x,bs l) (st3.map fun _=>[]):=by
  unfold publish?
  exact (uh HST1).bind ((uh HST2).bind ((uh HST3).bind (hall.bind (Stp.pure _ _))))
 exact Stp.bind (g:=fun r'=>pureR ({ pa0 3 d q r with topic:=r'.1,id:=r'.2.1,props:=r'.2.2.1,payload:=r'.2.2.2 }:Pa)) k2 (Stp.pure _ _)
end Go.Proofs.YtpheelbbpiieiaaGreatDoor.K
