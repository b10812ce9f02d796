/- Proved here: helpers, one text behind the other. -/
import Derived.Laws.AppendOwn
import Derived.Test.YtpheelbbpiieiaaGreatDoorZC21
import Derived.Test.YtpheelbbpiieiaaGreatDoorZC6
import Derived.Test.YtpheelbbpiieiaaGreatDoorZC22
set_option maxHeartbeats 20000000
namespace Go.Proofs.YtpheelbbpiieiaaGreatDoor.K
open Go.RowKit
set_option maxRecDepth 100000
theorem infoSub:(Tryz.prog.info? 114).map (fun i=>(i.zero,i.size,i.bytes))=some (some (.agg #[.string ⟨#[]⟩,.int .i64 0,.bool false,.bool false,.int .i64 0]),5,40):=by kernel_rfl
theorem infoInt:(Tryz.prog.info? 3).map (fun i=>(i.zero,i.size,i.bytes))=some (some (.int .i64 0),1,8):=by kernel_rfl
theorem infoStr:(Tryz.prog.info? 9).map (fun i=>(i.zero,i.size,i.bytes))=some (some (.string ⟨#[]⟩),1,16):=by kernel_rfl
def Sb.cells (s:Sb):List Value:=[.string s.filter,.int .i64 s.qos,.bool s.nolocal,.bool s.aspub,.int .i64 s.handling]
def scs (d:List Sb):List Value:=d.flatMap Sb.cells
theorem scs_app (d:List Sb) (s:Sb):scs (d++[s])=scs d++s.cells:=by unfold scs;simp
theorem five_cell (w:World) (a b c d e:Value) (t:TypeId):∀ j u,[a,b,c,d,e][j]?=some u->(w.alloc (.cells #[a,b,c,d,e] t)).cell? ((⟨w.heap.size,0,none⟩:Addr).add j)=some u:=by
 intro j u hj
 match j,hj with
 | 0,hj=>simp at hj;subst hj;simp[Addr.add]
 | 1,hj=>simp at hj;subst hj;simp[Addr.add]
 | 2,hj=>simp at hj;subst hj;simp[Addr.add]
 | 3,hj=>simp at hj;subst hj;simp[Addr.add]
 | 4,hj=>simp at hj;subst hj;simp[Addr.add]
theorem one_str (s:ByteArray):∀ u ∈ [Value.string s],u.oneCell'=true:=by
 intro u hu;simp at hu;subst hu;rfl
theorem five_one (s:Sb):∀ u ∈ s.cells,u.oneCell'=true:=by
 intro u hu
 simp only[Sb.cells,List.mem_cons,List.not_mem_nil,or_false]at hu
 rcases hu with rfl | rfl | rfl | rfl | rfl <;> rfl
def Listcodes (w0:World) (R:Nat) (p:Pkv) (st:Option (List Int)) (w:World) (e:Ending) (w':World):Prop :=
 e=.returned (.tuple #[])/\∃ (t:Sl) (d:List Int) (st':Option (List Int)),Pk w' R { p with codes:=t }/\Hid (w'.ownsRow w.heap.size 3 1 t.val d.length (d.map (Value.int .i64)))/\Stp (list? one?) st d st'/\RS w0 w' R st'/\BX R isAny w w'
theorem list_codes (R:Nat) (p:Pkv) (st:Option (List Int)) (w0 w:World) (h:RS w0 w R st) (hp:Pk w R p) (hF:p.codes=⟨none,0,0⟩) (hl:∀ l,st=some l->l.length<=65536) (h8:p.kind≠8) (h10:p.kind≠10):Calls Tryz.prog 57 #[.pointer (some ⟨R,0,none⟩)] w (Listcodes w0 R p st w):=by
 obtain⟨i0,hi,hz0,hz1,hz2⟩:=info_parts infoInt
 have hlt:=h.lt
 have HW0:=h.keep
 have HP:=zh hp
 have HS:=zh h
 have HL:=zh hl
 have HF:=zh hF
 clear hp h hl hF
 go_enter Tryz.func57,Tryz.ntmps57
 go_wp2
 go_loopw [3] (fun c0 wr=>∃ (d:List Int) (st1:Option (List Int)) (t:Sl) (k:Nat),c0=.int .i64 k/\k<=65536/\Hid (d.length=k)/\Hid (∀ l,st1=some l->k+l.length<=65536)/\Hid (Pk wr R { p with codes:=t })/\Hid (wr.ownsRow w.heap.size 3 1 t.val k (d.map (Value.int .i64)))/\Hid (Acc one? st d st1)/\Hid (RS w0 wr R st1)/\Hid (BX R isAny w wr)) (fun _ wr=>mlen R wr)
 case atStart =>
  refine⟨[],st,⟨none,0,0⟩,0,rfl,Nat.zero_le _,rfl,fun l hl=>by have:=(uh HL) l hl;omega,?_,World.ownsRow_nil _ _ _ _,Acc.start _ _,uh HS,BX.refl _ _ _⟩
  show Pk _ _ _
  have e:{ p with codes:=⟨none,0,0⟩ }=p:=by rw[<- uh HF]
  rw[e]
  exact uh HP
 case round =>
  obtain⟨d,st1,⟨ta,tn,tc⟩,k,rfl,hk,HD,HB,HPk,HOwn,HAcc,HRS,HBX⟩:=hrel
  obtain⟨ao,m,cap,c19,⟨g1,g2⟩,gl⟩:=(uh HRS).rest
  unfold maxLen at g2
  have c0:=(uh HPk).kind
  simp only at c0
  have cF:wr.cell? ⟨R,18,none⟩=some (.slice ta tn tc):=(uh HPk).codes
  skip
  rcases (uh HRS).err with⟨l,rfl,c20⟩ | ⟨rfl,ty,x,c20⟩
  ·have hm:=gl l rfl
   clear gl
   by_cases hm0:m=0
   ·subst hm0
    obtain rfl:l=[]:=List.length_eq_zero_iff.1 hm
    go_wp2_with fail
    refine (mayCount_any k _).mono ?_
    rintro e wa ⟨rfl,hwa⟩
    obtain rfl:=hwa.symm
    clear hwa
    go_wp2_with fail
    refine (must_any R _ (some []) w0 wr (uh HRS)).mono ?_
    rintro e wb ⟨rfl,h2,hx2⟩
    have H2:=zh h2
    have HX2:=zh hx2
    clear h2 hx2
    go_wp2
    go_end0
    refine⟨rfl,⟨ta,tn,tc⟩,d,_,(uh HPk).bx (uh HX2),?_,?_,uh H2,(uh HBX).trans (uh HX2).any⟩
    ·show World.ownsRow _ _ _ _ _ _ _
     rw[uh HD]
     exact owns_bx (uh HOwn) (uh HX2) hlt
    ·refine ((uh HAcc).done (.inr rfl)).bind ((?_:Stp (mustR (mc d.length)) (some []) () (if mc k then (some []) else none)).bind (Stp.pure _ _))
     rw[uh HD]
     exact Stp.must _ _
   ·have hl0:l≠[]:=fun e=>hm0 (by rw[<- hm,e];rfl)
    have hbd:=bel_drew wr
    obtain⟨X,hXd⟩:∃ X:Nat->Prop,X=fun g=>g=R\/some g=(Value.slice ta tn tc).ownBlock:=⟨_,rfl⟩
    have HRSd:Hid (RSX w0 wr.drew R X (some l)):=by
     subst hXd
     exact ((uh HRS).below hbd).good _ ⟨.inl rfl,fun g hg=>by
      rcases hg with rfl | hg
      ·exact Nat.lt_of_lt_of_le hlt (uh HBX).size
      ·exact ((uh HOwn).lt g hg.symm).2⟩
    have HPd:=zh ((uh HPk).below hbd)
    have HBXd:Hid (BX R isAny w wr.drew):=(uh HBX).trans (BX.of_below hbd (uh HRS).lt)
    have HOd:Hid (wr.drew.ownsRow w.heap.size 3 1 (.slice ta tn tc) k (d.map (Value.int .i64))):=owns_below (uh HOwn) hbd
    clear hbd
    go_wp2_with fail
    refine wp_region_noPanic ?_
    refine wp_region_held_drew (S:=fun _=>True) (by kernel_rfl) trivial (fun hHeld=>?_)
    refine rtk 0 (h:=?_)
    refine rtk 1 (h:=?_)
    refine rtk 2 (h:=?_)
    refine rtk 3 (h:=?_)
    refine rtk 5 (h:=?_)
    refine wpAnyH_ready (rs:=[4,6]) (by kernel_rfl) (by simp) ?_
    refine rac (h:=fun K hK=>?ra) (hs:=(rac (h:=fun K hK=>?rb) (hs:=AllReadyH.nil)))
    case' ra =>
     go_simp
     refine hK.out _ _ trivial (fun hHeld=>?_)
     clear hK K
     refine rcl 6 (h:=fun K hK=>?_)
     go_simp
     refine (one_anyX R X (some l) w0 _ (uh HRSd)).mono ?_
     rintro e w2 ⟨x,st2,rfl,-,hs2,h2,hx2⟩
     have cF2:w2.cell? ⟨R,18,none⟩=some (.slice ta tn tc):=(hx2.cell 18 (by unfold isRE;omega)).trans cF
     have hs2l:w.heap.size<=w2.heap.size:=Nat.le_trans (uh HBX).size hx2.size
     have HP2:=zh ((uh HPd).bx hx2)
     have HRS2:=zh h2
     have HST2:=zh hs2
     have HBX2:Hid (BX R isAny w w2):=(uh HBXd).trans hx2.any
     have HO2:Hid (w2.ownsRow w.heap.size 3 1 (.slice ta tn tc) k (d.map (Value.int .i64))):=owns_bx (uh HOd) hx2 hlt
     have hR2:R < w2.heap.size:=Nat.lt_of_lt_of_le hlt hs2l
     have cF3:(w2.alloc (.cells #[.int .i64 x] 3)).cell? ⟨R,18,none⟩=some (.slice ta tn tc):=(World.cell?_alloc_lt _ _ ⟨R,18,none⟩ hR2).trans cF2
     clear hx2 h2 hs2
     refine hK.out _ _ trivial (fun hHeld=>?_)
     clear hK K
     refine rcl 7 (h:=fun K hK=>?_)
     go_simp
     refine hK.out _ _ trivial (fun hHeld=>?_)
     clear hK K
    case' rb =>
     go_simp
     refine (one_anyX R X (some l) w0 _ (uh HRSd)).mono ?_
     rintro e w2 ⟨x,st2,rfl,-,hs2,h2,hx2⟩
     have cF2:w2.cell? ⟨R,18,none⟩=some (.slice ta tn tc):=(hx2.cell 18 (by unfold isRE;omega)).trans cF
     have hs2l:w.heap.size<=w2.heap.size:=Nat.le_trans (uh HBX).size hx2.size
     have HP2:=zh ((uh HPd).bx hx2)
     have HRS2:=zh h2
     have HST2:=zh hs2
     have HBX2:Hid (BX R isAny w w2):=(uh HBXd).trans hx2.any
     have HO2:Hid (w2.ownsRow w.heap.size 3 1 (.slice ta tn tc) k (d.map (Value.int .i64))):=owns_bx (uh HOd) hx2 hlt
     have hR2:R < w2.heap.size:=Nat.lt_of_lt_of_le hlt hs2l
     have cF3:(w2.alloc (.cells #[.int .i64 x] 3)).cell? ⟨R,18,none⟩=some (.slice ta tn tc):=(World.cell?_alloc_lt _ _ ⟨R,18,none⟩ hR2).trans cF2
     clear hx2 h2 hs2
     refine hK.out _ _ trivial (fun hHeld=>?_)
     clear hK K
     refine wpAnyH_ready (rs:=[4,7]) (by kernel_rfl) (by simp) ?_
     refine rac (h:=fun K hK=>?rc) (hs:=(rac (h:=fun K hK=>?rd) (hs:=AllReadyH.nil)))
     case' rc =>
      go_simp
      refine hK.out _ _ trivial (fun hHeld=>?_)
      clear hK K
      refine rcl 7 (h:=fun K hK=>?_)
      go_simp
      refine hK.out _ _ trivial (fun hHeld=>?_)
      clear hK K
     case' rd =>
      go_simp
      refine hK.out _ _ trivial (fun hHeld=>?_)
      clear hK K
      refine rcl 4 (h:=fun K hK=>?_)
      go_simp
      refine hK.out _ _ trivial (fun hHeld=>?_)
      clear hK K
    all_goals (
     refine rcl 8 (h:=fun K hK=>?_)
     refine step_append_run (Z:=fun v' w'=>w'.ownsRow w.heap.size 3 1 v' (k+1) ((d.map (Value.int .i64))++[.int .i64 x])/\(w2.alloc (.cells #[.int .i64 x] 3)).grownBy w' (Value.slice ta tn tc).ownBlock) rfl _ _ 27 rfl (.slice ta tn tc) (.slice (some ⟨w2.heap.size,0,none⟩) 1 1) rfl rfl ?hr ?_
     case hr =>
      obtain⟨v4,w4,h1,h2,h3,_⟩:=run_append_own (P:=Tryz.prog) (w:=(w2.alloc (.cells #[.int .i64 x] 3))) w.heap.size 27 27 3 i0 _ 1 8 Tryz.underlying27 hi hz0 hz1 hz2 rfl (by decide) (.slice ta tn tc) k _ ((uh HO2).alloc _) ⟨w2.heap.size,0,none⟩ 1 1 [.int .i64 x] rfl (one_cell _ _ _) (one_one _ _) (by unfold maxLen;omega) (by omega) (by simp;omega)
      exact⟨v4,w4,h1,h2,h3⟩
     rintro v4 w4 ⟨hO4,hg4⟩
     have hrow:∀ g,(Value.slice ta tn tc).ownBlock=some g->w.heap.size<=g/\g < wr.heap.size:=fun g hg=>(uh HOwn).lt g hg
     have hrR:(Value.slice ta tn tc).ownBlock≠some R:=fun e=>by have:=(hrow R e).1;omega
     have HP4:Hid (Pk w4 R { p with codes:=⟨ta,tn,tc⟩ }):=((uh HP2).below (bal _ _)).grown hg4 hrR
     have h0w:w0.heap.size<=w.heap.size:=HW0.size
     have HRS4:Hid (RSX w0 w4 R X st2):=((uh HRS2).below (bal _ _)).grown hg4 (fun g hg=>by rw[hXd];exact .inr hg.symm) hrR (fun g hg=>Nat.le_trans h0w (hrow g hg).1)
     have HBX4:Hid (BX R isAny w w4):=((uh HBX2).trans (BX.of_below (bal _ _) hR2)).grown hg4 (fun g hg=>(hrow g hg).1) hlt
     obtain⟨⟨sa,sn,sc⟩,hv4,_⟩:=owns_sl hO4
     have hv4:v4=.slice sa sn sc:=hv4
     subst hv4
     have HO4:=zh hO4
     have cF4:w4.cell? ⟨R,18,none⟩=some (.slice ta tn tc):=(uh HP4).codes
     have fF4:w4.frozen? ⟨R,18,none⟩=false:=(uh HP4).codes_f
     clear hO4 hg4 hrow cF2 cF3 HP2 HRS2 HBX2
     refine hK.out _ _ trivial (fun hHeld=>?_)
     clear hK K
     simp only[Act.put,List.setIfInBounds_toArray,List.set_cons_zero,List.set_cons_succ]
     refine rtk 9 (h:=?_)
     refine rtk 10 (h:=?_)
     refine rcl 11 (h:=fun K hK=>?_)
     go_simp
     refine hK.out _ _ trivial (fun hHeld=>?_)
     clear hK K
     refine wpAnyH_done (by kernel_rfl) ?_ _
     refine NoPanic.normal ?_
     have HRS5:Hid (RS w0 (w4.setCell ⟨R,18,none⟩ (.slice sa sn sc)) R st2):=((uh HRS4).less (fun g=>g=R) rfl (fun g hg=>by rw[hXd];exact .inl hg)).set 18 _ (by decide)
     have HP5:Hid (Pk (w4.setCell ⟨R,18,none⟩ (.slice sa sn sc)) R { p with codes:=⟨sa,sn,sc⟩ }):=(uh HP4).set_codes ⟨sa,sn,sc⟩
     have HBX5:Hid (BX R isAny w (w4.setCell ⟨R,18,none⟩ (.slice sa sn sc))):=(uh HBX4).set 18 _ trivial
     have HO5:Hid ((w4.setCell ⟨R,18,none⟩ (.slice sa sn sc)).ownsRow w.heap.size 3 1 (.slice sa sn sc) (k+1) ((d++[x]).map (Value.int .i64))):=by
      show World.ownsRow _ _ _ _ _ _ _
      rw[show ((d++[x]).map (Value.int .i64))=(d.map (Value.int .i64))++[.int .i64 x] from by simp]
      exact owns_bx (uh HO4) ((BX.refl R isAny w4).set 18 _ trivial) hlt
     have HA5:Hid (Acc one? st (d++[x]) st2):=(uh HAcc).step one?_shr (uh HST2) hl0
     have HB5:Hid (∀ l',st2=some l'->(k+1)+l'.length<=65536):=by
      intro l' hl'
      subst hl'
      have h2:=stp_len one?_shr (uh HST2)
      have h3:=(uh HB) l rfl
      omega
     have hM:mlen R (w4.setCell ⟨R,18,none⟩ (.slice sa sn sc)) < mlen R wr:=by
      rw[mlen_some (uh HRS)]
      cases st2 with
      | none=>rw[mlen_none (uh HRS5)];omega
      | some l' =>
       rw[mlen_some (uh HRS5)]
       have:=stp_len one?_shr (uh HST2)
       omega
     have hk1:k+1<=65536:=by
      have h3:=(uh HB) l rfl
      have:=List.length_pos_iff.2 hl0
      omega
     have HD5:Hid ((d++[x]).length=k+1):=by show _=_;rw[List.length_append,uh HD];rfl
     clear HRS4 HP4 HBX4 HO4 cF4 fF4
     go_wp2
     go_roundw
     case rel=>exact⟨d++[x],st2,⟨sa,sn,sc⟩,k+1,by go_num,hk1,HD5,HB5,HP5,HO5,HA5,HRS5,HBX5⟩
     case measure=>exact hM)
  ·clear gl
   go_wp2_with fail
   refine (mayCount_any k _).mono ?_
   rintro e wa ⟨rfl,hwa⟩
   obtain rfl:=hwa.symm
   clear hwa
   go_wp2_with fail
   refine (must_any R _ none w0 wr (uh HRS)).mono ?_
   rintro e wb ⟨rfl,h2,hx2⟩
   have H2:=zh h2
   have HX2:=zh hx2
   clear h2 hx2
   go_wp2
   go_end0
   refine⟨rfl,⟨ta,tn,tc⟩,d,_,(uh HPk).bx (uh HX2),?_,?_,uh H2,(uh HBX).trans (uh HX2).any⟩
   ·show World.ownsRow _ _ _ _ _ _ _
    rw[uh HD]
    exact owns_bx (uh HOwn) (uh HX2) hlt
   ·refine ((uh HAcc).done (.inl rfl)).bind ((?_:Stp (mustR (mc d.length)) none () (if mc k then none else none)).bind (Stp.pure _ _))
    rw[uh HD]
    exact Stp.must _ _
def Listfilters (w0:World) (R:Nat) (p:Pkv) (st:Option (List Int)) (w:World) (e:Ending) (w':World):Prop :=
 e=.returned (.tuple #[])/\∃ (t:Sl) (d:List ByteArray) (st':Option (List Int)),Pk w' R { p with filters:=t }/\Hid (w'.ownsRow w.heap.size 9 1 t.val d.length (d.map Value.string))/\Stp (list? text?) st d st'/\RS w0 w' R st'/\BX R isAny w w'
theorem list_filters (R:Nat) (p:Pkv) (st:Option (List Int)) (w0 w:World) (h:RS w0 w R st) (hp:Pk w R p) (hF:p.filters=⟨none,0,0⟩) (hl:∀ l,st=some l->l.length<=65536) (h10:p.kind=10):Calls Tryz.prog 57 #[.pointer (some ⟨R,0,none⟩)] w (Listfilters w0 R p st w):=by
 obtain⟨i0,hi,hz0,hz1,hz2⟩:=info_parts infoStr
 have hlt:=h.lt
 have HW0:=h.keep
 have HP:=zh hp
 have HS:=zh h
 have HL:=zh hl
 have HF:=zh hF
 clear hp h hl hF
 go_enter Tryz.func57,Tryz.ntmps57
 go_wp2
 go_loopw [3] (fun c0 wr=>∃ (d:List ByteArray) (st1:Option (List Int)) (t:Sl) (k:Nat),c0=.int .i64 k/\k<=65536/\Hid (d.length=k)/\Hid (∀ l,st1=some l->k+l.length<=65536)/\Hid (Pk wr R { p with filters:=t })/\Hid (wr.ownsRow w.heap.size 9 1 t.val k (d.map Value.string))/\Hid (Acc text? st d st1)/\Hid (RS w0 wr R st1)/\Hid (BX R isAny w wr)) (fun _ wr=>mlen R wr)
 case atStart =>
  refine⟨[],st,⟨none,0,0⟩,0,rfl,Nat.zero_le _,rfl,fun l hl=>by have:=(uh HL) l hl;omega,?_,World.ownsRow_nil _ _ _ _,Acc.start _ _,uh HS,BX.refl _ _ _⟩
  show Pk _ _ _
  have e:{ p with filters:=⟨none,0,0⟩ }=p:=by rw[<- uh HF]
  rw[e]
  exact uh HP
 case round =>
  obtain⟨d,st1,⟨ta,tn,tc⟩,k,rfl,hk,HD,HB,HPk,HOwn,HAcc,HRS,HBX⟩:=hrel
  obtain⟨ao,m,cap,c19,⟨g1,g2⟩,gl⟩:=(uh HRS).rest
  unfold maxLen at g2
  have c0:=(uh HPk).kind
  simp only at c0
  have cF:wr.cell? ⟨R,17,none⟩=some (.slice ta tn tc):=(uh HPk).filters
  rw[h10]at c0
  rcases (uh HRS).err with⟨l,rfl,c20⟩ | ⟨rfl,ty,x,c20⟩
  ·have hm:=gl l rfl
   clear gl
   by_cases hm0:m=0
   ·subst hm0
    obtain rfl:l=[]:=List.length_eq_zero_iff.1 hm
    go_wp2_with fail
    refine (mayCount_any k _).mono ?_
    rintro e wa ⟨rfl,hwa⟩
    obtain rfl:=hwa.symm
    clear hwa
    go_wp2_with fail
    refine (must_any R _ (some []) w0 wr (uh HRS)).mono ?_
    rintro e wb ⟨rfl,h2,hx2⟩
    have H2:=zh h2
    have HX2:=zh hx2
    clear h2 hx2
    go_wp2
    go_end0
    refine⟨rfl,⟨ta,tn,tc⟩,d,_,(uh HPk).bx (uh HX2),?_,?_,uh H2,(uh HBX).trans (uh HX2).any⟩
    ·show World.ownsRow _ _ _ _ _ _ _
     rw[uh HD]
     exact owns_bx (uh HOwn) (uh HX2) hlt
    ·refine ((uh HAcc).done (.inr rfl)).bind ((?_:Stp (mustR (mc d.length)) (some []) () (if mc k then (some []) else none)).bind (Stp.pure _ _))
     rw[uh HD]
     exact Stp.must _ _
   ·have hl0:l≠[]:=fun e=>hm0 (by rw[<- hm,e];rfl)
    have hbd:=bel_drew wr
    obtain⟨X,hXd⟩:∃ X:Nat->Prop,X=fun g=>g=R\/some g=(Value.slice ta tn tc).ownBlock:=⟨_,rfl⟩
    have HRSd:Hid (RSX w0 wr.drew R X (some l)):=by
     subst hXd
     exact ((uh HRS).below hbd).good _ ⟨.inl rfl,fun g hg=>by
      rcases hg with rfl | hg
      ·exact Nat.lt_of_lt_of_le hlt (uh HBX).size
      ·exact ((uh HOwn).lt g hg.symm).2⟩
    have HPd:=zh ((uh HPk).below hbd)
    have HBXd:Hid (BX R isAny w wr.drew):=(uh HBX).trans (BX.of_below hbd (uh HRS).lt)
    have HOd:Hid (wr.drew.ownsRow w.heap.size 9 1 (.slice ta tn tc) k (d.map Value.string)):=owns_below (uh HOwn) hbd
    clear hbd
    go_wp2_with fail
    refine wp_region_noPanic ?_
    refine wp_region_held_drew (S:=fun _=>True) (by kernel_rfl) trivial (fun hHeld=>?_)
    refine rtk 0 (h:=?_)
    refine rtk 1 (h:=?_)
    refine rtk 2 (h:=?_)
    refine rtk 3 (h:=?_)
    refine rtk 5 (h:=?_)
    refine wpAnyH_ready (rs:=[4,6]) (by kernel_rfl) (by simp) ?_
    refine rac (h:=fun K hK=>?ra) (hs:=(rac (h:=fun K hK=>?rb) (hs:=AllReadyH.nil)))
    case' ra =>
     go_simp
     refine hK.out _ _ trivial (fun hHeld=>?_)
     clear hK K
     refine rcl 6 (h:=fun K hK=>?_)
     go_simp
     refine (text_anyX R X (some l) w0 _ (uh HRSd)).mono ?_
     rintro e w2 ⟨x,st2,rfl,-,hs2,h2,hx2⟩
     have cF2:w2.cell? ⟨R,17,none⟩=some (.slice ta tn tc):=(hx2.cell 17 (by unfold isRE;omega)).trans cF
     have hs2l:w.heap.size<=w2.heap.size:=Nat.le_trans (uh HBX).size hx2.size
     have HP2:=zh ((uh HPd).bx hx2)
     have HRS2:=zh h2
     have HST2:=zh hs2
     have HBX2:Hid (BX R isAny w w2):=(uh HBXd).trans hx2.any
     have HO2:Hid (w2.ownsRow w.heap.size 9 1 (.slice ta tn tc) k (d.map Value.string)):=owns_bx (uh HOd) hx2 hlt
     have hR2:R < w2.heap.size:=Nat.lt_of_lt_of_le hlt hs2l
     have cF3:(w2.alloc (.cells #[.string x] 9)).cell? ⟨R,17,none⟩=some (.slice ta tn tc):=(World.cell?_alloc_lt _ _ ⟨R,17,none⟩ hR2).trans cF2
     clear hx2 h2 hs2
     refine hK.out _ _ trivial (fun hHeld=>?_)
     clear hK K
     refine rcl 7 (h:=fun K hK=>?_)
     go_simp
     refine hK.out _ _ trivial (fun hHeld=>?_)
     clear hK K
    case' rb =>
     go_simp
     refine (text_anyX R X (some l) w0 _ (uh HRSd)).mono ?_
     rintro e w2 ⟨x,st2,rfl,-,hs2,h2,hx2⟩
     have cF2:w2.cell? ⟨R,17,none⟩=some (.slice ta tn tc):=(hx2.cell 17 (by unfold isRE;omega)).trans cF
     have hs2l:w.heap.size<=w2.heap.size:=Nat.le_trans (uh HBX).size hx2.size
     have HP2:=zh ((uh HPd).bx hx2)
     have HRS2:=zh h2
     have HST2:=zh hs2
     have HBX2:Hid (BX R isAny w w2):=(uh HBXd).trans hx2.any
     have HO2:Hid (w2.ownsRow w.heap.size 9 1 (.slice ta tn tc) k (d.map Value.string)):=owns_bx (uh HOd) hx2 hlt
     have hR2:R < w2.heap.size:=Nat.lt_of_lt_of_le hlt hs2l
     have cF3:(w2.alloc (.cells #[.string x] 9)).cell? ⟨R,17,none⟩=some (.slice ta tn tc):=(World.cell?_alloc_lt _ _ ⟨R,17,none⟩ hR2).trans cF2
     clear hx2 h2 hs2
     refine hK.out _ _ trivial (fun hHeld=>?_)
     clear hK K
     refine wpAnyH_ready (rs:=[4,7]) (by kernel_rfl) (by simp) ?_
     refine rac (h:=fun K hK=>?rc) (hs:=(rac (h:=fun K hK=>?rd) (hs:=AllReadyH.nil)))
     case' rc =>
      go_simp
      refine hK.out _ _ trivial (fun hHeld=>?_)
      clear hK K
      refine rcl 7 (h:=fun K hK=>?_)
      go_simp
      refine hK.out _ _ trivial (fun hHeld=>?_)
      clear hK K
     case' rd =>
      go_simp
      refine hK.out _ _ trivial (fun hHeld=>?_)
      clear hK K
      refine rcl 4 (h:=fun K hK=>?_)
      go_simp
      refine hK.out _ _ trivial (fun hHeld=>?_)
      clear hK K
    all_goals (
     refine rcl 8 (h:=fun K hK=>?_)
     refine step_append_run (Z:=fun v' w'=>w'.ownsRow w.heap.size 9 1 v' (k+1) ((d.map Value.string)++[.string x])/\(w2.alloc (.cells #[.string x] 9)).grownBy w' (Value.slice ta tn tc).ownBlock) rfl _ _ 25 rfl (.slice ta tn tc) (.slice (some ⟨w2.heap.size,0,none⟩) 1 1) rfl rfl ?hr ?_
     case hr =>
      obtain⟨v4,w4,h1,h2,h3,_⟩:=run_append_own (P:=Tryz.prog) (w:=(w2.alloc (.cells #[.string x] 9))) w.heap.size 25 25 9 i0 _ 1 16 Tryz.underlying25 hi hz0 hz1 hz2 rfl (by decide) (.slice ta tn tc) k _ ((uh HO2).alloc _) ⟨w2.heap.size,0,none⟩ 1 1 [.string x] rfl (one_cell _ _ _) (one_str _) (by unfold maxLen;omega) (by omega) (by simp;omega)
      exact⟨v4,w4,h1,h2,h3⟩
     rintro v4 w4 ⟨hO4,hg4⟩
     have hrow:∀ g,(Value.slice ta tn tc).ownBlock=some g->w.heap.size<=g/\g < wr.heap.size:=fun g hg=>(uh HOwn).lt g hg
     have hrR:(Value.slice ta tn tc).ownBlock≠some R:=fun e=>by have:=(hrow R e).1;omega
     have HP4:Hid (Pk w4 R { p with filters:=⟨ta,tn,tc⟩ }):=((uh HP2).below (bal _ _)).grown hg4 hrR
     have h0w:w0.heap.size<=w.heap.size:=HW0.size
     have HRS4:Hid (RSX w0 w4 R X st2):=((uh HRS2).below (bal _ _)).grown hg4 (fun g hg=>by rw[hXd];exact .inr hg.symm) hrR (fun g hg=>Nat.le_trans h0w (hrow g hg).1)
     have HBX4:Hid (BX R isAny w w4):=((uh HBX2).trans (BX.of_below (bal _ _) hR2)).grown hg4 (fun g hg=>(hrow g hg).1) hlt
     obtain⟨⟨sa,sn,sc⟩,hv4,_⟩:=owns_sl hO4
     have hv4:v4=.slice sa sn sc:=hv4
     subst hv4
     have HO4:=zh hO4
     have cF4:w4.cell? ⟨R,17,none⟩=some (.slice ta tn tc):=(uh HP4).filters
     have fF4:w4.frozen? ⟨R,17,none⟩=false:=(uh HP4).filters_f
     clear hO4 hg4 hrow cF2 cF3 HP2 HRS2 HBX2
     refine hK.out _ _ trivial (fun hHeld=>?_)
     clear hK K
     simp only[Act.put,List.setIfInBounds_toArray,List.set_cons_zero,List.set_cons_succ]
     refine rtk 9 (h:=?_)
     refine rtk 10 (h:=?_)
     refine rcl 11 (h:=fun K hK=>?_)
     go_simp
     refine hK.out _ _ trivial (fun hHeld=>?_)
     clear hK K
     refine wpAnyH_done (by kernel_rfl) ?_ _
     refine NoPanic.normal ?_
     have HRS5:Hid (RS w0 (w4.setCell ⟨R,17,none⟩ (.slice sa sn sc)) R st2):=((uh HRS4).less (fun g=>g=R) rfl (fun g hg=>by rw[hXd];exact .inl hg)).set 17 _ (by decide)
     have HP5:Hid (Pk (w4.setCell ⟨R,17,none⟩ (.slice sa sn sc)) R { p with filters:=⟨sa,sn,sc⟩ }):=(uh HP4).set_filters ⟨sa,sn,sc⟩
     have HBX5:Hid (BX R isAny w (w4.setCell ⟨R,17,none⟩ (.slice sa sn sc))):=(uh HBX4).set 17 _ trivial
     have HO5:Hid ((w4.setCell ⟨R,17,none⟩ (.slice sa sn sc)).ownsRow w.heap.size 9 1 (.slice sa sn sc) (k+1) ((d++[x]).map Value.string)):=by
      show World.ownsRow _ _ _ _ _ _ _
      rw[show ((d++[x]).map Value.string)=(d.map Value.string)++[.string x] from by simp]
      exact owns_bx (uh HO4) ((BX.refl R isAny w4).set 17 _ trivial) hlt
     have HA5:Hid (Acc text? st (d++[x]) st2):=(uh HAcc).step text?_shr (uh HST2) hl0
     have HB5:Hid (∀ l',st2=some l'->(k+1)+l'.length<=65536):=by
      intro l' hl'
      subst hl'
      have h2:=stp_len text?_shr (uh HST2)
      have h3:=(uh HB) l rfl
      omega
     have hM:mlen R (w4.setCell ⟨R,17,none⟩ (.slice sa sn sc)) < mlen R wr:=by
      rw[mlen_some (uh HRS)]
      cases st2 with
      | none=>rw[mlen_none (uh HRS5)];omega
      | some l' =>
       rw[mlen_some (uh HRS5)]
       have:=stp_len text?_shr (uh HST2)
       omega
     have hk1:k+1<=65536:=by
      have h3:=(uh HB) l rfl
      have:=List.length_pos_iff.2 hl0
      omega
     have HD5:Hid ((d++[x]).length=k+1):=by show _=_;rw[List.length_append,uh HD];rfl
     clear HRS4 HP4 HBX4 HO4 cF4 fF4
     go_wp2
     go_roundw
     case rel=>exact⟨d++[x],st2,⟨sa,sn,sc⟩,k+1,by go_num,hk1,HD5,HB5,HP5,HO5,HA5,HRS5,HBX5⟩
     case measure=>exact hM)
  ·clear gl
   go_wp2_with fail
   refine (mayCount_any k _).mono ?_
   rintro e wa ⟨rfl,hwa⟩
   obtain rfl:=hwa.symm
   clear hwa
   go_wp2_with fail
   refine (must_any R _ none w0 wr (uh HRS)).mono ?_
   rintro e wb ⟨rfl,h2,hx2⟩
   have H2:=zh h2
   have HX2:=zh hx2
   clear h2 hx2
   go_wp2
   go_end0
   refine⟨rfl,⟨ta,tn,tc⟩,d,_,(uh HPk).bx (uh HX2),?_,?_,uh H2,(uh HBX).trans (uh HX2).any⟩
   ·show World.ownsRow _ _ _ _ _ _ _
    rw[uh HD]
    exact owns_bx (uh HOwn) (uh HX2) hlt
   ·refine ((uh HAcc).done (.inl rfl)).bind ((?_:Stp (mustR (mc d.length)) none () (if mc k then none else none)).bind (Stp.pure _ _))
    rw[uh HD]
    exact Stp.must _ _
def Listsubs (w0:World) (R:Nat) (p:Pkv) (st:Option (List Int)) (w:World) (e:Ending) (w':World):Prop :=
 e=.returned (.tuple #[])/\∃ (t:Sl) (d:List Sb) (st':Option (List Int)),Pk w' R { p with subs:=t }/\Hid (w'.ownsRow w.heap.size 114 5 t.val d.length (scs d))/\Stp (list? sub?) st d st'/\RS w0 w' R st'/\BX R isAny w w'
theorem list_subs (R:Nat) (p:Pkv) (st:Option (List Int)) (w0 w:World) (h:RS w0 w R st) (hp:Pk w R p) (hF:p.subs=⟨none,0,0⟩) (hl:∀ l,st=some l->l.length<=65536) (h8:p.kind=8):Calls Tryz.prog 57 #[.pointer (some ⟨R,0,none⟩)] w (Listsubs w0 R p st w):=by
 obtain⟨i0,hi,hz0,hz1,hz2⟩:=info_parts infoSub
 have hlt:=h.lt
 have HW0:=h.keep
 have HP:=zh hp
 have HS:=zh h
 have HL:=zh hl
 have HF:=zh hF
 clear hp h hl hF
 go_enter Tryz.func57,Tryz.ntmps57
 go_wp2
 go_loopw [3] (fun c0 wr=>∃ (d:List Sb) (st1:Option (List Int)) (t:Sl) (k:Nat),c0=.int .i64 k/\k<=65536/\Hid (d.length=k)/\Hid (∀ l,st1=some l->k+l.length<=65536)/\Hid (Pk wr R { p with subs:=t })/\Hid (wr.ownsRow w.heap.size 114 5 t.val k (scs d))/\Hid (Acc sub? st d st1)/\Hid (RS w0 wr R st1)/\Hid (BX R isAny w wr)) (fun _ wr=>mlen R wr)
 case atStart =>
  refine⟨[],st,⟨none,0,0⟩,0,rfl,Nat.zero_le _,rfl,fun l hl=>by have:=(uh HL) l hl;omega,?_,World.ownsRow_nil _ _ _ _,Acc.start _ _,uh HS,BX.refl _ _ _⟩
  show Pk _ _ _
  have e:{ p with subs:=⟨none,0,0⟩ }=p:=by rw[<- uh HF]
  rw[e]
  exact uh HP
 case round =>
  obtain⟨d,st1,⟨ta,tn,tc⟩,k,rfl,hk,HD,HB,HPk,HOwn,HAcc,HRS,HBX⟩:=hrel
  obtain⟨ao,m,cap,c19,⟨g1,g2⟩,gl⟩:=(uh HRS).rest
  unfold maxLen at g2
  have c0:=(uh HPk).kind
  simp only at c0
  have cF:wr.cell? ⟨R,16,none⟩=some (.slice ta tn tc):=(uh HPk).subs
  rw[h8]at c0
  rcases (uh HRS).err with⟨l,rfl,c20⟩ | ⟨rfl,ty,x,c20⟩
  ·have hm:=gl l rfl
   clear gl
   by_cases hm0:m=0
   ·subst hm0
    obtain rfl:l=[]:=List.length_eq_zero_iff.1 hm
    go_wp2_with fail
    refine (mayCount_any k _).mono ?_
    rintro e wa ⟨rfl,hwa⟩
    obtain rfl:=hwa.symm
    clear hwa
    go_wp2_with fail
    refine (must_any R _ (some []) w0 wr (uh HRS)).mono ?_
    rintro e wb ⟨rfl,h2,hx2⟩
    have H2:=zh h2
    have HX2:=zh hx2
    clear h2 hx2
    go_wp2
    go_end0
    refine⟨rfl,⟨ta,tn,tc⟩,d,_,(uh HPk).bx (uh HX2),?_,?_,uh H2,(uh HBX).trans (uh HX2).any⟩
    ·show World.ownsRow _ _ _ _ _ _ _
     rw[uh HD]
     exact owns_bx (uh HOwn) (uh HX2) hlt
    ·refine ((uh HAcc).done (.inr rfl)).bind ((?_:Stp (mustR (mc d.length)) (some []) () (if mc k then (some []) else none)).bind (Stp.pure _ _))
     rw[uh HD]
     exact Stp.must _ _
   ·have hl0:l≠[]:=fun e=>hm0 (by rw[<- hm,e];rfl)
    have hbd:=bel_drew wr
    obtain⟨X,hXd⟩:∃ X:Nat->Prop,X=fun g=>g=R\/some g=(Value.slice ta tn tc).ownBlock:=⟨_,rfl⟩
    have HRSd:Hid (RSX w0 wr.drew R X (some l)):=by
     subst hXd
     exact ((uh HRS).below hbd).good _ ⟨.inl rfl,fun g hg=>by
      rcases hg with rfl | hg
      ·exact Nat.lt_of_lt_of_le hlt (uh HBX).size
      ·exact ((uh HOwn).lt g hg.symm).2⟩
    have HPd:=zh ((uh HPk).below hbd)
    have HBXd:Hid (BX R isAny w wr.drew):=(uh HBX).trans (BX.of_below hbd (uh HRS).lt)
    have HOd:Hid (wr.drew.ownsRow w.heap.size 114 5 (.slice ta tn tc) k (scs d)):=owns_below (uh HOwn) hbd
    clear hbd
    go_wp2_with fail
    refine wp_region_noPanic ?_
    refine wp_region_held_drew (S:=fun _=>True) (by kernel_rfl) trivial (fun hHeld=>?_)
    refine rtk 0 (h:=?_)
    refine rtk 1 (h:=?_)
    refine rtk 2 (h:=?_)
    refine rtk 3 (h:=?_)
    refine rtk 5 (h:=?_)
    refine wpAnyH_ready (rs:=[4,6]) (by kernel_rfl) (by simp) ?_
    refine rac (h:=fun K hK=>?ra) (hs:=(rac (h:=fun K hK=>?rb) (hs:=AllReadyH.nil)))
    case' ra =>
     go_simp
     refine hK.out _ _ trivial (fun hHeld=>?_)
     clear hK K
     refine rcl 6 (h:=fun K hK=>?_)
     go_simp
     refine (sub_anyX R X (some l) w0 _ (uh HRSd)).mono ?_
     rintro e w2 ⟨x,st2,rfl,hs2,h2,hx2⟩
     have cF2:w2.cell? ⟨R,16,none⟩=some (.slice ta tn tc):=(hx2.cell 16 (by unfold isRE;omega)).trans cF
     have hs2l:w.heap.size<=w2.heap.size:=Nat.le_trans (uh HBX).size hx2.size
     have HP2:=zh ((uh HPd).bx hx2)
     have HRS2:=zh h2
     have HST2:=zh hs2
     have HBX2:Hid (BX R isAny w w2):=(uh HBXd).trans hx2.any
     have HO2:Hid (w2.ownsRow w.heap.size 114 5 (.slice ta tn tc) k (scs d)):=owns_bx (uh HOd) hx2 hlt
     have hR2:R < w2.heap.size:=Nat.lt_of_lt_of_le hlt hs2l
     have cF3:(w2.alloc (.cells #[.string x.filter,.int .i64 x.qos,.bool x.nolocal,.bool x.aspub,.int .i64 x.handling] 114)).cell? ⟨R,16,none⟩=some (.slice ta tn tc):=(World.cell?_alloc_lt _ _ ⟨R,16,none⟩ hR2).trans cF2
     clear hx2 h2 hs2
     refine hK.out _ _ trivial (fun hHeld=>?_)
     clear hK K
     refine rcl 7 (h:=fun K hK=>?_)
     go_simp
     refine hK.out _ _ trivial (fun hHeld=>?_)
     clear hK K
    case' rb =>
     go_simp
     refine (sub_anyX R X (some l) w0 _ (uh HRSd)).mono ?_
     rintro e w2 ⟨x,st2,rfl,hs2,h2,hx2⟩
     have cF2:w2.cell? ⟨R,16,none⟩=some (.slice ta tn tc):=(hx2.cell 16 (by unfold isRE;omega)).trans cF
     have hs2l:w.heap.size<=w2.heap.size:=Nat.le_trans (uh HBX).size hx2.size
     have HP2:=zh ((uh HPd).bx hx2)
     have HRS2:=zh h2
     have HST2:=zh hs2
     have HBX2:Hid (BX R isAny w w2):=(uh HBXd).trans hx2.any
     have HO2:Hid (w2.ownsRow w.heap.size 114 5 (.slice ta tn tc) k (scs d)):=owns_bx (uh HOd) hx2 hlt
     have hR2:R < w2.heap.size:=Nat.lt_of_lt_of_le hlt hs2l
     have cF3:(w2.alloc (.cells #[.string x.filter,.int .i64 x.qos,.bool x.nolocal,.bool x.aspub,.int .i64 x.handling] 114)).cell? ⟨R,16,none⟩=some (.slice ta tn tc):=(World.cell?_alloc_lt _ _ ⟨R,16,none⟩ hR2).trans cF2
     clear hx2 h2 hs2
     refine hK.out _ _ trivial (fun hHeld=>?_)
     clear hK K
     refine wpAnyH_ready (rs:=[4,7]) (by kernel_rfl) (by simp) ?_
     refine rac (h:=fun K hK=>?rc) (hs:=(rac (h:=fun K hK=>?rd) (hs:=AllReadyH.nil)))
     case' rc =>
      go_simp
      refine hK.out _ _ trivial (fun hHeld=>?_)
      clear hK K
      refine rcl 7 (h:=fun K hK=>?_)
      go_simp
      refine hK.out _ _ trivial (fun hHeld=>?_)
      clear hK K
     case' rd =>
      go_simp
      refine hK.out _ _ trivial (fun hHeld=>?_)
      clear hK K
      refine rcl 4 (h:=fun K hK=>?_)
      go_simp
      refine hK.out _ _ trivial (fun hHeld=>?_)
      clear hK K
    all_goals (
     refine rcl 8 (h:=fun K hK=>?_)
     refine step_append_run (Z:=fun v' w'=>w'.ownsRow w.heap.size 114 5 v' (k+1) ((scs d)++x.cells)/\(w2.alloc (.cells #[.string x.filter,.int .i64 x.qos,.bool x.nolocal,.bool x.aspub,.int .i64 x.handling] 114)).grownBy w' (Value.slice ta tn tc).ownBlock) rfl _ _ 26 rfl (.slice ta tn tc) (.slice (some ⟨w2.heap.size,0,none⟩) 1 1) rfl rfl ?hr ?_
     case hr =>
      obtain⟨v4,w4,h1,h2,h3,_⟩:=run_append_own (P:=Tryz.prog) (w:=(w2.alloc (.cells #[.string x.filter,.int .i64 x.qos,.bool x.nolocal,.bool x.aspub,.int .i64 x.handling] 114))) w.heap.size 26 26 114 i0 _ 5 40 Tryz.underlying26 hi hz0 hz1 hz2 rfl (by decide) (.slice ta tn tc) k _ ((uh HO2).alloc _) ⟨w2.heap.size,0,none⟩ 1 1 x.cells rfl (five_cell _ _ _ _ _ _ _) (five_one _) (by unfold maxLen;omega) (by omega) (by simp;omega)
      exact⟨v4,w4,h1,h2,h3⟩
     rintro v4 w4 ⟨hO4,hg4⟩
     have hrow:∀ g,(Value.slice ta tn tc).ownBlock=some g->w.heap.size<=g/\g < wr.heap.size:=fun g hg=>(uh HOwn).lt g hg
     have hrR:(Value.slice ta tn tc).ownBlock≠some R:=fun e=>by have:=(hrow R e).1;omega
     have HP4:Hid (Pk w4 R { p with subs:=⟨ta,tn,tc⟩ }):=((uh HP2).below (bal _ _)).grown hg4 hrR
     have h0w:w0.heap.size<=w.heap.size:=HW0.size
     have HRS4:Hid (RSX w0 w4 R X st2):=((uh HRS2).below (bal _ _)).grown hg4 (fun g hg=>by rw[hXd];exact .inr hg.symm) hrR (fun g hg=>Nat.le_trans h0w (hrow g hg).1)
     have HBX4:Hid (BX R isAny w w4):=((uh HBX2).trans (BX.of_below (bal _ _) hR2)).grown hg4 (fun g hg=>(hrow g hg).1) hlt
     obtain⟨⟨sa,sn,sc⟩,hv4,_⟩:=owns_sl hO4
     have hv4:v4=.slice sa sn sc:=hv4
     subst hv4
     have HO4:=zh hO4
     have cF4:w4.cell? ⟨R,16,none⟩=some (.slice ta tn tc):=(uh HP4).subs
     have fF4:w4.frozen? ⟨R,16,none⟩=false:=(uh HP4).subs_f
     clear hO4 hg4 hrow cF2 cF3 HP2 HRS2 HBX2
     refine hK.out _ _ trivial (fun hHeld=>?_)
     clear hK K
     simp only[Act.put,List.setIfInBounds_toArray,List.set_cons_zero,List.set_cons_succ]
     refine rtk 9 (h:=?_)
     refine rtk 10 (h:=?_)
     refine rcl 11 (h:=fun K hK=>?_)
     go_simp
     refine hK.out _ _ trivial (fun hHeld=>?_)
     clear hK K
     refine wpAnyH_done (by kernel_rfl) ?_ _
     refine NoPanic.normal ?_
     have HRS5:Hid (RS w0 (w4.setCell ⟨R,16,none⟩ (.slice sa sn sc)) R st2):=((uh HRS4).less (fun g=>g=R) rfl (fun g hg=>by rw[hXd];exact .inl hg)).set 16 _ (by decide)
     have HP5:Hid (Pk (w4.setCell ⟨R,16,none⟩ (.slice sa sn sc)) R { p with subs:=⟨sa,sn,sc⟩ }):=(uh HP4).set_subs ⟨sa,sn,sc⟩
     have HBX5:Hid (BX R isAny w (w4.setCell ⟨R,16,none⟩ (.slice sa sn sc))):=(uh HBX4).set 16 _ trivial
     have HO5:Hid ((w4.setCell ⟨R,16,none⟩ (.slice sa sn sc)).ownsRow w.heap.size 114 5 (.slice sa sn sc) (k+1) (scs (d++[x]))):=by
      show World.ownsRow _ _ _ _ _ _ _
      rw[show (scs (d++[x]))=(scs d)++x.cells from by rw[scs_app]]
      exact owns_bx (uh HO4) ((BX.refl R isAny w4).set 16 _ trivial) hlt
     have HA5:Hid (Acc sub? st (d++[x]) st2):=(uh HAcc).step sub?_shr (uh HST2) hl0
     have HB5:Hid (∀ l',st2=some l'->(k+1)+l'.length<=65536):=by
      intro l' hl'
      subst hl'
      have h2:=stp_len sub?_shr (uh HST2)
      have h3:=(uh HB) l rfl
      omega
     have hM:mlen R (w4.setCell ⟨R,16,none⟩ (.slice sa sn sc)) < mlen R wr:=by
      rw[mlen_some (uh HRS)]
      cases st2 with
      | none=>rw[mlen_none (uh HRS5)];omega
      | some l' =>
       rw[mlen_some (uh HRS5)]
       have:=stp_len sub?_shr (uh HST2)
       omega
     have hk1:k+1<=65536:=by
      have h3:=(uh HB) l rfl
      have:=List.length_pos_iff.2 hl0
      omega
     have HD5:Hid ((d++[x]).length=k+1):=by show _=_;rw[List.length_append,uh HD];rfl
     clear HRS4 HP4 HBX4 HO4 cF4 fF4
     go_wp2
     go_roundw
     case rel=>exact⟨d++[x],st2,⟨sa,sn,sc⟩,k+1,by go_num,hk1,HD5,HB5,HP5,HO5,HA5,HRS5,HBX5⟩
     case measure=>exact hM)
  ·clear gl
   go_wp2_with fail
   refine (mayCount_any k _).mono ?_
   rintro e wa ⟨rfl,hwa⟩
   obtain rfl:=hwa.symm
   clear hwa
   go_wp2_with fail
   refine (must_any R _ none w0 wr (uh HRS)).mono ?_
   rintro e wb ⟨rfl,h2,hx2⟩
   have H2:=zh h2
   have HX2:=zh hx2
   clear h2 hx2
   go_wp2
   go_end0
   refine⟨rfl,⟨ta,tn,tc⟩,d,_,(uh HPk).bx (uh HX2),?_,?_,uh H2,(uh HBX).trans (uh HX2).any⟩
   ·show World.ownsRow _ _ _ _ _ _ _
    rw[uh HD]
    exact owns_bx (uh HOwn) (uh HX2) hlt
   ·refine ((uh HAcc).done (.inl rfl)).bind ((?_:Stp (mustR (mc d.length)) none () (if mc k then none else none)).bind (Stp.pure _ _))
    rw[uh HD]
    exact Stp.must _ _
structure Wl where
 topic:ByteArray
 payload:ByteArray
 qos:Int
 retain:Bool
 props:List Pr
structure Pa where
 kind:Int
 dup:Bool
 qos:Int
 retain:Bool
 topic:ByteArray
 id:Int
 payload:ByteArray
 props:List Pr
 client:ByteArray
 clean:Bool
 keep:Int
 wills:List Wl
 user:List ByteArray
 pass:List ByteArray
 code:Int
 session:Bool
 subs:List Sb
 filters:List ByteArray
 codes:List Int
def pa0 (kind:Int) (dup:Bool) (qos:Int) (retain:Bool):Pa:=⟨kind,dup,qos,retain,⟨#[]⟩,0,⟨#[]⟩,[],⟨#[]⟩,false,0,[],[],[],0,false,[],[],[]⟩
abbrev sl0:Sl:=⟨none,0,0⟩
def pk0 (kind:Int) (dup:Bool) (qos:Int) (retain:Bool):Pkv:=⟨kind,dup,qos,retain,⟨#[]⟩,0,⟨#[]⟩,sl0,⟨#[]⟩,false,0,sl0,sl0,sl0,0,false,sl0,sl0,sl0⟩
def Ws (w:World) (B:Nat) (ws:List Wv) (us:List Wl):Prop:=ws.length=us.length/\∀ (i:Nat) (a:Wv) (b:Wl),ws[i]?=some a->us[i]?=some b->a.topic=b.topic/\a.payload=b.payload/\a.qos=b.qos/\a.retain=b.retain/\w.ownsRow B 109 4 a.props.val b.props.length (pcs b.props)
structure Mean (w:World) (B:Nat) (p:Pkv) (P:Pa):Prop where
 sc:p.kind=P.kind/\p.dup=P.dup/\p.qos=P.qos/\p.retain=P.retain/\p.topic=P.topic/\p.id=P.id/\p.payload=P.payload/\p.client=P.client/\p.clean=P.clean/\p.keep=P.keep/\p.code=P.code/\p.session=P.session
 props:w.ownsRow B 109 4 p.props.val P.props.length (pcs P.props)
 wills:∃ ws,w.ownsRow B 112 5 p.wills.val P.wills.length (wcs ws)/\Ws w B ws P.wills
 user:w.ownsRow B 9 1 p.user.val P.user.length (P.user.map Value.string)
 pass:w.ownsRow B 9 1 p.pass.val P.pass.length (P.pass.map Value.string)
 subs:w.ownsRow B 114 5 p.subs.val P.subs.length (scs P.subs)
 filters:w.ownsRow B 9 1 p.filters.val P.filters.length (P.filters.map Value.string)
 codes:w.ownsRow B 3 1 p.codes.val P.codes.length (P.codes.map (Value.int .i64))
theorem row0 (w:World) (B:Nat) (e:TypeId) (s:Nat):w.ownsRow B e s sl0.val 0 []:=World.ownsRow_nil _ _ _ _
theorem wills0 (w:World) (B:Nat):∃ ws,w.ownsRow B 112 5 sl0.val 0 (wcs ws)/\Ws w B ws []:=⟨[],World.ownsRow_nil _ _ _ _,rfl,fun i a b h=>by simp at h⟩
theorem row_str {w:World} {B R U:Nat} {b:Bool} {us:Option ByteArray} (h:StrAt B R w b U us):w.ownsRow B 9 1 (isW U b).val us.toList.length (us.toList.map Value.string):=by
 cases b
 ·rw[h.1 rfl]
  exact row0 _ _ _ _
 ·obtain⟨t,rfl,h2,h3,h4,h5⟩:=h.2 rfl
  exact⟨rfl,.inr ⟨U,1,_,rfl,h2,h5,Nat.le_refl _,by unfold maxLen;simp,rfl,rfl⟩⟩
def wlOf (x:Int) (wl:Option (List Pr×ByteArray×ByteArray)):List Wl:=match wl with
 | none=>[]
 | some (q,t,y)=>[⟨t,y,x / 8 % 4,btest x 32,q⟩]
theorem row_will {w:World} {B N R V:Nat} {x:Int} {wl:Option (List Pr×ByteArray×ByteArray)} (h:WillAt B N R w x V wl) (hN:B<=N):∃ ws,w.ownsRow B 112 5 (isW V (btest x 4)).val (wlOf x wl).length (wcs ws)/\Ws w B ws (wlOf x wl):=by
 cases hb:btest x 4
 ·rw[h.1 hb]
  exact wills0 _ _
 ·obtain⟨q,t,y,tq,rfl,h2,h3,h4,h5,h6⟩:=h.2 hb
  refine⟨[⟨t,y,x / 8 % 4,btest x 32,tq⟩],⟨rfl,.inr ⟨V,1,_,rfl,h2,h5,Nat.le_refl _,by unfold maxLen;simp,rfl,rfl⟩⟩,rfl,fun i a b ha hb=>?_⟩
  match i,ha,hb with
  | 0,ha,hb =>
   simp[wlOf]at ha hb
   subst ha hb
   exact⟨rfl,rfl,rfl,rfl,owns_mono h6 hN⟩
  | i+1,ha,_=>simp at ha
def endR (l:List Int):Option (Unit×List Int):=if l.length=0 then some ((),l) else none
def ofCn (P:Pa) (n:Cn):Pa:={ P with clean:=btest n.x 2,keep:=n.keep,props:=n.props,client:=n.client,wills:=wlOf n.x n.will,user:=n.user.toList,pass:=n.pass.toList }
def body? (P:Pa):List Int->Option (Pa×List Int) :=
 if P.kind=1 then bindR connect? fun n=>pureR (ofCn P n)
 else if P.kind=2 then bindR one? fun f=>bindR (mustR (decide (f<=1))) fun _=>bindR one? fun c=>bindR (props? 2) fun x=>pureR { P with session:=f == 1,code:=c,props:=x }
 else if P.kind=3 then bindR (publish? P.qos) fun r=>pureR { P with topic:=r.1,id:=r.2.1,props:=r.2.2.1,payload:=r.2.2.2 }
 else if P.kind=8 then bindR id? fun i=>bindR (props? P.kind) fun x=>bindR (list? sub?) fun d=>pureR { P with id:=i,props:=x,subs:=d }
 else if P.kind=10 then bindR id? fun i=>bindR (props? P.kind) fun x=>bindR (list? text?) fun d=>pureR { P with id:=i,props:=x,filters:=d }
 else if P.kind=9\/P.kind=11 then bindR id? fun i=>bindR (props? P.kind) fun x=>bindR (list? one?) fun d=>pureR { P with id:=i,props:=x,codes:=d }
 else if P.kind=4\/P.kind=5\/P.kind=6\/P.kind=7 then bindR id? fun i=>bindR (reason? P.kind) fun r=>pureR { P with id:=i,code:=r.1,props:=r.2 }
 else if P.kind=14\/P.kind=15 then bindR (reason? P.kind) fun r=>pureR { P with code:=r.1,props:=r.2 }
 else pureR P
def packet? (P:Pa):List Int->Option (Pa×List Int):=bindR (body? P) fun P'=>bindR endR fun _=>pureR P'
theorem stp_end {st:Option (List Int)} {n:Nat} (h:∀ l,st=some l->l.length=n) (b:Bool) (hb:b=decide (n=0)):Stp endR st () (if b then st else none):=by
 cases st with
 | none=>cases b <;> rfl
 | some l =>
  have:=h l rfl
  subst hb
  unfold Stp endR
  by_cases hn:n=0
  ·simp[hn,this]
  ·simp[hn,this]
end Go.Proofs.YtpheelbbpiieiaaGreatDoor.K
