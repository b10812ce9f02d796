/- Proved here: helpers, one text behind the other. -/
import Derived.Test.YtdkmmmjjdlnnoaaGreatDoorZC21
import Derived.Test.YtdkmmmjjdlnnoaaGreatDoorZK10R1
import Derived.Laws.AppendOwn
import Derived.Test.YtdkmmmjjdlnnoaaGreatDoorZC6
import Derived.Test.YtdkmmmjjdlnnoaaGreatDoorZC22
import Derived.Test.YtdkmmmjjdlnnoaaGreatDoorZC3
import Derived.Test.YtdkmmmjjdlnnoaaGreatDoorZC26
import Derived.Test.YtdkmmmjjdlnnoaaGreatDoorZC13
import Derived.Test.YtdkmmmjjdlnnoaaGreatDoorZC15
import Derived.Test.YtdkmmmjjdlnnoaaGreatDoorZC14
import Derived.Test.YtdkmmmjjdlnnoaaGreatDoorZC27
set_option maxHeartbeats 20000000
namespace Go.Proofs.YtdkmmmjjdlnnoaaGreatDoor.K
open Go.RowKit
def Shr {α:Type} (f:List Int->Option (α×List Int)):Prop:=∀ l x l',f l=some (x,l')->l'.length < l.length
theorem many_fuel {α:Type} {f:List Int->Option (α×List Int)} (hf:Shr f):∀ (n m:Nat) (l:List Int),l.length<=n->l.length<=m->many f n l=many f m l
 | 0,m,l,hn,_=>by
  obtain rfl:l=[]:=List.length_eq_zero_iff.1 (by omega)
  rw[many_nil,many_nil]
 | n+1,0,l,_,hm=>by
  obtain rfl:l=[]:=List.length_eq_zero_iff.1 (by omega)
  rw[many_nil,many_nil]
 | n+1,m+1,l,hn,hm=>by
  unfold many
  by_cases hl:l=[]
  ·simp[hl]
  ·simp only[if_neg hl]
   cases h:f l with
   | none=>rfl
   | some r =>
    have:=hf l r.1 r.2 h
    simp only[Option.bind_some]
    rw[many_fuel hf n m r.2 (by omega) (by omega)]
theorem manyR_cons {α:Type} {f:List Int->Option (α×List Int)} (hf:Shr f) (l:List Int) (hl:l≠[]):manyR f l=(f l).bind fun r=>(manyR f r.2).map fun s=>(r.1 :: s.1,s.2):=by
 unfold manyR
 obtain⟨n,hn⟩:∃ n,l.length=n+1:=⟨l.length - 1,by have:=List.length_pos_iff.2 hl;omega⟩
 rw[hn]
 show (if l=[] then _ else _)=_
 rw[if_neg hl]
 cases h:f l with
 | none=>rfl
 | some r =>
  have:=hf l r.1 r.2 h
  simp only[Option.bind_some]
  rw[many_fuel hf n r.2.length r.2 (by omega) (Nat.le_refl _)]
theorem Acc.start {α:Type} (f:List Int->Option (α×List Int)) (st:Option (List Int)):Acc f st [] st:=by
 cases st with
 | none=>rfl
 | some l=>simp[Acc]
theorem Acc.step {α:Type} {f:List Int->Option (α×List Int)} {st0 st':Option (List Int)} {d:List α} {x:α} {l:List Int} (hf:Shr f) (h:Acc f st0 d (some l)) (hs:Stp f (some l) x st') (hl:l≠[]):Acc f st0 (d++[x]) st':=by
 cases st0 with
 | none=>cases h
 | some l0 =>
  unfold Acc at h
  simp only at h
  rw[manyR_cons hf l hl]at h
  unfold Stp at hs
  simp only at hs
  cases hq:f l with
  | none =>
   rw[hq]at hs h
   obtain rfl:st'=none:=hs
   simpa [Acc] using h
  | some r =>
   obtain⟨y,l'⟩:=r
   rw[hq]at hs h
   obtain⟨rfl,rfl⟩:=hs
   simp only[Option.bind_some,Option.map_map]at h
   show manyR f l0=_
   rw[h]
   congr 1
   funext s
   simp
theorem text?_shr:Shr text?:=by
 intro l x l' h
 unfold text? gt at h
 by_cases hf:full l=true
 ·rw[if_pos hf]at h
  have:=full_len l hf
  by_cases hu:utf (sb (gbs l))=true
  ·rw[if_pos hu]at h
   simp only[if_true,Option.some.injEq,Prod.mk.injEq]at h
   obtain⟨_,rfl⟩:=h
   rw[List.length_drop,Int.toNat_natCast]
   omega
  ·rw[if_neg hu]at h
   simp at h
 ·rw[if_neg hf]at h
  simp at h
theorem stp_len {α:Type} {f:List Int->Option (α×List Int)} (hf:Shr f) {l l':List Int} {x:α} (h:Stp f (some l) x (some l')):l'.length < l.length:=by
 unfold Stp at h
 simp only at h
 cases hq:f l with
 | none=>rw[hq]at h;cases h
 | some r =>
  obtain⟨y,l2⟩:=r
  rw[hq]at h
  obtain⟨_,e⟩:=h
  cases e
  exact hf l y l' hq
def mlen (R:Nat) (w:World):Nat:=match w.cell? ⟨R,20,none⟩ with
 | some .nilIface=>match w.cell? ⟨R,19,none⟩ with
  | some (.slice _ n _)=>n+1
  | _=>0
 | _=>0
theorem mlen_some {w0 w:World} {R:Nat} {X:Nat->Prop} {l:List Int} (h:RSX w0 w R X (some l)):mlen R w=l.length+1:=by
 obtain⟨_,_,bv,l',E,hr,hb,_,_,hst⟩:=h
 obtain⟨ao,cap,rfl,_⟩:=hb.form
 rcases hst with⟨e,rfl⟩ | ⟨e,_⟩
 ·cases e
  unfold mlen
  rw[hr.2.2.1,hr.1]
 ·cases e
theorem mlen_none {w0 w:World} {R:Nat} {X:Nat->Prop} (h:RSX w0 w R X none):mlen R w=0:=by
 obtain⟨_,_,bv,l',E,hr,hb,_,_,hst⟩:=h
 rcases hst with⟨e,_⟩ | ⟨_,d,n,_,he⟩
 ·cases e
 ·obtain⟨t,x,rfl⟩:=he.iface
  unfold mlen
  rw[hr.2.2.1]
theorem step_append_run {w:World} {ops:Array Oper} {o:Oper} {a:Act} {K:Act->World->Prop} {Q:Exit->Act->World->Prop} {E:Prop} {Z:Value->World->Prop} (hgd:o.guard=none) (s x:Operand) (t:TypeId)
  (ho:o.op=.call { callee:=.builtin .append,args:=#[s,x],argTypes:=#[t,t] }) (v vx:Value) (hs:a.eval s=v) (hx:a.eval x=vx)
  (hr:∃ v' w',(Builtin.append_ #[t,t] o.type #[v,vx]).run Tryz.prog w=.ok v' w'/\Z v' w') (h:∀ v' w',Z v' w'->K (a.put o.dst v') w') :
  if Region.wanted o (yielded ops a.tmps)=true then Oper.wp Tryz.prog o a w K Q else E:=by
 have hw:Region.wanted o (yielded ops a.tmps)=true:=by simp[Region.wanted,hgd]
 rw[if_pos hw]
 obtain⟨v',w',hr,h2⟩:=hr
 unfold Oper.wp execOp
 simp only[ho,resolve,invoke,builtin,Sem.run_bind,Sem.run_pure,Result.andThen_ok,List.map_toArray,List.map_cons,List.map_nil,hs,hx,hr]
 exact h v' w' h2
set_option maxRecDepth 100000
theorem infoStr:(Tryz.prog.info? 9).map (fun i=>(i.zero,i.size,i.bytes))=some (some (.string ⟨#[]⟩),1,16):=by kernel_rfl
theorem one_str (s:ByteArray):∀ u ∈ [Value.string s],u.oneCell'=true:=by
 intro u hu;simp at hu;subst hu;rfl
def Listfilters (w0:World) (R:Nat) (p:Pkv) (st:Option (List Int)) (w:World) (e:Ending) (w':World):Prop :=
 e=.returned (.tuple #[])/\∃ (t:Sl) (d:List ByteArray) (st':Option (List Int)),Pk w' R { p with filters:=t }/\Hid (w'.ownsRow w.heap.size 9 1 t.val d.length (d.map Value.string))/\Stp (list? text?) st d st'/\RS w0 w' R st'/\BX R isAny w w'
theorem list_filters (R:Nat) (p:Pkv) (st:Option (List Int)) (w0 w:World) (h:RS w0 w R st) (hp:Pk w R p) (hF:p.filters=⟨none,0,0⟩) (hl:∀ l,st=some l->l.length<=65536) (h10:p.kind=10):Calls Tryz.prog 95 #[.pointer (some ⟨R,0,none⟩)] w (Listfilters w0 R p st w):=by
 obtain⟨i0,hi,hz0,hz1,hz2⟩:=info_parts infoStr
 have hlt:=h.lt
 have HW0:=h.keep
 have HP:=zh hp
 have HS:=zh h
 have HL:=zh hl
 have HF:=zh hF
 clear hp h hl hF
 go_enter Tryz.func95,Tryz.ntmps95
 go_wp2
 go_loopw [3] (fun c0 wr=>∃ (d:List ByteArray) (st1:Option (List Int)) (t:Sl) (k:Nat),c0=.int .i64 k/\k<=65536/\Hid (d.length=k)/\Hid (∀ l,st1=some l->k+l.length<=65536)/\Hid (Pk wr R { p with filters:=t })/\Hid (wr.ownsRow w.heap.size 9 1 t.val k (d.map Value.string))/\Hid (Acc text? st d st1)/\Hid (RS w0 wr R st1)/\Hid (BX R isAny w wr)) (fun _ wr=>mlen R wr)
 case atStart =>
  refine⟨[],st,⟨none,0,0⟩,0,rfl,Nat.zero_le _,rfl,fun l hl=>by have:=(uh HL) l hl;omega,?_,World.ownsRow_nil _ _ _ _,Acc.start _ _,uh HS,BX.refl _ _ _⟩
  show Pk _ _ _
  have e:{ p with filters:=⟨none,0,0⟩ }=p:=by rw[<- uh HF]
  rw[e]
  exact uh HP
 case round =>
  obtain⟨d,st1,⟨ta,tn,tc⟩,k,rfl,hk,HD,HB,HPk,HOwn,HAcc,HRS,HBX⟩:=hrel
  obtain⟨ao,m,cap,c19,⟨g1,g2⟩,gl⟩:=(uh HRS).rest
  unfold maxLen at g2
  have c0:=(uh HPk).kind
  simp only at c0
  have cF:wr.cell? ⟨R,17,none⟩=some (.slice ta tn tc):=(uh HPk).filters
  rw[h10]at c0
  rcases (uh HRS).err with⟨l,rfl,c20⟩ | ⟨rfl,ty,x,c20⟩
  ·have hm:=gl l rfl
   clear gl
   by_cases hm0:m=0
   ·subst hm0
    obtain rfl:l=[]:=List.length_eq_zero_iff.1 hm
    go_wp2_with fail
    refine (mayCount_any k _).mono ?_
    rintro e wa ⟨rfl,hwa⟩
    obtain rfl:=hwa.symm
    clear hwa
    go_wp2_with fail
    refine (must_any R _ (some []) w0 wr (uh HRS)).mono ?_
    rintro e wb ⟨rfl,h2,hx2⟩
    have H2:=zh h2
    have HX2:=zh hx2
    clear h2 hx2
    go_wp2
    go_end0
    refine⟨rfl,⟨ta,tn,tc⟩,d,_,(uh HPk).bx (uh HX2),?_,?_,uh H2,(uh HBX).trans (uh HX2).any⟩
    ·show World.ownsRow _ _ _ _ _ _ _
     rw[uh HD]
     exact owns_bx (uh HOwn) (uh HX2) hlt
    ·refine ((uh HAcc).done (.inr rfl)).bind ((?_:Stp (mustR (mc d.length)) (some []) () (if mc k then (some []) else none)).bind (Stp.pure _ _))
     rw[uh HD]
     exact Stp.must _ _
   ·have hl0:l≠[]:=fun e=>hm0 (by rw[<- hm,e];rfl)
    have hbd:=bel_drew wr
    obtain⟨X,hXd⟩:∃ X:Nat->Prop,X=fun g=>g=R\/some g=(Value.slice ta tn tc).ownBlock:=⟨_,rfl⟩
    have HRSd:Hid (RSX w0 wr.drew R X (some l)):=by
     subst hXd
     exact ((uh HRS).below hbd).good _ ⟨.inl rfl,fun g hg=>by
      rcases hg with rfl | hg
      ·exact Nat.lt_of_lt_of_le hlt (uh HBX).size
      ·exact ((uh HOwn).lt g hg.symm).2⟩
    have HPd:=zh ((uh HPk).below hbd)
    have HBXd:Hid (BX R isAny w wr.drew):=(uh HBX).trans (BX.of_below hbd (uh HRS).lt)
    have HOd:Hid (wr.drew.ownsRow w.heap.size 9 1 (.slice ta tn tc) k (d.map Value.string)):=owns_below (uh HOwn) hbd
    clear hbd
    go_wp2_with fail
    refine wp_region_noPanic ?_
    refine wp_region_held_drew (S:=fun _=>True) (by kernel_rfl) trivial (fun hHeld=>?_)
    refine rtk 0 (h:=?_)
    refine rtk 1 (h:=?_)
    refine rtk 2 (h:=?_)
    refine rtk 3 (h:=?_)
    refine rtk 5 (h:=?_)
    refine wpAnyH_ready (rs:=[4,6]) (by kernel_rfl) (by simp) ?_
    refine rac (h:=fun K hK=>?ra) (hs:=(rac (h:=fun K hK=>?rb) (hs:=AllReadyH.nil)))
    case' ra =>
     go_simp
     refine hK.out _ _ trivial (fun hHeld=>?_)
     clear hK K
     refine rcl 6 (h:=fun K hK=>?_)
     go_simp
     refine (text_anyX R X (some l) w0 _ (uh HRSd)).mono ?_
     rintro e w2 ⟨x,st2,rfl,-,hs2,h2,hx2⟩
     have cF2:w2.cell? ⟨R,17,none⟩=some (.slice ta tn tc):=(hx2.cell 17 (by unfold isRE;omega)).trans cF
     have hs2l:w.heap.size<=w2.heap.size:=Nat.le_trans (uh HBX).size hx2.size
     have HP2:=zh ((uh HPd).bx hx2)
     have HRS2:=zh h2
     have HST2:=zh hs2
     have HBX2:Hid (BX R isAny w w2):=(uh HBXd).trans hx2.any
     have HO2:Hid (w2.ownsRow w.heap.size 9 1 (.slice ta tn tc) k (d.map Value.string)):=owns_bx (uh HOd) hx2 hlt
     have hR2:R < w2.heap.size:=Nat.lt_of_lt_of_le hlt hs2l
     have cF3:(w2.alloc (.cells #[.string x] 9)).cell? ⟨R,17,none⟩=some (.slice ta tn tc):=(World.cell?_alloc_lt _ _ ⟨R,17,none⟩ hR2).trans cF2
     clear hx2 h2 hs2
     refine hK.out _ _ trivial (fun hHeld=>?_)
     clear hK K
     refine rcl 7 (h:=fun K hK=>?_)
     go_simp
     refine hK.out _ _ trivial (fun hHeld=>?_)
     clear hK K
    case' rb =>
     go_simp
     refine (text_anyX R X (some l) w0 _ (uh HRSd)).mono ?_
     rintro e w2 ⟨x,st2,rfl,-,hs2,h2,hx2⟩
     have cF2:w2.cell? ⟨R,17,none⟩=some (.slice ta tn tc):=(hx2.cell 17 (by unfold isRE;omega)).trans cF
     have hs2l:w.heap.size<=w2.heap.size:=Nat.le_trans (uh HBX).size hx2.size
     have HP2:=zh ((uh HPd).bx hx2)
     have HRS2:=zh h2
     have HST2:=zh hs2
     have HBX2:Hid (BX R isAny w w2):=(uh HBXd).trans hx2.any
     have HO2:Hid (w2.ownsRow w.heap.size 9 1 (.slice ta tn tc) k (d.map Value.string)):=owns_bx (uh HOd) hx2 hlt
     have hR2:R < w2.heap.size:=Nat.lt_of_lt_of_le hlt hs2l
     have cF3:(w2.alloc (.cells #[.string x] 9)).cell? ⟨R,17,none⟩=some (.slice ta tn tc):=(World.cell?_alloc_lt _ _ ⟨R,17,none⟩ hR2).trans cF2
     clear hx2 h2 hs2
     refine hK.out _ _ trivial (fun hHeld=>?_)
     clear hK K
     refine wpAnyH_ready (rs:=[4,7]) (by kernel_rfl) (by simp) ?_
     refine rac (h:=fun K hK=>?rc) (hs:=(rac (h:=fun K hK=>?rd) (hs:=AllReadyH.nil)))
     case' rc =>
      go_simp
      refine hK.out _ _ trivial (fun hHeld=>?_)
      clear hK K
      refine rcl 7 (h:=fun K hK=>?_)
      go_simp
      refine hK.out _ _ trivial (fun hHeld=>?_)
      clear hK K
     case' rd =>
      go_simp
      refine hK.out _ _ trivial (fun hHeld=>?_)
      clear hK K
      refine rcl 4 (h:=fun K hK=>?_)
      go_simp
      refine hK.out _ _ trivial (fun hHeld=>?_)
      clear hK K
    all_goals (
     refine rcl 8 (h:=fun K hK=>?_)
     refine step_append_run (Z:=fun v' w'=>w'.ownsRow w.heap.size 9 1 v' (k+1) ((d.map Value.string)++[.string x])/\(w2.alloc (.cells #[.string x] 9)).grownBy w' (Value.slice ta tn tc).ownBlock) rfl _ _ 27 rfl (.slice ta tn tc) (.slice (some ⟨w2.heap.size,0,none⟩) 1 1) rfl rfl ?hr ?_
     case hr =>
      obtain⟨v4,w4,h1,h2,h3,_⟩:=run_append_own (P:=Tryz.prog) (w:=(w2.alloc (.cells #[.string x] 9))) w.heap.size 27 27 9 i0 _ 1 16 Tryz.underlying27 hi hz0 hz1 hz2 rfl (by decide) (.slice ta tn tc) k _ ((uh HO2).alloc _) ⟨w2.heap.size,0,none⟩ 1 1 [.string x] rfl (one_cell _ _ _) (one_str _) (by unfold maxLen;omega) (by omega) (by simp;omega)
      exact⟨v4,w4,h1,h2,h3⟩
     rintro v4 w4 ⟨hO4,hg4⟩
     have hrow:∀ g,(Value.slice ta tn tc).ownBlock=some g->w.heap.size<=g/\g < wr.heap.size:=fun g hg=>(uh HOwn).lt g hg
     have hrR:(Value.slice ta tn tc).ownBlock≠some R:=fun e=>by have:=(hrow R e).1;omega
     have HP4:Hid (Pk w4 R { p with filters:=⟨ta,tn,tc⟩ }):=((uh HP2).below (bal _ _)).grown hg4 hrR
     have h0w:w0.heap.size<=w.heap.size:=HW0.size
     have HRS4:Hid (RSX w0 w4 R X st2):=((uh HRS2).below (bal _ _)).grown hg4 (fun g hg=>by rw[hXd];exact .inr hg.symm) hrR (fun g hg=>Nat.le_trans h0w (hrow g hg).1)
     have HBX4:Hid (BX R isAny w w4):=((uh HBX2).trans (BX.of_below (bal _ _) hR2)).grown hg4 (fun g hg=>(hrow g hg).1) hlt
     obtain⟨⟨sa,sn,sc⟩,hv4,_⟩:=owns_sl hO4
     have hv4:v4=.slice sa sn sc:=hv4
     subst hv4
     have HO4:=zh hO4
     have cF4:w4.cell? ⟨R,17,none⟩=some (.slice ta tn tc):=(uh HP4).filters
     have fF4:w4.frozen? ⟨R,17,none⟩=false:=(uh HP4).filters_f
     clear hO4 hg4 hrow cF2 cF3 HP2 HRS2 HBX2
     refine hK.out _ _ trivial (fun hHeld=>?_)
     clear hK K
     simp only[Act.put,List.setIfInBounds_toArray,List.set_cons_zero,List.set_cons_succ]
     refine rtk 9 (h:=?_)
     refine rtk 10 (h:=?_)
     refine rcl 11 (h:=fun K hK=>?_)
     go_simp
     refine hK.out _ _ trivial (fun hHeld=>?_)
     clear hK K
     refine wpAnyH_done (by kernel_rfl) ?_ _
     refine NoPanic.normal ?_
     have HRS5:Hid (RS w0 (w4.setCell ⟨R,17,none⟩ (.slice sa sn sc)) R st2):=((uh HRS4).less (fun g=>g=R) rfl (fun g hg=>by rw[hXd];exact .inl hg)).set 17 _ (by decide)
     have HP5:Hid (Pk (w4.setCell ⟨R,17,none⟩ (.slice sa sn sc)) R { p with filters:=⟨sa,sn,sc⟩ }):=(uh HP4).set_filters ⟨sa,sn,sc⟩
     have HBX5:Hid (BX R isAny w (w4.setCell ⟨R,17,none⟩ (.slice sa sn sc))):=(uh HBX4).set 17 _ trivial
     have HO5:Hid ((w4.setCell ⟨R,17,none⟩ (.slice sa sn sc)).ownsRow w.heap.size 9 1 (.slice sa sn sc) (k+1) ((d++[x]).map Value.string)):=by
      show World.ownsRow _ _ _ _ _ _ _
      rw[show ((d++[x]).map Value.string)=(d.map Value.string)++[.string x] from by simp]
      exact owns_bx (uh HO4) ((BX.refl R isAny w4).set 17 _ trivial) hlt
     have HA5:Hid (Acc text? st (d++[x]) st2):=(uh HAcc).step text?_shr (uh HST2) hl0
     have HB5:Hid (∀ l',st2=some l'->(k+1)+l'.length<=65536):=by
      intro l' hl'
      subst hl'
      have h2:=stp_len text?_shr (uh HST2)
      have h3:=(uh HB) l rfl
      omega
     have hM:mlen R (w4.setCell ⟨R,17,none⟩ (.slice sa sn sc)) < mlen R wr:=by
      rw[mlen_some (uh HRS)]
      cases st2 with
      | none=>rw[mlen_none (uh HRS5)];omega
      | some l' =>
       rw[mlen_some (uh HRS5)]
       have:=stp_len text?_shr (uh HST2)
       omega
     have hk1:k+1<=65536:=by
      have h3:=(uh HB) l rfl
      have:=List.length_pos_iff.2 hl0
      omega
     have HD5:Hid ((d++[x]).length=k+1):=by show _=_;rw[List.length_append,uh HD];rfl
     clear HRS4 HP4 HBX4 HO4 cF4 fF4
     go_wp2
     go_roundw
     case rel=>exact⟨d++[x],st2,⟨sa,sn,sc⟩,k+1,by go_num,hk1,HD5,HB5,HP5,HO5,HA5,HRS5,HBX5⟩
     case measure=>exact hM)
  ·clear gl
   go_wp2_with fail
   refine (mayCount_any k _).mono ?_
   rintro e wa ⟨rfl,hwa⟩
   obtain rfl:=hwa.symm
   clear hwa
   go_wp2_with fail
   refine (must_any R _ none w0 wr (uh HRS)).mono ?_
   rintro e wb ⟨rfl,h2,hx2⟩
   have H2:=zh h2
   have HX2:=zh hx2
   clear h2 hx2
   go_wp2
   go_end0
   refine⟨rfl,⟨ta,tn,tc⟩,d,_,(uh HPk).bx (uh HX2),?_,?_,uh H2,(uh HBX).trans (uh HX2).any⟩
   ·show World.ownsRow _ _ _ _ _ _ _
    rw[uh HD]
    exact owns_bx (uh HOwn) (uh HX2) hlt
   ·refine ((uh HAcc).done (.inl rfl)).bind ((?_:Stp (mustR (mc d.length)) none () (if mc k then none else none)).bind (Stp.pure _ _))
    rw[uh HD]
    exact Stp.must _ _
theorem rng2 {x y:Int} (h:0<=x/\x<=255) (k:0<=y/\y<=255):∀ j,0<=([x,y]:List Int).getD j 0/\([x,y]:List Int).getD j 0<=255:=by
 intro j
 match j with
 | 0=>exact h
 | 1=>exact k
 | j+2=>simp
theorem wtwo_any (W:Nat) (bv E:Value) (sz:Nat) (T:List Int) (n:Int) (w:World) (h:WS w W bv sz T E) (hE:EV E) (hn:-9223372036854775808<=n/\n<=9223372036854775807) (hs:sz<=4611686018427387904) (hT:T.length<=65536) :
  Calls Tryz.prog 109 #[.pointer (some ⟨W,0,none⟩),.int .i64 n] w (AddPost W bv sz T [n / 256 % 256,n % 256] (mst (decide (0<=n) && decide (n < 65536)) E) w):=by
 have HS:=zh h
 have hW:W < w.heap.size:=cell_lt h.wt.1.1
 have HM:=zh (fun c=>wmust_gen W bv E sz c w h.wt hE)
 clear h
 go_enter Tryz.func109,Tryz.ntmps109
 go_wp2_with fail
 all_goals (
  refine ((uh HM) _).mono ?_
  rintro e w1 ⟨rfl,hw1,hx1,hev⟩
  have HS1:=zh ((uh HS).bx hx1 hw1)
  have HX1:=zh hx1
  have hz1:=hx1.size
  have HE1:=zh hev
  clear hw1 hx1 hev HM HS
  have HA:Hid (Below w1.heap.size w1 (w1.alloc (.cells #[.int .u8 (n / 256 % 256),.int .u8 (n % 256)] 5))):=bal _ _
  have HS2:=zh ((uh HS1).below (uh HA))
  have HRW:Hid ((w1.alloc (.cells #[.int .u8 (n / 256 % 256),.int .u8 (n % 256)] 5)).ownsRow (W+1) 5 1 (.slice (some ⟨w1.heap.size,0,none⟩) 2 2) 2 ([n / 256 % 256,n % 256].map (Value.int .u8))):=⟨rfl,.inr ⟨w1.heap.size,2,#[.int .u8 (n / 256 % 256),.int .u8 (n % 256)],rfl,by omega,heap_alloc_new _ _,Nat.le_refl _,by unfold maxLen;omega,rfl,rfl⟩⟩
  have hb:0<=n % 256/\n % 256<=255:=by omega
  have hb2:0<=n / 256 % 256/\n / 256 % 256<=255:=by omega
  have HAD:=zh (wadd_any W bv _ .nilIface sz T [n / 256 % 256,n % 256] (.slice (some ⟨w1.heap.size,0,none⟩) 2 2) _ (uh HS2) (uh HE1) (.inl rfl) (fun w' hx=>byt_bxw (uh HRW) (rng2 hb2 hb) hx (Nat.lt_succ_self _)) hs (by simp) hT)
  rw[fst_nil (uh HE1)]at HAD
  go_wp2_with fail
  refine (uh HAD).mono ?_
  rintro e w3 hp
  have HP:=zh (hp.ahead (uh HX1) (uh HA) (fun j (e:j=21)=>by subst e;decide) (by omega))
  obtain⟨bv',rfl,-⟩:=hp
  clear HAD HS2 HRW HS1
  go_wp2
  go_end0
  have hh:=uh HP
  first
   | (have h0:(0:Int)<=n:=(by assumption);rw[decide_eq_true h0,Bool.true_and];exact hh)
   | (have h0:n < 0:=(by assumption);rw[decide_eq_false (by omega),Bool.false_and];exact hh))
theorem wid_any (W:Nat) (bv E:Value) (sz:Nat) (T:List Int) (n:Int) (w:World) (h:WS w W bv sz T E) (hE:EV E) (hn:-9223372036854775808<=n/\n<=9223372036854775807) (hs:sz<=4611686018427387904) (hT:T.length<=65536) :
  Calls Tryz.prog 66 #[.pointer (some ⟨W,0,none⟩),.int .i64 n] w (AddPost W bv sz T [n / 256 % 256,n % 256] (mst (decide (0<=n) && decide (n < 65536)) (mst (n != 0) E)) w):=by
 have HS:=zh h
 have hW:W < w.heap.size:=cell_lt h.wt.1.1
 have HM:=zh (wmust_gen W bv E sz (n != 0) w h.wt hE)
 clear h
 go_enter Tryz.func66,Tryz.ntmps66
 go_wp2_with fail
 refine (uh HM).mono ?_
 rintro e w1 ⟨rfl,hw1,hx1,hev⟩
 have HAD:=zh (wtwo_any W bv _ sz T n w1 ((uh HS).bx hx1 hw1) hev hn hs hT)
 have HX1:=zh hx1
 clear hw1 hx1 hev HM HS
 go_wp2_with fail
 refine (uh HAD).mono ?_
 rintro e w3 hp
 have HP:=zh (hp.ahead (uh HX1) (Below.refl _ _) (fun j (e:j=21)=>by subst e;decide) (Nat.lt_of_lt_of_le hW (uh HX1).size))
 obtain⟨bv',rfl,-⟩:=hp
 clear HAD
 go_wp2
 go_end0
 exact uh HP
theorem wtext_ok (W:Nat) (bv E:Value) (sz:Nat) (T:List Int) (s:ByteArray) (w:World) (h:WS w W bv sz T E) (hE:EV E) (hc:chk (sb s)=0) (hs:sz<=4611686018427387904) (hT:T.length<=65536) :
  Calls Tryz.prog 108 #[.pointer (some ⟨W,0,none⟩),.string s] w (AddPost W bv sz T (tx s) E w):=by
 have HS:=zh h
 have hW:W < w.heap.size:=cell_lt h.wt.1.1
 have hs2:s.size<=65535:=by have:=chk_0 hc;rw[sb_length]at this;exact this
 have hl:=tx_length s
 have hr:=tx_range s hs2
 have HP:=zh (put_ok s w hc)
 have HR:=zh hr
 have HE:=zh hE
 clear h hc hr hE
 go_enter Tryz.func108,Tryz.ntmps108
 go_wp2_with fail
 refine (uh HP).mono ?_
 rintro e w1 ⟨v,rfl,hown,hb⟩
 have HA:=zh hb
 have HS1:=zh ((uh HS).below hb)
 have HAD:=zh (wadd_any W bv E .nilIface sz T (tx s) v w1 (uh HS1) (uh HE) (.inl rfl) (fun w' hx=>byt_bxw (B:=w.heap.size) (by rw[hl];exact uh hown) (uh HR) hx hW) hs (by rw[hl];omega) hT)
 rw[fst_nil (uh HE)]at HAD
 clear hown hb HP HS
 go_wp2_with fail
 refine (uh HAD).mono ?_
 rintro e w3 hp
 have HQ:=zh (hp.ahead (BX.refl W isT w) (uh HA) (fun _ e=>e) hW)
 obtain⟨bv',rfl,-⟩:=hp
 clear HAD HS1
 go_wp2
 go_end0
 exact uh HQ
theorem mst_mst {c d:Bool} {E:Value} (hE:EV E):mst c (mst d E)=mst (c && d) E:=by
 rcases hE with rfl | ⟨t,x,rfl⟩
 ·cases c <;> cases d <;> rfl
 ·rw[mst_if,mst_if,mst_if]
theorem er_off {w:World} {W:Nat} {bv:Value} {sz:Nat} {T:List Int} {E:Value} {c:Bool} (hW:WS w W bv sz T E) (hc:w.cell? ⟨W,1,none⟩=some (.bool c)) (h2:bv.ownBlock=none\/2<=T.length):∀ {d:Nat} {v:Value} {n:Int},Er w d v n->ErO w (offX W bv) d v n
 | 0,_,_,h=>h
 | _+1,_,_,⟨b,u,h1,k2,h3⟩=>by
  obtain⟨t,x,hu⟩:=h3.iface
  refine⟨b,u,h1,?_,k2,er_off hW hc h2 h3⟩
  subst hu
  rintro (e | e)
  ·subst e
   rw[hc]at k2
   cases k2
  ·rcases h2 with h2 | h2
   ·rw[h2]at e;cases e
   ·rcases hW.row.2 with⟨rfl,h0⟩ | ⟨g,cap,cur,rfl,_,hg,hn,_,hsz,hx⟩
    ·cases e
    ·cases e
     have hy:=byt_of_owns hW.row hW.rng
     obtain⟨ao,cap',hv,_,_,hc'⟩:=hy
     simp only[Value.slice.injEq]at hv
     obtain⟨rfl,_,_⟩:=hv
     rcases hc' with rfl | ⟨b',off',e',hc'⟩
     ·simp at h2
     ·simp only[Option.some.injEq,Addr.mk.injEq,and_true]at e'
      obtain⟨rfl,rfl⟩:=e'
      have k:=hc' 1 (by omega)
      rw[Nat.zero_add,k2]at k
      cases k
theorem must_q {w0 w:World} {W:Nat} {p:Pkv} {st:Option (List Int)} {m:Nat} (h:WQ w0 w W p st m) (c:Bool):Calls Tryz.prog 69 #[.pointer (some ⟨W,0,none⟩),.bool c] w (QPost w0 W p (st.bind (sMust c)) m w):=by
 obtain⟨h1,h2,h3,bv,sz,T,E,h4,h5,h6,h7⟩:=h
 refine (wmust_gen W bv E sz c w h4.wt h7.ev).mono ?_
 rintro r w' ⟨rfl,k1,k2,k3⟩
 have hm21:∀ j,is21 j->19<=j:=fun j (e:j=21)=>by subst e;decide
 have hF:FW W bv.ownBlock w w':=FW.of_bx k2 hm21
 refine⟨rfl,⟨hF.below h1 h2 (fun g e=>by have:=ws_rows h4 g e;omega),h2,h3.fw hF,bv,sz,T,_,h4.bx k2 k1,h5,h6,?_⟩,FT.of_bx k2⟩
 cases st with
 | none =>
  obtain⟨d,n,hd,he⟩:=h7
  obtain⟨t,x,rfl⟩:=he.iface
  rw[mst_if]
  exact⟨d,n,hd,he.fw hF.fb (.inl rfl)⟩
 | some l =>
  obtain⟨rfl,k⟩:=h7
  cases c
  ·exact⟨0,1,by omega,rfl⟩
  ·exact⟨rfl,k⟩
theorem id_q {w0 w:World} {W:Nat} {p:Pkv} {st:Option (List Int)} {m:Nat} (h:WQ w0 w W p st m) (n:Int) (hn:-9223372036854775808<=n/\n<=9223372036854775807) (hm:m<=4611686018427387904):Calls Tryz.prog 66 #[.pointer (some ⟨W,0,none⟩),.int .i64 n] w (QPost w0 W p (st.bind (sAdd (in16 n && n != 0) (b2 n))) (m+2) w):=by
 obtain⟨h1,h2,h3,bv,sz,T,E,h4,h5,h6,h7⟩:=h
 refine (wid_any W bv E sz T n w h4 h7.ev hn (by omega) h5.1).mono ?_
 intro e w' hA
 rw[mst_mst h7.ev]at hA
 exact wq_step (in16 n && n != 0) h4 h6 h5 h7 h1 h2 h3 hA (by simp) (fun l _=>.inr (by simp))
theorem add_bad_q {w0 w:World} {W:Nat} {p:Pkv} {st:Option (List Int)} {m:Nat} (h:WQ w0 w W p st m) (t:TypeId) (x:Value) (he:∃ d n,d<=2/\Er w d (.iface t x) n) (hl:∀ l,st=some l->l.length≠1) (hm:m<=4611686018427387904) :
  Calls Tryz.prog 114 #[.pointer (some ⟨W,0,none⟩),.slice none 0 0,.iface t x] w (QPost w0 W p none m w):=by
 obtain⟨h1,h2,h3,bv,sz,T,E,h4,h5,h6,h7⟩:=h
 refine (wadd_bad W bv E t x sz T w h4 h7.ev (by omega)).mono ?_
 rintro r w' ⟨rfl,k1,k2⟩
 have hF:FW W bv.ownBlock w w':=FW.of_bx k2 (fun _ e=>e)
 refine⟨rfl,⟨hF.below h1 h2 (fun g e=>by have:=ws_rows h4 g e;omega),h2,h3.fw hF,bv,sz,T,_,k1,h5,h6,?_⟩,FT.of_bx k2⟩
 cases st with
 | none =>
  obtain⟨d,n,hd,he⟩:=h7
  obtain⟨t',x',rfl⟩:=he.iface
  rw[fst_if]
  exact⟨d,n,hd,he.fw hF.fb (.inl rfl)⟩
 | some l =>
  obtain⟨rfl,_,_,k⟩:=h7
  obtain⟨d,n,hd,he⟩:=he
  exact⟨d,n,hd,(er_off h4 h3.dup (k.elim .inl (fun k=>k.elim .inr (fun k=>absurd k (hl l rfl)))) he).fw hF.fb (.inl rfl)⟩
theorem tx_ne (s:ByteArray):tx s≠[]:=fun e=>by have:=tx_length s;rw[e]at this;simp at this;omega
theorem text_q {w0 w:World} {W:Nat} {p:Pkv} {st:Option (List Int)} {m:Nat} (h:WQ w0 w W p st m) (s:ByteArray) (hs:s.size<=4611686018427387904) (hl:∀ l,st=some l->l.length≠1) (hm:m<=4611686018427387904) :
  Calls Tryz.prog 108 #[.pointer (some ⟨W,0,none⟩),.string s] w (QPost w0 W p (st.bind (sAdd (okT s) (tx s))) (m+70000) w):=by
 by_cases hc:chk (sb s)=0
 ·have hk:okT s=true:=decide_eq_true hc
  rw[hk]
  have h2:s.size<=65535:=by have:=chk_0 hc;rw[sb_length]at this;exact this
  obtain⟨h1,h2',h3,bv,sz,T,E,h4,h5,h6,h7⟩:=h
  refine (wtext_ok W bv E sz T s w h4 h7.ev hc (by omega) h5.1).mono ?_
  intro e w' hA
  have hT:=tx_length s
  obtain⟨k1,k2,k3⟩:=wq_step true h4 h6 h5 h7 h1 h2' h3 hA (tx_ne s) (fun l e=>.inl (hl l e))
  exact⟨k1,k2.mono (by omega),k3⟩
 ·have hk:okT s=false:=decide_eq_false hc
  rw[hk,bind_no]
  have HQ:=zh h
  have HL:=zh hl
  have HP:=zh (tput_bad s w hs hc)
  clear h hc hk hl
  go_enter Tryz.func108,Tryz.ntmps108
  go_wp2_with fail
  refine (uh HP).mono ?_
  rintro e w1 ⟨x,n,rfl,hi,hb⟩
  have HA:=zh (add_bad_q ((uh HQ).below hb) 125 x (by obtain⟨d,hd,he⟩:=er_of_inn (uh hi);exact⟨d,n,hd,he⟩) (uh HL) hm)
  have HB:=zh hb
  clear hb HP HQ hi
  go_wp2_with fail
  refine (uh HA).mono ?_
  rintro e w2 ⟨rfl,hq,hf⟩
  have HQ2:=zh (hq.mono (show m<=m+70000 from by omega))
  have HF:=zh ((FT.of_below (W:=W) (uh HB)).trans hf)
  clear hq hf HA
  go_wp2
  go_end0
  exact⟨rfl,uh HQ2,uh HF⟩
theorem take_strs (W j:Nat) (x:Sl) (w:World) (hc:w.cell? ⟨W,j,none⟩=some (x.val)) (hf:w.frozen? ⟨W,j,none⟩=false):Calls Tryz.prog 113 #[.pointer (some ⟨W,j,none⟩)] w fun e w'=>e=.returned (x.val)/\w'=w.setCell ⟨W,j,none⟩ (sl0.val):=by
 obtain⟨a,n,c⟩:=x
 have hc:w.cell? ⟨W,j,none⟩=some (.slice a n c):=hc
 go_enter Tryz.func113,Tryz.ntmps113
 go_wp2
 go_ret
 exact⟨rfl,rfl⟩
theorem take_id_q {w0 w:World} {W:Nat} {p:Pkv} {st:Option (List Int)} {m:Nat} (h:WQ w0 w W p st m) (x:Int) (hx:p.id=x):Calls Tryz.prog 62 #[.pointer (some ⟨W,5,none⟩)] w fun e w'=>e=.returned (.int .i64 x)/\WQ w0 w' W p.no_id st m:=by
 subst hx
 refine (take_int W 5 p.id w h.pk.id h.pk.id_f).mono ?_
 rintro e w' ⟨rfl,rfl⟩
 exact⟨rfl,h.set p.no_id 5 (by omega) (fun j hj=>by unfold Pkv.no_id Pkv.cell;split <;> first | rfl | exact absurd rfl hj)⟩
theorem take_filters_q {w0 w:World} {W:Nat} {p:Pkv} {st:Option (List Int)} {m:Nat} (h:WQ w0 w W p st m) (x:Sl) (hx:p.filters=x):Calls Tryz.prog 113 #[.pointer (some ⟨W,17,none⟩)] w fun e w'=>e=.returned (x.val)/\WQ w0 w' W p.no_filters st m:=by
 subst hx
 refine (take_strs W 17 p.filters w h.pk.filters h.pk.filters_f).mono ?_
 rintro e w' ⟨rfl,rfl⟩
 exact⟨rfl,h.set p.no_filters 17 (by omega) (fun j hj=>by unfold Pkv.no_filters Pkv.cell;split <;> first | rfl | exact absurd rfl hj)⟩
theorem bind_bind (st:Option (List Int)) (f g:List Int->Option (List Int)):(st.bind f).bind g=st.bind fun t=>(f t).bind g:=by cases st <;> rfl
theorem Ge2.one {st:Option (List Int)} (h:Ge2 st):∀ l,st=some l->l.length≠1:=fun l e=>by have:=h l e;omega
theorem each_app {α:Type} (f:α->List Int->Option (List Int)) (b:α):∀ (l:List α) (t:List Int),sEach f (l++[b]) t=(sEach f l t).bind (f b)
 | [],t=>by
  have k:∀ x:Option (List Int),x.bind (sEach f [])=x:=fun x=>by cases x <;> rfl
  exact k _
 | a :: r,t=>by
  show (f a t).bind (sEach f (r++[b]))=((f a t).bind (sEach f r)).bind (f b)
  cases f a t with
  | none=>rfl
  | some u=>exact each_app f b r u
theorem each_snoc {α:Type} (f:α->List Int->Option (List Int)) (d:α) (st:Option (List Int)) (l:List α) (k:Nat) (hk:k < l.length):st.bind (sEach f (l.take (k+1)))=(st.bind (sEach f (l.take k))).bind (f (l.getD k d)):=by
 rw[List.take_add_one,List.getElem?_eq_getElem hk,bind_bind,List.getD_eq_getElem?_getD,List.getElem?_eq_getElem hk]
 cases st with
 | none=>rfl
 | some t=>exact each_app f _ _ t
theorem each_nil {α:Type} (f:α->List Int->Option (List Int)) (st:Option (List Int)) (l:List α):st.bind (sEach f (l.take 0))=st:=by cases st <;> rfl
theorem pbs_ne (l:List Pr):pbs l≠[]:=fun e=>by
 unfold pbs at e
 have h:=V.put_len (body l).length
 rw[(List.append_eq_nil_iff.1 e).1]at h
 simp at h
theorem props_q {w0 w:World} {W:Nat} {p:Pkv} {st:Option (List Int)} {m:Nat} (h:WQ w0 w W p st m) (v:Value) (l:List Pr) (place:Int) (hP:Prp w v l) (hmx:l.length<=4398046511104) (hsm:Go.Proofs.YtdkmmmjjdlnnoaaGreatDoor.Small l) (hl:∀ l,st=some l->l.length≠1) (hm:m<=4611686018427387904) :
  Calls Tryz.prog 63 #[.pointer (some ⟨W,0,none⟩),v,.int .i64 place] w (QPost w0 W p (st.bind (sAdd (okP place l) (pbs l))) (m+5000000) w):=by
 have HQ:=zh h
 have HL:=zh hl
 have HP:=zh (putU_any v l place w hP hmx hsm)
 obtain⟨ao,cap,rfl⟩:=hP.form
 have hW:=h.lt
 clear h hl hP hsm
 go_enter Tryz.func63,Tryz.ntmps63
 go_wp2_with fail
 refine (uh HP).mono ?_
 rintro e w1 ⟨hb,⟨hk,v1,rfl,ho,hr⟩ | ⟨hk,x,rfl,he⟩⟩
 ·have HK:=zh hk
  have hle:=pbs_le (of_decide_eq_true hk)
  have HA:Hid (Calls Tryz.prog 114 #[.pointer (some ⟨W,0,none⟩),v1,.nilIface] w1 (QPost w0 W p (st.bind (sAdd true (pbs l))) (m+5000000) w1)):=by
   obtain⟨h1,h2,h3,bv,sz,T,E,h4,h5,h6,h7⟩:=(uh HQ).below hb
   refine (wadd_any W bv E .nilIface sz T (pbs l) v1 w1 h4 h7.ev (.inl rfl) (fun w' hx=>byt_bxw (B:=w.heap.size) ho hr hx hW) (by omega) (by omega) h5.1).mono ?_
   intro e w' hA
   rw[fst_nil h7.ev]at hA
   obtain⟨k1,k2,k3⟩:=wq_step true h4 h6 h5 h7 h1 h2 h3 hA (pbs_ne l) (fun l' e=>.inl ((uh HL) l' e))
   exact⟨k1,k2.mono (by omega),k3⟩
  have HB:=zh hb
  clear hb ho hr HP HQ hk
  go_wp2_with fail
  refine (uh HA).mono ?_
  rintro e w2 ⟨rfl,hq,hf⟩
  have HF:=zh ((FT.of_below (W:=W) (uh HB)).trans hf)
  have HQ2:=zh hq
  clear hq hf HA
  go_wp2
  go_end0
  exact⟨rfl,by rw[uh HK];exact uh HQ2,uh HF⟩
 ·have HK:=zh hk
  have HA:=zh (add_bad_q ((uh HQ).below hb) 125 x he (uh HL) hm)
  have HB:=zh hb
  clear hb he HP HQ hk
  go_wp2_with fail
  refine (uh HA).mono ?_
  rintro e w2 ⟨rfl,hq,hf⟩
  have HF:=zh ((FT.of_below (W:=W) (uh HB)).trans hf)
  have HQ2:=zh (hq.mono (show m<=m+5000000 from by omega))
  clear hq hf HA
  go_wp2
  go_end0
  exact⟨rfl,by rw[uh HK,bind_no];exact uh HQ2,uh HF⟩
theorem stp_le {α:Type} {f:List Int->Option (α×List Int)} (hf:∀ l x l',f l=some (x,l')->l'.length<=l.length) {st:Option (List Int)} {l':List Int} {x:α} (h:Stp f st x (some l')):∃ l,st=some l/\l'.length<=l.length:=by
 cases st with
 | none=>cases h
 | some l =>
  unfold Stp at h
  simp only at h
  cases hq:f l with
  | none=>rw[hq]at h;cases h
  | some r =>
   obtain⟨y,l2⟩:=r
   rw[hq]at h
   obtain⟨_,e⟩:=h
   cases e
   exact⟨l,rfl,hf l y l' hq⟩
theorem stp_le2 {α β:Type} {f:List Int->Option (α×List Int)} {g:List Int->Option (β×List Int)} (hf:∀ l x l',f l=some (x,l')->l'.length<=l.length) (hg:∀ l x l',g l=some (x,l')->l'.length<=l.length) {st st1:Option (List Int)} {l':List Int} {x:α} {y:β} (h:Stp f st x st1) (h2:Stp g st1 y (some l')) (hl:∀ l,st=some l->l.length<=65536):l'.length<=65536:=by
 obtain⟨l1,rfl,k1⟩:=stp_le hg h2
 obtain⟨l0,rfl,k0⟩:=stp_le hf h
 have:=hl l0 rfl
 omega
theorem id?_le (l:List Int) (x:Int) (l':List Int) (h:id? l=some (x,l')):l'.length<=l.length:=by
 unfold id? at h
 match l,h with
 | [],h=>cases h
 | [a],h=>cases h
 | a :: b :: t,h =>
  simp only[two?]at h
  split at h
  ·cases h
  ·simp at h
   obtain⟨_,rfl⟩:=h
   simp
   omega
theorem props?_le (place:Int) (l:List Int) (x:List Pr) (l':List Int) (h:props? place l=some (x,l')):l'.length<=l.length:=by
 unfold props? at h
 split at h
 ·simp at h
  obtain⟨_,rfl⟩:=h
  rw[List.length_drop]
  omega
 ·cases h
theorem packet_k10 (R:Nat) (st:Option (List Int)) (w0 w:World) (h:RS w0 w R st) (hp:Pk w R (pk0 10 false 0 false)) (hl:∀ l,st=some l->l.length<=65536):Calls Tryz.prog 46 #[.pointer (some ⟨R,0,none⟩)] w (PackPost w0 R (pa0 10 false 0 false) st w):=by
 have hlt:=h.lt
 have c0:=hp.kind
 have HP:=zh hp
 have HS:=zh h
 have HL:=zh hl
 clear hp h hl
 simp only[pk0]at c0
 go_enter Tryz.func46,Tryz.ntmps46
 go_wp2_with fail
 refine (id_any R st w0 w (uh HS)).mono ?_
 rintro e w1 ⟨i,st1,rfl,-,hs1,h1,hx1⟩
 have hp1:=(uh HP).bx hx1
 have c5:=hp1.id
 have f5:=hp1.id_f
 have d0:w1.cell? ⟨R,0,none⟩=some (.int .i64 10):=hp1.kind
 have HP1:=zh (hp1.set_id i)
 have HS1:=zh (h1.set 5 (.int .i64 i) (by decide))
 have HX1:=zh ((hx1.any).set 5 (.int .i64 i) trivial)
 have HST1:=zh hs1
 clear hp1 h1 hx1 hs1 c0
 go_wp2_with fail
 refine (props_any R 10 st1 w0 _ (uh HS1)).mono ?_
 rintro e w2 ⟨t,x,st2,rfl,hO2,hs2,h2,hx2⟩
 have hp2:=(uh HP1).bx hx2
 have c7:=hp2.props
 have f7:=hp2.props_f
 have HP2:=zh (hp2.set_props t)
 have HS2:=zh (h2.set 7 t.val (by decide))
 have HX2:=zh (((uh HX1).trans hx2.any).set 7 t.val trivial)
 have HST2:=zh hs2
 have HO2:Hid ((w2.setCell ⟨R,7,none⟩ t.val).ownsRow w.heap.size 88 4 t.val x.length (pcs x)):=owns_bx (owns_mono (uh hO2) (uh HX1).size) ((BX.refl R isAny w2).set 7 _ trivial) hlt
 have HL2:Hid (∀ l,st2=some l->l.length<=65536):=fun l hl=>by
  subst hl
  exact stp_le2 id?_le (props?_le _) (uh HST1) hs2 (uh HL)
 clear hp2 h2 hx2 hs2 hO2 c5 f5 d0
 go_wp2_with fail
 refine (list_filters R { (pk0 10 false 0 false)with id:=i,props:=t } st2 w0 _ (uh HS2) (uh HP2) rfl (uh HL2) rfl).mono ?_
 rintro e w3 ⟨rfl,td,d,st3,hp3,hO3,hs3,h3,hx3⟩
 have HP3:=zh hp3
 have HS3:=zh h3
 have HX3:=zh ((uh HX2).trans hx3)
 have HST3:=zh hs3
 have HO3:=zh (owns_bx (uh HO2) hx3 hlt)
 have HD3:=zh (owns_mono (uh hO3) (uh HX2).size)
 clear hp3 h3 hx3 hs3 hO3 c7 f7
 obtain⟨ao,n,cap,c19,⟨g1,g2⟩,gl⟩:=(uh HS3).rest
 unfold maxLen at g2
 have GL:=zh gl
 clear gl
 have HM:Hid (Mean w3 w.heap.size { (pk0 10 false 0 false)with id:=i,props:=t,filters:=td } { (pa0 10 false 0 false)with id:=i,props:=x,filters:=d }):=⟨⟨rfl,rfl,rfl,rfl,rfl,rfl,rfl,rfl,rfl,rfl,rfl,rfl⟩,uh HO3,wills0 _ _,row0 _ _ _ _,row0 _ _ _ _,row0 _ _ _ _,uh HD3,row0 _ _ _ _⟩
 have hbz:((n:Int) == 0)=decide (n=0):=by by_cases h:n=0 <;> simp[h]
 go_wp2_with fail
 refine (must_any R _ st3 w0 _ (uh HS3)).mono ?_
 rintro e wz ⟨rfl,hz,hxz⟩
 have HZ:=zh hz
 have HXZ:=zh hxz
 clear hz hxz
 go_wp2
 go_end0
 have hBY:Stp (body? (pa0 10 false 0 false)) st { (pa0 10 false 0 false)with id:=i,props:=x,filters:=d } st3:=by
  show Stp (bindR id? fun i=>bindR (props? 10) fun x=>bindR (list? text?) fun d=>pureR { (pa0 10 false 0 false)with id:=i,props:=x,filters:=d }) st { (pa0 10 false 0 false)with id:=i,props:=x,filters:=d } st3
  exact (uh HST1).bind ((uh HST2).bind ((uh HST3).bind (Stp.pure _ _)))
 exact⟨rfl,{ (pk0 10 false 0 false)with id:=i,props:=t,filters:=td },{ (pa0 10 false 0 false)with id:=i,props:=x,filters:=d },_,(uh HP3).bx (uh HXZ),(uh HM).bx (uh HXZ) hlt,packet_stp hBY (stp_end (uh GL) _ (by first | exact hbz | rfl | simp)),uh HZ,(uh HX3).trans (uh HXZ).any⟩
theorem wl_filters_core {w0 w:World} {W:Nat} {p:Pkv} {st:Option (List Int)} {m:Nat} (h:WQ w0 w W p st m) (hk:p.kind=10) (ss:List ByteArray) (len:Nat) (hln:ss.length=len) (ao:Option Addr) (cap:Nat) (hv:p.filters.val=.slice ao len cap) (hlc:len<=cap) (hS:ss=[]\/∃ b off,ao=some ⟨b,off,none⟩/\∀ j,j < ss.length->w0.cell? ⟨b,off+j,none⟩=some (.string (ss.getD j ⟨#[]⟩))) (hz:∀ k,k < ss.length->(ss.getD k ⟨#[]⟩).size<=4611686018427387904) (hg:Ge2 st) (c:Nat) (hc:70001<=c) (hm:m+len * c<=4611686018427300000) :
  Calls Tryz.prog 67 #[.pointer (some ⟨W,0,none⟩)] w fun e w'=>e=.returned (.tuple #[])/\WQ w0 w' W p.no_filters ((st.bind (sMust (mc len))).bind (sEach sTx ss)) (m+len * c):=by
 have HG:=zh hg
 have HZ:=zh hz
 clear hz
 have hkc:=h.pk.kind
 rw[hk]at hkc
 have HQ:=zh h
 have HV:=zh hv
 have HS:=zh hS
 have HLN:=zh hln
 have hlen:len<=4611686018427300000:=Nat.le_trans (Nat.le_mul_of_pos_right _ (by omega)) (show len * c<=4611686018427300000 from by omega)
 clear h hg hv hS hln
 go_enter Tryz.func67,Tryz.ntmps67
 go_wp2_with fail
 refine (take_filters_q (uh HQ) _ rfl).mono ?_
 rintro e w1 ⟨rfl,hq1⟩
 rw[uh HV]
 have HQ1:=zh hq1
 clear hq1 HQ HV hkc
 go_wp2_with fail
 refine (mayCount_any _ _).mono ?_
 rintro e w2 ⟨rfl,hw2⟩
 obtain rfl:=hw2.symm
 clear hw2
 go_wp2_with fail
 refine (must_q (uh HQ1) (mc len)).mono ?_
 rintro e w3 ⟨rfl,hq3,-⟩
 have HQ3:=zh hq3
 have HG3:=zh ((uh HG).must (mc len))
 clear hq3 HQ1 HG
 obtain⟨s1,HST⟩:∃ s1,Hid (s1=st.bind (sMust (mc len))):=⟨_,rfl⟩
 rw[<- uh HST]at HQ3 HG3
 go_wp2
 go_loopw [72] (fun i wr=>∃ k:Nat,k<=len/\i=.int .i64 k/\Hid (WQ w0 wr W p.no_filters (s1.bind (sEach sTx (ss.take k))) (m+k * c))/\Hid (Ge2 (s1.bind (sEach sTx (ss.take k))))) (fun i _=>len - (intOf i).toNat)
 case atStart=>exact⟨0,Nat.zero_le _,rfl,by rw[each_nil,Nat.zero_mul];exact HQ3,by rw[each_nil];exact HG3⟩
 case round =>
  obtain⟨k,hk,rfl,HQK,HGK⟩:=hrel
  clear HQ3 HG3
  by_cases hlt:k < len
  ·have hkl:k < ss.length:=by rw[uh HLN];exact hlt
   have HE:=zh (each_snoc sTx ⟨#[]⟩ s1 ss k hkl)
   have hmk:m+k * c+c<=4611686018427300000:=by
    have:=Nat.mul_le_mul_right c (show k+1<=len from hlt)
    rw[Nat.succ_mul]at this
    omega
   have HMS:Hid (m+k * c+c=m+(k+1) * c):=by show _=_;rw[Nat.succ_mul];omega
   obtain⟨b,off,rfl,hcl⟩:∃ b off,ao=some ⟨b,off,none⟩/\∀ j,j < ss.length->w0.cell? ⟨b,off+j,none⟩=some (.string (ss.getD j ⟨#[]⟩)):=by
    rcases uh HS with e | k
    ·rw[e]at hkl;simp at hkl
    ·exact k
   have hb:=hcl k hkl
   have hB:=(uh HQK).bel
   have e0:=(hB.cell (cell_lt hb)).trans hb
   have hzz:=(uh HZ) k hkl
   generalize ss.getD k ⟨#[]⟩=sv at e0 hzz HE hb
   clear hcl hb hB
   generalize m+k * c=mk at HQK hmk HMS
   go_wp2_with fail
   refine (text_q (uh HQK) sv hzz (uh HGK).one (by omega)).mono ?_
   rintro e w5 ⟨rfl,hq5,-⟩
   have HQ5:=zh (hq5.mono (show _<=mk+c from by omega))
   clear hq5 HQK e0
   go_wp2
   go_roundw
   case rel=>exact⟨k+1,by omega,by go_num,by rw[uh HE,<- uh HMS];exact HQ5,by rw[uh HE];exact (uh HGK).add _ _⟩
   case measure=>simp[intOf];omega
  ·obtain rfl:k=len:=by omega
   have HF:Hid (WQ w0 wr W p.no_filters ((st.bind (sMust (mc k))).bind (sEach sTx ss)) (m+k * c)):=by
    have q:=uh HQK
    rw[List.take_of_length_le (Nat.le_of_eq (uh HLN)),uh HST]at q
    exact q
   go_wp2
   go_end0
   exact⟨rfl,uh HF⟩
theorem wl_filters {w0 w:World} {W:Nat} {p:Pkv} {st:Option (List Int)} {m:Nat} (h:WQ w0 w W p st m) (hk:p.kind=10) (ss:List ByteArray) (hS:Txs w0 p.filters.val ss) (hz:∀ k,k < ss.length->(ss.getD k ⟨#[]⟩).size<=4611686018427387904) (hg:Ge2 st) (c:Nat) (hc:70001<=c) (hm:m+ss.length * c<=4611686018427300000) :
  Calls Tryz.prog 67 #[.pointer (some ⟨W,0,none⟩)] w fun e w'=>e=.returned (.tuple #[])/\WQ w0 w' W p.no_filters ((st.bind (sMust (mc ss.length))).bind (sEach sTx ss)) (m+ss.length * c):=by
 obtain⟨ao,cap,hv,⟨hlc,_⟩,hS⟩:=hS
 exact wl_filters_core h hk ss _ rfl ao cap hv hlc hS hz hg c hc hm
end Go.Proofs.YtdkmmmjjdlnnoaaGreatDoor.K
