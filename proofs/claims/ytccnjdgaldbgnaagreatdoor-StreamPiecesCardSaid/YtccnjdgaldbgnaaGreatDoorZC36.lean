/- Proved here: helpers, one text behind the other. -/
import Derived.Test.YtccnjdgaldbgnaaGreatDoorZC30
import Derived.Test.YtccnjdgaldbgnaaGreatDoorZC32
import Derived.Test.YtccnjdgaldbgnaaGreatDoorZC9
import Derived.Test.YtccnjdgaldbgnaaGreatDoorZC15
import Derived.Test.YtccnjdgaldbgnaaGreatDoorZC35
import Derived.Lib.AppendStr
set_option maxHeartbeats 20000000
namespace Go.Proofs.YtccnjdgaldbgnaaGreatDoor.K
open Go.RowKit
set_option maxRecDepth 100000
def wrc (q:Pkv):Array Value:=#[.int .i64 q.kind,.bool q.dup,.int .i64 q.qos,.bool q.retain,.string q.topic,.int .i64 q.id,.string q.payload,q.props.val,.string q.client,.bool q.clean,.int .i64 q.keep,q.wills.val,q.user.val,q.pass.val,.int .i64 q.code,.bool q.session,q.subs.val,q.filters.val,q.codes.val,.slice none 0 0,.int .i64 0,.nilIface]
theorem writer_build (a:Act) (dst:Option Tmp) (x:Operand) (ty:TypeId) (pos:String) (after:Array Edge) (q:Pkv) (hx:a.eval x=q.val) (w:World) :
  (execOp a.eval ⟨dst,.build 59 #[(0,x)],ty,pos,after,none⟩).run Tryz.prog w=.ok (.value (.agg (wrc q))) w:=by
 unfold execOp
 simp only[List.map_toArray,List.map_cons,List.map_nil,hx]
 kernel_rfl
theorem writer_alloc (ρ:Operand->Value) (dst:Option Tmp) (ty:TypeId) (pos:String) (after:Array Edge) (w:World) :
  (execOp ρ ⟨dst,.alloc 59,ty,pos,after,none⟩).run Tryz.prog w=.ok (.value (.pointer (some ⟨w.heap.size,0,none⟩))) (w.alloc (.cells (wrc pkz) 59)):=by
 kernel_rfl
theorem writer_size:(Tryz.prog.info? 59).map (·.size)=some 22:=by kernel_rfl
theorem wrc_one (q:Pkv):(wrc q).all (·.oneCell')=true:=by
 unfold wrc
 kernel_rfl
theorem writer_store (a:Act) (dst:Option Tmp) (x y:Operand) (ty:TypeId) (pos:String) (after:Array Edge) (q:Pkv) (w:World) (hx:a.eval x=.pointer (some ⟨w.heap.size,0,none⟩)) (hy:a.eval y=.agg (wrc q)) :
  (execOp a.eval ⟨dst,.store 59 x y,ty,pos,after,none⟩).run Tryz.prog (w.alloc (.cells (wrc pkz) 59))=.ok .skip (w.alloc (.cells (wrc q) 59)):=by
 show Sem.run Tryz.prog (do Instr.storeAt 59 (a.eval x) (a.eval y);pure Next.skip) _=_
 rw[hx,hy]
 simp only[Sem.run_bind]
 rw[run_storeAt_new w 59 (wrc pkz) (wrc q) (by rw[writer_size];rfl) rfl (wrc_one q)]
 rfl
theorem wrc_cell {w:World} {q:Pkv} (j:Nat) (v:Value) (h:(wrc q)[j]?=some v):(w.alloc (.cells (wrc q) 59)).cell? ⟨w.heap.size,j,none⟩=some v:=by
 have k:=heap_alloc_new w (.cells (wrc q) 59)
 unfold World.cell?
 dsimp only
 rw[k]
 simpa using h
theorem wrc_pk (w:World) (q:Pkv):Pk (w.alloc (.cells (wrc q) 59)) w.heap.size q:=fun j hj=>by
 refine⟨wrc_cell j _ ?_,by simp⟩
 rw[<- cells_get q j hj]
 match j,hj with
 | 0,_=>rfl
 | 1,_=>rfl
 | 2,_=>rfl
 | 3,_=>rfl
 | 4,_=>rfl
 | 5,_=>rfl
 | 6,_=>rfl
 | 7,_=>rfl
 | 8,_=>rfl
 | 9,_=>rfl
 | 10,_=>rfl
 | 11,_=>rfl
 | 12,_=>rfl
 | 13,_=>rfl
 | 14,_=>rfl
 | 15,_=>rfl
 | 16,_=>rfl
 | 17,_=>rfl
 | 18,_=>rfl
 | n+19,h=>exact absurd h (by omega)
theorem wq_new (w:World) (q:Pkv):WQ w (w.alloc (.cells (wrc q) 59)) w.heap.size q (some []) 0:=by
 have hfz:∀ j,(w.alloc (.cells (wrc q) 59)).frozen? ⟨w.heap.size,j,none⟩=false:=fun j=>by simp
 refine⟨bal _ _,Nat.le_refl _,wrc_pk w q,.slice none 0 0,0,[],.nilIface,⟨⟨⟨wrc_cell 19 _ rfl,hfz 19⟩,⟨wrc_cell 20 _ rfl,hfz 20⟩,wrc_cell 21 _ rfl,hfz 21⟩,World.ownsRow_nil _ _ _ _,fun j=>by simp⟩,⟨by simp,by simp⟩,Nat.le_refl _,rfl,rfl,fun _=>rfl,.inl rfl⟩
def fb (kind f:Int):Int:=bits .or .i64 (wrap64 (kind * 16)) f % 256
def ebytes (kind f:Int) (l:List Int):List Int:=([fb kind f]++V.put (l.length:Int))++l
theorem ebytes_len (kind f:Int) (l:List Int):(ebytes kind f l).length=1+(V.put (l.length:Int)).length+l.length:=by
 unfold ebytes
 rw[List.length_append,List.length_append]
 rfl
theorem byt_grown {w w':World} {v:Value} {l:List Int} {row:Option Nat} (h:Byt w v l) (hg:w.grownBy w' row) (hr:∀ b off n cap,v=.slice (some ⟨b,off,none⟩) n cap->1<=n->row≠some b):Byt w' v l:=by
 obtain⟨ao,cap,h1,h2,h3,h4⟩:=h
 refine⟨ao,cap,h1,h2,h3,?_⟩
 rcases h4 with h4 | ⟨b,off,e,hc⟩
 ·exact .inl h4
 ·refine .inr ⟨b,off,e,fun j hj=>?_⟩
  subst e
  exact hg.cell (hc j hj) (fun e=>hr b off _ cap h1 (by omega) e.symm)
def EncQ (f:Int) (ok:Bool) (kind:Int) (st:Option (List Int)) (w:World) (e:Ending) (w':World):Prop:=Below w.heap.size w w' /\
 (((ok=false\/st=none)/\∃ x,e=.returned (.tuple #[.slice none 0 0,.iface 62 x])/\Hid (ErP w' (.iface 62 x) 1)) \/
  (ok=true/\∃ l,st=some l/\65536 < (ebytes kind f l).length/\∃ x,e=.returned (.tuple #[.slice none 0 0,.iface 62 x])/\Hid (ErP w' (.iface 62 x) 2)) \/
  (ok=true/\∃ l,st=some l/\(ebytes kind f l).length<=65536/\∃ v,e=.returned (.tuple #[v,.nilIface])/\Hid (w'.ownsRow w.heap.size 5 1 v (ebytes kind f l).length ((ebytes kind f l).map (Value.int .u8)))/\Hid (∀ j,0<=(ebytes kind f l).getD j 0/\(ebytes kind f l).getD j 0<=255)))
theorem enc_core (q q':Pkv) (f:Int) (ok:Bool) (st:Option (List Int)) (M:Nat) (w:World) (hM:M<=4611686018427300000)
  (hfl:∀ W:World,Calls Tryz.prog 18 #[.agg q.cells.toArray] W fun e w'=>e=.returned (.tuple #[.int .i64 f,.bool ok])/\Below W.heap.size W w')
  (hpk:∀ w0 w1 W,Below w.heap.size w w0->WQ w0 w1 W q (some []) 0->Calls Tryz.prog 20 #[.pointer (some ⟨W,0,none⟩)] w1 (GPost w0 W q' st M)) :
  Calls Tryz.prog 10 #[q.val] w (EncQ f ok q.kind st w):=by
 have HPN:=zh (pk_new w q)
 have HBN:Hid (Below w.heap.size w (w.alloc (.cells q.cells.toArray 45))):=bal _ _
 have HFL:=zh hfl
 have HPK:=zh hpk
 clear hfl hpk
 go_enter Tryz.func10,Tryz.ntmps10
 go_upto_region 1 with fail
 change Code.wp _ _ _ _ (w.alloc (.cells q.cells.toArray 45))
 generalize w.alloc (.cells q.cells.toArray 45)=wa at HPN HBN |-
 go_step
 refine wpList_load_mid rfl 45 _ rfl w.heap.size 0 rfl q.cells _ (uh HPN).range Tryz.underlying45 rfl packet_size ?_
 simp only[Act.put,List.setIfInBounds_toArray,List.set_cons_zero,List.set_cons_succ]
 go_wp2_with fail
 refine ((uh HFL) _).mono ?_
 rintro e w1 ⟨rfl,hb1⟩
 have HP1:=zh ((uh HPN).below hb1)
 have HB1:Hid (Below w.heap.size w w1):=(uh HBN).trans (hb1.mono (uh HBN).size)
 have hAl:w.heap.size < w1.heap.size:=cell_lt (uh HP1).kind
 clear hb1 HPN HBN HFL
 cases ok
 ·go_wp2_with fail
  refine (pf_use 1 _).mono ?_
  rintro e w2 ⟨x,rfl,hE,hb2⟩
  have HB2:Hid (Below w.heap.size w w2):=(uh HB1).trans (hb2.mono (uh HB1).size)
  clear hb2
  go_wp2
  go_ret2
  exact⟨uh HB2,.inl ⟨.inl rfl,x,rfl,hE⟩⟩
 ·go_upto_region 4 with fail
  go_step
  refine wpList_load_mid rfl 45 _ rfl w.heap.size 0 rfl q.cells _ (uh HP1).range Tryz.underlying45 rfl packet_size ?_
  simp only[Act.put,List.setIfInBounds_toArray,List.set_cons_zero,List.set_cons_succ]
  refine Go.Proofs.YtccnjdgaldbgnaaGreatDoor.wpList_value rfl (writer_build _ _ _ _ _ _ q rfl _) ?_
  simp only[Act.put,List.setIfInBounds_toArray,List.set_cons_zero,List.set_cons_succ]
  refine Go.Proofs.YtccnjdgaldbgnaaGreatDoor.wpList_value rfl (writer_alloc _ _ _ _ _ _) ?_
  simp only[Act.put,List.setIfInBounds_toArray,List.set_cons_zero,List.set_cons_succ]
  refine Go.Proofs.YtccnjdgaldbgnaaGreatDoor.wpList_skip rfl (writer_store _ _ _ _ _ _ _ q w1 rfl rfl) ?_
  simp only[Act.put]
  have HC:=zh ((uh HPK) w1 _ w1.heap.size (uh HB1) (wq_new w1 q))
  have hWl:w1.heap.size < (w1.alloc (.cells (wrc q) 59)).heap.size:=by simp
  have HB2:Hid (Below w.heap.size w (w1.alloc (.cells (wrc q) 59))):=(uh HB1).trans ((bal _ _).mono (uh HB1).size)
  generalize w1.alloc (.cells (wrc q) 59)=w2 at HC hWl HB2 |-
  clear HPK
  go_wp2_with fail
  refine (uh HC).mono ?_
  rintro e w3 ⟨rfl,h1,h2,h3,bv,sz,T,E,h4,h5,h6,h7⟩
  have HP3:Hid (Pk w3 w.heap.size q):=(uh HP1).below h1
  have HB3:Hid (Below w.heap.size w w3):=(uh HB1).trans (h1.mono (uh HB1).size)
  have hW3:w1.heap.size < w3.heap.size:=cell_lt h3.kind
  obtain⟨⟨a1,a2⟩,⟨b1,b2⟩,c1,c2⟩:=h4.wt
  have HWS:=zh h4
  clear h1 h2 h3 h4 a2 b2 c2 HC HB2 hWl HP1 HB1
  cases st with
  | none =>
   obtain⟨d,n,hd,he⟩:=h7
   obtain⟨t,x,rfl⟩:=he.iface
   have HER:=zh he.er
   clear he
   go_wp2_with fail
   refine (pbroken d hd _ n _ (uh HER)).mono ?_
   rintro e w4 ⟨y,rfl,hE,hb4⟩
   have HB4:Hid (Below w.heap.size w w4):=(uh HB3).trans (hb4.mono (uh HB3).size)
   clear hb4 HER HWS
   go_wp2
   go_ret2
   exact⟨uh HB4,.inl ⟨.inr rfl,y,rfl,hE⟩⟩
  | some l =>
   obtain⟨rfl,hsz,hTl⟩:=h7
   have HSZ:=zh hsz
   have HTL:=zh hTl
   have hsM:sz<=4611686018427300000:=by omega
   clear hsz hTl h5 h6
   by_cases hv:sz<=268435455
   ·go_wp2_with fail
    refine (vput_use sz w3 (by omega) (by omega)).mono ?_
    rintro e w4 ⟨v,rfl,hO4,hy4,hb4⟩
    have HB4:Hid (Below w.heap.size w w4):=(uh HB3).trans (hb4.mono (uh HB3).size)
    have f19:=(hb4.cell (p:=⟨w1.heap.size,19,none⟩) hW3).trans a1
    have f20:=(hb4.cell (p:=⟨w1.heap.size,20,none⟩) hW3).trans b1
    have HP4:=zh ((uh HP3).below hb4)
    have f0:=(uh HP4).kind
    have hW4:w1.heap.size < w4.heap.size:=Nat.lt_of_lt_of_le hW3 hb4.size
    have HWS4:=zh ((uh HWS).below hb4)
    have hpl:=V.put_len (sz:Int)
    obtain⟨vo,vc,rfl,hvc,-⟩:=(uh hy4).form
    generalize hPL:(V.put (sz:Int)).length=pl at *
    have HPL:=zh hPL
    clear hb4 HB3 HP3 HWS a1 b1 c1 hPL
    by_cases hbig:1+pl+sz<=65536
    ·have HT:Hid (T=l):=(uh HTL) (by rw[<- uh HSZ];omega)
     have HO5:Hid ((w4.alloc (.cells #[.int .u8 (fb q.kind f)] 5)).ownsRow w4.heap.size 5 1 (.slice (some ⟨w4.heap.size,0,none⟩) 1 1) 1 (([fb q.kind f]:List Int).map (Value.int .u8))) :=
      ⟨rfl,.inr ⟨w4.heap.size,1,_,rfl,Nat.le_refl _,heap_alloc_new _ _,Nat.le_refl _,by unfold maxLen;simp,rfl,rfl⟩⟩
     have hfb:bits .or .i64 (wrap64 (q.kind * 16)) f % 256=fb q.kind f:=rfl
     have hfr:0<=fb q.kind f/\fb q.kind f<=255:=by unfold fb;omega
     generalize fb q.kind f=fz at HO5 hfb hfr
     have HY5:Hid (Byt (w4.alloc (.cells #[.int .u8 fz] 5)) (.slice vo pl vc) (V.put (sz:Int))):=(uh hy4).below (bal _ _)
     have hR4:=(uh hy4).range
     have HR4:=zh hR4
     have HBR:=zh (owns_blk (uh HWS4).row)
     clear hR4 hO4 hy4
     go_wp2_with (first
      | (at_builtin;refine wpList_append_byt _ rfl _ _ rfl w4.heap.size _ 1 [fz] rfl (uh HO5) (.slice vo pl vc) (V.put (sz:Int)) rfl (uh HY5) (by rw[uh HPL];omega) (by simp) ?_)
      | go_in)
     intro v6 w6 hown6 hgrow6
     have hrow:∀ g,(Value.slice (some ⟨w4.heap.size,0,none⟩) 1 1).ownBlock=some g->g=w4.heap.size:=fun g hg=>by cases hg;rfl
     have g19:w6.cell? ⟨w1.heap.size,19,none⟩=some bv:=hgrow6.cell ((World.cell?_alloc_lt _ _ ⟨w1.heap.size,19,none⟩ hW4).trans f19) (fun e=>by have:=hrow _ e.symm;simp at this;omega)
     have HO6:Hid (w6.ownsRow w4.heap.size 5 1 v6 (1+(V.put (sz:Int)).length) (([fz]++V.put (sz:Int)).map (Value.int .u8))):=by rw[List.map_append];exact hown6
     have hs6:w4.heap.size<=w6.heap.size:=Nat.le_trans (by simp) hgrow6.size
     have HB6:Hid (Below w.heap.size w w6):=((uh HB4).trans ((bal _ _).mono (uh HB4).size)).grown hgrow6 (Nat.le_trans (uh HB4).size (by simp)) (fun g hg=>by rw[hrow g hg];exact (uh HB4).size)
     have HW6:Hid (Byt w6 bv l):=by
      have k:=byt_of_owns (uh HWS4).row (uh HWS4).rng
      rw[uh HT]at k
      have k2:=k.below ((Below.refl _ _).alloc (Nat.le_refl _) (.cells #[.int .u8 fz] 5))
      exact byt_grown k2 hgrow6 (fun b off n cap e _=>fun e2=>by
       have:=hrow b e2
       rcases (uh HWS4).row.2 with⟨e3,_⟩ | ⟨g,c3,cur,e3,_,hg,_⟩
       ·rw[e3]at e;cases e
       ·rw[e3]at e
        cases e
        have:=(Array.getElem?_eq_some_iff.1 hg).1
        omega)
     obtain⟨bo,bc,rfl,-⟩:=(uh HW6).form
     obtain⟨v6o,v6n,v6c,rfl⟩:∃ a n p,v6=.slice a n p:=by
      rcases (uh HO6).2 with⟨rfl,_⟩ | ⟨g,cap,cur,rfl,_⟩
      ·exact⟨_,_,_,rfl⟩
      ·exact⟨_,_,_,rfl⟩
     clear hown6 hgrow6 hrow f19 f20 f0 HO5 HY5
     go_wp2_with (first
      | (at_builtin;refine wpList_append_byt _ rfl _ _ rfl w4.heap.size _ (1+(V.put (sz:Int)).length) ([fz]++V.put (sz:Int)) rfl (uh HO6) (.slice bo l.length bc) l rfl (uh HW6) (by have:=uh HPL;have:=uh HSZ;omega) hs6 ?_)
      | go_in)
     intro v7 w7 hown7 hgrow7
     have HB7:Hid (Below w.heap.size w w7):=(uh HB6).grown hgrow7 (uh HB6).size (fun g hg=>Nat.le_trans (uh HB4).size ((uh HO6).lt g hg).1)
     have HF:Hid (EncQ f true q.kind (some l) w (.returned (.tuple #[v7,.nilIface])) w7):=by
      have e:ebytes q.kind f l=([fz]++V.put (sz:Int))++l:=by unfold ebytes;rw[uh HSZ,<- hfb];rfl
      have el:(ebytes q.kind f l).length=1+(V.put (sz:Int)).length+l.length:=by rw[ebytes_len,uh HSZ]
      refine⟨uh HB7,.inr (.inr ⟨rfl,l,rfl,by rw[el,uh HPL,<- uh HSZ];exact hbig,v7,rfl,?_,?_⟩)⟩
      ·rw[el,e,List.map_append]
       exact owns_mono hown7 (uh HB4).size
      ·rw[e]
       exact range_app (range_app (rng1 hfr) (uh HR4)) (uh HW6).range
     obtain⟨v7o,v7n,v7c,rfl⟩:∃ a n p,v7=.slice a n p:=by
      rcases hown7.2 with⟨rfl,_⟩ | ⟨g,cap,cur,rfl,_⟩
      ·exact⟨_,_,_,rfl⟩
      ·exact⟨_,_,_,rfl⟩
     clear hown7 hgrow7 g19
     go_wp2
     go_ret2
     exact uh HF
    ·go_wp2_with fail
     refine (pf_use 2 _).mono ?_
     rintro e w5 ⟨x,rfl,hE,hb5⟩
     have HF:Hid (EncQ f true q.kind (some l) w (.returned (.tuple #[.slice none 0 0,.iface 62 x])) w5):=⟨(uh HB4).trans (hb5.mono (uh HB4).size),.inr (.inl ⟨rfl,l,rfl,by rw[ebytes_len,<- uh HSZ,uh HPL];omega,x,rfl,hE⟩)⟩
     clear hb5
     go_wp2
     go_ret2
     exact uh HF
   ·go_wp2_with fail
    refine (V.put_bad sz _ (.inr (by omega))).mono ?_
    rintro e w4 ⟨rfl,hw4⟩
    have HB4:Hid (Below w.heap.size w w4):=by rw[hw4];exact (uh HB3).alloc (uh HB3).size _
    clear hw4
    go_wp2_with fail
    refine (pf_use 2 _).mono ?_
    rintro e w5 ⟨x,rfl,hE,hb5⟩
    have HF:Hid (EncQ f true q.kind (some l) w (.returned (.tuple #[.slice none 0 0,.iface 62 x])) w5):=⟨(uh HB4).trans (hb5.mono (uh HB4).size),.inr (.inl ⟨rfl,l,rfl,by rw[ebytes_len,<- uh HSZ];omega,x,rfl,hE⟩)⟩
    clear hb5
    go_wp2
    go_ret2
    exact uh HF
theorem strCells_sb (s:ByteArray):Lib.strCells s=(sb s).map (Value.int .u8):=by
 unfold Lib.strCells sb
 rw[List.map_map]
 rfl
theorem pay_no {w0 w w2:World} {W:Nat} {p:Pkv} {st:Option (List Int)} {m:Nat} {bv:Value} {sz:Nat} {T:List Int} {E:Value} (s:ByteArray) (h1:Below w0.heap.size w0 w) (h2:w0.heap.size<=W) (h3:Pk w W p) (h4:WS w W bv sz T E) (h5:T.length<=65536/\T.length<=sz) (h6:sz<=m) (h7:Sg w W bv sz T E st)
  (hw:Wtr w2 W bv ((sz:Int)+(s.size:Int)) E) (hx:BX W is20 w w2) (hr:¬ sz+s.size<=65536):WF w0 w2 W p (st.bind (sAdd true (sb s))) (m+s.size):=by
 have hF:FW W bv.ownBlock w w2:=FW.of_bx hx (fun j (e:j=20)=>by subst e;decide)
 refine⟨hF.below h1 h2 (fun g e=>by have:=ws_rows h4 g e;omega),h2,h3.fw hF,bv,sz+s.size,T,E,h4.bx hx (by rw[Int.natCast_add];exact hw),⟨h5.1,by omega⟩,by omega,?_⟩
 cases st with
 | none=>obtain⟨d,n,hd,he⟩:=h7;exact⟨d,n,hd,(he.fw hF.fb (.inl rfl)).weak (fun _ e=>.inl e)⟩
 | some l =>
  obtain⟨rfl,k2,k3,_⟩:=h7
  have hl:(l++sb s).length=sz+s.size:=by rw[List.length_append,sb_length];omega
  exact⟨rfl,hl.symm,fun k=>absurd k (by rw[hl];exact hr)⟩
theorem pay_yes {w0 w w2 w3:World} {W:Nat} {p:Pkv} {st:Option (List Int)} {m:Nat} {bv v3:Value} {sz:Nat} {T:List Int} {E:Value} (s:ByteArray) (h1:Below w0.heap.size w0 w) (h2:w0.heap.size<=W) (h3:Pk w W p) (h4:WS w W bv sz T E) (h5:T.length<=65536/\T.length<=sz) (h6:sz<=m) (h7:Sg w W bv sz T E st)
  (hw:Wtr w2 W bv ((sz:Int)+(s.size:Int)) E) (hx:BX W is20 w w2) (hr:sz+s.size<=65536)
  (ho:w3.ownsRow (W+1) 5 1 v3 (T.length+s.size) ((T++sb s).map (Value.int .u8))) (hg:w2.grownBy w3 bv.ownBlock):WF w0 (w3.setCell ⟨W,19,none⟩ v3) W p (st.bind (sAdd true (sb s))) (m+s.size):=by
 have hW:W < w.heap.size:=cell_lt h3.kind
 have hrow:=ws_rows h4
 have hne:some W≠bv.ownBlock:=fun e=>by have:=hrow W e.symm;omega
 have hW2:W < w2.heap.size:=Nat.lt_of_lt_of_le hW hx.size
 have hF1:FW W bv.ownBlock w w2:=FW.of_bx hx (fun j (e:j=20)=>by subst e;decide)
 have hF2:FW W bv.ownBlock w2 w3:=FW.of_grown hg hW2 hne
 have hF3:FW W none w3 (w3.setCell ⟨W,19,none⟩ v3):=FW.of_bx ((BX.refl W isT w3).set 19 v3 (Nat.le_refl _)) (fun _ e=>e)
 have hF:FW W bv.ownBlock w (w3.setCell ⟨W,19,none⟩ v3):=(hF1.trans hF2 (fun g e=>.inl e)).trans hF3 (fun g e=>by cases e)
 have hb3:w3.heap[W]?=w2.heap[W]?:=hg.block W hW2 hne
 have hc:∀ j,w3.cell? ⟨W,j,none⟩=w2.cell? ⟨W,j,none⟩:=fun j=>World.cell?_of_block hb3
 have hfz:∀ j,w3.frozen? ⟨W,j,none⟩=w2.frozen? ⟨W,j,none⟩:=fun j=>World.frozen?_of_block hb3
 obtain⟨⟨a1,a2⟩,⟨b1,b2⟩,d1,d2⟩:=hw
 have hTl:(T++sb s).length=T.length+s.size:=by rw[List.length_append,sb_length]
 refine⟨hF.below h1 h2 (fun g e=>by have:=hrow g e;omega),h2,h3.fw hF,v3,sz+s.size,T++sb s,E,⟨⟨⟨World.cell?_setCell_same _ _ _ ((hc 19).trans a1),by rw[World.frozen?_setCell];exact (hfz 19).trans a2⟩,⟨(World.cell?_setCell_other _ _ _ _ (fun e=>by simp at e)).trans ((hc 20).trans (by rw[Int.natCast_add];exact b1)),by rw[World.frozen?_setCell];exact (hfz 20).trans b2⟩,(World.cell?_setCell_other _ _ _ _ (fun e=>by simp at e)).trans ((hc 21).trans d1),by rw[World.frozen?_setCell];exact (hfz 21).trans d2⟩,?_,?_⟩,⟨by omega,by omega⟩,by omega,?_⟩
 ·rw[hTl]
  exact owns_out ho (Nat.lt_succ_self _)
 ·intro j
  have r1:=h4.rng j
  have r2:=sb_range s (j - T.length)
  by_cases hj:j < T.length
  ·rw[List.getD_eq_getElem?_getD,List.getElem?_append_left hj,<- List.getD_eq_getElem?_getD];exact r1
  ·rw[List.getD_eq_getElem?_getD,List.getElem?_append_right (by omega),<- List.getD_eq_getElem?_getD];exact r2
 cases st with
 | none=>obtain⟨d,n,hd,he⟩:=h7;exact⟨d,n,hd,(he.fw hF.fb (.inl rfl)).weak (fun _ e=>.inl e)⟩
 | some l =>
  obtain⟨rfl,k2,k3,_⟩:=h7
  have hl:(l++sb s).length=sz+s.size:=by rw[List.length_append,sb_length];omega
  exact⟨rfl,hl.symm,fun k=>by rw[k3 (by rw[hl]at k;omega)]⟩
def sPub (topic:ByteArray) (qos id kind:Int) (l:List Pr) (payload:ByteArray) (t:List Int):Option (List Int) :=
 (((sAdd (okT topic) (tx topic) t).bind (if 0 < qos then sAdd (in16 id && id != 0) (b2 id) else some)).bind (sAdd (okP kind l) (pbs l))).bind (sAdd true (sb payload))
theorem bind_some' (x:Option (List Int)):x.bind some=x:=by cases x <;> rfl
theorem ge2_tx (s:ByteArray) (c:Bool):Ge2 ((some []).bind (sAdd c (tx s))):=fun l e=>by
 cases c
 ·cases e
 ·cases e
  have:=tx_length s
  simp
  omega
theorem pub_pos {w0 w:World} {W:Nat} {p:Pkv} (h:WQ w0 w W p (some []) 0) (l:List Pr) (hP:Prp w0 p.props.val l) (hmx:l.length<=4398046511104) (hsm:Go.Proofs.YtccnjdgaldbgnaaGreatDoor.Small l) (hto:p.topic.size<=4611686018427387904) (hpy:p.payload.size<=1073741824) (hid:-9223372036854775808<=p.id/\p.id<=9223372036854775807) (hq:0 < p.qos) :
  Calls Tryz.prog 41 #[.pointer (some ⟨W,0,none⟩)] w (GPost w0 W p.no_dup.no_retain.no_topic.no_qos.no_id.no_props.no_payload (sPub p.topic p.qos p.id p.kind l p.payload []) 2000000000):=by
 have HP:=zh hP
 have HSM:=zh hsm
 have d1:=h.pk.dup
 have d2:=h.pk.dup_f
 have d3:(w.setCell ⟨W,1,none⟩ (.bool false)).cell? ⟨W,3,none⟩=some (.bool p.retain):=h.no_dup.pk.retain
 have d4:(w.setCell ⟨W,1,none⟩ (.bool false)).frozen? ⟨W,3,none⟩=false:=h.no_dup.pk.retain_f
 have HQ:=zh h.no_dup.no_retain
 have HPO:Hid (∀ W':World,W'=(w.setCell ⟨W,1,none⟩ (.bool false)).setCell ⟨W,3,none⟩ (.bool false)->WQ w0 W' W p.no_dup.no_retain (some []) 0):=fun W' e=>by rw[e];exact uh HQ
 clear h hP hsm HQ
 go_enter Tryz.func41,Tryz.ntmps41
 go_upto_region 2 with fail
 have HQ:=zh ((uh HPO) _ rfl)
 generalize (w.setCell ⟨W,1,none⟩ (.bool false)).setCell ⟨W,3,none⟩ (.bool false)=w1 at HQ |-
 clear HPO d1 d2 d3 d4
 go_wp2_with fail
 refine (take_topic_q (uh HQ) p.topic rfl).mono ?_
 rintro e w2 ⟨rfl,hq2⟩
 have HQ2:=zh hq2
 clear hq2 HQ
 go_wp2_with fail
 refine (text_q (uh HQ2) p.topic hto (fun l e=>by cases e;simp) (by omega)).mono ?_
 rintro e w3 ⟨rfl,hq3,-⟩
 have HQ3:=zh hq3
 have HG3:=zh (ge2_tx p.topic (okT p.topic))
 generalize hs3:(some []).bind (sAdd (okT p.topic) (tx p.topic))=s3 at HQ3 HG3
 have HS3:=zh hs3
 clear hq3 HQ2 hs3
 go_wp2_with fail
 refine (take_qos_q (uh HQ3) p.qos rfl).mono ?_
 rintro e w4 ⟨rfl,hq4⟩
 have HQ4:=zh hq4
 clear hq4 HQ3
 go_wp2_with fail
 refine (take_id_q (uh HQ4) p.id rfl).mono ?_
 rintro e w5 ⟨rfl,hq5⟩
 have HQ5:=zh hq5
 clear hq5 HQ4
 go_wp2_with fail
 refine (id_q (uh HQ5) p.id hid (by omega)).mono ?_
 rintro e w6 ⟨rfl,hq6,-⟩
 have HG6:=zh ((uh HG3).add (in16 p.id && p.id != 0) (b2 p.id))
 have HQ6:=zh hq6
 obtain⟨s6,HS6⟩:∃ s6,Hid (s6=s3.bind (sAdd (in16 p.id && p.id != 0) (b2 p.id))):=⟨_,rfl⟩
 rw[<- uh HS6]at HG6 HQ6
 clear hq6 HQ5 HG3
 go_wp2_with fail
 have HQd:=zh ((uh HQ6).below (below_drewN (Below.refl _ _) 1))
 clear HQ6
 refine wp_region_noPanic ?_
 refine wp_region_held_drew (S:=fun w'=>w'.cell? ⟨W,0,none⟩=some (.int .i64 p.kind)) (by kernel_rfl) (uh HQd).pk.kind (fun hHeld=>?_)
 refine rtk 0 (h:=?_)
 refine rtk 1 (h:=?_)
 refine rtk 2 (h:=?_)
 refine rtk 3 (h:=?_)
 refine rtk 5 (h:=?_)
 refine rtk 6 (h:=?_)
 refine rtk 7 (h:=?_)
 refine rtk 8 (h:=?_)
 refine rcl 4 (h:=fun K hK=>?_)
 go_simp
 refine (take_props_q (uh HQd) p.props rfl).mono ?_
 rintro e wp1 ⟨rfl,hqp⟩
 have HQp:=zh hqp
 clear hqp HQd
 refine hK.out _ _ (uh HQp).pk.kind (fun hHeld=>?_)
 clear hK K
 refine rcl 9 (h:=fun K hK=>?_)
 go_simp
 refine (props_q (uh HQp) p.props.val l p.kind ((uh HP).below (uh HQp).bel) hmx (uh HSM) (uh HG6).one (by omega)).mono ?_
 rintro e wp2 ⟨rfl,hqp,-⟩
 have HQ7:=zh hqp
 clear hqp HQp
 refine hK.out _ _ (uh HQ7).pk.kind (fun hHeld=>?_)
 clear hK K
 refine wpAnyH_done (by kernel_rfl) ?_ _
 refine NoPanic.normal ?_
 obtain⟨s7,HS7⟩:∃ s7,Hid (s7=s6.bind (sAdd (okP p.kind l) (pbs l))):=⟨_,rfl⟩
 rw[<- uh HS7]at HQ7
 go_wp2_with fail
 refine (take_payload_q (uh HQ7) p.payload rfl).mono ?_
 rintro e w8 ⟨rfl,hq8⟩
 have HFIN:Hid (∀ W' m',WF w0 W' W p.no_dup.no_retain.no_topic.no_qos.no_id.no_props.no_payload (s7.bind (sAdd true (sb p.payload))) m'->m'<=2000000000->GPost w0 W p.no_dup.no_retain.no_topic.no_qos.no_id.no_props.no_payload (sPub p.topic p.qos p.id p.kind l p.payload []) 2000000000 (.returned (.tuple #[])) W'):=fun W' m' k hm'=>by
  refine⟨rfl,?_⟩
  have e:sPub p.topic p.qos p.id p.kind l p.payload []=s7.bind (sAdd true (sb p.payload)):=by
   unfold sPub
   rw[uh HS7,uh HS6,<- uh HS3,if_pos hq]
   first | rfl | (rw[bind_some'];rfl)
  rw[e]
  exact k.mono hm'
 obtain⟨h1,h2,h3,bv,sz,T,E,h4,h5,h6,h7⟩:=hq8
 have hszz:(sz:Int)<=6000000:=by omega
 have hW8:W < w8.heap.size:=cell_lt h3.kind
 have HR:=zh (room_any W bv E sz p.payload.size w8 h4.wt (by omega) (by omega) (by omega) (by omega))
 have HNO:Hid (∀ W',Wtr W' W bv ((sz:Int)+(p.payload.size:Int)) E->BX W is20 w8 W'->¬ sz+p.payload.size<=65536->WF w0 W' W p.no_dup.no_retain.no_topic.no_qos.no_id.no_props.no_payload (s7.bind (sAdd true (sb p.payload))) (_+p.payload.size)):=fun W' a b c=>pay_no p.payload h1 h2 h3 h4 h5 h6 h7 a b c
 have HYES:Hid (∀ W2 W3 v3,Wtr W2 W bv ((sz:Int)+(p.payload.size:Int)) E->BX W is20 w8 W2->sz+p.payload.size<=65536->W3.ownsRow (W+1) 5 1 v3 (T.length+p.payload.size) ((T++sb p.payload).map (Value.int .u8))->W2.grownBy W3 bv.ownBlock->WF w0 (W3.setCell ⟨W,19,none⟩ v3) W p.no_dup.no_retain.no_topic.no_qos.no_id.no_props.no_payload (s7.bind (sAdd true (sb p.payload))) (_+p.payload.size)):=fun W2 W3 v3 a b c d e=>pay_yes p.payload h1 h2 h3 h4 h5 h6 h7 a b c d e
 have HWS:=zh h4
 have hT1:=h5.1
 clear h1 h2 h3 h4 h5 h6 h7 HQ7 HP HSM HS7 HS6 HS3 HG6
 generalize hpl:p.payload=pay at *
 clear hpl
 go_wp2_with fail
 refine (uh HR).mono ?_
 rintro e w9 ⟨rfl,hw9,hx9⟩
 by_cases hr:sz+pay.size<=65536
 ·have hd:decide ((sz:Int)+(pay.size:Int)<=65536)=true:=decide_eq_true (by omega)
  have HO9:=zh (owns_bx (uh HWS).row hx9 (Nat.lt_succ_self _))
  have hz9:=hx9.size
  have HY:=zh ((uh HYES) w9)
  have HW9:=zh hw9
  have HX9:=zh hx9
  obtain⟨a9,n9,c9,rfl⟩:∃ a n p,bv=.slice a n p:=by
   rcases (uh HO9).2 with⟨rfl,_⟩ | ⟨g,cap,cur,rfl,_⟩
   ·exact⟨_,_,_,rfl⟩
   ·exact⟨_,_,_,rfl⟩
  obtain⟨⟨k1,kf1⟩,-,-⟩:=hw9
  clear hx9 HNO HYES HR
  obtain⟨i0,hi,hz0,hz1,hz2⟩:=info_parts Tryz.infoU8
  go_wp2_with (first
   | (at_builtin;refine Lib.wpList_append_own_string _ rfl _ _ 26 9 rfl (W+1) 5 i0 Tryz.underlying26 Tryz.underlying9 hi hz0 hz1 hz2 (.slice a9 n9 c9) T.length (T.map (Value.int .u8)) rfl (uh HO9) pay rfl (by unfold maxLen;omega) (by omega) (by omega) ?_)
   | go_in)
  intro v3 w10 hown3 hg3 _
  have hne:some W≠(Value.slice a9 n9 c9).ownBlock:=fun e=>by have:=owns_blk (uh HO9) W e.symm;omega
  have hb3:w10.heap[W]?=w9.heap[W]?:=hg3.block W (by omega) hne
  have c3:w10.cell? ⟨W,19,none⟩=some (.slice a9 n9 c9):=(World.cell?_of_block hb3).trans k1
  have f3:w10.frozen? ⟨W,19,none⟩=false:=(World.frozen?_of_block hb3).trans kf1
  have HF:=zh ((uh HFIN) (w10.setCell ⟨W,19,none⟩ v3) _ ((uh HY) w10 v3 (uh HW9) (uh HX9) hr (by rw[List.map_append,<- strCells_sb];exact hown3) hg3) (by omega))
  obtain⟨a3,n3,p3,rfl⟩:∃ a n p,v3=.slice a n p:=by
   rcases hown3.2 with⟨rfl,_⟩ | ⟨g,cap,cur,rfl,_⟩
   ·exact⟨_,_,_,rfl⟩
   ·exact⟨_,_,_,rfl⟩
  clear hown3 hg3 hb3 hne HY HFIN HO9 HWS k1 kf1 HW9 HX9
  go_wp2
  go_end0
  exact uh HF
 ·have hd:decide ((sz:Int)+(pay.size:Int)<=65536)=false:=decide_eq_false (by omega)
  have HF:=zh ((uh HFIN) w9 _ ((uh HNO) w9 hw9 hx9 hr) (by omega))
  clear hw9 hx9 HR HNO HYES
  go_wp2
  go_end0
  exact uh HF
theorem pub_zero {w0 w:World} {W:Nat} {p:Pkv} (h:WQ w0 w W p (some []) 0) (l:List Pr) (hP:Prp w0 p.props.val l) (hmx:l.length<=4398046511104) (hsm:Go.Proofs.YtccnjdgaldbgnaaGreatDoor.Small l) (hto:p.topic.size<=4611686018427387904) (hpy:p.payload.size<=1073741824) (hq:¬ 0 < p.qos) :
  Calls Tryz.prog 41 #[.pointer (some ⟨W,0,none⟩)] w (GPost w0 W p.no_dup.no_retain.no_topic.no_qos.no_props.no_payload (sPub p.topic p.qos p.id p.kind l p.payload []) 2000000000):=by
 have HP:=zh hP
 have HSM:=zh hsm
 have d1:=h.pk.dup
 have d2:=h.pk.dup_f
 have d3:(w.setCell ⟨W,1,none⟩ (.bool false)).cell? ⟨W,3,none⟩=some (.bool p.retain):=h.no_dup.pk.retain
 have d4:(w.setCell ⟨W,1,none⟩ (.bool false)).frozen? ⟨W,3,none⟩=false:=h.no_dup.pk.retain_f
 have HQ:=zh h.no_dup.no_retain
 have HPO:Hid (∀ W':World,W'=(w.setCell ⟨W,1,none⟩ (.bool false)).setCell ⟨W,3,none⟩ (.bool false)->WQ w0 W' W p.no_dup.no_retain (some []) 0):=fun W' e=>by rw[e];exact uh HQ
 clear h hP hsm HQ
 go_enter Tryz.func41,Tryz.ntmps41
 go_upto_region 2 with fail
 have HQ:=zh ((uh HPO) _ rfl)
 generalize (w.setCell ⟨W,1,none⟩ (.bool false)).setCell ⟨W,3,none⟩ (.bool false)=w1 at HQ |-
 clear HPO d1 d2 d3 d4
 go_wp2_with fail
 refine (take_topic_q (uh HQ) p.topic rfl).mono ?_
 rintro e w2 ⟨rfl,hq2⟩
 have HQ2:=zh hq2
 clear hq2 HQ
 go_wp2_with fail
 refine (text_q (uh HQ2) p.topic hto (fun l e=>by cases e;simp) (by omega)).mono ?_
 rintro e w3 ⟨rfl,hq3,-⟩
 have HQ3:=zh hq3
 have HG3:=zh (ge2_tx p.topic (okT p.topic))
 generalize hs3:(some []).bind (sAdd (okT p.topic) (tx p.topic))=s3 at HQ3 HG3
 have HS3:=zh hs3
 clear hq3 HQ2 hs3
 go_wp2_with fail
 refine (take_qos_q (uh HQ3) p.qos rfl).mono ?_
 rintro e w4 ⟨rfl,hq4⟩
 have HQ4:=zh hq4
 clear hq4 HQ3
 have HQ6:Hid (WQ w0 w4 W p.no_dup.no_retain.no_topic.no_qos s3 (0+70000+2)):=(uh HQ4).mono (by omega)
 have HG6:=HG3
 obtain⟨s6,HS6⟩:∃ s6,Hid (s6=s3):=⟨_,rfl⟩
 rw[<- uh HS6]at HG6 HQ6
 clear HQ4 HG3
 go_wp2_with fail
 have HQd:=zh ((uh HQ6).below (below_drewN (Below.refl _ _) 1))
 clear HQ6
 refine wp_region_noPanic ?_
 refine wp_region_held_drew (S:=fun w'=>w'.cell? ⟨W,0,none⟩=some (.int .i64 p.kind)) (by kernel_rfl) (uh HQd).pk.kind (fun hHeld=>?_)
 refine rtk 0 (h:=?_)
 refine rtk 1 (h:=?_)
 refine rtk 2 (h:=?_)
 refine rtk 3 (h:=?_)
 refine rtk 5 (h:=?_)
 refine rtk 6 (h:=?_)
 refine rtk 7 (h:=?_)
 refine rtk 8 (h:=?_)
 refine rcl 4 (h:=fun K hK=>?_)
 go_simp
 refine (take_props_q (uh HQd) p.props rfl).mono ?_
 rintro e wp1 ⟨rfl,hqp⟩
 have HQp:=zh hqp
 clear hqp HQd
 refine hK.out _ _ (uh HQp).pk.kind (fun hHeld=>?_)
 clear hK K
 refine rcl 9 (h:=fun K hK=>?_)
 go_simp
 refine (props_q (uh HQp) p.props.val l p.kind ((uh HP).below (uh HQp).bel) hmx (uh HSM) (uh HG6).one (by omega)).mono ?_
 rintro e wp2 ⟨rfl,hqp,-⟩
 have HQ7:=zh hqp
 clear hqp HQp
 refine hK.out _ _ (uh HQ7).pk.kind (fun hHeld=>?_)
 clear hK K
 refine wpAnyH_done (by kernel_rfl) ?_ _
 refine NoPanic.normal ?_
 obtain⟨s7,HS7⟩:∃ s7,Hid (s7=s6.bind (sAdd (okP p.kind l) (pbs l))):=⟨_,rfl⟩
 rw[<- uh HS7]at HQ7
 go_wp2_with fail
 refine (take_payload_q (uh HQ7) p.payload rfl).mono ?_
 rintro e w8 ⟨rfl,hq8⟩
 have HFIN:Hid (∀ W' m',WF w0 W' W p.no_dup.no_retain.no_topic.no_qos.no_props.no_payload (s7.bind (sAdd true (sb p.payload))) m'->m'<=2000000000->GPost w0 W p.no_dup.no_retain.no_topic.no_qos.no_props.no_payload (sPub p.topic p.qos p.id p.kind l p.payload []) 2000000000 (.returned (.tuple #[])) W'):=fun W' m' k hm'=>by
  refine⟨rfl,?_⟩
  have e:sPub p.topic p.qos p.id p.kind l p.payload []=s7.bind (sAdd true (sb p.payload)):=by
   unfold sPub
   rw[uh HS7,uh HS6,<- uh HS3,if_neg (show ¬ 0 < p.qos from by omega)]
   first | rfl | (rw[bind_some'];rfl)
  rw[e]
  exact k.mono hm'
 obtain⟨h1,h2,h3,bv,sz,T,E,h4,h5,h6,h7⟩:=hq8
 have hszz:(sz:Int)<=6000000:=by omega
 have hW8:W < w8.heap.size:=cell_lt h3.kind
 have HR:=zh (room_any W bv E sz p.payload.size w8 h4.wt (by omega) (by omega) (by omega) (by omega))
 have HNO:Hid (∀ W',Wtr W' W bv ((sz:Int)+(p.payload.size:Int)) E->BX W is20 w8 W'->¬ sz+p.payload.size<=65536->WF w0 W' W p.no_dup.no_retain.no_topic.no_qos.no_props.no_payload (s7.bind (sAdd true (sb p.payload))) (_+p.payload.size)):=fun W' a b c=>pay_no p.payload h1 h2 h3 h4 h5 h6 h7 a b c
 have HYES:Hid (∀ W2 W3 v3,Wtr W2 W bv ((sz:Int)+(p.payload.size:Int)) E->BX W is20 w8 W2->sz+p.payload.size<=65536->W3.ownsRow (W+1) 5 1 v3 (T.length+p.payload.size) ((T++sb p.payload).map (Value.int .u8))->W2.grownBy W3 bv.ownBlock->WF w0 (W3.setCell ⟨W,19,none⟩ v3) W p.no_dup.no_retain.no_topic.no_qos.no_props.no_payload (s7.bind (sAdd true (sb p.payload))) (_+p.payload.size)):=fun W2 W3 v3 a b c d e=>pay_yes p.payload h1 h2 h3 h4 h5 h6 h7 a b c d e
 have HWS:=zh h4
 have hT1:=h5.1
 clear h1 h2 h3 h4 h5 h6 h7 HQ7 HP HSM HS7 HS6 HS3 HG6
 generalize hpl:p.payload=pay at *
 clear hpl
 go_wp2_with fail
 refine (uh HR).mono ?_
 rintro e w9 ⟨rfl,hw9,hx9⟩
 by_cases hr:sz+pay.size<=65536
 ·have hd:decide ((sz:Int)+(pay.size:Int)<=65536)=true:=decide_eq_true (by omega)
  have HO9:=zh (owns_bx (uh HWS).row hx9 (Nat.lt_succ_self _))
  have hz9:=hx9.size
  have HY:=zh ((uh HYES) w9)
  have HW9:=zh hw9
  have HX9:=zh hx9
  obtain⟨a9,n9,c9,rfl⟩:∃ a n p,bv=.slice a n p:=by
   rcases (uh HO9).2 with⟨rfl,_⟩ | ⟨g,cap,cur,rfl,_⟩
   ·exact⟨_,_,_,rfl⟩
   ·exact⟨_,_,_,rfl⟩
  obtain⟨⟨k1,kf1⟩,-,-⟩:=hw9
  clear hx9 HNO HYES HR
  obtain⟨i0,hi,hz0,hz1,hz2⟩:=info_parts Tryz.infoU8
  go_wp2_with (first
   | (at_builtin;refine Lib.wpList_append_own_string _ rfl _ _ 26 9 rfl (W+1) 5 i0 Tryz.underlying26 Tryz.underlying9 hi hz0 hz1 hz2 (.slice a9 n9 c9) T.length (T.map (Value.int .u8)) rfl (uh HO9) pay rfl (by unfold maxLen;omega) (by omega) (by omega) ?_)
   | go_in)
  intro v3 w10 hown3 hg3 _
  have hne:some W≠(Value.slice a9 n9 c9).ownBlock:=fun e=>by have:=owns_blk (uh HO9) W e.symm;omega
  have hb3:w10.heap[W]?=w9.heap[W]?:=hg3.block W (by omega) hne
  have c3:w10.cell? ⟨W,19,none⟩=some (.slice a9 n9 c9):=(World.cell?_of_block hb3).trans k1
  have f3:w10.frozen? ⟨W,19,none⟩=false:=(World.frozen?_of_block hb3).trans kf1
  have HF:=zh ((uh HFIN) (w10.setCell ⟨W,19,none⟩ v3) _ ((uh HY) w10 v3 (uh HW9) (uh HX9) hr (by rw[List.map_append,<- strCells_sb];exact hown3) hg3) (by omega))
  obtain⟨a3,n3,p3,rfl⟩:∃ a n p,v3=.slice a n p:=by
   rcases hown3.2 with⟨rfl,_⟩ | ⟨g,cap,cur,rfl,_⟩
   ·exact⟨_,_,_,rfl⟩
   ·exact⟨_,_,_,rfl⟩
  clear hown3 hg3 hb3 hne HY HFIN HO9 HWS k1 kf1 HW9 HX9
  go_wp2
  go_end0
  exact uh HF
 ·have hd:decide ((sz:Int)+(pay.size:Int)<=65536)=false:=decide_eq_false (by omega)
  have HF:=zh ((uh HFIN) w9 _ ((uh HNO) w9 hw9 hx9 hr) (by omega))
  clear hw9 hx9 HR HNO HYES
  go_wp2
  go_end0
  exact uh HF
end Go.Proofs.YtccnjdgaldbgnaaGreatDoor.K
