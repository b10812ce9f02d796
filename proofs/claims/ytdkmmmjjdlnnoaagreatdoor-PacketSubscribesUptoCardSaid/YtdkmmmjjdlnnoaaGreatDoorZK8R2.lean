/- Proved here: helpers, one text behind the other. -/
import Derived.Test.YtdkmmmjjdlnnoaaGreatDoorZC21
import Derived.Test.YtdkmmmjjdlnnoaaGreatDoorZC15
import Derived.Test.YtdkmmmjjdlnnoaaGreatDoorZC20
import Derived.Test.YtdkmmmjjdlnnoaaGreatDoorZK8R1
import Derived.Laws.AppendOwn
import Derived.Test.YtdkmmmjjdlnnoaaGreatDoorZC6
import Derived.Test.YtdkmmmjjdlnnoaaGreatDoorZC22
import Derived.Test.YtdkmmmjjdlnnoaaGreatDoorZC3
import Derived.Test.YtdkmmmjjdlnnoaaGreatDoorZC26
import Derived.Test.YtdkmmmjjdlnnoaaGreatDoorZC13
set_option maxHeartbeats 20000000
namespace Go.Proofs.YtdkmmmjjdlnnoaaGreatDoor.K
open Go.RowKit
set_option maxRecDepth 100000
theorem and3 (x:Int) (h0:0<=x) (h1:x<=255):bits .and .i64 x 3=x % 4:=byte_cases (P:=fun x=>bits .and .i64 x 3=x % 4) (by decide +kernel) x h0 h1
theorem and4 (x:Int) (h0:0<=x) (h1:x<=255):(bits .and .i64 x 4 != 0)=btest x 4:=byte_cases (P:=fun x=>(bits .and .i64 x 4 != 0)=btest x 4) (by decide +kernel) x h0 h1
theorem and8 (x:Int) (h0:0<=x) (h1:x<=255):(bits .and .i64 x 8 != 0)=btest x 8:=byte_cases (P:=fun x=>(bits .and .i64 x 8 != 0)=btest x 8) (by decide +kernel) x h0 h1
theorem sh4 (x:Int) (h0:0<=x) (h1:x<=255):x >>> 4=x / 16:=byte_cases (P:=fun x=>x >>> 4=x / 16) (by decide +kernel) x h0 h1
def RdSubX (w0:World) (R:Nat) (X:Nat->Prop) (st:Option (List Int)) (w:World) (e:Ending) (w':World):Prop :=
 ∃ (x:Sb) (st':Option (List Int)),e=.returned x.val/\Stp sub? st x st'/\RSX w0 w' R X st'/\BX R isRE w w'
theorem BX.frz {R:Nat} {may:Nat->Prop} {a b:World} (h:BX R may a b) {p:Addr} (hp:p.block < a.heap.size) (hR:p.block≠R):b.frozen? p=a.frozen? p:=World.frozen?_of_block (h.block p.block hp hR)
theorem res_sub {fn:Func} {a:Tmp} (h:fn.results=#[.cell a 93]) {tmps:Array Value} {w:World} {B:Nat} {v0 v1 v2 v3 v4:Value} (ha:tmps[a]?.getD undef=.pointer (some ⟨B,0,none⟩)) (c0:w.cell? ⟨B,0,none⟩=some v0) (c1:w.cell? ⟨B,1,none⟩=some v1) (c2:w.cell? ⟨B,2,none⟩=some v2) (c3:w.cell? ⟨B,3,none⟩=some v3) (c4:w.cell? ⟨B,4,none⟩=some v4) :
  (results fn tmps).run Tryz.prog w=.ok (.agg #[v0,v1,v2,v3,v4]) w:=by
 simp[results,h,ha,go_sem,c0,c1,c2,c3,c4]
theorem sub_anyX (R:Nat) (X:Nat->Prop) (st:Option (List Int)) (w0 w:World) (h:RSX w0 w R X st):Calls Tryz.prog 140 #[.pointer (some ⟨R,0,none⟩)] w (RdSubX w0 R X st w):=by
 have hlt:=h.lt
 have HS:=zh h
 clear h
 go_enter Tryz.func140,Tryz.ntmps140
 go_wp2_with fail
 refine (text_anyX R X st w0 _ ((uh HS).below (bal _ _))).mono ?_
 rintro e w1 ⟨f,st1,rfl,hfs,hs1,h1,hx1⟩
 have HS1:=zh h1
 have HX1:=zh hx1
 have HST1:=zh hs1
 clear h1 hx1 hs1
 go_wp2_with fail
 refine (one_anyX R X st1 w0 _ ((uh HS1).below (bal _ _))).mono ?_
 rintro e w2 ⟨o,st2,rfl,ho,hs2,h2,hx2⟩
 have hR1:R < w1.heap.size:=Nat.lt_of_lt_of_le (Nat.lt_succ_of_lt hlt) (by simpa using (uh HX1).size)
 have hQ1:w.heap.size < w1.heap.size:=by
  have:=(uh HX1).size
  simp at this
  omega
 have v0:=hx2.far (p:=⟨w1.heap.size,0,none⟩) (v:=.string f) (by simp) (by simp;omega)
 have v1:=hx2.far (p:=⟨w1.heap.size,1,none⟩) (v:=.int .i64 0) (by simp) (by simp;omega)
 have v2:=hx2.far (p:=⟨w1.heap.size,2,none⟩) (v:=.bool false) (by simp) (by simp;omega)
 have v3:=hx2.far (p:=⟨w1.heap.size,3,none⟩) (v:=.bool false) (by simp) (by simp;omega)
 have v4:=hx2.far (p:=⟨w1.heap.size,4,none⟩) (v:=.int .i64 0) (by simp) (by simp;omega)
 have u1:w2.frozen? ⟨w1.heap.size,1,none⟩=false:=(hx2.frz (p:=⟨w1.heap.size,1,none⟩) (by simp) (by simp;omega)).trans (by simp)
 have u2:w2.frozen? ⟨w1.heap.size,2,none⟩=false:=(hx2.frz (p:=⟨w1.heap.size,2,none⟩) (by simp) (by simp;omega)).trans (by simp)
 have u3:w2.frozen? ⟨w1.heap.size,3,none⟩=false:=(hx2.frz (p:=⟨w1.heap.size,3,none⟩) (by simp) (by simp;omega)).trans (by simp)
 have u4:w2.frozen? ⟨w1.heap.size,4,none⟩=false:=(hx2.frz (p:=⟨w1.heap.size,4,none⟩) (by simp) (by simp;omega)).trans (by simp)
 have qb:w2.heap[w.heap.size]?=some (.cells #[.string ⟨#[]⟩,.int .i64 0,.bool false,.bool false,.int .i64 0] 93):=by
  rw[hx2.block w.heap.size (by simp;omega) (by omega),((Below.refl w1.heap.size w1).alloc (Nat.le_refl _) _).block w.heap.size hQ1,(uh HX1).block w.heap.size (by simp) (by omega)]
  exact Array.getElem?_push_size
 have QB:=zh qb
 have b1:=and3 o ho.1 ho.2
 have b2:=and4 o ho.1 ho.2
 have b3:=and8 o ho.1 ho.2
 have b4:=sh4 o ho.1 ho.2
 have HS2:=zh h2
 have HX2:=zh hx2
 have HST2:=zh hs2
 clear h2 hx2 hs2 qb
 have HS3:Hid (RSX w0 ((((w2.setCell ⟨w1.heap.size,1,none⟩ (.int .i64 (o % 4))).setCell ⟨w1.heap.size,4,none⟩ (.int .i64 (o / 16))).setCell ⟨w1.heap.size,2,none⟩ (.bool (btest o 4))).setCell ⟨w1.heap.size,3,none⟩ (.bool (btest o 8))) R X st2):=by
  have hne:w1.heap.size≠R:=by omega
  have h0:=Nat.le_trans (uh HS1).keep.size (Nat.le_refl _)
  refine ((((uh HS2).setOut _ 1 _ hne h0 ?_).setOut _ 4 _ hne h0 ?_).setOut _ 2 _ hne h0 ?_).setOut _ 3 _ hne h0 ?_
  ·intro t x e;rw[v1]at e;cases e
  all_goals (intro t x e;simp (maxDischargeDepth:=12) [cell_set,v1]at e)
 have HX3:Hid (BX R isRE w ((((w2.setCell ⟨w1.heap.size,1,none⟩ (.int .i64 (o % 4))).setCell ⟨w1.heap.size,4,none⟩ (.int .i64 (o / 16))).setCell ⟨w1.heap.size,2,none⟩ (.bool (btest o 4))).setCell ⟨w1.heap.size,3,none⟩ (.bool (btest o 8)))):=by
  have hq:=Nat.le_of_lt hQ1
  have k0:BX R isRE w w2:=((BX.of_below (bal _ _) hlt).trans (uh HX1)).trans ((BX.of_below (bal _ _) hR1).trans (uh HX2))
  exact (((k0.setOut _ 1 _ hq hlt).setOut _ 4 _ hq hlt).setOut _ 2 _ hq hlt).setOut _ 3 _ hq hlt
 go_wp2_with fail
 refine (optionsOf_any f (o % 4) (btest o 4) (btest o 8) (o / 16) _).mono ?_
 rintro e w3 ⟨rfl,hb3⟩
 have HS4:=zh ((uh HS3).below hb3)
 have HX4:Hid (BX R isRE w w3):=(uh HX3).trans (BX.of_below hb3 (uh HS3).lt)
 have HB3:=zh hb3
 clear hb3
 go_wp2_with fail
 refine (must_anyX R X _ st2 w0 w3 (uh HS4)).mono ?_
 rintro e w4 ⟨rfl,h4,hx4⟩
 have vb:w4.heap[w1.heap.size]?=((((w2.setCell ⟨w1.heap.size,1,none⟩ (.int .i64 (o % 4))).setCell ⟨w1.heap.size,4,none⟩ (.int .i64 (o / 16))).setCell ⟨w1.heap.size,2,none⟩ (.bool (btest o 4))).setCell ⟨w1.heap.size,3,none⟩ (.bool (btest o 8))).heap[w1.heap.size]?:=by
  have hl:=cell_lt v0
  rw[hx4.block w1.heap.size (Nat.lt_of_lt_of_le hl (by simpa [World.setCell] using (uh HB3).size)) (by omega),(uh HB3).block w1.heap.size (by simpa [World.setCell] using hl)]
 have x0:w4.cell? ⟨w1.heap.size,0,none⟩=some (.string f):=(World.cell?_of_block (a:=⟨w1.heap.size,0,none⟩) vb).trans (by simp (maxDischargeDepth:=12) [cell_set,v0])
 have x1:w4.cell? ⟨w1.heap.size,1,none⟩=some (.int .i64 (o % 4)):=(World.cell?_of_block (a:=⟨w1.heap.size,1,none⟩) vb).trans (by simp (maxDischargeDepth:=12) [cell_set,v1])
 have x2:w4.cell? ⟨w1.heap.size,2,none⟩=some (.bool (btest o 4)):=(World.cell?_of_block (a:=⟨w1.heap.size,2,none⟩) vb).trans (by simp (maxDischargeDepth:=12) [cell_set,v2])
 have x3:w4.cell? ⟨w1.heap.size,3,none⟩=some (.bool (btest o 8)):=(World.cell?_of_block (a:=⟨w1.heap.size,3,none⟩) vb).trans (by simp (maxDischargeDepth:=12) [cell_set,v3])
 have x4:w4.cell? ⟨w1.heap.size,4,none⟩=some (.int .i64 (o / 16)):=(World.cell?_of_block (a:=⟨w1.heap.size,4,none⟩) vb).trans (by simp (maxDischargeDepth:=12) [cell_set,v4])
 have qb:w4.heap[w.heap.size]?=some (.cells #[.string ⟨#[]⟩,.int .i64 0,.bool false,.bool false,.int .i64 0] 93):=by
  have hl:=Nat.lt_trans hQ1 (cell_lt v0)
  rw[hx4.block w.heap.size (Nat.lt_of_lt_of_le hl (by simpa [World.setCell] using (uh HB3).size)) (by omega),(uh HB3).block w.heap.size (by simpa [World.setCell] using hl)]
  rw[Below.heap_setCell _ _ _ _ (by show _≠w1.heap.size;omega),Below.heap_setCell _ _ _ _ (by show _≠w1.heap.size;omega),Below.heap_setCell _ _ _ _ (by show _≠w1.heap.size;omega),Below.heap_setCell _ _ _ _ (by show _≠w1.heap.size;omega)]
  exact uh QB
 have y0:w4.cell? ⟨w.heap.size,0,none⟩=some (.string ⟨#[]⟩):=by simp[World.cell?,qb]
 have y1:w4.cell? ⟨w.heap.size,1,none⟩=some (.int .i64 0):=by simp[World.cell?,qb]
 have y2:w4.cell? ⟨w.heap.size,2,none⟩=some (.bool false):=by simp[World.cell?,qb]
 have y3:w4.cell? ⟨w.heap.size,3,none⟩=some (.bool false):=by simp[World.cell?,qb]
 have y4:w4.cell? ⟨w.heap.size,4,none⟩=some (.int .i64 0):=by simp[World.cell?,qb]
 have z:∀ j,w4.frozen? ⟨w.heap.size,j,none⟩=false:=fun j=>by simp[World.frozen?,qb]
 have HS5:=zh h4
 have HX5:=zh hx4
 clear h4 hx4 vb qb v0 v1 v2 v3 v4 u1 u2 u3 u4 b1 b2 b3 b4
 go_wp2
 refine bodyPost_ret (res_sub (B:=w.heap.size) (v0:=.string f) (v1:=.int .i64 (o % 4)) (v2:=.bool (btest o 4)) (v3:=.bool (btest o 8)) (v4:=.int .i64 (o / 16)) rfl rfl ?c0 ?c1 ?c2 ?c3 ?c4) rfl ?_
 case c0=>simp (maxDischargeDepth:=12) [cell_set,y0]
 case c1=>simp (maxDischargeDepth:=12) [cell_set,y1]
 case c2=>simp (maxDischargeDepth:=12) [cell_set,y2]
 case c3=>simp (maxDischargeDepth:=12) [cell_set,y3]
 case c4=>simp (maxDischargeDepth:=12) [cell_set,y4]
 have hle:=Nat.le_refl w.heap.size
 have hne:w.heap.size≠R:=by omega
 have h0:w0.heap.size<=w.heap.size:=(uh HS).keep.size
 refine⟨sbOf f o,_,rfl,(uh HST1).bind ((uh HST2).bind ((Stp.must _ st2).bind (Stp.pure _ _))),?_,((((((uh HX4).trans (uh HX5)).setOut _ 0 _ hle hlt).setOut _ 1 _ hle hlt).setOut _ 2 _ hle hlt).setOut _ 3 _ hle hlt).setOut _ 4 _ hle hlt⟩
 refine (((((uh HS5).setOut _ 0 _ hne h0 ?_).setOut _ 1 _ hne h0 ?_).setOut _ 2 _ hne h0 ?_).setOut _ 3 _ hne h0 ?_).setOut _ 4 _ hne h0 ?_
 ·intro t x e;rw[y1]at e;cases e
 all_goals (intro t x e;simp (maxDischargeDepth:=12) [cell_set,y1]at e)
def Shr {α:Type} (f:List Int->Option (α×List Int)):Prop:=∀ l x l',f l=some (x,l')->l'.length < l.length
theorem many_fuel {α:Type} {f:List Int->Option (α×List Int)} (hf:Shr f):∀ (n m:Nat) (l:List Int),l.length<=n->l.length<=m->many f n l=many f m l
 | 0,m,l,hn,_=>by
  obtain rfl:l=[]:=List.length_eq_zero_iff.1 (by omega)
  rw[many_nil,many_nil]
 | n+1,0,l,_,hm=>by
  obtain rfl:l=[]:=List.length_eq_zero_iff.1 (by omega)
  rw[many_nil,many_nil]
 | n+1,m+1,l,hn,hm=>by
  unfold many
  by_cases hl:l=[]
  ·simp[hl]
  ·simp only[if_neg hl]
   cases h:f l with
   | none=>rfl
   | some r =>
    have:=hf l r.1 r.2 h
    simp only[Option.bind_some]
    rw[many_fuel hf n m r.2 (by omega) (by omega)]
theorem manyR_cons {α:Type} {f:List Int->Option (α×List Int)} (hf:Shr f) (l:List Int) (hl:l≠[]):manyR f l=(f l).bind fun r=>(manyR f r.2).map fun s=>(r.1 :: s.1,s.2):=by
 unfold manyR
 obtain⟨n,hn⟩:∃ n,l.length=n+1:=⟨l.length - 1,by have:=List.length_pos_iff.2 hl;omega⟩
 rw[hn]
 show (if l=[] then _ else _)=_
 rw[if_neg hl]
 cases h:f l with
 | none=>rfl
 | some r =>
  have:=hf l r.1 r.2 h
  simp only[Option.bind_some]
  rw[many_fuel hf n r.2.length r.2 (by omega) (Nat.le_refl _)]
theorem Acc.start {α:Type} (f:List Int->Option (α×List Int)) (st:Option (List Int)):Acc f st [] st:=by
 cases st with
 | none=>rfl
 | some l=>simp[Acc]
theorem Acc.step {α:Type} {f:List Int->Option (α×List Int)} {st0 st':Option (List Int)} {d:List α} {x:α} {l:List Int} (hf:Shr f) (h:Acc f st0 d (some l)) (hs:Stp f (some l) x st') (hl:l≠[]):Acc f st0 (d++[x]) st':=by
 cases st0 with
 | none=>cases h
 | some l0 =>
  unfold Acc at h
  simp only at h
  rw[manyR_cons hf l hl]at h
  unfold Stp at hs
  simp only at hs
  cases hq:f l with
  | none =>
   rw[hq]at hs h
   obtain rfl:st'=none:=hs
   simpa [Acc] using h
  | some r =>
   obtain⟨y,l'⟩:=r
   rw[hq]at hs h
   obtain⟨rfl,rfl⟩:=hs
   simp only[Option.bind_some,Option.map_map]at h
   show manyR f l0=_
   rw[h]
   congr 1
   funext s
   simp
theorem one?_shr:Shr one?:=by
 intro l x l' h
 cases l with
 | nil=>cases h
 | cons a t=>simp[one?]at h;obtain⟨_,rfl⟩:=h;simp
theorem text?_shr:Shr text?:=by
 intro l x l' h
 unfold text? gt at h
 by_cases hf:full l=true
 ·rw[if_pos hf]at h
  have:=full_len l hf
  by_cases hu:utf (sb (gbs l))=true
  ·rw[if_pos hu]at h
   simp only[if_true,Option.some.injEq,Prod.mk.injEq]at h
   obtain⟨_,rfl⟩:=h
   rw[List.length_drop,Int.toNat_natCast]
   omega
  ·rw[if_neg hu]at h
   simp at h
 ·rw[if_neg hf]at h
  simp at h
theorem bind_shr {α β:Type} {f:List Int->Option (α×List Int)} {g:α->List Int->Option (β×List Int)} (hf:Shr f) (hg:∀ x l y l',g x l=some (y,l')->l'.length<=l.length):Shr (bindR f g):=by
 intro l y l' h
 unfold bindR at h
 cases hq:f l with
 | none=>rw[hq]at h;cases h
 | some r =>
  rw[hq]at h
  have h1:=hf l r.1 r.2 hq
  have h2:=hg r.1 r.2 y l' h
  omega
theorem sub?_shr:Shr sub?:=by
 refine bind_shr text?_shr (fun f l y l' h=>?_)
 refine Nat.le_of_lt (bind_shr one?_shr (fun o l y l' h=>?_) l y l' h)
 unfold bindR mustR at h
 split at h
 ·simp[pureR]at h
  rw[h.2]
  exact Nat.le_refl _
 ·cases h
theorem stp_len {α:Type} {f:List Int->Option (α×List Int)} (hf:Shr f) {l l':List Int} {x:α} (h:Stp f (some l) x (some l')):l'.length < l.length:=by
 unfold Stp at h
 simp only at h
 cases hq:f l with
 | none=>rw[hq]at h;cases h
 | some r =>
  obtain⟨y,l2⟩:=r
  rw[hq]at h
  obtain⟨_,e⟩:=h
  cases e
  exact hf l y l' hq
def mlen (R:Nat) (w:World):Nat:=match w.cell? ⟨R,20,none⟩ with
 | some .nilIface=>match w.cell? ⟨R,19,none⟩ with
  | some (.slice _ n _)=>n+1
  | _=>0
 | _=>0
theorem mlen_some {w0 w:World} {R:Nat} {X:Nat->Prop} {l:List Int} (h:RSX w0 w R X (some l)):mlen R w=l.length+1:=by
 obtain⟨_,_,bv,l',E,hr,hb,_,_,hst⟩:=h
 obtain⟨ao,cap,rfl,_⟩:=hb.form
 rcases hst with⟨e,rfl⟩ | ⟨e,_⟩
 ·cases e
  unfold mlen
  rw[hr.2.2.1,hr.1]
 ·cases e
theorem mlen_none {w0 w:World} {R:Nat} {X:Nat->Prop} (h:RSX w0 w R X none):mlen R w=0:=by
 obtain⟨_,_,bv,l',E,hr,hb,_,_,hst⟩:=h
 rcases hst with⟨e,_⟩ | ⟨_,d,n,_,he⟩
 ·cases e
 ·obtain⟨t,x,rfl⟩:=he.iface
  unfold mlen
  rw[hr.2.2.1]
theorem step_append_run {w:World} {ops:Array Oper} {o:Oper} {a:Act} {K:Act->World->Prop} {Q:Exit->Act->World->Prop} {E:Prop} {Z:Value->World->Prop} (hgd:o.guard=none) (s x:Operand) (t:TypeId)
  (ho:o.op=.call { callee:=.builtin .append,args:=#[s,x],argTypes:=#[t,t] }) (v vx:Value) (hs:a.eval s=v) (hx:a.eval x=vx)
  (hr:∃ v' w',(Builtin.append_ #[t,t] o.type #[v,vx]).run Tryz.prog w=.ok v' w'/\Z v' w') (h:∀ v' w',Z v' w'->K (a.put o.dst v') w') :
  if Region.wanted o (yielded ops a.tmps)=true then Oper.wp Tryz.prog o a w K Q else E:=by
 have hw:Region.wanted o (yielded ops a.tmps)=true:=by simp[Region.wanted,hgd]
 rw[if_pos hw]
 obtain⟨v',w',hr,h2⟩:=hr
 unfold Oper.wp execOp
 simp only[ho,resolve,invoke,builtin,Sem.run_bind,Sem.run_pure,Result.andThen_ok,List.map_toArray,List.map_cons,List.map_nil,hs,hx,hr]
 exact h v' w' h2
theorem infoSub:(Tryz.prog.info? 93).map (fun i=>(i.zero,i.size,i.bytes))=some (some (.agg #[.string ⟨#[]⟩,.int .i64 0,.bool false,.bool false,.int .i64 0]),5,40):=by kernel_rfl
theorem scs_app (d:List Sb) (s:Sb):scs (d++[s])=scs d++s.cells:=by unfold scs;simp
theorem five_cell (w:World) (a b c d e:Value) (t:TypeId):∀ j u,[a,b,c,d,e][j]?=some u->(w.alloc (.cells #[a,b,c,d,e] t)).cell? ((⟨w.heap.size,0,none⟩:Addr).add j)=some u:=by
 intro j u hj
 match j,hj with
 | 0,hj=>simp at hj;subst hj;simp[Addr.add]
 | 1,hj=>simp at hj;subst hj;simp[Addr.add]
 | 2,hj=>simp at hj;subst hj;simp[Addr.add]
 | 3,hj=>simp at hj;subst hj;simp[Addr.add]
 | 4,hj=>simp at hj;subst hj;simp[Addr.add]
theorem five_one (s:Sb):∀ u ∈ s.cells,u.oneCell'=true:=by
 intro u hu
 simp only[Sb.cells,List.mem_cons,List.not_mem_nil,or_false]at hu
 rcases hu with rfl | rfl | rfl | rfl | rfl <;> rfl
def Listsubs (w0:World) (R:Nat) (p:Pkv) (st:Option (List Int)) (w:World) (e:Ending) (w':World):Prop :=
 e=.returned (.tuple #[])/\∃ (t:Sl) (d:List Sb) (st':Option (List Int)),Pk w' R { p with subs:=t }/\Hid (w'.ownsRow w.heap.size 93 5 t.val d.length (scs d))/\Stp (list? sub?) st d st'/\RS w0 w' R st'/\BX R isAny w w'
theorem list_subs (R:Nat) (p:Pkv) (st:Option (List Int)) (w0 w:World) (h:RS w0 w R st) (hp:Pk w R p) (hF:p.subs=⟨none,0,0⟩) (hl:∀ l,st=some l->l.length<=65536) (h8:p.kind=8):Calls Tryz.prog 95 #[.pointer (some ⟨R,0,none⟩)] w (Listsubs w0 R p st w):=by
 obtain⟨i0,hi,hz0,hz1,hz2⟩:=info_parts infoSub
 have hlt:=h.lt
 have HW0:=h.keep
 have HP:=zh hp
 have HS:=zh h
 have HL:=zh hl
 have HF:=zh hF
 clear hp h hl hF
 go_enter Tryz.func95,Tryz.ntmps95
 go_wp2
 go_loopw [3] (fun c0 wr=>∃ (d:List Sb) (st1:Option (List Int)) (t:Sl) (k:Nat),c0=.int .i64 k/\k<=65536/\Hid (d.length=k)/\Hid (∀ l,st1=some l->k+l.length<=65536)/\Hid (Pk wr R { p with subs:=t })/\Hid (wr.ownsRow w.heap.size 93 5 t.val k (scs d))/\Hid (Acc sub? st d st1)/\Hid (RS w0 wr R st1)/\Hid (BX R isAny w wr)) (fun _ wr=>mlen R wr)
 case atStart =>
  refine⟨[],st,⟨none,0,0⟩,0,rfl,Nat.zero_le _,rfl,fun l hl=>by have:=(uh HL) l hl;omega,?_,World.ownsRow_nil _ _ _ _,Acc.start _ _,uh HS,BX.refl _ _ _⟩
  show Pk _ _ _
  have e:{ p with subs:=⟨none,0,0⟩ }=p:=by rw[<- uh HF]
  rw[e]
  exact uh HP
 case round =>
  obtain⟨d,st1,⟨ta,tn,tc⟩,k,rfl,hk,HD,HB,HPk,HOwn,HAcc,HRS,HBX⟩:=hrel
  obtain⟨ao,m,cap,c19,⟨g1,g2⟩,gl⟩:=(uh HRS).rest
  unfold maxLen at g2
  have c0:=(uh HPk).kind
  simp only at c0
  have cF:wr.cell? ⟨R,16,none⟩=some (.slice ta tn tc):=(uh HPk).subs
  rw[h8]at c0
  rcases (uh HRS).err with⟨l,rfl,c20⟩ | ⟨rfl,ty,x,c20⟩
  ·have hm:=gl l rfl
   clear gl
   by_cases hm0:m=0
   ·subst hm0
    obtain rfl:l=[]:=List.length_eq_zero_iff.1 hm
    go_wp2_with fail
    refine (mayCount_any k _).mono ?_
    rintro e wa ⟨rfl,hwa⟩
    obtain rfl:=hwa.symm
    clear hwa
    go_wp2_with fail
    refine (must_any R _ (some []) w0 wr (uh HRS)).mono ?_
    rintro e wb ⟨rfl,h2,hx2⟩
    have H2:=zh h2
    have HX2:=zh hx2
    clear h2 hx2
    go_wp2
    go_end0
    refine⟨rfl,⟨ta,tn,tc⟩,d,_,(uh HPk).bx (uh HX2),?_,?_,uh H2,(uh HBX).trans (uh HX2).any⟩
    ·show World.ownsRow _ _ _ _ _ _ _
     rw[uh HD]
     exact owns_bx (uh HOwn) (uh HX2) hlt
    ·refine ((uh HAcc).done (.inr rfl)).bind ((?_:Stp (mustR (mc d.length)) (some []) () (if mc k then (some []) else none)).bind (Stp.pure _ _))
     rw[uh HD]
     exact Stp.must _ _
   ·have hl0:l≠[]:=fun e=>hm0 (by rw[<- hm,e];rfl)
    have hbd:=bel_drew wr
    obtain⟨X,hXd⟩:∃ X:Nat->Prop,X=fun g=>g=R\/some g=(Value.slice ta tn tc).ownBlock:=⟨_,rfl⟩
    have HRSd:Hid (RSX w0 wr.drew R X (some l)):=by
     subst hXd
     exact ((uh HRS).below hbd).good _ ⟨.inl rfl,fun g hg=>by
      rcases hg with rfl | hg
      ·exact Nat.lt_of_lt_of_le hlt (uh HBX).size
      ·exact ((uh HOwn).lt g hg.symm).2⟩
    have HPd:=zh ((uh HPk).below hbd)
    have HBXd:Hid (BX R isAny w wr.drew):=(uh HBX).trans (BX.of_below hbd (uh HRS).lt)
    have HOd:Hid (wr.drew.ownsRow w.heap.size 93 5 (.slice ta tn tc) k (scs d)):=owns_below (uh HOwn) hbd
    clear hbd
    go_wp2_with fail
    refine wp_region_noPanic ?_
    refine wp_region_held_drew (S:=fun _=>True) (by kernel_rfl) trivial (fun hHeld=>?_)
    refine rtk 0 (h:=?_)
    refine rtk 1 (h:=?_)
    refine rtk 2 (h:=?_)
    refine rtk 3 (h:=?_)
    refine rtk 5 (h:=?_)
    refine wpAnyH_ready (rs:=[4,6]) (by kernel_rfl) (by simp) ?_
    refine rac (h:=fun K hK=>?ra) (hs:=(rac (h:=fun K hK=>?rb) (hs:=AllReadyH.nil)))
    case' ra =>
     go_simp
     refine hK.out _ _ trivial (fun hHeld=>?_)
     clear hK K
     refine rcl 6 (h:=fun K hK=>?_)
     go_simp
     refine (sub_anyX R X (some l) w0 _ (uh HRSd)).mono ?_
     rintro e w2 ⟨x,st2,rfl,hs2,h2,hx2⟩
     have cF2:w2.cell? ⟨R,16,none⟩=some (.slice ta tn tc):=(hx2.cell 16 (by unfold isRE;omega)).trans cF
     have hs2l:w.heap.size<=w2.heap.size:=Nat.le_trans (uh HBX).size hx2.size
     have HP2:=zh ((uh HPd).bx hx2)
     have HRS2:=zh h2
     have HST2:=zh hs2
     have HBX2:Hid (BX R isAny w w2):=(uh HBXd).trans hx2.any
     have HO2:Hid (w2.ownsRow w.heap.size 93 5 (.slice ta tn tc) k (scs d)):=owns_bx (uh HOd) hx2 hlt
     have hR2:R < w2.heap.size:=Nat.lt_of_lt_of_le hlt hs2l
     have cF3:(w2.alloc (.cells #[.string x.filter,.int .i64 x.qos,.bool x.nolocal,.bool x.aspub,.int .i64 x.handling] 93)).cell? ⟨R,16,none⟩=some (.slice ta tn tc):=(World.cell?_alloc_lt _ _ ⟨R,16,none⟩ hR2).trans cF2
     clear hx2 h2 hs2
     refine hK.out _ _ trivial (fun hHeld=>?_)
     clear hK K
     refine rcl 7 (h:=fun K hK=>?_)
     go_simp
     refine hK.out _ _ trivial (fun hHeld=>?_)
     clear hK K
    case' rb =>
     go_simp
     refine (sub_anyX R X (some l) w0 _ (uh HRSd)).mono ?_
     rintro e w2 ⟨x,st2,rfl,hs2,h2,hx2⟩
     have cF2:w2.cell? ⟨R,16,none⟩=some (.slice ta tn tc):=(hx2.cell 16 (by unfold isRE;omega)).trans cF
     have hs2l:w.heap.size<=w2.heap.size:=Nat.le_trans (uh HBX).size hx2.size
     have HP2:=zh ((uh HPd).bx hx2)
     have HRS2:=zh h2
     have HST2:=zh hs2
     have HBX2:Hid (BX R isAny w w2):=(uh HBXd).trans hx2.any
     have HO2:Hid (w2.ownsRow w.heap.size 93 5 (.slice ta tn tc) k (scs d)):=owns_bx (uh HOd) hx2 hlt
     have hR2:R < w2.heap.size:=Nat.lt_of_lt_of_le hlt hs2l
     have cF3:(w2.alloc (.cells #[.string x.filter,.int .i64 x.qos,.bool x.nolocal,.bool x.aspub,.int .i64 x.handling] 93)).cell? ⟨R,16,none⟩=some (.slice ta tn tc):=(World.cell?_alloc_lt _ _ ⟨R,16,none⟩ hR2).trans cF2
     clear hx2 h2 hs2
     refine hK.out _ _ trivial (fun hHeld=>?_)
     clear hK K
     refine wpAnyH_ready (rs:=[4,7]) (by kernel_rfl) (by simp) ?_
     refine rac (h:=fun K hK=>?rc) (hs:=(rac (h:=fun K hK=>?rd) (hs:=AllReadyH.nil)))
     case' rc =>
      go_simp
      refine hK.out _ _ trivial (fun hHeld=>?_)
      clear hK K
      refine rcl 7 (h:=fun K hK=>?_)
      go_simp
      refine hK.out _ _ trivial (fun hHeld=>?_)
      clear hK K
     case' rd =>
      go_simp
      refine hK.out _ _ trivial (fun hHeld=>?_)
      clear hK K
      refine rcl 4 (h:=fun K hK=>?_)
      go_simp
      refine hK.out _ _ trivial (fun hHeld=>?_)
      clear hK K
    all_goals (
     refine rcl 8 (h:=fun K hK=>?_)
     refine step_append_run (Z:=fun v' w'=>w'.ownsRow w.heap.size 93 5 v' (k+1) ((scs d)++x.cells)/\(w2.alloc (.cells #[.string x.filter,.int .i64 x.qos,.bool x.nolocal,.bool x.aspub,.int .i64 x.handling] 93)).grownBy w' (Value.slice ta tn tc).ownBlock) rfl _ _ 28 rfl (.slice ta tn tc) (.slice (some ⟨w2.heap.size,0,none⟩) 1 1) rfl rfl ?hr ?_
     case hr =>
      obtain⟨v4,w4,h1,h2,h3,_⟩:=run_append_own (P:=Tryz.prog) (w:=(w2.alloc (.cells #[.string x.filter,.int .i64 x.qos,.bool x.nolocal,.bool x.aspub,.int .i64 x.handling] 93))) w.heap.size 28 28 93 i0 _ 5 40 Tryz.underlying28 hi hz0 hz1 hz2 rfl (by decide) (.slice ta tn tc) k _ ((uh HO2).alloc _) ⟨w2.heap.size,0,none⟩ 1 1 x.cells rfl (five_cell _ _ _ _ _ _ _) (five_one _) (by unfold maxLen;omega) (by omega) (by simp;omega)
      exact⟨v4,w4,h1,h2,h3⟩
     rintro v4 w4 ⟨hO4,hg4⟩
     have hrow:∀ g,(Value.slice ta tn tc).ownBlock=some g->w.heap.size<=g/\g < wr.heap.size:=fun g hg=>(uh HOwn).lt g hg
     have hrR:(Value.slice ta tn tc).ownBlock≠some R:=fun e=>by have:=(hrow R e).1;omega
     have HP4:Hid (Pk w4 R { p with subs:=⟨ta,tn,tc⟩ }):=((uh HP2).below (bal _ _)).grown hg4 hrR
     have h0w:w0.heap.size<=w.heap.size:=HW0.size
     have HRS4:Hid (RSX w0 w4 R X st2):=((uh HRS2).below (bal _ _)).grown hg4 (fun g hg=>by rw[hXd];exact .inr hg.symm) hrR (fun g hg=>Nat.le_trans h0w (hrow g hg).1)
     have HBX4:Hid (BX R isAny w w4):=((uh HBX2).trans (BX.of_below (bal _ _) hR2)).grown hg4 (fun g hg=>(hrow g hg).1) hlt
     obtain⟨⟨sa,sn,sc⟩,hv4,_⟩:=owns_sl hO4
     have hv4:v4=.slice sa sn sc:=hv4
     subst hv4
     have HO4:=zh hO4
     have cF4:w4.cell? ⟨R,16,none⟩=some (.slice ta tn tc):=(uh HP4).subs
     have fF4:w4.frozen? ⟨R,16,none⟩=false:=(uh HP4).subs_f
     clear hO4 hg4 hrow cF2 cF3 HP2 HRS2 HBX2
     refine hK.out _ _ trivial (fun hHeld=>?_)
     clear hK K
     simp only[Act.put,List.setIfInBounds_toArray,List.set_cons_zero,List.set_cons_succ]
     refine rtk 9 (h:=?_)
     refine rtk 10 (h:=?_)
     refine rcl 11 (h:=fun K hK=>?_)
     go_simp
     refine hK.out _ _ trivial (fun hHeld=>?_)
     clear hK K
     refine wpAnyH_done (by kernel_rfl) ?_ _
     refine NoPanic.normal ?_
     have HRS5:Hid (RS w0 (w4.setCell ⟨R,16,none⟩ (.slice sa sn sc)) R st2):=((uh HRS4).less (fun g=>g=R) rfl (fun g hg=>by rw[hXd];exact .inl hg)).set 16 _ (by decide)
     have HP5:Hid (Pk (w4.setCell ⟨R,16,none⟩ (.slice sa sn sc)) R { p with subs:=⟨sa,sn,sc⟩ }):=(uh HP4).set_subs ⟨sa,sn,sc⟩
     have HBX5:Hid (BX R isAny w (w4.setCell ⟨R,16,none⟩ (.slice sa sn sc))):=(uh HBX4).set 16 _ trivial
     have HO5:Hid ((w4.setCell ⟨R,16,none⟩ (.slice sa sn sc)).ownsRow w.heap.size 93 5 (.slice sa sn sc) (k+1) (scs (d++[x]))):=by
      show World.ownsRow _ _ _ _ _ _ _
      rw[show (scs (d++[x]))=(scs d)++x.cells from by rw[scs_app]]
      exact owns_bx (uh HO4) ((BX.refl R isAny w4).set 16 _ trivial) hlt
     have HA5:Hid (Acc sub? st (d++[x]) st2):=(uh HAcc).step sub?_shr (uh HST2) hl0
     have HB5:Hid (∀ l',st2=some l'->(k+1)+l'.length<=65536):=by
      intro l' hl'
      subst hl'
      have h2:=stp_len sub?_shr (uh HST2)
      have h3:=(uh HB) l rfl
      omega
     have hM:mlen R (w4.setCell ⟨R,16,none⟩ (.slice sa sn sc)) < mlen R wr:=by
      rw[mlen_some (uh HRS)]
      cases st2 with
      | none=>rw[mlen_none (uh HRS5)];omega
      | some l' =>
       rw[mlen_some (uh HRS5)]
       have:=stp_len sub?_shr (uh HST2)
       omega
     have hk1:k+1<=65536:=by
      have h3:=(uh HB) l rfl
      have:=List.length_pos_iff.2 hl0
      omega
     have HD5:Hid ((d++[x]).length=k+1):=by show _=_;rw[List.length_append,uh HD];rfl
     clear HRS4 HP4 HBX4 HO4 cF4 fF4
     go_wp2
     go_roundw
     case rel=>exact⟨d++[x],st2,⟨sa,sn,sc⟩,k+1,by go_num,hk1,HD5,HB5,HP5,HO5,HA5,HRS5,HBX5⟩
     case measure=>exact hM)
  ·clear gl
   go_wp2_with fail
   refine (mayCount_any k _).mono ?_
   rintro e wa ⟨rfl,hwa⟩
   obtain rfl:=hwa.symm
   clear hwa
   go_wp2_with fail
   refine (must_any R _ none w0 wr (uh HRS)).mono ?_
   rintro e wb ⟨rfl,h2,hx2⟩
   have H2:=zh h2
   have HX2:=zh hx2
   clear h2 hx2
   go_wp2
   go_end0
   refine⟨rfl,⟨ta,tn,tc⟩,d,_,(uh HPk).bx (uh HX2),?_,?_,uh H2,(uh HBX).trans (uh HX2).any⟩
   ·show World.ownsRow _ _ _ _ _ _ _
    rw[uh HD]
    exact owns_bx (uh HOwn) (uh HX2) hlt
   ·refine ((uh HAcc).done (.inl rfl)).bind ((?_:Stp (mustR (mc d.length)) none () (if mc k then none else none)).bind (Stp.pure _ _))
    rw[uh HD]
    exact Stp.must _ _
theorem wone_any (W:Nat) (bv E:Value) (sz:Nat) (T:List Int) (n:Int) (w:World) (h:WS w W bv sz T E) (hE:EV E) (hn:-9223372036854775808<=n/\n<=9223372036854775807) (hs:sz<=4611686018427387904) (hT:T.length<=65536) :
  Calls Tryz.prog 60 #[.pointer (some ⟨W,0,none⟩),.int .i64 n] w (AddPost W bv sz T [n % 256] (mst (decide (0<=n) && decide (n < 256)) E) w):=by
 have HS:=zh h
 have hW:W < w.heap.size:=cell_lt h.wt.1.1
 have HM:=zh (fun c=>wmust_gen W bv E sz c w h.wt hE)
 clear h
 go_enter Tryz.func60,Tryz.ntmps60
 go_wp2_with fail
 all_goals (
  refine ((uh HM) _).mono ?_
  rintro e w1 ⟨rfl,hw1,hx1,hev⟩
  have HS1:=zh ((uh HS).bx hx1 hw1)
  have HX1:=zh hx1
  have hz1:=hx1.size
  have HE1:=zh hev
  clear hw1 hx1 hev HM HS
  have HA:Hid (Below w1.heap.size w1 (w1.alloc (.cells #[.int .u8 (n % 256)] 5))):=bal _ _
  have HS2:=zh ((uh HS1).below (uh HA))
  have HRW:Hid ((w1.alloc (.cells #[.int .u8 (n % 256)] 5)).ownsRow (W+1) 5 1 (.slice (some ⟨w1.heap.size,0,none⟩) 1 1) 1 ([n % 256].map (Value.int .u8))):=⟨rfl,.inr ⟨w1.heap.size,1,#[.int .u8 (n % 256)],rfl,by omega,heap_alloc_new _ _,Nat.le_refl _,by unfold maxLen;omega,rfl,rfl⟩⟩
  have hb:0<=n % 256/\n % 256<=255:=by omega
  have HAD:=zh (wadd_any W bv _ .nilIface sz T [n % 256] (.slice (some ⟨w1.heap.size,0,none⟩) 1 1) _ (uh HS2) (uh HE1) (.inl rfl) (fun w' hx=>byt_bxw (uh HRW) (rng1 hb) hx (Nat.lt_succ_self _)) hs (by simp) hT)
  rw[fst_nil (uh HE1)]at HAD
  go_wp2_with fail
  refine (uh HAD).mono ?_
  rintro e w3 hp
  have HP:=zh (hp.ahead (uh HX1) (uh HA) (fun j (e:j=21)=>by subst e;decide) (by omega))
  obtain⟨bv',rfl,-⟩:=hp
  clear HAD HS2 HRW HS1
  go_wp2
  go_end0
  have hh:=uh HP
  first
   | (have h0:(0:Int)<=n:=(by assumption);rw[decide_eq_true h0,Bool.true_and];exact hh)
   | (have h0:n < 0:=(by assumption);rw[decide_eq_false (by omega),Bool.false_and];exact hh))
theorem rng2 {x y:Int} (h:0<=x/\x<=255) (k:0<=y/\y<=255):∀ j,0<=([x,y]:List Int).getD j 0/\([x,y]:List Int).getD j 0<=255:=by
 intro j
 match j with
 | 0=>exact h
 | 1=>exact k
 | j+2=>simp
theorem wtwo_any (W:Nat) (bv E:Value) (sz:Nat) (T:List Int) (n:Int) (w:World) (h:WS w W bv sz T E) (hE:EV E) (hn:-9223372036854775808<=n/\n<=9223372036854775807) (hs:sz<=4611686018427387904) (hT:T.length<=65536) :
  Calls Tryz.prog 109 #[.pointer (some ⟨W,0,none⟩),.int .i64 n] w (AddPost W bv sz T [n / 256 % 256,n % 256] (mst (decide (0<=n) && decide (n < 65536)) E) w):=by
 have HS:=zh h
 have hW:W < w.heap.size:=cell_lt h.wt.1.1
 have HM:=zh (fun c=>wmust_gen W bv E sz c w h.wt hE)
 clear h
 go_enter Tryz.func109,Tryz.ntmps109
 go_wp2_with fail
 all_goals (
  refine ((uh HM) _).mono ?_
  rintro e w1 ⟨rfl,hw1,hx1,hev⟩
  have HS1:=zh ((uh HS).bx hx1 hw1)
  have HX1:=zh hx1
  have hz1:=hx1.size
  have HE1:=zh hev
  clear hw1 hx1 hev HM HS
  have HA:Hid (Below w1.heap.size w1 (w1.alloc (.cells #[.int .u8 (n / 256 % 256),.int .u8 (n % 256)] 5))):=bal _ _
  have HS2:=zh ((uh HS1).below (uh HA))
  have HRW:Hid ((w1.alloc (.cells #[.int .u8 (n / 256 % 256),.int .u8 (n % 256)] 5)).ownsRow (W+1) 5 1 (.slice (some ⟨w1.heap.size,0,none⟩) 2 2) 2 ([n / 256 % 256,n % 256].map (Value.int .u8))):=⟨rfl,.inr ⟨w1.heap.size,2,#[.int .u8 (n / 256 % 256),.int .u8 (n % 256)],rfl,by omega,heap_alloc_new _ _,Nat.le_refl _,by unfold maxLen;omega,rfl,rfl⟩⟩
  have hb:0<=n % 256/\n % 256<=255:=by omega
  have hb2:0<=n / 256 % 256/\n / 256 % 256<=255:=by omega
  have HAD:=zh (wadd_any W bv _ .nilIface sz T [n / 256 % 256,n % 256] (.slice (some ⟨w1.heap.size,0,none⟩) 2 2) _ (uh HS2) (uh HE1) (.inl rfl) (fun w' hx=>byt_bxw (uh HRW) (rng2 hb2 hb) hx (Nat.lt_succ_self _)) hs (by simp) hT)
  rw[fst_nil (uh HE1)]at HAD
  go_wp2_with fail
  refine (uh HAD).mono ?_
  rintro e w3 hp
  have HP:=zh (hp.ahead (uh HX1) (uh HA) (fun j (e:j=21)=>by subst e;decide) (by omega))
  obtain⟨bv',rfl,-⟩:=hp
  clear HAD HS2 HRW HS1
  go_wp2
  go_end0
  have hh:=uh HP
  first
   | (have h0:(0:Int)<=n:=(by assumption);rw[decide_eq_true h0,Bool.true_and];exact hh)
   | (have h0:n < 0:=(by assumption);rw[decide_eq_false (by omega),Bool.false_and];exact hh))
theorem wid_any (W:Nat) (bv E:Value) (sz:Nat) (T:List Int) (n:Int) (w:World) (h:WS w W bv sz T E) (hE:EV E) (hn:-9223372036854775808<=n/\n<=9223372036854775807) (hs:sz<=4611686018427387904) (hT:T.length<=65536) :
  Calls Tryz.prog 66 #[.pointer (some ⟨W,0,none⟩),.int .i64 n] w (AddPost W bv sz T [n / 256 % 256,n % 256] (mst (decide (0<=n) && decide (n < 65536)) (mst (n != 0) E)) w):=by
 have HS:=zh h
 have hW:W < w.heap.size:=cell_lt h.wt.1.1
 have HM:=zh (wmust_gen W bv E sz (n != 0) w h.wt hE)
 clear h
 go_enter Tryz.func66,Tryz.ntmps66
 go_wp2_with fail
 refine (uh HM).mono ?_
 rintro e w1 ⟨rfl,hw1,hx1,hev⟩
 have HAD:=zh (wtwo_any W bv _ sz T n w1 ((uh HS).bx hx1 hw1) hev hn hs hT)
 have HX1:=zh hx1
 clear hw1 hx1 hev HM HS
 go_wp2_with fail
 refine (uh HAD).mono ?_
 rintro e w3 hp
 have HP:=zh (hp.ahead (uh HX1) (Below.refl _ _) (fun j (e:j=21)=>by subst e;decide) (Nat.lt_of_lt_of_le hW (uh HX1).size))
 obtain⟨bv',rfl,-⟩:=hp
 clear HAD
 go_wp2
 go_end0
 exact uh HP
theorem wtext_ok (W:Nat) (bv E:Value) (sz:Nat) (T:List Int) (s:ByteArray) (w:World) (h:WS w W bv sz T E) (hE:EV E) (hc:chk (sb s)=0) (hs:sz<=4611686018427387904) (hT:T.length<=65536) :
  Calls Tryz.prog 108 #[.pointer (some ⟨W,0,none⟩),.string s] w (AddPost W bv sz T (tx s) E w):=by
 have HS:=zh h
 have hW:W < w.heap.size:=cell_lt h.wt.1.1
 have hs2:s.size<=65535:=by have:=chk_0 hc;rw[sb_length]at this;exact this
 have hl:=tx_length s
 have hr:=tx_range s hs2
 have HP:=zh (put_ok s w hc)
 have HR:=zh hr
 have HE:=zh hE
 clear h hc hr hE
 go_enter Tryz.func108,Tryz.ntmps108
 go_wp2_with fail
 refine (uh HP).mono ?_
 rintro e w1 ⟨v,rfl,hown,hb⟩
 have HA:=zh hb
 have HS1:=zh ((uh HS).below hb)
 have HAD:=zh (wadd_any W bv E .nilIface sz T (tx s) v w1 (uh HS1) (uh HE) (.inl rfl) (fun w' hx=>byt_bxw (B:=w.heap.size) (by rw[hl];exact uh hown) (uh HR) hx hW) hs (by rw[hl];omega) hT)
 rw[fst_nil (uh HE)]at HAD
 clear hown hb HP HS
 go_wp2_with fail
 refine (uh HAD).mono ?_
 rintro e w3 hp
 have HQ:=zh (hp.ahead (BX.refl W isT w) (uh HA) (fun _ e=>e) hW)
 obtain⟨bv',rfl,-⟩:=hp
 clear HAD HS1
 go_wp2
 go_end0
 exact uh HQ
theorem mst_mst {c d:Bool} {E:Value} (hE:EV E):mst c (mst d E)=mst (c && d) E:=by
 rcases hE with rfl | ⟨t,x,rfl⟩
 ·cases c <;> cases d <;> rfl
 ·rw[mst_if,mst_if,mst_if]
theorem er_off {w:World} {W:Nat} {bv:Value} {sz:Nat} {T:List Int} {E:Value} {c:Bool} (hW:WS w W bv sz T E) (hc:w.cell? ⟨W,1,none⟩=some (.bool c)) (h2:bv.ownBlock=none\/2<=T.length):∀ {d:Nat} {v:Value} {n:Int},Er w d v n->ErO w (offX W bv) d v n
 | 0,_,_,h=>h
 | _+1,_,_,⟨b,u,h1,k2,h3⟩=>by
  obtain⟨t,x,hu⟩:=h3.iface
  refine⟨b,u,h1,?_,k2,er_off hW hc h2 h3⟩
  subst hu
  rintro (e | e)
  ·subst e
   rw[hc]at k2
   cases k2
  ·rcases h2 with h2 | h2
   ·rw[h2]at e;cases e
   ·rcases hW.row.2 with⟨rfl,h0⟩ | ⟨g,cap,cur,rfl,_,hg,hn,_,hsz,hx⟩
    ·cases e
    ·cases e
     have hy:=byt_of_owns hW.row hW.rng
     obtain⟨ao,cap',hv,_,_,hc'⟩:=hy
     simp only[Value.slice.injEq]at hv
     obtain⟨rfl,_,_⟩:=hv
     rcases hc' with rfl | ⟨b',off',e',hc'⟩
     ·simp at h2
     ·simp only[Option.some.injEq,Addr.mk.injEq,and_true]at e'
      obtain⟨rfl,rfl⟩:=e'
      have k:=hc' 1 (by omega)
      rw[Nat.zero_add,k2]at k
      cases k
theorem must_q {w0 w:World} {W:Nat} {p:Pkv} {st:Option (List Int)} {m:Nat} (h:WQ w0 w W p st m) (c:Bool):Calls Tryz.prog 69 #[.pointer (some ⟨W,0,none⟩),.bool c] w (QPost w0 W p (st.bind (sMust c)) m w):=by
 obtain⟨h1,h2,h3,bv,sz,T,E,h4,h5,h6,h7⟩:=h
 refine (wmust_gen W bv E sz c w h4.wt h7.ev).mono ?_
 rintro r w' ⟨rfl,k1,k2,k3⟩
 have hm21:∀ j,is21 j->19<=j:=fun j (e:j=21)=>by subst e;decide
 have hF:FW W bv.ownBlock w w':=FW.of_bx k2 hm21
 refine⟨rfl,⟨hF.below h1 h2 (fun g e=>by have:=ws_rows h4 g e;omega),h2,h3.fw hF,bv,sz,T,_,h4.bx k2 k1,h5,h6,?_⟩,FT.of_bx k2⟩
 cases st with
 | none =>
  obtain⟨d,n,hd,he⟩:=h7
  obtain⟨t,x,rfl⟩:=he.iface
  rw[mst_if]
  exact⟨d,n,hd,he.fw hF.fb (.inl rfl)⟩
 | some l =>
  obtain⟨rfl,k⟩:=h7
  cases c
  ·exact⟨0,1,by omega,rfl⟩
  ·exact⟨rfl,k⟩
theorem one_q {w0 w:World} {W:Nat} {p:Pkv} {st:Option (List Int)} {m:Nat} (h:WQ w0 w W p st m) (n:Int) (hn:-9223372036854775808<=n/\n<=9223372036854775807) (hm:m<=4611686018427387904):Calls Tryz.prog 60 #[.pointer (some ⟨W,0,none⟩),.int .i64 n] w (QPost w0 W p (st.bind (sAdd (in8 n) [n % 256])) (m+1) w):=by
 obtain⟨h1,h2,h3,bv,sz,T,E,h4,h5,h6,h7⟩:=h
 refine (wone_any W bv E sz T n w h4 h7.ev hn (by omega) h5.1).mono ?_
 intro e w' hA
 exact wq_step (in8 n) h4 h6 h5 h7 h1 h2 h3 hA (by simp) (fun l _=>.inr (by simp))
theorem id_q {w0 w:World} {W:Nat} {p:Pkv} {st:Option (List Int)} {m:Nat} (h:WQ w0 w W p st m) (n:Int) (hn:-9223372036854775808<=n/\n<=9223372036854775807) (hm:m<=4611686018427387904):Calls Tryz.prog 66 #[.pointer (some ⟨W,0,none⟩),.int .i64 n] w (QPost w0 W p (st.bind (sAdd (in16 n && n != 0) (b2 n))) (m+2) w):=by
 obtain⟨h1,h2,h3,bv,sz,T,E,h4,h5,h6,h7⟩:=h
 refine (wid_any W bv E sz T n w h4 h7.ev hn (by omega) h5.1).mono ?_
 intro e w' hA
 rw[mst_mst h7.ev]at hA
 exact wq_step (in16 n && n != 0) h4 h6 h5 h7 h1 h2 h3 hA (by simp) (fun l _=>.inr (by simp))
theorem add_bad_q {w0 w:World} {W:Nat} {p:Pkv} {st:Option (List Int)} {m:Nat} (h:WQ w0 w W p st m) (t:TypeId) (x:Value) (he:∃ d n,d<=2/\Er w d (.iface t x) n) (hl:∀ l,st=some l->l.length≠1) (hm:m<=4611686018427387904) :
  Calls Tryz.prog 114 #[.pointer (some ⟨W,0,none⟩),.slice none 0 0,.iface t x] w (QPost w0 W p none m w):=by
 obtain⟨h1,h2,h3,bv,sz,T,E,h4,h5,h6,h7⟩:=h
 refine (wadd_bad W bv E t x sz T w h4 h7.ev (by omega)).mono ?_
 rintro r w' ⟨rfl,k1,k2⟩
 have hF:FW W bv.ownBlock w w':=FW.of_bx k2 (fun _ e=>e)
 refine⟨rfl,⟨hF.below h1 h2 (fun g e=>by have:=ws_rows h4 g e;omega),h2,h3.fw hF,bv,sz,T,_,k1,h5,h6,?_⟩,FT.of_bx k2⟩
 cases st with
 | none =>
  obtain⟨d,n,hd,he⟩:=h7
  obtain⟨t',x',rfl⟩:=he.iface
  rw[fst_if]
  exact⟨d,n,hd,he.fw hF.fb (.inl rfl)⟩
 | some l =>
  obtain⟨rfl,_,_,k⟩:=h7
  obtain⟨d,n,hd,he⟩:=he
  exact⟨d,n,hd,(er_off h4 h3.dup (k.elim .inl (fun k=>k.elim .inr (fun k=>absurd k (hl l rfl)))) he).fw hF.fb (.inl rfl)⟩
theorem tx_ne (s:ByteArray):tx s≠[]:=fun e=>by have:=tx_length s;rw[e]at this;simp at this;omega
theorem text_q {w0 w:World} {W:Nat} {p:Pkv} {st:Option (List Int)} {m:Nat} (h:WQ w0 w W p st m) (s:ByteArray) (hs:s.size<=4611686018427387904) (hl:∀ l,st=some l->l.length≠1) (hm:m<=4611686018427387904) :
  Calls Tryz.prog 108 #[.pointer (some ⟨W,0,none⟩),.string s] w (QPost w0 W p (st.bind (sAdd (okT s) (tx s))) (m+70000) w):=by
 by_cases hc:chk (sb s)=0
 ·have hk:okT s=true:=decide_eq_true hc
  rw[hk]
  have h2:s.size<=65535:=by have:=chk_0 hc;rw[sb_length]at this;exact this
  obtain⟨h1,h2',h3,bv,sz,T,E,h4,h5,h6,h7⟩:=h
  refine (wtext_ok W bv E sz T s w h4 h7.ev hc (by omega) h5.1).mono ?_
  intro e w' hA
  have hT:=tx_length s
  obtain⟨k1,k2,k3⟩:=wq_step true h4 h6 h5 h7 h1 h2' h3 hA (tx_ne s) (fun l e=>.inl (hl l e))
  exact⟨k1,k2.mono (by omega),k3⟩
 ·have hk:okT s=false:=decide_eq_false hc
  rw[hk,bind_no]
  have HQ:=zh h
  have HL:=zh hl
  have HP:=zh (tput_bad s w hs hc)
  clear h hc hk hl
  go_enter Tryz.func108,Tryz.ntmps108
  go_wp2_with fail
  refine (uh HP).mono ?_
  rintro e w1 ⟨x,n,rfl,hi,hb⟩
  have HA:=zh (add_bad_q ((uh HQ).below hb) 125 x (by obtain⟨d,hd,he⟩:=er_of_inn (uh hi);exact⟨d,n,hd,he⟩) (uh HL) hm)
  have HB:=zh hb
  clear hb HP HQ hi
  go_wp2_with fail
  refine (uh HA).mono ?_
  rintro e w2 ⟨rfl,hq,hf⟩
  have HQ2:=zh (hq.mono (show m<=m+70000 from by omega))
  have HF:=zh ((FT.of_below (W:=W) (uh HB)).trans hf)
  clear hq hf HA
  go_wp2
  go_end0
  exact⟨rfl,uh HQ2,uh HF⟩
theorem take_subs (W j:Nat) (x:Sl) (w:World) (hc:w.cell? ⟨W,j,none⟩=some (x.val)) (hf:w.frozen? ⟨W,j,none⟩=false):Calls Tryz.prog 117 #[.pointer (some ⟨W,j,none⟩)] w fun e w'=>e=.returned (x.val)/\w'=w.setCell ⟨W,j,none⟩ (sl0.val):=by
 obtain⟨a,n,c⟩:=x
 have hc:w.cell? ⟨W,j,none⟩=some (.slice a n c):=hc
 go_enter Tryz.func117,Tryz.ntmps117
 go_wp2
 go_ret
 exact⟨rfl,rfl⟩
theorem take_id_q {w0 w:World} {W:Nat} {p:Pkv} {st:Option (List Int)} {m:Nat} (h:WQ w0 w W p st m) (x:Int) (hx:p.id=x):Calls Tryz.prog 62 #[.pointer (some ⟨W,5,none⟩)] w fun e w'=>e=.returned (.int .i64 x)/\WQ w0 w' W p.no_id st m:=by
 subst hx
 refine (take_int W 5 p.id w h.pk.id h.pk.id_f).mono ?_
 rintro e w' ⟨rfl,rfl⟩
 exact⟨rfl,h.set p.no_id 5 (by omega) (fun j hj=>by unfold Pkv.no_id Pkv.cell;split <;> first | rfl | exact absurd rfl hj)⟩
theorem take_subs_q {w0 w:World} {W:Nat} {p:Pkv} {st:Option (List Int)} {m:Nat} (h:WQ w0 w W p st m) (x:Sl) (hx:p.subs=x):Calls Tryz.prog 117 #[.pointer (some ⟨W,16,none⟩)] w fun e w'=>e=.returned (x.val)/\WQ w0 w' W p.no_subs st m:=by
 subst hx
 refine (take_subs W 16 p.subs w h.pk.subs h.pk.subs_f).mono ?_
 rintro e w' ⟨rfl,rfl⟩
 exact⟨rfl,h.set p.no_subs 16 (by omega) (fun j hj=>by unfold Pkv.no_subs Pkv.cell;split <;> first | rfl | exact absurd rfl hj)⟩
end Go.Proofs.YtdkmmmjjdlnnoaaGreatDoor.K
