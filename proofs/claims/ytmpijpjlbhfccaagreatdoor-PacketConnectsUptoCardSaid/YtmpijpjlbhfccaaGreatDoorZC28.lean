/- Helpers of the proof. -/
import Derived.Test.YtmpijpjlbhfccaaGreatDoorZC27
import Derived.Deep.WholeRow
import Derived.Test.YtmpijpjlbhfccaaGreatDoorZC16
import Derived.Test.YtmpijpjlbhfccaaGreatDoorZC12
import Derived.Test.YtmpijpjlbhfccaaGreatDoorZC13
import Derived.Lib.AppendStr
import Derived.Test.YtmpijpjlbhfccaaGreatDoorZC20
import Derived.Test.YtmpijpjlbhfccaaGreatDoorZC17
set_option maxHeartbeats 20000000
namespace Go.Proofs.YtmpijpjlbhfccaaGreatDoor.K
open Go.RowKit
set_option maxRecDepth 100000
theorem packet_k1 (R:Nat) (st:Option (List Int)) (w0 w:World) (h:RS w0 w R st) (hp:Pk w R (pk0 1 false 0 false)) (hl:∀ l,st=some l->l.length<=65536):Calls Tryz.prog 34 #[.pointer (some ⟨R,0,none⟩)] w (PackPost w0 R (pa0 1 false 0 false) st w):=by
 have hlt:=h.lt
 have c0:=hp.kind
 have HP:=zh hp
 have HS:=zh h
 have HL:=zh hl
 clear hp h hl
 simp only[pk0]at c0
 go_enter Tryz.func34,Tryz.ntmps34
 go_wp2_with fail
 refine (connect_any R (pk0 1 false 0 false) st w0 w (uh HS) (uh HP) rfl rfl rfl rfl).mono ?_
 rintro e w1 ⟨rfl,n0,V,U,Q,N,tp,st1,hp1,hO1,hN,hW,hU,hQ,hs1,h1,hx1⟩
 have HP1:=zh hp1
 have HS1:=zh h1
 have HX1:=zh hx1
 have HST1:=zh hs1
 clear hp1 h1 hx1 hs1
 obtain⟨ao,n,cap,c19,⟨g1,g2⟩,gl⟩:=(uh HS1).rest
 unfold maxLen at g2
 have GL:=zh gl
 clear gl
 have HM:Hid (Mean w1 w.heap.size { (pk0 1 false 0 false)with clean:=btest n0.x 2,wills:=isW V (btest n0.x 4),user:=isW U (btest n0.x 128),pass:=isW Q (btest n0.x 64),keep:=n0.keep,props:=tp,client:=n0.client } (ofCn (pa0 1 false 0 false) n0)):=⟨⟨rfl,rfl,rfl,rfl,rfl,rfl,rfl,rfl,rfl,rfl,rfl,rfl⟩,uh hO1,row_will (uh hW) hN,row_str (uh hU),row_str (uh hQ),row0 _ _ _ _,row0 _ _ _ _,row0 _ _ _ _⟩
 have hbz:((n:Int)==0)=decide (n=0):=by by_cases h:n=0<;>simp[h]
 go_wp2_with fail
 refine (must_any R _ st1 w0 _ (uh HS1)).mono ?_
 rintro e wz ⟨rfl,hz,hxz⟩
 have HZ:=zh hz
 have HXZ:=zh hxz
 clear hz hxz
 go_wp2
 go_end0
 have hBY:Stp (body? (pa0 1 false 0 false)) st (ofCn (pa0 1 false 0 false) n0) st1:=by
  show Stp (bindR connect? fun n=>pureR (ofCn (pa0 1 false 0 false) n)) st (ofCn (pa0 1 false 0 false) n0) st1
  exact (uh HST1).bind (Stp.pure _ _)
 exact⟨rfl,{ (pk0 1 false 0 false)with clean:=btest n0.x 2,wills:=isW V (btest n0.x 4),user:=isW U (btest n0.x 128),pass:=isW Q (btest n0.x 64),keep:=n0.keep,props:=tp,client:=n0.client },(ofCn (pa0 1 false 0 false) n0),_,(uh HP1).bx (uh HXZ),(uh HM).bx (uh HXZ) hlt,packet_stp hBY (stp_end (uh GL) _ (by first|exact hbz|rfl|simp)),uh HZ,(uh HX1).trans (uh HXZ).any⟩
abbrev pkz:Pkv:=pk0 0 false 0 false
def dbody (l:List Int):Option (Pa×List Int):=packet? (bpa (l.getD 0 0)) ((l.drop (meas l).1).take ((meas l).2.1-(meas l).1))
def dnum (l:List Int):Int:=if l=[] then 3 else if bok (l.getD 0 0)=false then 1 else if (meas l).2.2≠0 then (meas l).2.2 else if (dbody l).isSome then 0 else 1
def DecPost (l:List Int) (w:World) (e:Ending) (w':World):Prop :=
 ∃ (q:Pkv) (n:Nat) (E:Value),e=.returned (.tuple #[q.val,.int .i64 n,E]) /\
  ((dnum l≠0/\q=pkz/\n=0/\Hid (ErP w' E (dnum l)))\/(dnum l=0/\n=(meas l).2.1/\E=.nilIface/\∃ P r,dbody l=some (P,r)/\Hid (Mean w' w.heap.size q P)))/\Below w.heap.size w w'
theorem dec_bad (l:List Int) (w w':World) (x:Value) (m:Int) (hm:dnum l=m) (h0:m≠0) (hE:Hid (ErP w' (.iface 125 x) m)) (hb:Below w.heap.size w w'):DecPost l w (.returned (.tuple #[pkz.val,.int .i64 (0:Nat),.iface 125 x])) w' :=
 ⟨pkz,0,_,rfl,.inl ⟨by rw[hm];exact h0,rfl,rfl,by rw[hm];exact hE⟩,hb⟩
theorem er_cells {w:World} {A:Nat} {vs:List Value} {c:Bool} (hA:w.cell? ⟨A,1,none⟩=some (.bool c)):∀ {d:Nat} {v:Value} {n:Int},Er w d v n->Er (w.setCells A 0 vs) d v n
 | 0,_,_,h=>h
 | d+1,_,_,⟨b,u,h1,h2,h3⟩=>⟨b,u,h1,by
   rw[World.cell?_setCells_out A vs 0 w ⟨b,1,none⟩ (fun e _=>by
    have e:b=A:=e
    subst e
    obtain⟨t,x,rfl⟩:=h3.iface
    rw[hA]at h2
    cases h2)]
   exact h2,er_cells hA h3⟩
theorem erp_cells {w:World} {A:Nat} {vs:List Value} {c:Bool} {E:Value} {n:Int} (h:ErP w E n) (hA:w.cell? ⟨A,1,none⟩=some (.bool c)):ErP (w.setCells A 0 vs) E n:=by
 obtain⟨x,d,h1,h2,h3⟩:=h
 exact⟨x,d,h1,h2,er_cells hA h3⟩
theorem dec_nil (ao:Option Addr) (cap:Nat) (w:World):Calls Tryz.prog 11 #[.slice ao 0 cap] w (DecPost [] w):=by
 have HPN:=zh (pk_new w pkz)
 have HBN:Hid (Below w.heap.size w (w.alloc (.cells pkz.cells.toArray 31))):=bal _ _
 have hdn:dnum []=3:=rfl
 obtain⟨l,hl⟩:∃ l:List Int,l=[]:=⟨_,rfl⟩
 rw[<- hl]at hdn |-
 have HDN:=zh hdn
 clear hdn hl
 go_enter Tryz.func11,Tryz.ntmps11
 go_wp2_with fail
 refine (pf_use 3 _).mono ?_
 rintro e w1 ⟨x,rfl,hE,hb1⟩
 have HP1:=zh ((uh HPN).below hb1)
 have HB1:Hid (Below w.heap.size w w1):=(uh HBN).trans (hb1.mono (uh HBN).size)
 clear hb1 HPN HBN
 dsimp only
 go_step
 refine wpList_store_mid rfl 31 _ _ rfl w.heap.size 0 pkz.cells.toArray rfl rfl ((uh HP1).there _) packet_size (Pkv.ones' _) ?_
 simp only[Act.put]
 have HPS:=zh ((uh HP1).stored pkz)
 have HBS:Hid (Below w.heap.size w (w1.setCells w.heap.size 0 pkz.cells)):=setCells_below (uh HB1) (Nat.le_refl _)
 have HES:Hid (ErP (w1.setCells w.heap.size 0 pkz.cells) (.iface 125 x) 3):=erp_cells (uh hE) (uh HP1).dup
 generalize w1.setCells w.heap.size 0 pkz.cells=wS at HPS HBS HES |-
 go_wp2
 refine bodyPost_ret (res_pk3 (B:=w.heap.size) (q:=pkz) rfl rfl (uh HPS)) rfl ?_
 exact dec_bad l w _ x 3 (uh HDN) (by decide) HES (uh HBS)
def rdc (q:Pkv) (ao:Option Addr) (m cap:Nat):Array Value:=#[.int .i64 q.kind,.bool q.dup,.int .i64 q.qos,.bool q.retain,.string q.topic,.int .i64 q.id,.string q.payload,q.props.val,.string q.client,.bool q.clean,.int .i64 q.keep,q.wills.val,q.user.val,q.pass.val,.int .i64 q.code,.bool q.session,q.subs.val,q.filters.val,q.codes.val,.slice ao m cap,.nilIface]
theorem reader_build (a:Act) (dst:Option Tmp) (x y:Operand) (ty:TypeId) (pos:String) (after:Array Edge) (q:Pkv) (ao:Option Addr) (m cap:Nat) (hx:a.eval x=q.val) (hy:a.eval y=.slice ao m cap) (w:World) :
  (execOp a.eval ⟨dst,.build 74 #[(0,x),(1,y)],ty,pos,after,none⟩).run Tryz.prog w=.ok (.value (.agg (rdc q ao m cap))) w:=by
 unfold execOp
 simp only[List.map_toArray,List.map_cons,List.map_nil,hx,hy]
 kernel_rfl
theorem reader_alloc (ρ:Operand->Value) (dst:Option Tmp) (ty:TypeId) (pos:String) (after:Array Edge) (w:World) :
  (execOp ρ ⟨dst,.alloc 74,ty,pos,after,none⟩).run Tryz.prog w=.ok (.value (.pointer (some ⟨w.heap.size,0,none⟩))) (w.alloc (.cells (rdc pkz none 0 0) 74)):=by
 kernel_rfl
theorem reader_size:(Tryz.prog.info? 74).map (·.size)=some 21:=by kernel_rfl
theorem rdc_one (q:Pkv) (ao:Option Addr) (m cap:Nat):(rdc q ao m cap).all (·.oneCell')=true:=by
 unfold rdc
 kernel_rfl
theorem reader_store (a:Act) (dst:Option Tmp) (x y:Operand) (ty:TypeId) (pos:String) (after:Array Edge) (q:Pkv) (ao:Option Addr) (m cap:Nat) (w:World) (hx:a.eval x=.pointer (some ⟨w.heap.size,0,none⟩)) (hy:a.eval y=.agg (rdc q ao m cap)) :
  (execOp a.eval ⟨dst,.store 74 x y,ty,pos,after,none⟩).run Tryz.prog (w.alloc (.cells (rdc pkz none 0 0) 74))=.ok .skip (w.alloc (.cells (rdc q ao m cap) 74)):=by
 show Sem.run Tryz.prog (do Instr.storeAt 74 (a.eval x) (a.eval y);pure Next.skip) _=_
 rw[hx,hy]
 simp only[Sem.run_bind]
 rw[run_storeAt_new w 74 (rdc pkz none 0 0) (rdc q ao m cap) (by rw[reader_size];rfl) rfl (rdc_one q ao m cap)]
 rfl
theorem step_value {w w':World} {ops:Array Oper} {o:Oper} {a:Act} {K:Act->World->Prop} {Q:Exit->Act->World->Prop} {E:Prop} {v:Value} (hgd:o.guard=none) (hr:(execOp a.eval o).run Tryz.prog w=.ok (.value v) w') (h:K (a.put o.dst v) w') :
  if Region.wanted o (yielded ops a.tmps)=true then Oper.wp Tryz.prog o a w K Q else E:=by
 rw[if_pos (by simp[Region.wanted,hgd])]
 unfold Oper.wp
 rw[hr]
 exact h
theorem step_skip {w w':World} {ops:Array Oper} {o:Oper} {a:Act} {K:Act->World->Prop} {Q:Exit->Act->World->Prop} {E:Prop} (hgd:o.guard=none) (hr:(execOp a.eval o).run Tryz.prog w=.ok .skip w') (h:K (a.put o.dst undef) w') :
  if Region.wanted o (yielded ops a.tmps)=true then Oper.wp Tryz.prog o a w K Q else E:=by
 rw[if_pos (by simp[Region.wanted,hgd])]
 unfold Oper.wp
 rw[hr]
 exact h
theorem rdc_cell {w:World} {q:Pkv} {ao:Option Addr} {m cap:Nat} (j:Nat) (v:Value) (h:(rdc q ao m cap)[j]?=some v):(w.alloc (.cells (rdc q ao m cap) 74)).cell? ⟨w.heap.size,j,none⟩=some v:=by
 have k:=heap_alloc_new w (.cells (rdc q ao m cap) 74)
 unfold World.cell?
 dsimp only
 rw[k]
 simpa using h
theorem rdc_pk (w:World) (q:Pkv) (ao:Option Addr) (m cap:Nat):Pk (w.alloc (.cells (rdc q ao m cap) 74)) w.heap.size q:=fun j hj=>by
 refine⟨rdc_cell j _ ?_,by simp⟩
 rw[<- cells_get q j hj]
 match j,hj with
 | 0,_=>rfl
 | 1,_=>rfl
 | 2,_=>rfl
 | 3,_=>rfl
 | 4,_=>rfl
 | 5,_=>rfl
 | 6,_=>rfl
 | 7,_=>rfl
 | 8,_=>rfl
 | 9,_=>rfl
 | 10,_=>rfl
 | 11,_=>rfl
 | 12,_=>rfl
 | 13,_=>rfl
 | 14,_=>rfl
 | 15,_=>rfl
 | 16,_=>rfl
 | 17,_=>rfl
 | 18,_=>rfl
 | n+19,h=>exact absurd h (by omega)
theorem rdc_rs (w0 w:World) (q:Pkv) (ao:Option Addr) (m cap:Nat) (l:List Int) (hb:Byt w0 (.slice ao m cap) l) (hw:Below w0.heap.size w0 w):RS w0 (w.alloc (.cells (rdc q ao m cap) 74)) w.heap.size (some l) :=
 ⟨⟨rfl,fun k hk=>by have hk:k=w.heap.size:=hk;subst hk;simp⟩,⟨q.dup,rdc_cell 1 _ rfl⟩,.slice ao m cap,l,.nilIface,⟨rdc_cell 19 _ rfl,by simp,rdc_cell 20 _ rfl,by simp⟩,hb,hw.alloc hw.size _,hw.size,.inl ⟨rfl,rfl⟩⟩
theorem RSX.bad {w0 w:World} {R:Nat} {X:Nat->Prop} (h:RSX w0 w R X none):∃ t x d n,w.cell? ⟨R,20,none⟩=some (.iface t x)/\d<=2/\Er w d (.iface t x) n:=by
 obtain⟨_,_,bv,l',E,hr,hb,_,_,hst⟩:=h
 rcases hst with⟨e,_⟩|⟨_,d,n,hd,he⟩
 ·cases e
 ·obtain⟨t,x,rfl⟩:=he.iface
  exact⟨t,x,d,n,hr.2.2.1,hd,he.er⟩
theorem Pk.far {w w':World} {R A:Nat} {may:Nat->Prop} {q:Pkv} (h:Pk w A q) (hx:BX R may w w') (hA:A≠R):Pk w' A q:=fun j hj =>
 have hb:=hx.block A (cell_lt (h 0 (by omega)).1) hA
 ⟨(World.cell?_of_block hb).trans (h j hj).1,(World.frozen?_of_block hb).trans (h j hj).2⟩
def PkAt (b:Int):Prop:=∀ (R:Nat) (st:Option (List Int)) (w0 w:World),RS w0 w R st->Pk w R (bpk b)->(∀ l,st=some l->l.length<=65536)->Calls Tryz.prog 34 #[.pointer (some ⟨R,0,none⟩)] w (PackPost w0 R (bpa b) st w)
theorem Mean.base {w:World} {B B':Nat} {p:Pkv} {P:Pa} (h:Mean w B p P) (hB:B'<=B):Mean w B' p P :=
 ⟨h.sc,owns_mono h.props hB,by
  obtain⟨ws,h1,h2,h3⟩:=h.wills
  exact⟨ws,owns_mono h1 hB,h2,fun i a b ha hb=>by
   obtain⟨k1,k2,k3,k4,k5⟩:=h3 i a b ha hb
   exact⟨k1,k2,k3,k4,owns_mono k5 hB⟩⟩,owns_mono h.user hB,owns_mono h.pass hB,owns_mono h.subs hB,owns_mono h.filters hB,owns_mono h.codes hB⟩
theorem owns_cells {w:World} {A:Nat} {vs:List Value} {o B:Nat} {e:TypeId} {s:Nat} {v:Value} {n:Nat} {xs:List Value} (h:w.ownsRow B e s v n xs) (hA:A<B):(w.setCells A o vs).ownsRow B e s v n xs:=by
 induction vs generalizing w o with
 | nil=>exact h
 | cons u vs ih =>
  rw[World.setCells]
  exact ih (owns_out h hA)
theorem Mean.cells {w:World} {A B:Nat} {vs:List Value} {p:Pkv} {P:Pa} (h:Mean w B p P) (hA:A<B):Mean (w.setCells A 0 vs) B p P :=
 ⟨h.sc,owns_cells h.props hA,by
  obtain⟨ws,h1,h2,h3⟩:=h.wills
  exact⟨ws,owns_cells h1 hA,h2,fun i a b ha hb=>by
   obtain⟨k1,k2,k3,k4,k5⟩:=h3 i a b ha hb
   exact⟨k1,k2,k3,k4,owns_cells k5 hA⟩⟩,owns_cells h.user hA,owns_cells h.pass hA,owns_cells h.subs hA,owns_cells h.filters hA,owns_cells h.codes hA⟩
abbrev pkp:Pkv:=pk0 12 false 0 false
theorem empty_ping (w:World):Calls Tryz.prog 58 #[.agg pkp.cells.toArray] w fun e w'=>e=.returned (.bool true)/\Below w.heap.size w w':=by
 have hz:bits .or .i64 0 0=0:=by kernel_rfl
 show Calls Tryz.prog 58 #[.agg #[.int .i64 12,.bool false,.int .i64 0,.bool false,.string ⟨#[]⟩,.int .i64 0,.string ⟨#[]⟩,.slice none 0 0,.string ⟨#[]⟩,.bool false,.int .i64 0,.slice none 0 0,.slice none 0 0,.slice none 0 0,.int .i64 0,.bool false,.slice none 0 0,.slice none 0 0,.slice none 0 0]] w _
 go_enter Tryz.func58,Tryz.ntmps58
 go_wp2
 go_ret
 exact⟨rfl,by go_grown⟩
theorem wpacket_ping (W:Nat) (w:World) (hp:Pk w W pkp):Calls Tryz.prog 24 #[.pointer (some ⟨W,0,none⟩)] w fun e w'=>e=.returned (.tuple #[])/\Below w.heap.size w w':=by
 have c0:w.cell? ⟨W,0,none⟩=some (.int .i64 12):=hp.kind
 have HP:=zh hp
 clear hp
 go_enter Tryz.func24,Tryz.ntmps24
 go_upto_region 25 with fail
 iterate 13 go_step
 refine wpList_load_mid rfl 31 _ rfl W 0 rfl pkp.cells _ (uh HP).range Tryz.underlying31 rfl packet_size ?_
 simp only[sp]
 go_wp2_with fail
 refine (empty_ping w).mono ?_
 rintro e w1 ⟨rfl,hb1⟩
 have HB1:=zh hb1
 clear hb1 c0
 go_wp2_with fail
 refine (wmust_true W w1).mono ?_
 rintro e w2 ⟨rfl,hw2⟩
 obtain rfl:=hw2.symm
 clear hw2
 go_wp2
 go_end0
 exact⟨rfl,uh HB1⟩
def wrc (q:Pkv):Array Value:=#[.int .i64 q.kind,.bool q.dup,.int .i64 q.qos,.bool q.retain,.string q.topic,.int .i64 q.id,.string q.payload,q.props.val,.string q.client,.bool q.clean,.int .i64 q.keep,q.wills.val,q.user.val,q.pass.val,.int .i64 q.code,.bool q.session,q.subs.val,q.filters.val,q.codes.val,.slice none 0 0,.int .i64 0,.nilIface]
theorem writer_build (a:Act) (dst:Option Tmp) (x:Operand) (ty:TypeId) (pos:String) (after:Array Edge) (q:Pkv) (hx:a.eval x=q.val) (w:World) :
  (execOp a.eval ⟨dst,.build 63 #[(0,x)],ty,pos,after,none⟩).run Tryz.prog w=.ok (.value (.agg (wrc q))) w:=by
 unfold execOp
 simp only[List.map_toArray,List.map_cons,List.map_nil,hx]
 kernel_rfl
theorem writer_alloc (ρ:Operand->Value) (dst:Option Tmp) (ty:TypeId) (pos:String) (after:Array Edge) (w:World) :
  (execOp ρ ⟨dst,.alloc 63,ty,pos,after,none⟩).run Tryz.prog w=.ok (.value (.pointer (some ⟨w.heap.size,0,none⟩))) (w.alloc (.cells (wrc pkz) 63)):=by
 kernel_rfl
theorem writer_size:(Tryz.prog.info? 63).map (·.size)=some 22:=by kernel_rfl
theorem wrc_one (q:Pkv):(wrc q).all (·.oneCell')=true:=by
 unfold wrc
 kernel_rfl
theorem writer_store (a:Act) (dst:Option Tmp) (x y:Operand) (ty:TypeId) (pos:String) (after:Array Edge) (q:Pkv) (w:World) (hx:a.eval x=.pointer (some ⟨w.heap.size,0,none⟩)) (hy:a.eval y=.agg (wrc q)) :
  (execOp a.eval ⟨dst,.store 63 x y,ty,pos,after,none⟩).run Tryz.prog (w.alloc (.cells (wrc pkz) 63))=.ok .skip (w.alloc (.cells (wrc q) 63)):=by
 show Sem.run Tryz.prog (do Instr.storeAt 63 (a.eval x) (a.eval y);pure Next.skip) _=_
 rw[hx,hy]
 simp only[Sem.run_bind]
 rw[run_storeAt_new w 63 (wrc pkz) (wrc q) (by rw[writer_size];rfl) rfl (wrc_one q)]
 rfl
theorem wrc_cell {w:World} {q:Pkv} (j:Nat) (v:Value) (h:(wrc q)[j]?=some v):(w.alloc (.cells (wrc q) 63)).cell? ⟨w.heap.size,j,none⟩=some v:=by
 have k:=heap_alloc_new w (.cells (wrc q) 63)
 unfold World.cell?
 dsimp only
 rw[k]
 simpa using h
theorem wrc_pk (w:World) (q:Pkv):Pk (w.alloc (.cells (wrc q) 63)) w.heap.size q:=fun j hj=>by
 refine⟨wrc_cell j _ ?_,by simp⟩
 rw[<- cells_get q j hj]
 match j,hj with
 | 0,_=>rfl
 | 1,_=>rfl
 | 2,_=>rfl
 | 3,_=>rfl
 | 4,_=>rfl
 | 5,_=>rfl
 | 6,_=>rfl
 | 7,_=>rfl
 | 8,_=>rfl
 | 9,_=>rfl
 | 10,_=>rfl
 | 11,_=>rfl
 | 12,_=>rfl
 | 13,_=>rfl
 | 14,_=>rfl
 | 15,_=>rfl
 | 16,_=>rfl
 | 17,_=>rfl
 | 18,_=>rfl
 | n+19,h=>exact absurd h (by omega)
theorem enc_ping (w:World):Calls Tryz.prog 7 #[pkp.val] w fun e w'=>∃ v,e=.returned (.tuple #[v,.nilIface])/\Hid (Byt w' v [192,0])/\Below w.heap.size w w':=by
 have HPN:=zh (pk_new w pkp)
 have HBN:Hid (Below w.heap.size w (w.alloc (.cells pkp.cells.toArray 31))):=bal _ _
 have hk:IntKind.i64.wrap (12*16)=192:=by kernel_rfl
 have hz:bits .or .i64 192 0=192:=by kernel_rfl
 show Calls Tryz.prog 7 #[.agg #[.int .i64 12,.bool false,.int .i64 0,.bool false,.string ⟨#[]⟩,.int .i64 0,.string ⟨#[]⟩,.slice none 0 0,.string ⟨#[]⟩,.bool false,.int .i64 0,.slice none 0 0,.slice none 0 0,.slice none 0 0,.int .i64 0,.bool false,.slice none 0 0,.slice none 0 0,.slice none 0 0]] w _
 go_enter Tryz.func7,Tryz.ntmps7
 go_upto_region 1 with fail
 go_step
 refine wpList_load_mid rfl 31 _ rfl w.heap.size 0 rfl pkp.cells _ (uh HPN).range Tryz.underlying31 rfl packet_size ?_
 simp only[sp]
 go_wp2_with fail
 have HFF:Calls Tryz.prog 22 #[.agg pkp.cells.toArray] (w.alloc (.cells pkp.cells.toArray 31)) fun e w'=>e=.returned (.tuple #[.int .i64 0,.bool true])/\Below (w.alloc (.cells pkp.cells.toArray 31)).heap.size (w.alloc (.cells pkp.cells.toArray 31)) w':=flagsOf_other pkp _ (by decide) (by decide) (by decide) (by decide)
 refine HFF.mono ?_
 rintro e w1 ⟨rfl,hb1⟩
 have HP1:=zh ((uh HPN).below hb1)
 have HB1:Hid (Below w.heap.size w w1):=(uh HBN).trans (hb1.mono (uh HBN).size)
 have c0:w1.cell? ⟨w.heap.size,0,none⟩=some (.int .i64 12):=(uh HP1).kind
 have hAl:w.heap.size<w1.heap.size:=cell_lt c0
 clear hb1 HPN HBN
 go_upto_region 4 with fail
 go_step
 refine wpList_load_mid rfl 31 _ rfl w.heap.size 0 rfl pkp.cells _ (uh HP1).range Tryz.underlying31 rfl packet_size ?_
 simp only[sp]
 refine Go.Proofs.YtmpijpjlbhfccaaGreatDoor.wpList_value rfl (writer_build _ _ _ _ _ _ pkp rfl _) ?_
 simp only[sp]
 refine Go.Proofs.YtmpijpjlbhfccaaGreatDoor.wpList_value rfl (writer_alloc _ _ _ _ _ _) ?_
 simp only[sp]
 refine Go.Proofs.YtmpijpjlbhfccaaGreatDoor.wpList_skip rfl (writer_store _ _ _ _ _ _ _ pkp w1 rfl rfl) ?_
 simp only[Act.put]
 have HPW:=zh (wrc_pk w1 pkp)
 have c19:(w1.alloc (.cells (wrc pkp) 63)).cell? ⟨w1.heap.size,19,none⟩=some (.slice none 0 0):=wrc_cell 19 _ rfl
 have c20:(w1.alloc (.cells (wrc pkp) 63)).cell? ⟨w1.heap.size,20,none⟩=some (.int .i64 0):=wrc_cell 20 _ rfl
 have c21:(w1.alloc (.cells (wrc pkp) 63)).cell? ⟨w1.heap.size,21,none⟩=some .nilIface:=wrc_cell 21 _ rfl
 have d0:(w1.alloc (.cells (wrc pkp) 63)).cell? ⟨w.heap.size,0,none⟩=some (.int .i64 12):=(World.cell?_alloc_lt _ _ ⟨w.heap.size,0,none⟩ hAl).trans c0
 have HB2:Hid (Below w.heap.size w (w1.alloc (.cells (wrc pkp) 63))):=(uh HB1).trans ((bal _ _).mono (uh HB1).size)
 have hWl:w1.heap.size<(w1.alloc (.cells (wrc pkp) 63)).heap.size:=by simp
 generalize w1.alloc (.cells (wrc pkp) 63)=w2 at HPW c19 c20 c21 d0 HB2 hWl |-
 clear c0 HP1 HB1
 go_wp2_with fail
 refine (wpacket_ping w1.heap.size w2 (uh HPW)).mono ?_
 rintro e w3 ⟨rfl,hb3⟩
 have e19:=(hb3.cell (p:=⟨w1.heap.size,19,none⟩) hWl).trans c19
 have e20:=(hb3.cell (p:=⟨w1.heap.size,20,none⟩) hWl).trans c20
 have e21:=(hb3.cell (p:=⟨w1.heap.size,21,none⟩) hWl).trans c21
 have e0:=(hb3.cell (p:=⟨w.heap.size,0,none⟩) (Nat.lt_trans hAl hWl)).trans d0
 have HB3:Hid (Below w.heap.size w w3):=(uh HB2).trans (hb3.mono (uh HB2).size)
 have hWl3:w1.heap.size<w3.heap.size:=Nat.lt_of_lt_of_le hWl hb3.size
 clear hb3 c19 c20 c21 d0 HB2 HPW hWl
 go_wp2_with fail
 refine (vput_use 0 w3 (by decide) (by decide)).mono ?_
 rintro e w4 ⟨v,rfl,hO4,hy4,hb4⟩
 have f19:=(hb4.cell (p:=⟨w1.heap.size,19,none⟩) hWl3).trans e19
 have f20:=(hb4.cell (p:=⟨w1.heap.size,20,none⟩) hWl3).trans e20
 have f0:=(hb4.cell (p:=⟨w.heap.size,0,none⟩) (Nat.lt_trans hAl hWl3)).trans e0
 have HB4:Hid (Below w.heap.size w w4):=(uh HB3).trans (hb4.mono (uh HB3).size)
 have hWl4:w1.heap.size<w4.heap.size:=Nat.lt_of_lt_of_le hWl3 hb4.size
 have HY4:Hid (Byt w4 v [0]):=uh hy4
 obtain⟨bo,off,cap,hvf,hc1,hc2⟩:=(uh HY4).form1 (by decide)
 have hvf:v=.slice (some ⟨bo,off,none⟩) 1 cap:=hvf
 subst hvf
 clear hb4 e19 e20 e21 e0 HB3 hO4 hy4
 have HO5:Hid ((w4.alloc (.cells #[.int .u8 192] 5)).ownsRow w4.heap.size 5 1 (.slice (some ⟨w4.heap.size,0,none⟩) 1 1) 1 (([192]:List Int).map (Value.int .u8))) :=
  ⟨rfl,.inr ⟨w4.heap.size,1,_,rfl,Nat.le_refl _,heap_alloc_new _ _,Nat.le_refl _,by unfold maxLen;simp,rfl,rfl⟩⟩
 have HY5:Hid (Byt (w4.alloc (.cells #[.int .u8 192] 5)) (.slice (some ⟨bo,off,none⟩) 1 cap) [0]):=(uh HY4).below (bal _ _)
 go_wp2_with (first
  | (at_builtin;refine wpList_append_byt _ rfl _ _ rfl w4.heap.size _ 1 [192] rfl (uh HO5) (.slice (some ⟨bo,off,none⟩) 1 cap) [0] rfl (uh HY5) (by decide) (by simp) ?_)
  | go_in)
 intro v6 w6 hown6 hgrow6
 have hrow:∀ g,(Value.slice (some ⟨w4.heap.size,0,none⟩) 1 1).ownBlock=some g->g=w4.heap.size:=fun g hg=>by cases hg;rfl
 have g19:w6.cell? ⟨w1.heap.size,19,none⟩=some (.slice none 0 0):=hgrow6.cell ((World.cell?_alloc_lt _ _ ⟨w1.heap.size,19,none⟩ hWl4).trans f19) (fun e=>by have:=hrow _ e.symm;simp at this;omega)
 have HO6:Hid (w6.ownsRow w4.heap.size 5 1 v6 2 (([192,0]:List Int).map (Value.int .u8))):=hown6
 have hs6:w4.heap.size<=w6.heap.size:=Nat.le_trans (by simp) hgrow6.size
 have HB6:Hid (Below w.heap.size w w6):=((uh HB4).trans ((bal _ _).mono (uh HB4).size)).grown hgrow6 (Nat.le_trans (uh HB4).size (by simp)) (fun g hg=>by rw[hrow g hg];exact (uh HB4).size)
 have HYN:Hid (Byt w6 (.slice none 0 0) []):=⟨none,0,rfl,⟨by simp,by simp⟩,by intro j;simp,.inl rfl⟩
 clear hown6 hgrow6 hrow f19 f20 f0 HO5 HY5 HY4
 go_wp2_with (first
  | (at_builtin;refine wpList_append_byt _ rfl _ _ rfl w4.heap.size _ 2 [192,0] rfl (uh HO6) (.slice none 0 0) [] rfl (uh HYN) (by decide) hs6 ?_)
  | go_in)
 intro v7 w7 hown7 hgrow7
 have HB7:Hid (Below w.heap.size w w7):=(uh HB6).grown hgrow7 (uh HB6).size (fun g hg=>Nat.le_trans (uh HB4).size ((uh HO6).lt g hg).1)
 have HY7:Hid (Byt w7 v7 [192,0]):=byt_of_owns hown7 (by intro j;match j with|0=>simp|1=>simp|n+2=>simp)
 clear hown7 hgrow7 g19
 go_wp2
 go_returns
 exact⟨v7,rfl,HY7,uh HB7⟩
theorem wq_new (w:World) (q:Pkv):WQ w (w.alloc (.cells (wrc q) 63)) w.heap.size q (some []) 0:=by
 have hfz:∀ j,(w.alloc (.cells (wrc q) 63)).frozen? ⟨w.heap.size,j,none⟩=false:=fun j=>by simp
 refine⟨bal _ _,Nat.le_refl _,wrc_pk w q,.slice none 0 0,0,[],.nilIface,⟨⟨⟨wrc_cell 19 _ rfl,hfz 19⟩,⟨wrc_cell 20 _ rfl,hfz 20⟩,wrc_cell 21 _ rfl,hfz 21⟩,World.ownsRow_nil _ _ _ _,fun j=>by simp⟩,⟨by simp,by simp⟩,Nat.le_refl _,rfl,rfl,fun _=>rfl,.inl rfl⟩
def fb (kind f:Int):Int:=bits .or .i64 (wrap64 (kind*16)) f % 256
def ebytes (kind f:Int) (l:List Int):List Int:=([fb kind f]++V.put (l.length:Int))++l
theorem ebytes_len (kind f:Int) (l:List Int):(ebytes kind f l).length=1+(V.put (l.length:Int)).length+l.length:=by
 unfold ebytes
 rw[List.length_append,List.length_append]
 rfl
theorem byt_grown {w w':World} {v:Value} {l:List Int} {row:Option Nat} (h:Byt w v l) (hg:w.grownBy w' row) (hr:∀ b off n cap,v=.slice (some ⟨b,off,none⟩) n cap->1<=n->row≠some b):Byt w' v l:=by
 obtain⟨ao,cap,h1,h2,h3,h4⟩:=h
 refine⟨ao,cap,h1,h2,h3,?_⟩
 rcases h4 with h4|⟨b,off,e,hc⟩
 ·exact .inl h4
 ·refine .inr ⟨b,off,e,fun j hj=>?_⟩
  subst e
  exact hg.cell (hc j hj) (fun e=>hr b off _ cap h1 (by omega) e.symm)
def EncQ (f:Int) (ok:Bool) (kind:Int) (st:Option (List Int)) (w:World) (e:Ending) (w':World):Prop:=Below w.heap.size w w' /\
 (((ok=false\/st=none)/\∃ x,e=.returned (.tuple #[.slice none 0 0,.iface 125 x])/\Hid (ErP w' (.iface 125 x) 1)) \/
  (ok=true/\∃ l,st=some l/\65536<(ebytes kind f l).length/\∃ x,e=.returned (.tuple #[.slice none 0 0,.iface 125 x])/\Hid (ErP w' (.iface 125 x) 2)) \/
  (ok=true/\∃ l,st=some l/\(ebytes kind f l).length<=65536/\∃ v,e=.returned (.tuple #[v,.nilIface])/\Hid (w'.ownsRow w.heap.size 5 1 v (ebytes kind f l).length ((ebytes kind f l).map (Value.int .u8)))/\Hid (∀ j,0<=(ebytes kind f l).getD j 0/\(ebytes kind f l).getD j 0<=255)))
theorem enc_core (q q':Pkv) (f:Int) (ok:Bool) (st:Option (List Int)) (M:Nat) (w:World) (hM:M<=4611686018427300000)
  (hfl:∀ W:World,Calls Tryz.prog 22 #[.agg q.cells.toArray] W fun e w'=>e=.returned (.tuple #[.int .i64 f,.bool ok])/\Below W.heap.size W w')
  (hpk:∀ w0 w1 W,Below w.heap.size w w0->WQ w0 w1 W q (some []) 0->Calls Tryz.prog 24 #[.pointer (some ⟨W,0,none⟩)] w1 (GPost w0 W q' st M)) :
  Calls Tryz.prog 7 #[q.val] w (EncQ f ok q.kind st w):=by
 have HPN:=zh (pk_new w q)
 have HBN:Hid (Below w.heap.size w (w.alloc (.cells q.cells.toArray 31))):=bal _ _
 have HFL:=zh hfl
 have HPK:=zh hpk
 clear hfl hpk
 go_enter Tryz.func7,Tryz.ntmps7
 go_upto_region 1 with fail
 change Code.wp _ _ _ _ (w.alloc (.cells q.cells.toArray 31))
 generalize w.alloc (.cells q.cells.toArray 31)=wa at HPN HBN |-
 go_step
 refine wpList_load_mid rfl 31 _ rfl w.heap.size 0 rfl q.cells _ (uh HPN).range Tryz.underlying31 rfl packet_size ?_
 simp only[sp]
 go_wp2_with fail
 refine ((uh HFL) _).mono ?_
 rintro e w1 ⟨rfl,hb1⟩
 have HP1:=zh ((uh HPN).below hb1)
 have HB1:Hid (Below w.heap.size w w1):=(uh HBN).trans (hb1.mono (uh HBN).size)
 have hAl:w.heap.size<w1.heap.size:=cell_lt (uh HP1).kind
 clear hb1 HPN HBN HFL
 cases ok
 ·go_wp2_with fail
  refine (pf_use 1 _).mono ?_
  rintro e w2 ⟨x,rfl,hE,hb2⟩
  have HB2:Hid (Below w.heap.size w w2):=(uh HB1).trans (hb2.mono (uh HB1).size)
  clear hb2
  go_wp2
  go_ret2
  exact⟨uh HB2,.inl ⟨.inl rfl,x,rfl,hE⟩⟩
 ·go_upto_region 4 with fail
  go_step
  refine wpList_load_mid rfl 31 _ rfl w.heap.size 0 rfl q.cells _ (uh HP1).range Tryz.underlying31 rfl packet_size ?_
  simp only[sp]
  refine Go.Proofs.YtmpijpjlbhfccaaGreatDoor.wpList_value rfl (writer_build _ _ _ _ _ _ q rfl _) ?_
  simp only[sp]
  refine Go.Proofs.YtmpijpjlbhfccaaGreatDoor.wpList_value rfl (writer_alloc _ _ _ _ _ _) ?_
  simp only[sp]
  refine Go.Proofs.YtmpijpjlbhfccaaGreatDoor.wpList_skip rfl (writer_store _ _ _ _ _ _ _ q w1 rfl rfl) ?_
  simp only[Act.put]
  have HC:=zh ((uh HPK) w1 _ w1.heap.size (uh HB1) (wq_new w1 q))
  have hWl:w1.heap.size<(w1.alloc (.cells (wrc q) 63)).heap.size:=by simp
  have HB2:Hid (Below w.heap.size w (w1.alloc (.cells (wrc q) 63))):=(uh HB1).trans ((bal _ _).mono (uh HB1).size)
  generalize w1.alloc (.cells (wrc q) 63)=w2 at HC hWl HB2 |-
  clear HPK
  go_wp2_with fail
  refine (uh HC).mono ?_
  rintro e w3 ⟨rfl,h1,h2,h3,bv,sz,T,E,h4,h5,h6,h7⟩
  have HP3:Hid (Pk w3 w.heap.size q):=(uh HP1).below h1
  have HB3:Hid (Below w.heap.size w w3):=(uh HB1).trans (h1.mono (uh HB1).size)
  have hW3:w1.heap.size<w3.heap.size:=cell_lt h3.kind
  obtain⟨⟨a1,a2⟩,⟨b1,b2⟩,c1,c2⟩:=h4.wt
  have HWS:=zh h4
  clear h1 h2 h3 h4 a2 b2 c2 HC HB2 hWl HP1 HB1
  cases st with
  | none =>
   obtain⟨d,n,hd,he⟩:=h7
   obtain⟨t,x,rfl⟩:=he.iface
   have HER:=zh he.er
   clear he
   go_wp2_with fail
   refine (pbroken d hd _ n _ (uh HER)).mono ?_
   rintro e w4 ⟨y,rfl,hE,hb4⟩
   have HB4:Hid (Below w.heap.size w w4):=(uh HB3).trans (hb4.mono (uh HB3).size)
   clear hb4 HER HWS
   go_wp2
   go_ret2
   exact⟨uh HB4,.inl ⟨.inr rfl,y,rfl,hE⟩⟩
  | some l =>
   obtain⟨rfl,hsz,hTl⟩:=h7
   have HSZ:=zh hsz
   have HTL:=zh hTl
   have hsM:sz<=4611686018427300000:=by omega
   clear hsz hTl h5 h6
   by_cases hv:sz<=268435455
   ·go_wp2_with fail
    refine (vput_use sz w3 (by omega) (by omega)).mono ?_
    rintro e w4 ⟨v,rfl,hO4,hy4,hb4⟩
    have HB4:Hid (Below w.heap.size w w4):=(uh HB3).trans (hb4.mono (uh HB3).size)
    have f19:=(hb4.cell (p:=⟨w1.heap.size,19,none⟩) hW3).trans a1
    have f20:=(hb4.cell (p:=⟨w1.heap.size,20,none⟩) hW3).trans b1
    have HP4:=zh ((uh HP3).below hb4)
    have f0:=(uh HP4).kind
    have hW4:w1.heap.size<w4.heap.size:=Nat.lt_of_lt_of_le hW3 hb4.size
    have HWS4:=zh ((uh HWS).below hb4)
    have hpl:=V.put_len (sz:Int)
    obtain⟨vo,vc,rfl,hvc,-⟩:=(uh hy4).form
    generalize hPL:(V.put (sz:Int)).length=pl at *
    have HPL:=zh hPL
    clear hb4 HB3 HP3 HWS a1 b1 c1 hPL
    by_cases hbig:1+pl+sz<=65536
    ·have HT:Hid (T=l):=(uh HTL) (by rw[<- uh HSZ];omega)
     have HO5:Hid ((w4.alloc (.cells #[.int .u8 (fb q.kind f)] 5)).ownsRow w4.heap.size 5 1 (.slice (some ⟨w4.heap.size,0,none⟩) 1 1) 1 (([fb q.kind f]:List Int).map (Value.int .u8))) :=
      ⟨rfl,.inr ⟨w4.heap.size,1,_,rfl,Nat.le_refl _,heap_alloc_new _ _,Nat.le_refl _,by unfold maxLen;simp,rfl,rfl⟩⟩
     have hfb:bits .or .i64 (wrap64 (q.kind*16)) f % 256=fb q.kind f:=rfl
     have hfr:0<=fb q.kind f/\fb q.kind f<=255:=by unfold fb;omega
     generalize fb q.kind f=fz at HO5 hfb hfr
     have HY5:Hid (Byt (w4.alloc (.cells #[.int .u8 fz] 5)) (.slice vo pl vc) (V.put (sz:Int))):=(uh hy4).below (bal _ _)
     have hR4:=(uh hy4).range
     have HR4:=zh hR4
     have HBR:=zh (owns_blk (uh HWS4).row)
     clear hR4 hO4 hy4
     go_wp2_with (first
      | (at_builtin;refine wpList_append_byt _ rfl _ _ rfl w4.heap.size _ 1 [fz] rfl (uh HO5) (.slice vo pl vc) (V.put (sz:Int)) rfl (uh HY5) (by rw[uh HPL];omega) (by simp) ?_)
      | go_in)
     intro v6 w6 hown6 hgrow6
     have hrow:∀ g,(Value.slice (some ⟨w4.heap.size,0,none⟩) 1 1).ownBlock=some g->g=w4.heap.size:=fun g hg=>by cases hg;rfl
     have g19:w6.cell? ⟨w1.heap.size,19,none⟩=some bv:=hgrow6.cell ((World.cell?_alloc_lt _ _ ⟨w1.heap.size,19,none⟩ hW4).trans f19) (fun e=>by have:=hrow _ e.symm;simp at this;omega)
     have HO6:Hid (w6.ownsRow w4.heap.size 5 1 v6 (1+(V.put (sz:Int)).length) (([fz]++V.put (sz:Int)).map (Value.int .u8))):=by rw[List.map_append];exact hown6
     have hs6:w4.heap.size<=w6.heap.size:=Nat.le_trans (by simp) hgrow6.size
     have HB6:Hid (Below w.heap.size w w6):=((uh HB4).trans ((bal _ _).mono (uh HB4).size)).grown hgrow6 (Nat.le_trans (uh HB4).size (by simp)) (fun g hg=>by rw[hrow g hg];exact (uh HB4).size)
     have HW6:Hid (Byt w6 bv l):=by
      have k:=byt_of_owns (uh HWS4).row (uh HWS4).rng
      rw[uh HT]at k
      have k2:=k.below ((Below.refl _ _).alloc (Nat.le_refl _) (.cells #[.int .u8 fz] 5))
      exact byt_grown k2 hgrow6 (fun b off n cap e _=>fun e2=>by
       have:=hrow b e2
       rcases (uh HWS4).row.2 with⟨e3,_⟩|⟨g,c3,cur,e3,_,hg,_⟩
       ·rw[e3]at e;cases e
       ·rw[e3]at e
        cases e
        have:=(Array.getElem?_eq_some_iff.1 hg).1
        omega)
     obtain⟨bo,bc,rfl,-⟩:=(uh HW6).form
     obtain⟨v6o,v6n,v6c,rfl⟩:∃ a n p,v6=.slice a n p:=by
      rcases (uh HO6).2 with⟨rfl,_⟩|⟨g,cap,cur,rfl,_⟩
      ·exact⟨_,_,_,rfl⟩
      ·exact⟨_,_,_,rfl⟩
     clear hown6 hgrow6 hrow f19 f20 f0 HO5 HY5
     go_wp2_with (first
      | (at_builtin;refine wpList_append_byt _ rfl _ _ rfl w4.heap.size _ (1+(V.put (sz:Int)).length) ([fz]++V.put (sz:Int)) rfl (uh HO6) (.slice bo l.length bc) l rfl (uh HW6) (by have:=uh HPL;have:=uh HSZ;omega) hs6 ?_)
      | go_in)
     intro v7 w7 hown7 hgrow7
     have HB7:Hid (Below w.heap.size w w7):=(uh HB6).grown hgrow7 (uh HB6).size (fun g hg=>Nat.le_trans (uh HB4).size ((uh HO6).lt g hg).1)
     have HF:Hid (EncQ f true q.kind (some l) w (.returned (.tuple #[v7,.nilIface])) w7):=by
      have e:ebytes q.kind f l=([fz]++V.put (sz:Int))++l:=by unfold ebytes;rw[uh HSZ,<- hfb];rfl
      have el:(ebytes q.kind f l).length=1+(V.put (sz:Int)).length+l.length:=by rw[ebytes_len,uh HSZ]
      refine⟨uh HB7,.inr (.inr ⟨rfl,l,rfl,by rw[el,uh HPL,<- uh HSZ];exact hbig,v7,rfl,?_,?_⟩)⟩
      ·rw[el,e,List.map_append]
       exact owns_mono hown7 (uh HB4).size
      ·rw[e]
       exact range_app (range_app (rng1 hfr) (uh HR4)) (uh HW6).range
     obtain⟨v7o,v7n,v7c,rfl⟩:∃ a n p,v7=.slice a n p:=by
      rcases hown7.2 with⟨rfl,_⟩|⟨g,cap,cur,rfl,_⟩
      ·exact⟨_,_,_,rfl⟩
      ·exact⟨_,_,_,rfl⟩
     clear hown7 hgrow7 g19
     go_wp2
     go_ret2
     exact uh HF
    ·go_wp2_with fail
     refine (pf_use 2 _).mono ?_
     rintro e w5 ⟨x,rfl,hE,hb5⟩
     have HF:Hid (EncQ f true q.kind (some l) w (.returned (.tuple #[.slice none 0 0,.iface 125 x])) w5):=⟨(uh HB4).trans (hb5.mono (uh HB4).size),.inr (.inl ⟨rfl,l,rfl,by rw[ebytes_len,<- uh HSZ,uh HPL];omega,x,rfl,hE⟩)⟩
     clear hb5
     go_wp2
     go_ret2
     exact uh HF
   ·go_wp2_with fail
    refine (V.put_bad sz _ (.inr (by omega))).mono ?_
    rintro e w4 ⟨rfl,hw4⟩
    have HB4:Hid (Below w.heap.size w w4):=by rw[hw4];exact (uh HB3).alloc (uh HB3).size _
    clear hw4
    go_wp2_with fail
    refine (pf_use 2 _).mono ?_
    rintro e w5 ⟨x,rfl,hE,hb5⟩
    have HF:Hid (EncQ f true q.kind (some l) w (.returned (.tuple #[.slice none 0 0,.iface 125 x])) w5):=⟨(uh HB4).trans (hb5.mono (uh HB4).size),.inr (.inl ⟨rfl,l,rfl,by rw[ebytes_len,<- uh HSZ];omega,x,rfl,hE⟩)⟩
    clear hb5
    go_wp2
    go_ret2
    exact uh HF
theorem strCells_sb (s:ByteArray):Lib.strCells s=(sb s).map (Value.int .u8):=by
 unfold Lib.strCells sb
 rw[List.map_map]
 rfl
def sPub (topic:ByteArray) (qos id kind:Int) (l:List Pr) (payload:ByteArray) (t:List Int):Option (List Int) :=
 (((sAdd (okT topic) (tx topic) t).bind (if 0<qos then sAdd (in16 id&&id != 0) (b2 id) else some)).bind (sAdd (okP kind l) (pbs l))).bind (sAdd true (sb payload))
def sTx (s:ByteArray):List Int->Option (List Int):=sAdd (okT s) (tx s)
def sCode (n:Int):List Int->Option (List Int):=sAdd (in8 n) [n % 256]
def sWill (u:Wl) (t:List Int):Option (List Int):=((sAdd (okP 16 u.props) (pbs u.props) t).bind (sAdd (okT u.topic) (tx u.topic))).bind (sAdd (okB u.payload) (tx u.payload))
def sPass (s:ByteArray):List Int->Option (List Int):=sAdd (okB s) (tx s)
abbrev mqtt:ByteArray:=⟨#[77,81,84,84]⟩
def sCon0 (kind fl keep:Int) (ok:Bool) (l:List Pr) (client:ByteArray) (t:List Int):Option (List Int) :=
 ((((((sMust ok t).bind (sAdd (okT mqtt) (tx mqtt))).bind (sAdd (in8 5) [5 % 256])).bind (sAdd (in8 fl) [fl % 256])).bind (sAdd (in16 keep) (b2 keep))).bind (sAdd (okP kind l) (pbs l))).bind (sAdd (okT client) (tx client))
def sConn (kind fl keep:Int) (ok:Bool) (l:List Pr) (client:ByteArray) (ws:List Wl) (us ps:List ByteArray) (t:List Int):Option (List Int) :=
 (((sCon0 kind fl keep ok l client t).bind (sEach sWill ws)).bind (sEach sTx us)).bind (sEach sPass ps)
theorem Ge2.of_add (st:Option (List Int)) (c:Bool) {ys:List Int} (h:2<=ys.length):Ge2 (st.bind (sAdd c ys)):=fun l e=>by
 cases st with
 | none=>cases e
 | some t =>
  cases c
  ·cases e
  ·cases e
   rw[List.length_append]
   omega
theorem Ge2.will {st:Option (List Int)} (h:Ge2 st) (u:Wl):Ge2 (st.bind (sWill u)):=fun l e =>
 (((h.add (okP 16 u.props) (pbs u.props)).add (okT u.topic) (tx u.topic)).add (okB u.payload) (tx u.payload)) l (by rw[<- e];cases st<;>rfl)
def WlOk (u:Wl):Prop:=u.topic.size<=4611686018427387904/\u.props.length<=4398046511104/\Go.Proofs.YtmpijpjlbhfccaaGreatDoor.Small u.props
theorem conn_any {w0 w:World} {W:Nat} {p:Pkv} (h:WQ w0 w W p (some []) 0) (vs:List Wv) (hW:Rw w0 p.wills 5 (wcs vs)) (l:List Pr) (hP:Prp w0 p.props.val l) (hmx:l.length<=4398046511104) (hsm:Go.Proofs.YtmpijpjlbhfccaaGreatDoor.Small l) (hcl:p.client.size<=4611686018427387904) (hkp:-9223372036854775808<=p.keep/\p.keep<=9223372036854775807)
  (hun:p.user.n<=maxLen) (hpn:p.pass.n<=maxLen) (hfl:-9223372036854775808<=cfl p.user.n p.pass.n p.clean vs/\cfl p.user.n p.pass.n p.clean vs<=9223372036854775807)
  (ws:List Wl) (wn:Nat) (hwn:ws.length=wn) (wo:Option Addr) (wc:Nat) (hwv:p.wills.val=.slice wo wn wc) (hWS:ws=[]\/∃ b off,wo=some ⟨b,off,none⟩/\WlAt w0 b off ws) (hWO:∀ k,k<ws.length->WlOk (ws.getD k wl0))
  (us:List ByteArray) (un:Nat) (hus:us.length=un) (uo:Option Addr) (uc:Nat) (huv:p.user.val=.slice uo un uc) (hUS:us=[]\/∃ b off,uo=some ⟨b,off,none⟩/\∀ j,j<us.length->w0.cell? ⟨b,off+j,none⟩=some (.string (us.getD j ⟨#[]⟩))) (hUO:∀ k,k<us.length->(us.getD k ⟨#[]⟩).size<=4611686018427387904)
  (ps:List ByteArray) (pn:Nat) (hps:ps.length=pn) (po:Option Addr) (pc:Nat) (hpv:p.pass.val=.slice po pn pc) (hPS:ps=[]\/∃ b off,po=some ⟨b,off,none⟩/\∀ j,j<ps.length->w0.cell? ⟨b,off+j,none⟩=some (.string (ps.getD j ⟨#[]⟩)))
  (c:Nat) (hc:6000000<=c) (hm:6000000+wn*c+un*c+pn*c<=4611686018427300000) :
  Calls Tryz.prog 47 #[.pointer (some ⟨W,0,none⟩)] w (GPost w0 W p.no_clean.no_keep.no_props.no_client.no_wills.no_user.no_pass (sConn p.kind (cfl p.user.n p.pass.n p.clean vs) p.keep (cok p.user.n p.pass.n vs) l p.client ws us ps []) (6000000+wn*c+un*c+pn*c)):=by
 have HP:=zh hP
 have HSM:=zh hsm
 have HWS:=zh hWS
 have HWO:=zh hWO
 have HUS:=zh hUS
 have HUO:=zh hUO
 have HPS:=zh hPS
 have HWN:=zh hwn
 have HUN:=zh hus
 have HPN:=zh hps
 have HWV:=zh hwv
 have HUV:=zh huv
 have HPV:=zh hpv
 have HFLR:=zh hfl
 have HQ:=zh h
 clear h hP hsm hWS hWO hUS hUO hPS hwn hus hps hwv huv hpv
 have HRW:=zh hW
 clear hW
 go_enter Tryz.func47,Tryz.ntmps47
 go_upto_region 1 with fail
 iterate 7 go_step
 refine wpList_load_mid rfl 31 _ rfl W 0 rfl p.cells _ (uh HQ).pk.range Tryz.underlying31 rfl packet_size ?_
 simp only[sp]
 go_wp2_with fail
 refine (connectFlags_any p vs w ((uh HRW).below (uh HQ).bel) hun hpn).mono ?_
 rintro e w1 ⟨rfl,hb1⟩
 have HQ1:=zh ((uh HQ).below hb1)
 clear hb1 HQ HRW
 generalize hfe:cfl p.user.n p.pass.n p.clean vs=fl at HFLR |-
 generalize hoe:cok p.user.n p.pass.n vs=ok
 have HFE:=zh hfe
 have HOE:=zh hoe
 clear hfe hoe
 go_wp2_with fail
 refine (must_q (uh HQ1) ok).mono ?_
 rintro e w2 ⟨rfl,hq2,-⟩
 have d1:=hq2.pk.clean
 have d2:=hq2.pk.clean_f
 have HQ2:=zh hq2.no_clean
 clear hq2 HQ1
 go_upto_region 4 with fail
 generalize w2.setCell ⟨W,9,none⟩ (.bool false)=w3 at HQ2 |-
 clear d1 d2
 go_wp2_with fail
 refine (text_q (uh HQ2) mqtt (by decide) (fun l e=>by cases ok<;>cases e;simp) (by omega)).mono ?_
 rintro e w4 ⟨rfl,hq4,-⟩
 have HG4:=zh (Ge2.of_add ((some []).bind (sMust ok)) (okT mqtt) (show 2<=(tx mqtt).length from by rw[tx_length];omega))
 have HQ4:=zh hq4
 obtain⟨s4,HS4⟩:∃ s4,Hid (s4=((some []).bind (sMust ok)).bind (sAdd (okT mqtt) (tx mqtt))):=⟨_,rfl⟩
 rw[<- uh HS4]at HG4 HQ4
 clear hq4 HQ2
 go_wp2_with fail
 refine (one_q (uh HQ4) 5 (by omega) (by omega)).mono ?_
 rintro e w5 ⟨rfl,hq5,-⟩
 have HG5:=zh ((uh HG4).add (in8 5) [5 % 256])
 have HQ5:=zh hq5
 clear hq5 HQ4 HG4
 go_wp2_with fail
 refine (one_q (uh HQ5) fl (uh HFLR) (by omega)).mono ?_
 rintro e w6 ⟨rfl,hq6,-⟩
 have HG6:=zh ((uh HG5).add (in8 fl) [fl % 256])
 have HQ6:=zh hq6
 clear hq6 HQ5 HG5
 go_wp2_with fail
 refine (take_keep_q (uh HQ6) p.keep rfl).mono ?_
 rintro e w7 ⟨rfl,hq7⟩
 have HQ7:=zh hq7
 clear hq7 HQ6
 go_wp2_with fail
 refine (two_q (uh HQ7) p.keep hkp (by omega)).mono ?_
 rintro e w8 ⟨rfl,hq8,-⟩
 have HG8:=zh ((uh HG6).add (in16 p.keep) (b2 p.keep))
 have HQ8:=zh hq8
 obtain⟨s8,HS8⟩:∃ s8,Hid (s8=((s4.bind (sAdd (in8 5) [5 % 256])).bind (sAdd (in8 fl) [fl % 256])).bind (sAdd (in16 p.keep) (b2 p.keep))):=⟨_,rfl⟩
 rw[<- uh HS8]at HG8 HQ8
 clear hq8 HQ7 HG6
 go_wp2_with fail
 have HQd:=zh ((uh HQ8).below (below_drewN (Below.refl _ _) 1))
 clear HQ8
 refine wp_region_noPanic ?_
 refine wp_region_held_drew (S:=fun w'=>w'.cell? ⟨W,0,none⟩=some (.int .i64 p.kind)) (by kernel_rfl) (uh HQd).pk.kind (fun hHeld=>?_)
 refine rtk 0 (h:=?_)
 refine rtk 1 (h:=?_)
 refine rtk 2 (h:=?_)
 refine rtk 3 (h:=?_)
 refine rtk 5 (h:=?_)
 refine rtk 6 (h:=?_)
 refine rtk 7 (h:=?_)
 refine rtk 8 (h:=?_)
 refine rcl 4 (h:=fun K hK=>?_)
 go_simp
 refine (take_props_q (uh HQd) p.props rfl).mono ?_
 rintro e wp1 ⟨rfl,hqp⟩
 have HQp:=zh hqp
 clear hqp HQd
 refine hK.out _ _ (uh HQp).pk.kind (fun hHeld=>?_)
 clear hK K
 refine rcl 9 (h:=fun K hK=>?_)
 go_simp
 refine (props_q (uh HQp) p.props.val l p.kind ((uh HP).below (uh HQp).bel) hmx (uh HSM) (uh HG8).one (by omega)).mono ?_
 rintro e wp2 ⟨rfl,hqp,-⟩
 have HQ9:=zh hqp
 clear hqp HQp
 refine hK.out _ _ (uh HQ9).pk.kind (fun hHeld=>?_)
 clear hK K
 refine wpAnyH_done (by kernel_rfl) ?_ _
 refine NoPanic.normal ?_
 have HG9:=zh ((uh HG8).add (okP p.kind l) (pbs l))
 clear HG8
 go_wp2_with fail
 refine (take_client_q (uh HQ9) p.client rfl).mono ?_
 rintro e w10 ⟨rfl,hq10⟩
 have HQ10:=zh hq10
 clear hq10 HQ9
 go_wp2_with fail
 refine (text_q (uh HQ10) p.client hcl (uh HG9).one (by omega)).mono ?_
 rintro e w11 ⟨rfl,hq11,-⟩
 have HG11:=zh ((uh HG9).add (okT p.client) (tx p.client))
 have HQ11:=zh (hq11.mono (show _<=6000000 from by omega))
 obtain⟨s11,HS11⟩:∃ s11,Hid (s11=(s8.bind (sAdd (okP p.kind l) (pbs l))).bind (sAdd (okT p.client) (tx p.client))):=⟨_,rfl⟩
 rw[<- uh HS11]at HG11 HQ11
 clear hq11 HQ10 HG9
 go_wp2_with fail
 refine (take_wills_q (uh HQ11) p.wills rfl).mono ?_
 rintro e w12 ⟨rfl,hq12⟩
 rw[uh HWV]
 have HQ12:=zh hq12
 clear hq12 HQ11 HWV
 have hwl:wn<=4611686018427300000:=Nat.le_trans (Nat.le_mul_of_pos_right _ (by omega)) (show wn*c<=4611686018427300000 from by omega)
 have hul:un<=4611686018427300000:=Nat.le_trans (Nat.le_mul_of_pos_right _ (by omega)) (show un*c<=4611686018427300000 from by omega)
 have hpl:pn<=4611686018427300000:=Nat.le_trans (Nat.le_mul_of_pos_right _ (by omega)) (show pn*c<=4611686018427300000 from by omega)
 go_wp2
 go_loopw [61] (fun i wr=>∃ k:Nat,k<=wn/\i=.int .i64 k/\Hid (WQ w0 wr W p.no_clean.no_keep.no_props.no_client.no_wills (s11.bind (sEach sWill (ws.take k))) (6000000+k*c))/\Hid (Ge2 (s11.bind (sEach sWill (ws.take k))))) (fun i _=>wn-(intOf i).toNat)
 case atStart=>exact⟨0,Nat.zero_le _,rfl,by rw[each_nil,Nat.zero_mul];exact HQ12,by rw[each_nil];exact HG11⟩
 case round =>
  obtain⟨k,hk,rfl,HQK,HGK⟩:=hrel
  clear HQ12 HG11
  by_cases hlt:k<wn
  ·have hkl:k<ws.length:=by rw[uh HWN];exact hlt
   have HE:=zh (each_snoc sWill wl0 s11 ws k hkl)
   have hmk:6000000+k*c+c<=4611686018427300000:=by
    have:=Nat.mul_le_mul_right c (show k+1<=wn from hlt)
    rw[Nat.succ_mul]at this
    omega
   have HMS:Hid (6000000+k*c+c=6000000+(k+1)*c):=by show _=_;rw[Nat.succ_mul];omega
   obtain⟨b,off,rfl,hcl⟩:∃ b off,wo=some ⟨b,off,none⟩/\WlAt w0 b off ws:=by
    rcases uh HWS with e|k
    ·rw[e]at hkl;simp at hkl
    ·exact k
   have hb:=hcl k hkl
   have hB:=(uh HQK).bel
   obtain⟨ao,n,cap,⟨d0,d1,d2,d3,d4⟩,hpr,-⟩:=hb
   have hbl:b<w0.heap.size:=cell_lt d0
   have e0:=(hB.cell hbl).trans d0
   have e1:=(hB.cell hbl).trans d1
   have e2:=(hB.cell hbl).trans d2
   have e3:=(hB.cell hbl).trans d3
   have e4:=(hB.cell hbl).trans d4
   have hWk:=(uh HWO) k hkl
   have HPR:=zh hpr
   clear d0 d1 d2 d3 d4 hpr
   generalize ws.getD k wl0=u at e0 e1 e2 e3 e4 hWk HE HPR
   obtain⟨hz1,hz2,hz3⟩:=hWk
   have HZ3:=zh hz3
   have hWlt:=(uh HQK).lt
   clear hz3
   clear hcl hB
   generalize 6000000+k*c=mk at HQK hmk HMS
   go_wp2_with fail
   refine (props_q ((uh HQK).below (bal _ _)) (.slice ao n cap) u.props 16 ((uh HPR).below ((uh HQK).below (bal _ _)).bel) hz2 (uh HZ3) (uh HGK).one (by omega)).mono ?_
   rintro e x1 ⟨rfl,hq1,hf1⟩
   have HN1:=zh (hf1.cell (heap_alloc_new _ _) (by omega) (by decide))
   have HR1:=zh hq1
   have f0:x1.cell? ⟨wr.heap.size,0,none⟩=some (.string u.topic):=by unfold World.cell?;dsimp only;rw[uh HN1];rfl
   clear hq1 hf1 HQK e0 e1 e2 e3 e4
   go_wp2_with fail
   refine (text_q (uh HR1) u.topic hz1 ((uh HGK).add _ _).one (by omega)).mono ?_
   rintro e x2 ⟨rfl,hq2,hf2⟩
   have HN2:=zh (hf2.cell (uh HN1) (by omega) (by decide))
   have HR2:=zh hq2
   have f1:x2.cell? ⟨wr.heap.size,1,none⟩=some (.string u.payload):=by unfold World.cell?;dsimp only;rw[uh HN2];rfl
   clear hq2 hf2 HR1 HN1 f0
   go_wp2_with fail
   refine (bin_q (uh HR2) u.payload (((uh HGK).add _ _).add _ _).one (by omega)).mono ?_
   rintro e x3 ⟨rfl,hq3,-⟩
   have HQN:Hid (WQ w0 x3 W p.no_clean.no_keep.no_props.no_client.no_wills ((s11.bind (sEach sWill (ws.take k))).bind (sWill u)) (mk+c)):=by
    have q:=hq3.mono (show _<=mk+c from by omega)
    rw[show ((((s11.bind (sEach sWill (ws.take k))).bind (sAdd (okP 16 u.props) (pbs u.props))).bind (sAdd (okT u.topic) (tx u.topic))).bind (sAdd (okB u.payload) (tx u.payload)))=(s11.bind (sEach sWill (ws.take k))).bind (sWill u) from by cases s11.bind (sEach sWill (ws.take k))<;>rfl]at q
    exact q
   clear hq3 HR2 HN2 f1
   go_wp2
   go_roundw
   case rel=>exact⟨k+1,by omega,by go_num,by rw[uh HE,<- uh HMS];exact HQN,by rw[uh HE];exact (uh HGK).will _⟩
   case measure=>simp[intOf];omega
  ·obtain rfl:wn=k:=by omega
   have HQ13:Hid (WQ w0 wr W p.no_clean.no_keep.no_props.no_client.no_wills (s11.bind (sEach sWill ws)) (6000000+wn*c)):=by
    have q:=uh HQK
    rw[List.take_of_length_le (Nat.le_of_eq (uh HWN))]at q
    exact q
   have HG13:Hid (Ge2 (s11.bind (sEach sWill ws))):=by
    have q:=uh HGK
    rw[List.take_of_length_le (Nat.le_of_eq (uh HWN))]at q
    exact q
   clear HQK HGK
   obtain⟨s13,HS13⟩:∃ s13,Hid (s13=s11.bind (sEach sWill ws)):=⟨_,rfl⟩
   rw[<- uh HS13]at HQ13 HG13
   go_wp2_with fail
   refine (take_user_q (uh HQ13) p.user rfl).mono ?_
   rintro e wq ⟨rfl,hqq⟩
   rw[uh HUV]
   clear HQ13 HUV
   have HQ13:=zh hqq
   clear hqq
   go_wp2
   go_loopw [83] (fun i wr=>∃ k:Nat,k<=un/\i=.int .i64 k/\Hid (WQ w0 wr W p.no_clean.no_keep.no_props.no_client.no_wills.no_user (s13.bind (sEach sTx (us.take k))) (6000000+wn*c+k*c))/\Hid (Ge2 (s13.bind (sEach sTx (us.take k))))) (fun i _=>un-(intOf i).toNat)
   case atStart=>exact⟨0,Nat.zero_le _,rfl,by rw[each_nil,Nat.zero_mul];exact HQ13,by rw[each_nil];exact HG13⟩
   case round =>
    obtain⟨k,hk,rfl,HQK,HGK⟩:=hrel
    clear HQ13 HG13
    by_cases hlt:k<un
    ·have hkl:k<us.length:=by rw[uh HUN];exact hlt
     have HE:=zh (each_snoc sTx ⟨#[]⟩ s13 us k hkl)
     have hmk:6000000+wn*c+k*c+c<=4611686018427300000:=by
      have:=Nat.mul_le_mul_right c (show k+1<=un from hlt)
      rw[Nat.succ_mul]at this
      omega
     have HMS:Hid (6000000+wn*c+k*c+c=6000000+wn*c+(k+1)*c):=by show _=_;rw[Nat.succ_mul];omega
     obtain⟨b,off,rfl,hcl⟩:∃ b off,uo=some ⟨b,off,none⟩/\∀ j,j<us.length->w0.cell? ⟨b,off+j,none⟩=some (.string (us.getD j ⟨#[]⟩)):=by
      rcases uh HUS with e|k
      ·rw[e]at hkl;simp at hkl
      ·exact k
     have hb:=hcl k hkl
     have hB:=(uh HQK).bel
     have e0:=(hB.cell (cell_lt hb)).trans hb
     have hzz:=(uh HUO) k hkl
     generalize us.getD k ⟨#[]⟩=sv at e0 hzz HE hb
     clear hcl hB
     generalize 6000000+wn*c+k*c=mk at HQK hmk HMS
     go_wp2_with fail
     refine (text_q (uh HQK) sv hzz (uh HGK).one (by omega)).mono ?_
     rintro e wn ⟨rfl,hqn,-⟩
     have HQN:=zh (hqn.mono (show _<=mk+c from by omega))
     clear hqn HQK e0 hb
     go_wp2
     go_roundw
     case rel=>exact⟨k+1,by omega,by go_num,by rw[uh HE,<- uh HMS];exact HQN,by rw[uh HE];exact (uh HGK).add _ _⟩
     case measure=>simp[intOf];omega
    ·obtain rfl:un=k:=by omega
     have HQ14:Hid (WQ w0 wr W p.no_clean.no_keep.no_props.no_client.no_wills.no_user (s13.bind (sEach sTx us)) (6000000+wn*c+un*c)):=by
      have q:=uh HQK
      rw[List.take_of_length_le (Nat.le_of_eq (uh HUN))]at q
      exact q
     have HG14:Hid (Ge2 (s13.bind (sEach sTx us))):=by
      have q:=uh HGK
      rw[List.take_of_length_le (Nat.le_of_eq (uh HUN))]at q
      exact q
     clear HQK HGK
     obtain⟨s14,HS14⟩:∃ s14,Hid (s14=s13.bind (sEach sTx us)):=⟨_,rfl⟩
     rw[<- uh HS14]at HQ14 HG14
     go_wp2_with fail
     refine (take_pass_q (uh HQ14) p.pass rfl).mono ?_
     rintro e wq ⟨rfl,hqq⟩
     rw[uh HPV]
     clear HQ14 HPV
     have HQ14:=zh hqq
     clear hqq
     go_wp2
     go_loopw [96] (fun i wr=>∃ k:Nat,k<=pn/\i=.int .i64 k/\Hid (WQ w0 wr W p.no_clean.no_keep.no_props.no_client.no_wills.no_user.no_pass (s14.bind (sEach sPass (ps.take k))) (6000000+wn*c+un*c+k*c))/\Hid (Ge2 (s14.bind (sEach sPass (ps.take k))))) (fun i _=>pn-(intOf i).toNat)
     case atStart=>exact⟨0,Nat.zero_le _,rfl,by rw[each_nil,Nat.zero_mul];exact HQ14,by rw[each_nil];exact HG14⟩
     case round =>
      obtain⟨k,hk,rfl,HQK,HGK⟩:=hrel
      clear HQ14 HG14
      by_cases hlt:k<pn
      ·have hkl:k<ps.length:=by rw[uh HPN];exact hlt
       have HE:=zh (each_snoc sPass ⟨#[]⟩ s14 ps k hkl)
       have hmk:6000000+wn*c+un*c+k*c+c<=4611686018427300000:=by
        have:=Nat.mul_le_mul_right c (show k+1<=pn from hlt)
        rw[Nat.succ_mul]at this
        omega
       have HMS:Hid (6000000+wn*c+un*c+k*c+c=6000000+wn*c+un*c+(k+1)*c):=by show _=_;rw[Nat.succ_mul];omega
       obtain⟨b,off,rfl,hcl⟩:∃ b off,po=some ⟨b,off,none⟩/\∀ j,j<ps.length->w0.cell? ⟨b,off+j,none⟩=some (.string (ps.getD j ⟨#[]⟩)):=by
        rcases uh HPS with e|k
        ·rw[e]at hkl;simp at hkl
        ·exact k
       have hb:=hcl k hkl
       have hB:=(uh HQK).bel
       have e0:=(hB.cell (cell_lt hb)).trans hb
       generalize ps.getD k ⟨#[]⟩=sv at e0 HE hb
       clear hcl hB
       generalize 6000000+wn*c+un*c+k*c=mk at HQK hmk HMS
       go_wp2_with fail
       refine (bin_q (uh HQK) sv (uh HGK).one (by omega)).mono ?_
       rintro e wn ⟨rfl,hqn,-⟩
       have HQN:=zh (hqn.mono (show _<=mk+c from by omega))
       clear hqn HQK e0 hb
       go_wp2
       go_roundw
       case rel=>exact⟨k+1,by omega,by go_num,by rw[uh HE,<- uh HMS];exact HQN,by rw[uh HE];exact (uh HGK).add _ _⟩
       case measure=>simp[intOf];omega
      ·obtain rfl:pn=k:=by omega
       have HQ15:Hid (WQ w0 wr W p.no_clean.no_keep.no_props.no_client.no_wills.no_user.no_pass (s14.bind (sEach sPass ps)) (6000000+wn*c+un*c+pn*c)):=by
        have q:=uh HQK
        rw[List.take_of_length_le (Nat.le_of_eq (uh HPN))]at q
        exact q
       have HG15:Hid (Ge2 (s14.bind (sEach sPass ps))):=by
        have q:=uh HGK
        rw[List.take_of_length_le (Nat.le_of_eq (uh HPN))]at q
        exact q
       clear HQK HGK
       have HF:Hid (GPost w0 W p.no_clean.no_keep.no_props.no_client.no_wills.no_user.no_pass (sConn p.kind fl p.keep ok l p.client ws us ps []) (6000000+wn*c+un*c+pn*c) (.returned (.tuple #[])) wr):=by
        have e:sConn p.kind fl p.keep ok l p.client ws us ps []=s14.bind (sEach sPass ps):=by
         rw[uh HS14,uh HS13,uh HS11,uh HS8,uh HS4]
         rfl
        rw[e]
        exact⟨rfl,(uh HQ15).wf⟩
       go_wp2
       go_end0
       rw[uh HFE,uh HOE]
       exact uh HF
end Go.Proofs.YtmpijpjlbhfccaaGreatDoor.K
