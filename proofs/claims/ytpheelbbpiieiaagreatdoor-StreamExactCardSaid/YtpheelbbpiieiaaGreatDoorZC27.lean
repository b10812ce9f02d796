/- Proved here: helpers, one text behind the other. -/
import Derived.Deep.WholeRow
import Derived.Test.YtpheelbbpiieiaaGreatDoorZC22
import Derived.Test.YtpheelbbpiieiaaGreatDoorZC26
import Derived.Test.YtpheelbbpiieiaaGreatDoorZC5
import Derived.Test.YtpheelbbpiieiaaGreatDoorZC25
set_option maxHeartbeats 20000000
namespace Go.Proofs.YtpheelbbpiieiaaGreatDoor.K
open Go.RowKit
set_option maxRecDepth 100000
abbrev pkz:Pkv:=pk0 0 false 0 false
def dbody (l:List Int):Option (Pa×List Int):=packet? (bpa (l.getD 0 0)) ((l.drop (meas l).1).take ((meas l).2.1 - (meas l).1))
def dnum (l:List Int):Int:=if l=[] then 3 else if bok (l.getD 0 0)=false then 1 else if (meas l).2.2≠0 then (meas l).2.2 else if (dbody l).isSome then 0 else 1
def DecPost (l:List Int) (w:World) (e:Ending) (w':World):Prop :=
 ∃ (q:Pkv) (n:Nat) (E:Value),e=.returned (.tuple #[q.val,.int .i64 n,E]) /\
  ((dnum l≠0/\q=pkz/\n=0/\Hid (ErP w' E (dnum l)))\/(dnum l=0/\n=(meas l).2.1/\E=.nilIface/\∃ P r,dbody l=some (P,r)/\Hid (Mean w' w.heap.size q P)))/\Below w.heap.size w w'
theorem dec_bad (l:List Int) (w w':World) (x:Value) (m:Int) (hm:dnum l=m) (h0:m≠0) (hE:Hid (ErP w' (.iface 118 x) m)) (hb:Below w.heap.size w w'):DecPost l w (.returned (.tuple #[pkz.val,.int .i64 (0:Nat),.iface 118 x])) w' :=
 ⟨pkz,0,_,rfl,.inl ⟨by rw[hm];exact h0,rfl,rfl,by rw[hm];exact hE⟩,hb⟩
theorem er_cells {w:World} {A:Nat} {vs:List Value} {c:Bool} (hA:w.cell? ⟨A,1,none⟩=some (.bool c)):∀ {d:Nat} {v:Value} {n:Int},Er w d v n->Er (w.setCells A 0 vs) d v n
 | 0,_,_,h=>h
 | d+1,_,_,⟨b,u,h1,h2,h3⟩=>⟨b,u,h1,by
   rw[World.cell?_setCells_out A vs 0 w ⟨b,1,none⟩ (fun e _=>by
    have e:b=A:=e
    subst e
    obtain⟨t,x,rfl⟩:=h3.iface
    rw[hA]at h2
    cases h2)]
   exact h2,er_cells hA h3⟩
theorem erp_cells {w:World} {A:Nat} {vs:List Value} {c:Bool} {E:Value} {n:Int} (h:ErP w E n) (hA:w.cell? ⟨A,1,none⟩=some (.bool c)):ErP (w.setCells A 0 vs) E n:=by
 obtain⟨x,d,h1,h2,h3⟩:=h
 exact⟨x,d,h1,h2,er_cells hA h3⟩
theorem dec_nil (ao:Option Addr) (cap:Nat) (w:World):Calls Tryz.prog 7 #[.slice ao 0 cap] w (DecPost [] w):=by
 have HPN:=zh (pk_new w pkz)
 have HBN:Hid (Below w.heap.size w (w.alloc (.cells pkz.cells.toArray 29))):=bal _ _
 have hdn:dnum []=3:=rfl
 obtain⟨l,hl⟩:∃ l:List Int,l=[]:=⟨_,rfl⟩
 rw[<- hl]at hdn |-
 have HDN:=zh hdn
 clear hdn hl
 go_enter Tryz.func7,Tryz.ntmps7
 go_wp2_with fail
 refine (pf_use 3 _).mono ?_
 rintro e w1 ⟨x,rfl,hE,hb1⟩
 have HP1:=zh ((uh HPN).below hb1)
 have HB1:Hid (Below w.heap.size w w1):=(uh HBN).trans (hb1.mono (uh HBN).size)
 clear hb1 HPN HBN
 dsimp only
 go_step
 refine wpList_store_mid rfl 29 _ _ rfl w.heap.size 0 pkz.cells.toArray rfl rfl ((uh HP1).there _) packet_size (Pkv.ones' _) ?_
 simp only[Act.put]
 have HPS:=zh ((uh HP1).stored pkz)
 have HBS:Hid (Below w.heap.size w (w1.setCells w.heap.size 0 pkz.cells)):=setCells_below (uh HB1) (Nat.le_refl _)
 have HES:Hid (ErP (w1.setCells w.heap.size 0 pkz.cells) (.iface 118 x) 3):=erp_cells (uh hE) (uh HP1).dup
 generalize w1.setCells w.heap.size 0 pkz.cells=wS at HPS HBS HES |-
 go_wp2
 refine bodyPost_ret (res_pk3 (B:=w.heap.size) (q:=pkz) rfl rfl (uh HPS)) rfl ?_
 exact dec_bad l w _ x 3 (uh HDN) (by decide) HES (uh HBS)
def rdc (q:Pkv) (ao:Option Addr) (m cap:Nat):Array Value:=#[.int .i64 q.kind,.bool q.dup,.int .i64 q.qos,.bool q.retain,.string q.topic,.int .i64 q.id,.string q.payload,q.props.val,.string q.client,.bool q.clean,.int .i64 q.keep,q.wills.val,q.user.val,q.pass.val,.int .i64 q.code,.bool q.session,q.subs.val,q.filters.val,q.codes.val,.slice ao m cap,.nilIface]
theorem reader_build (a:Act) (dst:Option Tmp) (x y:Operand) (ty:TypeId) (pos:String) (after:Array Edge) (q:Pkv) (ao:Option Addr) (m cap:Nat) (hx:a.eval x=q.val) (hy:a.eval y=.slice ao m cap) (w:World) :
  (execOp a.eval ⟨dst,.build 69 #[(0,x),(1,y)],ty,pos,after,none⟩).run Tryz.prog w=.ok (.value (.agg (rdc q ao m cap))) w:=by
 unfold execOp
 simp only[List.map_toArray,List.map_cons,List.map_nil,hx,hy]
 kernel_rfl
theorem reader_alloc (ρ:Operand->Value) (dst:Option Tmp) (ty:TypeId) (pos:String) (after:Array Edge) (w:World) :
  (execOp ρ ⟨dst,.alloc 69,ty,pos,after,none⟩).run Tryz.prog w=.ok (.value (.pointer (some ⟨w.heap.size,0,none⟩))) (w.alloc (.cells (rdc pkz none 0 0) 69)):=by
 kernel_rfl
theorem reader_size:(Tryz.prog.info? 69).map (·.size)=some 21:=by kernel_rfl
theorem rdc_one (q:Pkv) (ao:Option Addr) (m cap:Nat):(rdc q ao m cap).all (·.oneCell')=true:=by
 unfold rdc
 kernel_rfl
theorem reader_store (a:Act) (dst:Option Tmp) (x y:Operand) (ty:TypeId) (pos:String) (after:Array Edge) (q:Pkv) (ao:Option Addr) (m cap:Nat) (w:World) (hx:a.eval x=.pointer (some ⟨w.heap.size,0,none⟩)) (hy:a.eval y=.agg (rdc q ao m cap)) :
  (execOp a.eval ⟨dst,.store 69 x y,ty,pos,after,none⟩).run Tryz.prog (w.alloc (.cells (rdc pkz none 0 0) 69))=.ok .skip (w.alloc (.cells (rdc q ao m cap) 69)):=by
 show Sem.run Tryz.prog (do Instr.storeAt 69 (a.eval x) (a.eval y);pure Next.skip) _=_
 rw[hx,hy]
 simp only[Sem.run_bind]
 rw[run_storeAt_new w 69 (rdc pkz none 0 0) (rdc q ao m cap) (by rw[reader_size];rfl) rfl (rdc_one q ao m cap)]
 rfl
theorem step_value {w w':World} {ops:Array Oper} {o:Oper} {a:Act} {K:Act->World->Prop} {Q:Exit->Act->World->Prop} {E:Prop} {v:Value} (hgd:o.guard=none) (hr:(execOp a.eval o).run Tryz.prog w=.ok (.value v) w') (h:K (a.put o.dst v) w') :
  if Region.wanted o (yielded ops a.tmps)=true then Oper.wp Tryz.prog o a w K Q else E:=by
 rw[if_pos (by simp[Region.wanted,hgd])]
 unfold Oper.wp
 rw[hr]
 exact h
theorem step_skip {w w':World} {ops:Array Oper} {o:Oper} {a:Act} {K:Act->World->Prop} {Q:Exit->Act->World->Prop} {E:Prop} (hgd:o.guard=none) (hr:(execOp a.eval o).run Tryz.prog w=.ok .skip w') (h:K (a.put o.dst undef) w') :
  if Region.wanted o (yielded ops a.tmps)=true then Oper.wp Tryz.prog o a w K Q else E:=by
 rw[if_pos (by simp[Region.wanted,hgd])]
 unfold Oper.wp
 rw[hr]
 exact h
theorem rdc_cell {w:World} {q:Pkv} {ao:Option Addr} {m cap:Nat} (j:Nat) (v:Value) (h:(rdc q ao m cap)[j]?=some v):(w.alloc (.cells (rdc q ao m cap) 69)).cell? ⟨w.heap.size,j,none⟩=some v:=by
 have k:=heap_alloc_new w (.cells (rdc q ao m cap) 69)
 unfold World.cell?
 dsimp only
 rw[k]
 simpa using h
theorem rdc_pk (w:World) (q:Pkv) (ao:Option Addr) (m cap:Nat):Pk (w.alloc (.cells (rdc q ao m cap) 69)) w.heap.size q:=fun j hj=>by
 refine⟨rdc_cell j _ ?_,by simp⟩
 rw[<- cells_get q j hj]
 match j,hj with
 | 0,_=>rfl
 | 1,_=>rfl
 | 2,_=>rfl
 | 3,_=>rfl
 | 4,_=>rfl
 | 5,_=>rfl
 | 6,_=>rfl
 | 7,_=>rfl
 | 8,_=>rfl
 | 9,_=>rfl
 | 10,_=>rfl
 | 11,_=>rfl
 | 12,_=>rfl
 | 13,_=>rfl
 | 14,_=>rfl
 | 15,_=>rfl
 | 16,_=>rfl
 | 17,_=>rfl
 | 18,_=>rfl
 | n+19,h=>exact absurd h (by omega)
theorem rdc_rs (w0 w:World) (q:Pkv) (ao:Option Addr) (m cap:Nat) (l:List Int) (hb:Byt w0 (.slice ao m cap) l) (hw:Below w0.heap.size w0 w):RS w0 (w.alloc (.cells (rdc q ao m cap) 69)) w.heap.size (some l) :=
 ⟨⟨rfl,fun k hk=>by have hk:k=w.heap.size:=hk;subst hk;simp⟩,⟨q.dup,rdc_cell 1 _ rfl⟩,.slice ao m cap,l,.nilIface,⟨rdc_cell 19 _ rfl,by simp,rdc_cell 20 _ rfl,by simp⟩,hb,hw.alloc hw.size _,hw.size,.inl ⟨rfl,rfl⟩⟩
theorem RSX.bad {w0 w:World} {R:Nat} {X:Nat->Prop} (h:RSX w0 w R X none):∃ t x d n,w.cell? ⟨R,20,none⟩=some (.iface t x)/\d<=2/\Er w d (.iface t x) n:=by
 obtain⟨_,_,bv,l',E,hr,hb,_,_,hst⟩:=h
 rcases hst with⟨e,_⟩ | ⟨_,d,n,hd,he⟩
 ·cases e
 ·obtain⟨t,x,rfl⟩:=he.iface
  exact⟨t,x,d,n,hr.2.2.1,hd,he.er⟩
theorem Pk.far {w w':World} {R A:Nat} {may:Nat->Prop} {q:Pkv} (h:Pk w A q) (hx:BX R may w w') (hA:A≠R):Pk w' A q:=fun j hj =>
 have hb:=hx.block A (cell_lt (h 0 (by omega)).1) hA
 ⟨(World.cell?_of_block hb).trans (h j hj).1,(World.frozen?_of_block hb).trans (h j hj).2⟩
theorem bok_kind (b:Int) (h0:0<=b) (h1:b<=255) (h:bok b=true):1<=b / 16/\b / 16<=15:=by
 refine⟨?_,by omega⟩
 rcases Int.lt_or_le (b / 16) 1 with hk | hk
 ·have:b / 16=0:=by omega
  unfold bok bmay at h
  simp[this]at h
 ·exact hk
def PkAt (b:Int):Prop:=∀ (R:Nat) (st:Option (List Int)) (w0 w:World),RS w0 w R st->Pk w R (bpk b)->(∀ l,st=some l->l.length<=65536)->Calls Tryz.prog 28 #[.pointer (some ⟨R,0,none⟩)] w (PackPost w0 R (bpa b) st w)
theorem packet_all (R:Nat) (b:Int) (h0:0<=b) (h1:b<=255) (hb:bok b=true) (st:Option (List Int)) (w0 w:World) (h:RS w0 w R st) (hp:Pk w R (bpk b)) (hl:∀ l,st=some l->l.length<=65536):Calls Tryz.prog 28 #[.pointer (some ⟨R,0,none⟩)] w (PackPost w0 R (bpa b) st w):=by
 obtain⟨k1,k2⟩:=bok_kind b h0 h1 hb
 unfold bpk at hp
 unfold bpa
 by_cases h3:b / 16=3
 ·rw[if_pos h3]at hp |-
  exact packet_k3 R _ _ _ st w0 w h hp hl
 ·rw[if_neg h3]at hp |-
  generalize b / 16=k at k1 k2 h3 hp
  have hk:k=1\/k=2\/k=4\/k=5\/k=6\/k=7\/k=8\/k=9\/k=10\/k=11\/k=12\/k=13\/k=14\/k=15:=by omega
  rcases hk with rfl | rfl | rfl | rfl | rfl | rfl | rfl | rfl | rfl | rfl | rfl | rfl | rfl | rfl
  ·exact packet_k1 R st w0 w h hp hl
  ·exact packet_k2 R st w0 w h hp hl
  ·exact packet_k4 R st w0 w h hp hl
  ·exact packet_k5 R st w0 w h hp hl
  ·exact packet_k6 R st w0 w h hp hl
  ·exact packet_k7 R st w0 w h hp hl
  ·exact packet_k8 R st w0 w h hp hl
  ·exact packet_k9 R st w0 w h hp hl
  ·exact packet_k10 R st w0 w h hp hl
  ·exact packet_k11 R st w0 w h hp hl
  ·exact packet_k12 R st w0 w h hp hl
  ·exact packet_k13 R st w0 w h hp hl
  ·exact packet_k14 R st w0 w h hp hl
  ·exact packet_k15 R st w0 w h hp hl
theorem Mean.base {w:World} {B B':Nat} {p:Pkv} {P:Pa} (h:Mean w B p P) (hB:B'<=B):Mean w B' p P :=
 ⟨h.sc,owns_mono h.props hB,by
  obtain⟨ws,h1,h2,h3⟩:=h.wills
  exact⟨ws,owns_mono h1 hB,h2,fun i a b ha hb=>by
   obtain⟨k1,k2,k3,k4,k5⟩:=h3 i a b ha hb
   exact⟨k1,k2,k3,k4,owns_mono k5 hB⟩⟩,owns_mono h.user hB,owns_mono h.pass hB,owns_mono h.subs hB,owns_mono h.filters hB,owns_mono h.codes hB⟩
theorem owns_cells {w:World} {A:Nat} {vs:List Value} {o B:Nat} {e:TypeId} {s:Nat} {v:Value} {n:Nat} {xs:List Value} (h:w.ownsRow B e s v n xs) (hA:A < B):(w.setCells A o vs).ownsRow B e s v n xs:=by
 induction vs generalizing w o with
 | nil=>exact h
 | cons u vs ih =>
  rw[World.setCells]
  exact ih (owns_out h hA)
theorem Mean.cells {w:World} {A B:Nat} {vs:List Value} {p:Pkv} {P:Pa} (h:Mean w B p P) (hA:A < B):Mean (w.setCells A 0 vs) B p P :=
 ⟨h.sc,owns_cells h.props hA,by
  obtain⟨ws,h1,h2,h3⟩:=h.wills
  exact⟨ws,owns_cells h1 hA,h2,fun i a b ha hb=>by
   obtain⟨k1,k2,k3,k4,k5⟩:=h3 i a b ha hb
   exact⟨k1,k2,k3,k4,owns_cells k5 hA⟩⟩,owns_cells h.user hA,owns_cells h.pass hA,owns_cells h.subs hA,owns_cells h.filters hA,owns_cells h.codes hA⟩
theorem dec_flag (bl off cap:Nat) (l:List Int) (w:World) (h:Byt w (.slice (some ⟨bl,off,none⟩) l.length cap) l) (hl:l≠[]) (hok:bok (l.getD 0 0)=false):Calls Tryz.prog 7 #[.slice (some ⟨bl,off,none⟩) l.length cap] w (DecPost l w):=by
 have HPN:=zh (pk_new w pkz)
 have HBN:Hid (Below w.heap.size w (w.alloc (.cells pkz.cells.toArray 29))):=bal _ _
 have hl1:1<=l.length:=List.length_pos_iff.2 hl
 obtain⟨hc1,hc2⟩:l.length<=cap/\cap<=maxLen:=by
  obtain⟨ao',cap',e,k1,k2⟩:=h.form
  simp only[Value.slice.injEq]at e
  obtain⟨_,_,rfl⟩:=e
  exact⟨k1,k2⟩
 unfold maxLen at hc2
 have hr0:=h.range 0
 have hbl:w.cell? ⟨bl,off,none⟩=some (.int .u8 (l.getD 0 0)):=by
  obtain⟨ao',cap',e',_,_,hcase⟩:=h
  simp only[Value.slice.injEq]at e'
  obtain⟨rfl,_,rfl⟩:=e'
  rcases hcase with h0 | ⟨b',off',e2,hc⟩
  ·exact absurd h0 hl
  ·simp only[Option.some.injEq,Addr.mk.injEq]at e2
   obtain⟨rfl,rfl,_⟩:=e2
   exact hc 0 (by omega)
 have hcl:=cell_lt hbl
 have HH:=zh h
 have HL:=zh hl
 generalize hn:l.length=n at hc1 hl1 HH
 have HN:=zh hn
 obtain⟨b,hb⟩:∃ b,l.getD 0 0=b:=⟨_,rfl⟩
 rw[hb]at hr0 hbl hok
 have HB0:=zh hb
 clear h hl hn hb
 have HDN:Hid (dnum l=1):=by
  show _=_
  unfold dnum
  rw[if_neg (uh HL),uh HB0,if_pos hok]
 go_enter Tryz.func7,Tryz.ntmps7
 go_wp2_with fail
 refine (begin_any b hr0.1 hr0.2 _).mono ?_
 rintro e w1 ⟨rfl,hb1⟩
 have HP1:=zh ((uh HPN).below hb1)
 have HB1:Hid (Below w.heap.size w w1):=(uh HBN).trans (hb1.mono (uh HBN).size)
 clear hb1 HPN HBN hbl hcl
 dsimp only
 iterate 10 go_step
 refine wpList_store_mid rfl 29 _ _ rfl w.heap.size 0 (bpk b).cells.toArray rfl rfl ((uh HP1).there _) packet_size (Pkv.ones' _) ?_
 simp only[Act.put]
 have HP2:=zh ((uh HP1).stored (bpk b))
 have HB2:Hid (Below w.heap.size w (w1.setCells w.heap.size 0 (bpk b).cells)):=setCells_below (uh HB1) (Nat.le_refl _)
 generalize w1.setCells w.heap.size 0 (bpk b).cells=w2 at HP2 HB2 |-
 clear HP1 HB1
 rw[hok]
 go_wp2_with fail
 refine (pf_use 1 _).mono ?_
 rintro e w3 ⟨x,rfl,hE,hb3⟩
 have HP3:=zh ((uh HP2).below hb3)
 have HB3:Hid (Below w.heap.size w w3):=(uh HB2).trans (hb3.mono (uh HB2).size)
 clear hb3 HP2 HB2
 dsimp only
 go_step
 refine wpList_store_mid rfl 29 _ _ rfl w.heap.size 0 pkz.cells.toArray rfl rfl ((uh HP3).there _) packet_size (Pkv.ones' _) ?_
 simp only[Act.put]
 have HPS:=zh ((uh HP3).stored pkz)
 have HBS:Hid (Below w.heap.size w (w3.setCells w.heap.size 0 pkz.cells)):=setCells_below (uh HB3) (Nat.le_refl _)
 have HES:Hid (ErP (w3.setCells w.heap.size 0 pkz.cells) (.iface 118 x) 1):=erp_cells (uh hE) (uh HP3).dup
 generalize w3.setCells w.heap.size 0 pkz.cells=wS at HPS HBS HES |-
 go_wp2
 refine bodyPost_ret (res_pk3 (B:=w.heap.size) (q:=pkz) rfl rfl (uh HPS)) rfl ?_
 exact dec_bad l w _ x 1 (uh HDN) (by decide) HES (uh HBS)
theorem dec_meas (bl off cap:Nat) (l:List Int) (w:World) (h:Byt w (.slice (some ⟨bl,off,none⟩) l.length cap) l) (hl:l≠[]) (hok:bok (l.getD 0 0)=true) (hm:(meas l).2.2≠0):Calls Tryz.prog 7 #[.slice (some ⟨bl,off,none⟩) l.length cap] w (DecPost l w):=by
 have HPN:=zh (pk_new w pkz)
 have HBN:Hid (Below w.heap.size w (w.alloc (.cells pkz.cells.toArray 29))):=bal _ _
 have hl1:1<=l.length:=List.length_pos_iff.2 hl
 obtain⟨hc1,hc2⟩:l.length<=cap/\cap<=maxLen:=by
  obtain⟨ao',cap',e,k1,k2⟩:=h.form
  simp only[Value.slice.injEq]at e
  obtain⟨_,_,rfl⟩:=e
  exact⟨k1,k2⟩
 unfold maxLen at hc2
 have hr0:=h.range 0
 have hbl:w.cell? ⟨bl,off,none⟩=some (.int .u8 (l.getD 0 0)):=by
  obtain⟨ao',cap',e',_,_,hcase⟩:=h
  simp only[Value.slice.injEq]at e'
  obtain⟨rfl,_,rfl⟩:=e'
  rcases hcase with h0 | ⟨b',off',e2,hc⟩
  ·exact absurd h0 hl
  ·simp only[Option.some.injEq,Addr.mk.injEq]at e2
   obtain⟨rfl,rfl,_⟩:=e2
   exact hc 0 (by omega)
 have hcl:=cell_lt hbl
 have HH:=zh h
 have HL:=zh hl
 generalize hn:l.length=n at hc1 hl1 HH
 have HN:=zh hn
 obtain⟨b,hb⟩:∃ b,l.getD 0 0=b:=⟨_,rfl⟩
 rw[hb]at hr0 hbl hok
 have HB0:=zh hb
 clear h hl hn hb
 have HDN:Hid (dnum l=(meas l).2.2):=by
  show _=_
  unfold dnum
  rw[if_neg (uh HL),uh HB0,if_neg (by rw[hok];decide),if_pos hm]
 generalize hmm:(meas l).2.2=m at hm HDN
 have HMM:=zh hmm
 clear hmm
 go_enter Tryz.func7,Tryz.ntmps7
 go_wp2_with fail
 refine (begin_any b hr0.1 hr0.2 _).mono ?_
 rintro e w1 ⟨rfl,hb1⟩
 have HP1:=zh ((uh HPN).below hb1)
 have HB1:Hid (Below w.heap.size w w1):=(uh HBN).trans (hb1.mono (uh HBN).size)
 clear hb1 HPN HBN hbl hcl
 dsimp only
 iterate 10 go_step
 refine wpList_store_mid rfl 29 _ _ rfl w.heap.size 0 (bpk b).cells.toArray rfl rfl ((uh HP1).there _) packet_size (Pkv.ones' _) ?_
 simp only[Act.put]
 have HP2:=zh ((uh HP1).stored (bpk b))
 have HB2:Hid (Below w.heap.size w (w1.setCells w.heap.size 0 (bpk b).cells)):=setCells_below (uh HB1) (Nat.le_refl _)
 generalize w1.setCells w.heap.size 0 (bpk b).cells=w2 at HP2 HB2 |-
 clear HP1 HB1
 rw[hok]
 have HMS:=zh (measure_any (.slice (some ⟨bl,off,none⟩) n cap) l w2 ((uh HH).below (uh HB2)) (uh HL))
 go_wp2_with fail
 refine (uh HMS).mono ?_
 rintro e w3 ⟨E,rfl,hE,hb3⟩
 have HP3:=zh ((uh HP2).below hb3)
 have HB3:Hid (Below w.heap.size w w3):=(uh HB2).trans (hb3.mono (uh HB2).size)
 clear hb3 HP2 HB2 HMS
 rw[uh HMM]at hE
 rcases uh hE with⟨h0,_⟩ | ⟨_,x,d,hx,hd,he⟩
 ·exact absurd h0 hm
 ·subst hx
  have HE:Hid (ErP w3 (.iface 118 x) m):=⟨x,d,rfl,hd,he⟩
  clear he hE
  go_upto_region 8 with fail
  iterate 7 go_step
  refine wpList_store_mid rfl 29 _ _ rfl w.heap.size 0 pkz.cells.toArray rfl rfl ((uh HP3).there _) packet_size (Pkv.ones' _) ?_
  simp only[Act.put]
  have HPS:=zh ((uh HP3).stored pkz)
  have HBS:Hid (Below w.heap.size w (w3.setCells w.heap.size 0 pkz.cells)):=setCells_below (uh HB3) (Nat.le_refl _)
  have HES:Hid (ErP (w3.setCells w.heap.size 0 pkz.cells) (.iface 118 x) m):=erp_cells (uh HE) (uh HP3).dup
  generalize w3.setCells w.heap.size 0 pkz.cells=wS at HPS HBS HES |-
  go_wp2
  refine bodyPost_ret (res_pk3 (B:=w.heap.size) (q:=pkz) rfl rfl (uh HPS)) rfl ?_
  exact dec_bad l w _ x m (uh HDN) hm HES (uh HBS)
theorem meas_le (l:List Int) (h:(meas l).2.2=0):1<=(meas l).1/\(meas l).1<=(meas l).2.1/\(meas l).2.1<=l.length/\(meas l).2.1<=65536:=by
 unfold meas at h |-
 split at h
 ·contradiction
 ·split at h
  ·simp at h
  ·split at h
   ·simp at h
   ·rename_i h1 h2 h3
    rw[if_neg h1,if_neg h2,if_neg h3]
    simp only
    omega
theorem stp_none {α:Type} {f:List Int->Option (α×List Int)} {l:List Int} {x:α} (h:Stp f (some l) x none):f l=none:=by
 unfold Stp at h
 simp only at h
 cases hq:f l with
 | none=>rfl
 | some r=>rw[hq]at h;cases h.2
theorem stp_some {α:Type} {f:List Int->Option (α×List Int)} {l l':List Int} {x:α} (h:Stp f (some l) x (some l')):f l=some (x,l'):=by
 unfold Stp at h
 simp only at h
 cases hq:f l with
 | none=>rw[hq]at h;cases h
 | some r =>
  rw[hq]at h
  obtain⟨rfl,e⟩:=h
  cases e
  rfl
theorem Pk.lt {w:World} {A:Nat} {q:Pkv} (h:Pk w A q):A < w.heap.size:=cell_lt (h 0 (by omega)).1
theorem dec_body (bl off cap:Nat) (l:List Int) (w:World) (h:Byt w (.slice (some ⟨bl,off,none⟩) l.length cap) l) (hl:l≠[]) (hok:bok (l.getD 0 0)=true) (hm:(meas l).2.2=0) (HPA:Hid (PkAt (l.getD 0 0))):Calls Tryz.prog 7 #[.slice (some ⟨bl,off,none⟩) l.length cap] w (DecPost l w):=by
 have HPN:=zh (pk_new w pkz)
 have HBN:Hid (Below w.heap.size w (w.alloc (.cells pkz.cells.toArray 29))):=bal _ _
 have hl1:1<=l.length:=List.length_pos_iff.2 hl
 obtain⟨hc1,hc2⟩:l.length<=cap/\cap<=maxLen:=by
  obtain⟨ao',cap',e,k1,k2⟩:=h.form
  simp only[Value.slice.injEq]at e
  obtain⟨_,_,rfl⟩:=e
  exact⟨k1,k2⟩
 unfold maxLen at hc2
 have hr0:=h.range 0
 have hbl:w.cell? ⟨bl,off,none⟩=some (.int .u8 (l.getD 0 0)):=by
  obtain⟨ao',cap',e',_,_,hcase⟩:=h
  simp only[Value.slice.injEq]at e'
  obtain⟨rfl,_,rfl⟩:=e'
  rcases hcase with h0 | ⟨b',off',e2,hc⟩
  ·exact absurd h0 hl
  ·simp only[Option.some.injEq,Addr.mk.injEq]at e2
   obtain⟨rfl,rfl,_⟩:=e2
   exact hc 0 (by omega)
 have hcl:=cell_lt hbl
 have HH:=zh h
 have HL:=zh hl
 generalize hn:l.length=n at hc1 hl1 HH
 have HN:=zh hn
 obtain⟨b,hb⟩:∃ b,l.getD 0 0=b:=⟨_,rfl⟩
 rw[hb]at hr0 hbl hok HPA
 have HB0:=zh hb
 clear h hl hn hb
 obtain⟨hd,hhd⟩:∃ hd,hd=(meas l).1:=⟨_,rfl⟩
 obtain⟨sz,hsz⟩:∃ sz,sz=(meas l).2.1:=⟨_,rfl⟩
 have hms:=meas_le l hm
 rw[<- hhd,<- hsz]at hms
 obtain⟨hh1,hh2,hh3,hh4⟩:=hms
 have HDB:Hid (dbody l=packet? (bpa b) ((l.drop hd).take (sz - hd))):=by
  show dbody l=_
  unfold dbody
  rw[<- hhd,<- hsz,uh HB0]
 have HD1:Hid (packet? (bpa b) ((l.drop hd).take (sz - hd))=none->dnum l=1):=fun e=>by
  unfold dnum
  rw[if_neg (uh HL),uh HB0,if_neg (by rw[hok];decide),if_neg (by rw[hm];decide),uh HDB,e]
  rfl
 have HD0:Hid (∀ {P':Pa} {l':List Int},packet? (bpa b) ((l.drop hd).take (sz - hd))=some (P',l')->dnum l=0):=fun e=>by
  unfold dnum
  rw[if_neg (uh HL),uh HB0,if_neg (by rw[hok];decide),if_neg (by rw[hm];decide),uh HDB,e]
  rfl
 have HSZ:Hid (sz=(meas l).2.1):=hsz
 rw[uh HN]at hh3
 go_enter Tryz.func7,Tryz.ntmps7
 go_wp2_with fail
 refine (begin_any b hr0.1 hr0.2 _).mono ?_
 rintro e w1 ⟨rfl,hb1⟩
 have HP1:=zh ((uh HPN).below hb1)
 have HB1:Hid (Below w.heap.size w w1):=(uh HBN).trans (hb1.mono (uh HBN).size)
 clear hb1 HPN HBN hbl hcl
 dsimp only
 iterate 10 go_step
 refine wpList_store_mid rfl 29 _ _ rfl w.heap.size 0 (bpk b).cells.toArray rfl rfl ((uh HP1).there _) packet_size (Pkv.ones' _) ?_
 simp only[Act.put]
 have HP2:=zh ((uh HP1).stored (bpk b))
 have HB2:Hid (Below w.heap.size w (w1.setCells w.heap.size 0 (bpk b).cells)):=setCells_below (uh HB1) (Nat.le_refl _)
 generalize w1.setCells w.heap.size 0 (bpk b).cells=w2 at HP2 HB2 |-
 clear HP1 HB1
 rw[hok]
 have HMS:=zh (measure_any (.slice (some ⟨bl,off,none⟩) n cap) l w2 ((uh HH).below (uh HB2)) (uh HL))
 go_wp2_with fail
 refine (uh HMS).mono ?_
 rintro e w3 ⟨E,rfl,hE,hb3⟩
 have HP3:=zh ((uh HP2).below hb3)
 have HB3:Hid (Below w.heap.size w w3):=(uh HB2).trans (hb3.mono (uh HB2).size)
 clear hb3 HP2 HB2 HMS
 obtain⟨q,hq⟩:∃ q,q=bpk b:=⟨_,rfl⟩
 have HPK:Hid (∀ w4:World,RS w3 w4 w3.heap.size (some ((l.drop hd).take (sz - hd)))->Pk w4 w3.heap.size q->Calls Tryz.prog 28 #[.pointer (some ⟨w3.heap.size,0,none⟩)] w4 (PackPost w3 w3.heap.size (bpa b) (some ((l.drop hd).take (sz - hd))) w4)):=fun w4 k1 k2=>by
  rw[hq]at k2
  exact (uh HPA) _ _ _ _ k1 k2 (fun l2 e=>by
   cases e
   rw[List.length_take]
   omega)
 clear HPA
 rw[<- hq]at HP3
 rw[<- hhd,<- hsz]
 clear hq hhd hsz
 have HMID:=zh (((uh HH).below (uh HB3)).mid hd (sz - hd) (by omega))
 by_cases hcap:cap=hd
 ·have e1:hd=cap:=hcap.symm
  clear hcap
  subst e1
  have e2:hd=n:=by omega
  have e3:sz=hd:=by omega
  subst e3
  have HBY:Hid (Byt w3 (.slice (some ⟨bl,off,none⟩) 0 0) ((l.drop sz).take (sz - sz))):=by
   show Byt _ _ _
   have k:=uh HMID
   rw[if_pos rfl,Nat.sub_self]at k
   rw[Nat.sub_self]
   exact k
  clear HMID
  subst e2
  obtain⟨hE0,rfl⟩:(meas l).2.2=0/\E=.nilIface:=by
   rcases uh hE with h | ⟨h,_⟩
   ·exact h
   ·exact absurd hm h
  clear hE hE0
  have hbd3:=bel_drew w3
  have HPd:=zh ((uh HP3).below hbd3)
  have HBd:Hid (Below w.heap.size w w3.drew):=(uh HB3).trans (hbd3.mono (uh HB3).size)
  clear hbd3
  go_wp2_with fail
  refine wp_region_noPanic ?_
  refine wp_region_held_drew (S:=(fun w'=>w'.rangeAt w.heap.size 0 q.cells)) (by kernel_rfl) (uh HPd).range (fun hHeld=>?_)
  refine wpAnyH_take (i:=0) (oi:={ dst:=some 35,op:=Op.load 29 (Operand.tmp 2),type:=29,pos := "packet.go:81",after:=#[],guard:=none }) (v:=q.val) rfl (by kernel_rfl) (by kernel_rfl) (by kernel_rfl) (fun _ _ _ h=>h) (yieldsIf_load_mid (by rfl) 29 _ rfl w.heap.size 0 rfl q.cells _ (fun _ h=>h) Tryz.underlying29 rfl packet_size) (by assumption) ?_
  simp only[Act.put,List.setIfInBounds_toArray,List.set_cons_zero,List.set_cons_succ]
  refine rtk 1 (h:=?_)
  refine rtk 2 (h:=?_)
  refine rtk 3 (h:=?_)
  refine rtk 4 (h:=?_)
  refine wpAnyH_take (i:=5) (oi:={ dst:=some 40,op:=Op.build 69 #[(0,Operand.tmp 35),(1,Operand.tmp 39)],type:=69,pos := "packet.go:81",after:=#[{ on:=0,ground:=Ground.data },{ on:=4,ground:=Ground.data }],guard:=none }) (v:=.agg (rdc q (some ⟨bl,off,none⟩) 0 0)) rfl (by kernel_rfl) (by kernel_rfl) (by kernel_rfl) (fun _ _ _ h=>h) (Or.inl ⟨by rfl,fun w _=>reader_build _ _ _ _ _ _ _ q (some ⟨bl,off,none⟩) 0 0 rfl rfl w⟩) (by assumption) ?_
  simp only[Act.put,List.setIfInBounds_toArray,List.set_cons_zero,List.set_cons_succ]
  refine rcl 6 (h:=fun K hK=>?_)
  refine step_value rfl (reader_alloc _ _ _ _ _ _) ?_
  refine hK.out _ _ ((uh HPd).below (bal _ _)).range (fun hHeld=>?_)
  clear hK K
  simp only[Act.put,List.setIfInBounds_toArray,List.set_cons_zero,List.set_cons_succ]
  refine rcl 7 (h:=fun K hK=>?_)
  refine step_skip rfl (reader_store _ _ _ _ _ _ _ q (some ⟨bl,off,none⟩) 0 0 w3.drew rfl rfl) ?_
  refine hK.out _ _ ((uh HPd).below (bal _ _)).range (fun hHeld=>?_)
  clear hK K
  simp only[Act.put]
  refine wpAnyH_done (by kernel_rfl) ?_ _
  refine NoPanic.normal ?_
  have hR:w3.drew.heap.size=w3.heap.size:=rfl
  have HPR:=zh (rdc_pk w3.drew q (some ⟨bl,off,none⟩) 0 0)
  have HRS:=zh (rdc_rs w3 w3.drew q (some ⟨bl,off,none⟩) 0 0 ((l.drop sz).take (sz - sz)) (uh HBY) (bel_drew w3))
  have HPA:Hid (Pk (w3.drew.alloc (.cells (rdc q (some ⟨bl,off,none⟩) 0 0) 69)) w.heap.size q):=(uh HPd).below (bal _ _)
  have HBA:Hid (Below w.heap.size w (w3.drew.alloc (.cells (rdc q (some ⟨bl,off,none⟩) 0 0) 69))):=(uh HBd).trans ((bal _ _).mono (uh HBd).size)
  have hAR:w.heap.size < w3.heap.size:=(uh HP3).lt
  have hWs:w3.heap.size < (w3.drew.alloc (.cells (rdc q (some ⟨bl,off,none⟩) 0 0) 69)).heap.size:=by simp
  rw[hR]at HPR HRS
  generalize w3.drew.alloc (.cells (rdc q (some ⟨bl,off,none⟩) 0 0) 69)=w4 at HPR HRS HPA HBA hWs |-
  clear HPd HBd hHeld hR HP3
  go_wp2_with fail
  refine ((uh HPK) _ (uh HRS) (uh HPR)).mono ?_
  rintro e w5 ⟨rfl,p',P',st',hp5,hM5,hs5,h5,hx5⟩
  have HP5:=zh hp5
  have HS5:=zh h5
  have HST5:=zh hs5
  have HA5:=zh ((uh HPA).far hx5 (Nat.ne_of_lt hAR))
  have HB5:Hid (Below w.heap.size w w5):=(uh HBA).trans (hx5.below (Nat.le_of_lt hAR) (uh HBA).size)
  have hR5:w3.heap.size < w5.heap.size:=Nat.lt_of_lt_of_le hWs hx5.size
  have HM5:Hid (Mean w5 w3.heap.size.succ p' P'):=(uh hM5).base hWs
  clear hp5 h5 hs5 hx5 hM5 HPA HBA HPR HRS HPK
  cases st' with
  | none =>
   obtain⟨t,x,d,k,c20,hd2,he⟩:=(uh HS5).bad
   have HE5:=zh he
   clear he
   have HDN:Hid (dnum l=1):=(uh HD1) (stp_none (uh HST5))
   go_wp2_with fail
   refine (pbroken d hd2 _ k _ (uh HE5)).mono ?_
   rintro e w6 ⟨y,rfl,hE,hb6⟩
   have HP6:=zh ((uh HA5).below hb6)
   have HB6:Hid (Below w.heap.size w w6):=(uh HB5).trans (hb6.mono (uh HB5).size)
   clear hb6
   dsimp only
   go_step
   refine wpList_store_mid rfl 29 _ _ rfl w.heap.size 0 pkz.cells.toArray rfl rfl ((uh HP6).there _) packet_size (Pkv.ones' _) ?_
   simp only[Act.put]
   have HPS:=zh ((uh HP6).stored pkz)
   have HBS:Hid (Below w.heap.size w (w6.setCells w.heap.size 0 pkz.cells)):=setCells_below (uh HB6) (Nat.le_refl _)
   have HES:Hid (ErP (w6.setCells w.heap.size 0 pkz.cells) (.iface 118 y) 1):=erp_cells (uh hE) (uh HP6).dup
   generalize w6.setCells w.heap.size 0 pkz.cells=wS at HPS HBS HES |-
   go_wp2
   refine bodyPost_ret (res_pk3 (B:=w.heap.size) (q:=pkz) rfl rfl (uh HPS)) rfl ?_
   exact dec_bad l w _ y 1 (uh HDN) (by decide) HES (uh HBS)
  | some l' =>
   have hds:=stp_some (uh HST5)
   have HDN:Hid (dnum l=0):=(uh HD0) hds
   have HDS:=zh hds
   clear hds
   obtain⟨_,_,c20⟩ | ⟨hno,_⟩:=(uh HS5).err
   ·go_upto_region 13 with fail
    iterate 4 go_step
    refine wpList_load_mid rfl 29 _ rfl w3.heap.size 0 rfl p'.cells _ (uh HP5).range Tryz.underlying29 rfl packet_size ?_
    simp only[Act.put,List.setIfInBounds_toArray,List.set_cons_zero,List.set_cons_succ]
    iterate 3 go_step
    refine wpList_store_mid rfl 29 _ _ rfl w.heap.size 0 p'.cells.toArray rfl rfl ((uh HA5).there _) packet_size (Pkv.ones' _) ?_
    simp only[Act.put]
    have HPS:=zh ((uh HA5).stored p')
    have HBS:Hid (Below w.heap.size w (w5.setCells w.heap.size 0 p'.cells)):=setCells_below (uh HB5) (Nat.le_refl _)
    have HMS:Hid (Mean (w5.setCells w.heap.size 0 p'.cells) w.heap.size p' P'):=((uh HM5).cells (Nat.lt_succ_of_lt hAR)).base (Nat.le_succ_of_le (Nat.le_of_lt hAR))
    generalize w5.setCells w.heap.size 0 p'.cells=w6 at HPS HBS HMS |-
    clear c20
    go_wp2
    refine bodyPost_ret (res_pk3 (B:=w.heap.size) (q:=p') rfl rfl (uh HPS)) rfl ?_
    exact⟨p',sz,.nilIface,rfl,.inr ⟨uh HDN,(uh HSZ),rfl,P',l',(uh HDB).trans (uh HDS),HMS⟩,uh HBS⟩
   ·cases hno
 ·have HBY:Hid (Byt w3 (.slice (some ⟨bl,off+hd,none⟩) (sz - hd) (cap - hd)) ((l.drop hd).take (sz - hd))):=by
   show Byt _ _ _
   have k:=uh HMID
   rw[if_neg hcap]at k
   exact k
  clear HMID
  obtain⟨hE0,rfl⟩:(meas l).2.2=0/\E=.nilIface:=by
   rcases uh hE with h | ⟨h,_⟩
   ·exact h
   ·exact absurd hm h
  clear hE hE0
  have hbd3:=bel_drew w3
  have HPd:=zh ((uh HP3).below hbd3)
  have HBd:Hid (Below w.heap.size w w3.drew):=(uh HB3).trans (hbd3.mono (uh HB3).size)
  clear hbd3
  go_wp2_with fail
  refine wp_region_noPanic ?_
  refine wp_region_held_drew (S:=(fun w'=>w'.rangeAt w.heap.size 0 q.cells)) (by kernel_rfl) (uh HPd).range (fun hHeld=>?_)
  refine wpAnyH_take (i:=0) (oi:={ dst:=some 35,op:=Op.load 29 (Operand.tmp 2),type:=29,pos := "packet.go:81",after:=#[],guard:=none }) (v:=q.val) rfl (by kernel_rfl) (by kernel_rfl) (by kernel_rfl) (fun _ _ _ h=>h) (yieldsIf_load_mid (by rfl) 29 _ rfl w.heap.size 0 rfl q.cells _ (fun _ h=>h) Tryz.underlying29 rfl packet_size) (by assumption) ?_
  simp only[Act.put,List.setIfInBounds_toArray,List.set_cons_zero,List.set_cons_succ]
  refine rtk 1 (h:=?_)
  refine rtk 2 (h:=?_)
  refine rtk 3 (h:=?_)
  refine rtk 4 (h:=?_)
  refine wpAnyH_take (i:=5) (oi:={ dst:=some 40,op:=Op.build 69 #[(0,Operand.tmp 35),(1,Operand.tmp 39)],type:=69,pos := "packet.go:81",after:=#[{ on:=0,ground:=Ground.data },{ on:=4,ground:=Ground.data }],guard:=none }) (v:=.agg (rdc q (some ⟨bl,off+hd,none⟩) (sz - hd) (cap - hd))) rfl (by kernel_rfl) (by kernel_rfl) (by kernel_rfl) (fun _ _ _ h=>h) (Or.inl ⟨by rfl,fun w _=>reader_build _ _ _ _ _ _ _ q (some ⟨bl,off+hd,none⟩) (sz - hd) (cap - hd) rfl rfl w⟩) (by assumption) ?_
  simp only[Act.put,List.setIfInBounds_toArray,List.set_cons_zero,List.set_cons_succ]
  refine rcl 6 (h:=fun K hK=>?_)
  refine step_value rfl (reader_alloc _ _ _ _ _ _) ?_
  refine hK.out _ _ ((uh HPd).below (bal _ _)).range (fun hHeld=>?_)
  clear hK K
  simp only[Act.put,List.setIfInBounds_toArray,List.set_cons_zero,List.set_cons_succ]
  refine rcl 7 (h:=fun K hK=>?_)
  refine step_skip rfl (reader_store _ _ _ _ _ _ _ q (some ⟨bl,off+hd,none⟩) (sz - hd) (cap - hd) w3.drew rfl rfl) ?_
  refine hK.out _ _ ((uh HPd).below (bal _ _)).range (fun hHeld=>?_)
  clear hK K
  simp only[Act.put]
  refine wpAnyH_done (by kernel_rfl) ?_ _
  refine NoPanic.normal ?_
  have hR:w3.drew.heap.size=w3.heap.size:=rfl
  have HPR:=zh (rdc_pk w3.drew q (some ⟨bl,off+hd,none⟩) (sz - hd) (cap - hd))
  have HRS:=zh (rdc_rs w3 w3.drew q (some ⟨bl,off+hd,none⟩) (sz - hd) (cap - hd) ((l.drop hd).take (sz - hd)) (uh HBY) (bel_drew w3))
  have HPA:Hid (Pk (w3.drew.alloc (.cells (rdc q (some ⟨bl,off+hd,none⟩) (sz - hd) (cap - hd)) 69)) w.heap.size q):=(uh HPd).below (bal _ _)
  have HBA:Hid (Below w.heap.size w (w3.drew.alloc (.cells (rdc q (some ⟨bl,off+hd,none⟩) (sz - hd) (cap - hd)) 69))):=(uh HBd).trans ((bal _ _).mono (uh HBd).size)
  have hAR:w.heap.size < w3.heap.size:=(uh HP3).lt
  have hWs:w3.heap.size < (w3.drew.alloc (.cells (rdc q (some ⟨bl,off+hd,none⟩) (sz - hd) (cap - hd)) 69)).heap.size:=by simp
  rw[hR]at HPR HRS
  generalize w3.drew.alloc (.cells (rdc q (some ⟨bl,off+hd,none⟩) (sz - hd) (cap - hd)) 69)=w4 at HPR HRS HPA HBA hWs |-
  clear HPd HBd hHeld hR HP3
  go_wp2_with fail
  refine ((uh HPK) _ (uh HRS) (uh HPR)).mono ?_
  rintro e w5 ⟨rfl,p',P',st',hp5,hM5,hs5,h5,hx5⟩
  have HP5:=zh hp5
  have HS5:=zh h5
  have HST5:=zh hs5
  have HA5:=zh ((uh HPA).far hx5 (Nat.ne_of_lt hAR))
  have HB5:Hid (Below w.heap.size w w5):=(uh HBA).trans (hx5.below (Nat.le_of_lt hAR) (uh HBA).size)
  have hR5:w3.heap.size < w5.heap.size:=Nat.lt_of_lt_of_le hWs hx5.size
  have HM5:Hid (Mean w5 w3.heap.size.succ p' P'):=(uh hM5).base hWs
  clear hp5 h5 hs5 hx5 hM5 HPA HBA HPR HRS HPK
  cases st' with
  | none =>
   obtain⟨t,x,d,k,c20,hd2,he⟩:=(uh HS5).bad
   have HE5:=zh he
   clear he
   have HDN:Hid (dnum l=1):=(uh HD1) (stp_none (uh HST5))
   go_wp2_with fail
   refine (pbroken d hd2 _ k _ (uh HE5)).mono ?_
   rintro e w6 ⟨y,rfl,hE,hb6⟩
   have HP6:=zh ((uh HA5).below hb6)
   have HB6:Hid (Below w.heap.size w w6):=(uh HB5).trans (hb6.mono (uh HB5).size)
   clear hb6
   dsimp only
   go_step
   refine wpList_store_mid rfl 29 _ _ rfl w.heap.size 0 pkz.cells.toArray rfl rfl ((uh HP6).there _) packet_size (Pkv.ones' _) ?_
   simp only[Act.put]
   have HPS:=zh ((uh HP6).stored pkz)
   have HBS:Hid (Below w.heap.size w (w6.setCells w.heap.size 0 pkz.cells)):=setCells_below (uh HB6) (Nat.le_refl _)
   have HES:Hid (ErP (w6.setCells w.heap.size 0 pkz.cells) (.iface 118 y) 1):=erp_cells (uh hE) (uh HP6).dup
   generalize w6.setCells w.heap.size 0 pkz.cells=wS at HPS HBS HES |-
   go_wp2
   refine bodyPost_ret (res_pk3 (B:=w.heap.size) (q:=pkz) rfl rfl (uh HPS)) rfl ?_
   exact dec_bad l w _ y 1 (uh HDN) (by decide) HES (uh HBS)
  | some l' =>
   have hds:=stp_some (uh HST5)
   have HDN:Hid (dnum l=0):=(uh HD0) hds
   have HDS:=zh hds
   clear hds
   obtain⟨_,_,c20⟩ | ⟨hno,_⟩:=(uh HS5).err
   ·go_upto_region 13 with fail
    iterate 4 go_step
    refine wpList_load_mid rfl 29 _ rfl w3.heap.size 0 rfl p'.cells _ (uh HP5).range Tryz.underlying29 rfl packet_size ?_
    simp only[Act.put,List.setIfInBounds_toArray,List.set_cons_zero,List.set_cons_succ]
    iterate 3 go_step
    refine wpList_store_mid rfl 29 _ _ rfl w.heap.size 0 p'.cells.toArray rfl rfl ((uh HA5).there _) packet_size (Pkv.ones' _) ?_
    simp only[Act.put]
    have HPS:=zh ((uh HA5).stored p')
    have HBS:Hid (Below w.heap.size w (w5.setCells w.heap.size 0 p'.cells)):=setCells_below (uh HB5) (Nat.le_refl _)
    have HMS:Hid (Mean (w5.setCells w.heap.size 0 p'.cells) w.heap.size p' P'):=((uh HM5).cells (Nat.lt_succ_of_lt hAR)).base (Nat.le_succ_of_le (Nat.le_of_lt hAR))
    generalize w5.setCells w.heap.size 0 p'.cells=w6 at HPS HBS HMS |-
    clear c20
    go_wp2
    refine bodyPost_ret (res_pk3 (B:=w.heap.size) (q:=p') rfl rfl (uh HPS)) rfl ?_
    exact⟨p',sz,.nilIface,rfl,.inr ⟨uh HDN,(uh HSZ),rfl,P',l',(uh HDB).trans (uh HDS),HMS⟩,uh HBS⟩
   ·cases hno
theorem decode_k (v:Value) (l:List Int) (w:World) (h:Byt w v l) (HP:bok (l.getD 0 0)=true->PkAt (l.getD 0 0)):Calls Tryz.prog 7 #[v] w (DecPost l w):=by
 by_cases hl:l=[]
 ·subst hl
  obtain⟨ao,cap,rfl,_⟩:=h.form
  exact dec_nil ao cap w
 ·obtain⟨b,off,cap,rfl,_⟩:=h.form1 (List.length_pos_iff.2 hl)
  cases hok:bok (l.getD 0 0)
  ·exact dec_flag b off cap l w h hl hok
  ·by_cases hm:(meas l).2.2=0
   ·exact dec_body b off cap l w h hl hok hm (HP hok)
   ·exact dec_meas b off cap l w h hl hok hm
theorem decode_any (v:Value) (l:List Int) (w:World) (h:Byt w v l):Calls Tryz.prog 7 #[v] w (DecPost l w) :=
 decode_k v l w h fun hok R st w0 w1 h1 h2 h3=>packet_all R _ (h.range 0).1 (h.range 0).2 hok st w0 w1 h1 h2 h3
theorem is_nil (m:Int) (w:World):Calls Tryz.prog 46 #[.nilIface,.iface 63 (.int .i64 m)] w fun e w'=>e=.returned (.bool false)/\w'=w:=by
 have e1:∀ W,(binOp .eql 35 .nilIface (.iface 63 (.int .i64 m))).run Tryz.prog W=.ok (.bool false) W:=fun W=>by kernel_rfl
 go_enter Tryz.func46,Tryz.ntmps46
 go_wp2
 first | go_ret | go_ret2
 exact⟨rfl,rfl⟩
theorem smeas_nat (l:List Int) (hr:∀ j,0<=l.getD j 0/\l.getD j 0<=255):∃ K N:Nat,smeas l=((K:Int),(N:Int))/\K<=l.length/\N<=1000000000/\(N≠0->2<=K/\K<=N):=by
 have h1:=hr 1
 have h2:=hr 2
 have h3:=hr 3
 have h4:=hr 4
 have key:∀ (p:Int×Int) ,0<=p.1->0<=p.2->p.1<=l.length->p.2<=1000000000->(p.2≠0->2<=p.1/\p.1<=p.2)->∃ K N:Nat,p=((K:Int),(N:Int))/\K<=l.length/\N<=1000000000/\(N≠0->2<=K/\K<=N):=by
  rintro⟨a,b⟩ k1 k2 k3 k4 k5
  simp only at k1 k2 k3 k4 k5
  obtain⟨K,rfl⟩:=Int.eq_ofNat_of_zero_le k1
  obtain⟨N,rfl⟩:=Int.eq_ofNat_of_zero_le k2
  exact⟨K,N,rfl,by omega,by omega,by omega⟩
 apply key <;> unfold smeas <;> (repeat' split) <;> simp only <;> omega
def snum (lim:Int) (l:List Int):Int :=
 if (smeas l).2<=lim then dnum l else if dnum (l.take (smeas l).1.toNat)=1 then 1 else 2
def NextPost (lim:Int) (l:List Int) (w:World) (e:Ending) (w':World):Prop :=
 ∃ (q:Pkv) (n:Nat) (E:Value),e=.returned (.tuple #[q.val,.int .i64 n,E]) /\
  ((snum lim l≠0/\Hid (∃ d,d<=3/\Er w' d E (snum lim l)))\/(snum lim l=0/\n=(meas l).2.1/\E=.nilIface/\∃ P r,dbody l=some (P,r)/\Hid (Mean w' w.heap.size q P)))/\Below w.heap.size w w'
theorem snext_in (S:Nat) (lim:Int) (v:Value) (l:List Int) (w:World) (h:Byt w v l) (hS:w.cell? ⟨S,0,none⟩=some (.int .i64 lim)) (hle:(smeas l).2<=lim):Calls Tryz.prog 73 #[.pointer (some ⟨S,0,none⟩),v] w (NextPost lim l w):=by
 have hsn:snum lim l=dnum l:=by unfold snum;rw[if_pos hle]
 have HPN:=zh (pk_new w pkz)
 have HBN:Hid (Below w.heap.size w (w.alloc (.cells pkz.cells.toArray 29))):=bal _ _
 have HH:=zh (h.below (uh HBN))
 obtain⟨K,N,hK,hK1,hK2,hK3⟩:=smeas_nat l h.range
 have HM:=zh (smeas_any v l (w.alloc (.cells pkz.cells.toArray 29)) (uh HH))
 rw[hK]at HM hle
 simp only at HM hle
 have hSl:=cell_lt hS
 obtain⟨ao,cap,rfl,hc1,hc2⟩:=h.form
 have HSN:=zh hsn
 clear h hK hsn hK3
 go_enter Tryz.func73,Tryz.ntmps73
 go_wp2_with fail
 refine (uh HM).mono ?_
 rintro e w1 ⟨rfl,hw1⟩
 have c0:w1.cell? ⟨S,0,none⟩=some (.int .i64 lim):=by rw[hw1];exact ((uh HBN).cell hSl).trans hS
 have HP1:Hid (Pk w1 w.heap.size pkz):=by rw[hw1];exact uh HPN
 have HB1:Hid (Below w.heap.size w w1):=by rw[hw1];exact uh HBN
 have HH1:Hid (Byt w1 (.slice ao l.length cap) l):=by rw[hw1];exact uh HH
 have hz1:w1.heap.size=w.heap.size+1:=by rw[hw1];simp
 clear HM hw1 HPN HBN HH hS
 go_wp2_with fail
 refine (decode_any _ l w1 (uh HH1)).mono ?_
 rintro e w2 ⟨q,n,E,rfl,hcase,hb2⟩
 have HP2:=zh ((uh HP1).below hb2)
 have HB2:Hid (Below w.heap.size w w2):=(uh HB1).trans (hb2.mono (uh HB1).size)
 have HC:=zh hcase
 clear hb2 HP1 HB1 HH1 hcase c0
 dsimp only
 iterate 10 go_step
 refine wpList_store_mid rfl 29 _ _ rfl w.heap.size 0 q.cells.toArray rfl rfl ((uh HP2).there _) packet_size (Pkv.ones' _) ?_
 simp only[Act.put]
 have HPS:=zh ((uh HP2).stored q)
 have HBS:Hid (Below w.heap.size w (w2.setCells w.heap.size 0 q.cells)):=setCells_below (uh HB2) (Nat.le_refl _)
 have HES:Hid (NextPost lim l w (.returned (.tuple #[q.val,.int .i64 n,E])) (w2.setCells w.heap.size 0 q.cells)):=by
  refine⟨q,n,E,rfl,?_,uh HBS⟩
  rw[uh HSN]
  rcases uh HC with⟨k1,k2,k3,k4⟩ | ⟨k1,k2,k3,P,r,k4,k5⟩
  ·obtain⟨x,d,_,hd,hE⟩:=erp_cells (vs:=q.cells) (uh k4) (uh HP2).dup
   exact .inl ⟨k1,d,hd,hE⟩
  ·exact .inr ⟨k1,k2,k3,P,r,k4,((uh k5).cells (by omega)).base (by omega)⟩
 generalize w2.setCells w.heap.size 0 q.cells=wS at HPS HBS HES |-
 go_wp2
 refine bodyPost_ret (res_pk3 (B:=w.heap.size) (q:=q) rfl rfl (uh HPS)) rfl ?_
 exact uh HES
theorem spk_alloc (ρ:Operand->Value) (dst:Option Tmp) (ty:TypeId) (pos:String) (after:Array Edge) (w:World) :
  (execOp ρ ⟨dst,.alloc 29,ty,pos,after,none⟩).run Tryz.prog w=.ok (.value (.pointer (some ⟨w.heap.size,0,none⟩))) (w.alloc (.cells pkz.cells.toArray 29)):=by
 kernel_rfl
theorem spk_store (a:Act) (dst:Option Tmp) (x y:Operand) (ty:TypeId) (pos:String) (after:Array Edge) (q:Pkv) (w:World) (hx:a.eval x=.pointer (some ⟨w.heap.size,0,none⟩)) (hy:a.eval y=q.val) :
  (execOp a.eval ⟨dst,.store 29 x y,ty,pos,after,none⟩).run Tryz.prog (w.alloc (.cells pkz.cells.toArray 29))=.ok .skip (w.alloc (.cells q.cells.toArray 29)):=by
 show Sem.run Tryz.prog (do Instr.storeAt 29 (a.eval x) (a.eval y);pure Next.skip) _=_
 rw[hx,hy]
 simp only[Sem.run_bind]
 rw[show q.val=.agg q.cells.toArray from rfl,run_storeAt_new w 29 pkz.cells.toArray q.cells.toArray (by rw[packet_size];rfl) rfl q.ones']
 rfl
theorem sis_use (m:Int) (E:Value) (w:World) (h:(m=0/\E=.nilIface)\/(m≠0/\∃ d,d<=3/\Er w d E m)):Calls Tryz.prog 46 #[E,.iface 63 (.int .i64 1)] w fun e w'=>e=.returned (.bool (m == 1))/\w'=w:=by
 rcases h with⟨rfl,rfl⟩ | ⟨_,d,hd,h⟩
 ·exact is_nil 1 w
 ·exact er_Is d hd E m 1 w h
theorem snext_out (S:Nat) (lim:Int) (v:Value) (l:List Int) (w:World) (h:Byt w v l) (hS:w.cell? ⟨S,0,none⟩=some (.int .i64 lim)) (hlim:2<=lim) (hle:¬ (smeas l).2<=lim):Calls Tryz.prog 73 #[.pointer (some ⟨S,0,none⟩),v] w (NextPost lim l w):=by
 have HPN:=zh (pk_new w pkz)
 have HBN:Hid (Below w.heap.size w (w.alloc (.cells pkz.cells.toArray 29))):=bal _ _
 have HH:=zh (h.below (uh HBN))
 obtain⟨K,N,hK,hK1,hK2,hK3⟩:=smeas_nat l h.range
 have hsn:snum lim l=if dnum (l.take K)=1 then 1 else 2:=by unfold snum;rw[if_neg hle,hK,Int.toNat_natCast]
 have HM:=zh (smeas_any v l (w.alloc (.cells pkz.cells.toArray 29)) (uh HH))
 rw[hK]at HM hle
 simp only at HM hle
 have hSl:=cell_lt hS
 have hK4:=(hK3 (by omega)).1
 obtain⟨b,off,cap,rfl,hc1,hc2⟩:=h.form1 (by omega)
 unfold maxLen at hc2
 have HSN:=zh hsn
 clear h hK hsn hK3
 go_enter Tryz.func73,Tryz.ntmps73
 go_wp2_with fail
 refine (uh HM).mono ?_
 rintro e w1 ⟨rfl,hw1⟩
 have c0:w1.cell? ⟨S,0,none⟩=some (.int .i64 lim):=by rw[hw1];exact ((uh HBN).cell hSl).trans hS
 have HP1:Hid (Pk w1 w.heap.size pkz):=by rw[hw1];exact uh HPN
 have HB1:Hid (Below w.heap.size w w1):=by rw[hw1];exact uh HBN
 have HH1:Hid (Byt w1 (.slice (some ⟨b,off,none⟩) K cap) (l.take K)):=by rw[hw1];exact (uh HH).take K hK1
 have hz1:w1.heap.size=w.heap.size+1:=by rw[hw1];simp
 clear HM hw1 HPN HBN HH hS
 generalize hn:l.length=n0 at hK1 hc1 |-
 clear hn
 go_wp2_with fail
 refine (decode_any _ (l.take K) w1 (uh HH1)).mono ?_
 rintro e w2 ⟨q,n,E,rfl,hcase,hb2⟩
 have HP2:=zh ((uh HP1).below hb2)
 have HB2:Hid (Below w.heap.size w w2):=(uh HB1).trans (hb2.mono (uh HB1).size)
 have HC:Hid ((dnum (l.take K)=0/\E=.nilIface)\/(dnum (l.take K)≠0/\∃ d,d<=3/\Er w2 d E (dnum (l.take K)))):=by
  rcases hcase with⟨k1,k2,k3,k4⟩ | ⟨k1,k2,k3,k4⟩
  ·obtain⟨x,d,_,hd,hE⟩:=uh k4
   exact .inr ⟨k1,d,hd,hE⟩
  ·exact .inl ⟨k1,k3⟩
 generalize dnum (l.take K)=m at HC HSN
 clear hb2 HP1 HB1 HH1 hcase c0
 dsimp only
 iterate 13 go_step
 refine Go.Proofs.YtpheelbbpiieiaaGreatDoor.wpList_value rfl (spk_alloc _ _ _ _ _ _) ?_
 simp only[Act.put,List.setIfInBounds_toArray,List.set_cons_zero,List.set_cons_succ]
 refine Go.Proofs.YtpheelbbpiieiaaGreatDoor.wpList_skip rfl (spk_store _ _ _ _ _ _ _ q w2 rfl rfl) ?_
 simp only[Act.put]
 have hal:Below w2.heap.size w2 (w2.alloc (.cells q.cells.toArray 29)):=bal _ _
 have HP3:Hid (Pk (w2.alloc (.cells q.cells.toArray 29)) w.heap.size pkz):=(uh HP2).below hal
 have HB3:Hid (Below w.heap.size w (w2.alloc (.cells q.cells.toArray 29))):=(uh HB2).trans (hal.mono (uh HB2).size)
 have HC3:Hid ((m=0/\E=.nilIface)\/(m≠0/\∃ d,d<=3/\Er (w2.alloc (.cells q.cells.toArray 29)) d E m)):=by
  rcases uh HC with k | ⟨k1,d,k2,k3⟩
  ·exact .inl k
  ·exact .inr ⟨k1,d,k2,k3.below hal⟩
 generalize w2.alloc (.cells q.cells.toArray 29)=w3 at HP3 HB3 HC3 |-
 clear hal HP2 HB2 HC
 go_wp2_with fail
 refine (sis_use m E w3 (uh HC3)).mono ?_
 rintro e w4 ⟨rfl,hw4⟩
 obtain rfl:=hw4.symm
 clear hw4
 have HBS:Hid (Below w.heap.size w (w3.setCells w.heap.size 0 pkz.cells)):=setCells_below (uh HB3) (Nat.le_refl _)
 have HPS:=zh ((uh HP3).stored pkz)
 by_cases hm:m=1
 ·subst hm
  have HES:Hid (NextPost lim l w (.returned (.tuple #[pkz.val,.int .i64 (0:Nat),E])) (w3.setCells w.heap.size 0 pkz.cells)):=by
   refine⟨pkz,0,E,rfl,?_,uh HBS⟩
   rw[uh HSN,if_pos rfl]
   rcases uh HC3 with⟨k1,_⟩ | ⟨k1,d,k2,k3⟩
   ·exact absurd k1 (by decide)
   ·exact .inl ⟨by decide,d,k2,er_cells (uh HP3).dup k3⟩
  go_upto_region 6 with fail
  iterate 7 go_step
  refine wpList_store_mid rfl 29 _ _ rfl w.heap.size 0 pkz.cells.toArray rfl rfl ((uh HP3).there _) packet_size (Pkv.ones' _) ?_
  simp only[Act.put]
  generalize w3.setCells w.heap.size 0 pkz.cells=wS at HPS HBS HES |-
  go_wp2
  refine bodyPost_ret (res_pk3 (B:=w.heap.size) (q:=pkz) rfl rfl (uh HPS)) rfl ?_
  exact uh HES
 ·have hm1:(m == 1)=false:=beq_eq_false_iff_ne.2 hm
  have HES:Hid (NextPost lim l w (.returned (.tuple #[pkz.val,.int .i64 (0:Nat),.iface 63 (.int .i64 2)])) (w3.setCells w.heap.size 0 pkz.cells)):=by
   refine⟨pkz,0,_,rfl,?_,uh HBS⟩
   rw[uh HSN,if_neg hm]
   exact .inl ⟨by decide,0,by omega,rfl⟩
  go_upto_region 7 with fail
  iterate 7 go_step
  refine wpList_store_mid rfl 29 _ _ rfl w.heap.size 0 pkz.cells.toArray rfl rfl ((uh HP3).there _) packet_size (Pkv.ones' _) ?_
  simp only[Act.put]
  generalize w3.setCells w.heap.size 0 pkz.cells=wS at HPS HBS HES |-
  go_wp2
  refine bodyPost_ret (res_pk3 (B:=w.heap.size) (q:=pkz) rfl rfl (uh HPS)) rfl ?_
  exact uh HES
theorem snext_any (S:Nat) (lim:Int) (v:Value) (l:List Int) (w:World) (h:Byt w v l) (hS:w.cell? ⟨S,0,none⟩=some (.int .i64 lim)) (hlim:2<=lim):Calls Tryz.prog 73 #[.pointer (some ⟨S,0,none⟩),v] w (NextPost lim l w):=by
 by_cases hle:(smeas l).2<=lim
 ·exact snext_in S lim v l w h hS hle
 ·exact snext_out S lim v l w h hS hlim hle
end Go.Proofs.YtpheelbbpiieiaaGreatDoor.K
