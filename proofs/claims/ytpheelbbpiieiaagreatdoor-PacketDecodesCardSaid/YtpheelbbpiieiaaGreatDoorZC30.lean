/- Proved here: helpers, one text behind the other. -/
import Derived.Deep.WholeRow
import Derived.Test.YtpheelbbpiieiaaGreatDoorZC25
import Derived.Test.YtpheelbbpiieiaaGreatDoorZC29
import Derived.Test.YtpheelbbpiieiaaGreatDoorZC6
import Derived.Test.YtpheelbbpiieiaaGreatDoorZC24
set_option maxHeartbeats 20000000
namespace Go.Proofs.YtpheelbbpiieiaaGreatDoor.K
open Go.RowKit
set_option maxRecDepth 100000
abbrev pkz:Pkv:=pk0 0 false 0 false
def dbody (l:List Int):Option (Pa×List Int):=packet? (bpa (l.getD 0 0)) ((l.drop (meas l).1).take ((meas l).2.1 - (meas l).1))
def dnum (l:List Int):Int:=if l=[] then 3 else if bok (l.getD 0 0)=false then 1 else if (meas l).2.2≠0 then (meas l).2.2 else if (dbody l).isSome then 0 else 1
def DecPost (l:List Int) (w:World) (e:Ending) (w':World):Prop :=
 ∃ (q:Pkv) (n:Nat) (E:Value),e=.returned (.tuple #[q.val,.int .i64 n,E]) /\
  ((dnum l≠0/\q=pkz/\n=0/\Hid (ErP w' E (dnum l)))\/(dnum l=0/\n=(meas l).2.1/\E=.nilIface/\∃ P r,dbody l=some (P,r)/\Hid (Mean w' w.heap.size q P)))/\Below w.heap.size w w'
theorem dec_bad (l:List Int) (w w':World) (x:Value) (m:Int) (hm:dnum l=m) (h0:m≠0) (hE:Hid (ErP w' (.iface 118 x) m)) (hb:Below w.heap.size w w'):DecPost l w (.returned (.tuple #[pkz.val,.int .i64 (0:Nat),.iface 118 x])) w' :=
 ⟨pkz,0,_,rfl,.inl ⟨by rw[hm];exact h0,rfl,rfl,by rw[hm];exact hE⟩,hb⟩
theorem er_cells {w:World} {A:Nat} {vs:List Value} {c:Bool} (hA:w.cell? ⟨A,1,none⟩=some (.bool c)):∀ {d:Nat} {v:Value} {n:Int},Er w d v n->Er (w.setCells A 0 vs) d v n
 | 0,_,_,h=>h
 | d+1,_,_,⟨b,u,h1,h2,h3⟩=>⟨b,u,h1,by
   rw[World.cell?_setCells_out A vs 0 w ⟨b,1,none⟩ (fun e _=>by
    have e:b=A:=e
    subst e
    obtain⟨t,x,rfl⟩:=h3.iface
    rw[hA]at h2
    cases h2)]
   exact h2,er_cells hA h3⟩
theorem erp_cells {w:World} {A:Nat} {vs:List Value} {c:Bool} {E:Value} {n:Int} (h:ErP w E n) (hA:w.cell? ⟨A,1,none⟩=some (.bool c)):ErP (w.setCells A 0 vs) E n:=by
 obtain⟨x,d,h1,h2,h3⟩:=h
 exact⟨x,d,h1,h2,er_cells hA h3⟩
theorem dec_nil (ao:Option Addr) (cap:Nat) (w:World):Calls Tryz.prog 7 #[.slice ao 0 cap] w (DecPost [] w):=by
 have HPN:=zh (pk_new w pkz)
 have HBN:Hid (Below w.heap.size w (w.alloc (.cells pkz.cells.toArray 29))):=bal _ _
 have hdn:dnum []=3:=rfl
 obtain⟨l,hl⟩:∃ l:List Int,l=[]:=⟨_,rfl⟩
 rw[<- hl]at hdn |-
 have HDN:=zh hdn
 clear hdn hl
 go_enter Tryz.func7,Tryz.ntmps7
 go_wp2_with fail
 refine (pf_use 3 _).mono ?_
 rintro e w1 ⟨x,rfl,hE,hb1⟩
 have HP1:=zh ((uh HPN).below hb1)
 have HB1:Hid (Below w.heap.size w w1):=(uh HBN).trans (hb1.mono (uh HBN).size)
 clear hb1 HPN HBN
 dsimp only
 go_step
 refine wpList_store_mid rfl 29 _ _ rfl w.heap.size 0 pkz.cells.toArray rfl rfl ((uh HP1).there _) packet_size (Pkv.ones' _) ?_
 simp only[Act.put]
 have HPS:=zh ((uh HP1).stored pkz)
 have HBS:Hid (Below w.heap.size w (w1.setCells w.heap.size 0 pkz.cells)):=setCells_below (uh HB1) (Nat.le_refl _)
 have HES:Hid (ErP (w1.setCells w.heap.size 0 pkz.cells) (.iface 118 x) 3):=erp_cells (uh hE) (uh HP1).dup
 generalize w1.setCells w.heap.size 0 pkz.cells=wS at HPS HBS HES |-
 go_wp2
 refine bodyPost_ret (res_pk3 (B:=w.heap.size) (q:=pkz) rfl rfl (uh HPS)) rfl ?_
 exact dec_bad l w _ x 3 (uh HDN) (by decide) HES (uh HBS)
def rdc (q:Pkv) (ao:Option Addr) (m cap:Nat):Array Value:=#[.int .i64 q.kind,.bool q.dup,.int .i64 q.qos,.bool q.retain,.string q.topic,.int .i64 q.id,.string q.payload,q.props.val,.string q.client,.bool q.clean,.int .i64 q.keep,q.wills.val,q.user.val,q.pass.val,.int .i64 q.code,.bool q.session,q.subs.val,q.filters.val,q.codes.val,.slice ao m cap,.nilIface]
theorem reader_build (a:Act) (dst:Option Tmp) (x y:Operand) (ty:TypeId) (pos:String) (after:Array Edge) (q:Pkv) (ao:Option Addr) (m cap:Nat) (hx:a.eval x=q.val) (hy:a.eval y=.slice ao m cap) (w:World) :
  (execOp a.eval ⟨dst,.build 69 #[(0,x),(1,y)],ty,pos,after,none⟩).run Tryz.prog w=.ok (.value (.agg (rdc q ao m cap))) w:=by
 unfold execOp
 simp only[List.map_toArray,List.map_cons,List.map_nil,hx,hy]
 kernel_rfl
theorem reader_alloc (ρ:Operand->Value) (dst:Option Tmp) (ty:TypeId) (pos:String) (after:Array Edge) (w:World) :
  (execOp ρ ⟨dst,.alloc 69,ty,pos,after,none⟩).run Tryz.prog w=.ok (.value (.pointer (some ⟨w.heap.size,0,none⟩))) (w.alloc (.cells (rdc pkz none 0 0) 69)):=by
 kernel_rfl
theorem reader_size:(Tryz.prog.info? 69).map (·.size)=some 21:=by kernel_rfl
theorem rdc_one (q:Pkv) (ao:Option Addr) (m cap:Nat):(rdc q ao m cap).all (·.oneCell')=true:=by
 unfold rdc
 kernel_rfl
theorem reader_store (a:Act) (dst:Option Tmp) (x y:Operand) (ty:TypeId) (pos:String) (after:Array Edge) (q:Pkv) (ao:Option Addr) (m cap:Nat) (w:World) (hx:a.eval x=.pointer (some ⟨w.heap.size,0,none⟩)) (hy:a.eval y=.agg (rdc q ao m cap)) :
  (execOp a.eval ⟨dst,.store 69 x y,ty,pos,after,none⟩).run Tryz.prog (w.alloc (.cells (rdc pkz none 0 0) 69))=.ok .skip (w.alloc (.cells (rdc q ao m cap) 69)):=by
 show Sem.run Tryz.prog (do Instr.storeAt 69 (a.eval x) (a.eval y);pure Next.skip) _=_
 rw[hx,hy]
 simp only[Sem.run_bind]
 rw[run_storeAt_new w 69 (rdc pkz none 0 0) (rdc q ao m cap) (by rw[reader_size];rfl) rfl (rdc_one q ao m cap)]
 rfl
theorem step_value {w w':World} {ops:Array Oper} {o:Oper} {a:Act} {K:Act->World->Prop} {Q:Exit->Act->World->Prop} {E:Prop} {v:Value} (hgd:o.guard=none) (hr:(execOp a.eval o).run Tryz.prog w=.ok (.value v) w') (h:K (a.put o.dst v) w') :
  if Region.wanted o (yielded ops a.tmps)=true then Oper.wp Tryz.prog o a w K Q else E:=by
 rw[if_pos (by simp[Region.wanted,hgd])]
 unfold Oper.wp
 rw[hr]
 exact h
theorem step_skip {w w':World} {ops:Array Oper} {o:Oper} {a:Act} {K:Act->World->Prop} {Q:Exit->Act->World->Prop} {E:Prop} (hgd:o.guard=none) (hr:(execOp a.eval o).run Tryz.prog w=.ok .skip w') (h:K (a.put o.dst undef) w') :
  if Region.wanted o (yielded ops a.tmps)=true then Oper.wp Tryz.prog o a w K Q else E:=by
 rw[if_pos (by simp[Region.wanted,hgd])]
 unfold Oper.wp
 rw[hr]
 exact h
theorem rdc_cell {w:World} {q:Pkv} {ao:Option Addr} {m cap:Nat} (j:Nat) (v:Value) (h:(rdc q ao m cap)[j]?=some v):(w.alloc (.cells (rdc q ao m cap) 69)).cell? ⟨w.heap.size,j,none⟩=some v:=by
 have k:=heap_alloc_new w (.cells (rdc q ao m cap) 69)
 unfold World.cell?
 dsimp only
 rw[k]
 simpa using h
theorem rdc_pk (w:World) (q:Pkv) (ao:Option Addr) (m cap:Nat):Pk (w.alloc (.cells (rdc q ao m cap) 69)) w.heap.size q:=fun j hj=>by
 refine⟨rdc_cell j _ ?_,by simp⟩
 rw[<- cells_get q j hj]
 match j,hj with
 | 0,_=>rfl
 | 1,_=>rfl
 | 2,_=>rfl
 | 3,_=>rfl
 | 4,_=>rfl
 | 5,_=>rfl
 | 6,_=>rfl
 | 7,_=>rfl
 | 8,_=>rfl
 | 9,_=>rfl
 | 10,_=>rfl
 | 11,_=>rfl
 | 12,_=>rfl
 | 13,_=>rfl
 | 14,_=>rfl
 | 15,_=>rfl
 | 16,_=>rfl
 | 17,_=>rfl
 | 18,_=>rfl
 | n+19,h=>exact absurd h (by omega)
theorem rdc_rs (w0 w:World) (q:Pkv) (ao:Option Addr) (m cap:Nat) (l:List Int) (hb:Byt w0 (.slice ao m cap) l) (hw:Below w0.heap.size w0 w):RS w0 (w.alloc (.cells (rdc q ao m cap) 69)) w.heap.size (some l) :=
 ⟨⟨rfl,fun k hk=>by have hk:k=w.heap.size:=hk;subst hk;simp⟩,⟨q.dup,rdc_cell 1 _ rfl⟩,.slice ao m cap,l,.nilIface,⟨rdc_cell 19 _ rfl,by simp,rdc_cell 20 _ rfl,by simp⟩,hb,hw.alloc hw.size _,hw.size,.inl ⟨rfl,rfl⟩⟩
theorem RSX.bad {w0 w:World} {R:Nat} {X:Nat->Prop} (h:RSX w0 w R X none):∃ t x d n,w.cell? ⟨R,20,none⟩=some (.iface t x)/\d<=2/\Er w d (.iface t x) n:=by
 obtain⟨_,_,bv,l',E,hr,hb,_,_,hst⟩:=h
 rcases hst with⟨e,_⟩ | ⟨_,d,n,hd,he⟩
 ·cases e
 ·obtain⟨t,x,rfl⟩:=he.iface
  exact⟨t,x,d,n,hr.2.2.1,hd,he.er⟩
theorem Pk.far {w w':World} {R A:Nat} {may:Nat->Prop} {q:Pkv} (h:Pk w A q) (hx:BX R may w w') (hA:A≠R):Pk w' A q:=fun j hj =>
 have hb:=hx.block A (cell_lt (h 0 (by omega)).1) hA
 ⟨(World.cell?_of_block hb).trans (h j hj).1,(World.frozen?_of_block hb).trans (h j hj).2⟩
theorem bok_kind (b:Int) (h0:0<=b) (h1:b<=255) (h:bok b=true):1<=b / 16/\b / 16<=15:=by
 refine⟨?_,by omega⟩
 rcases Int.lt_or_le (b / 16) 1 with hk | hk
 ·have:b / 16=0:=by omega
  unfold bok bmay at h
  simp[this]at h
 ·exact hk
def PkAt (b:Int):Prop:=∀ (R:Nat) (st:Option (List Int)) (w0 w:World),RS w0 w R st->Pk w R (bpk b)->(∀ l,st=some l->l.length<=65536)->Calls Tryz.prog 28 #[.pointer (some ⟨R,0,none⟩)] w (PackPost w0 R (bpa b) st w)
theorem packet_all (R:Nat) (b:Int) (h0:0<=b) (h1:b<=255) (hb:bok b=true) (st:Option (List Int)) (w0 w:World) (h:RS w0 w R st) (hp:Pk w R (bpk b)) (hl:∀ l,st=some l->l.length<=65536):Calls Tryz.prog 28 #[.pointer (some ⟨R,0,none⟩)] w (PackPost w0 R (bpa b) st w):=by
 obtain⟨k1,k2⟩:=bok_kind b h0 h1 hb
 unfold bpk at hp
 unfold bpa
 by_cases h3:b / 16=3
 ·rw[if_pos h3]at hp |-
  exact packet_k3 R _ _ _ st w0 w h hp hl
 ·rw[if_neg h3]at hp |-
  generalize b / 16=k at k1 k2 h3 hp
  have hk:k=1\/k=2\/k=4\/k=5\/k=6\/k=7\/k=8\/k=9\/k=10\/k=11\/k=12\/k=13\/k=14\/k=15:=by omega
  rcases hk with rfl | rfl | rfl | rfl | rfl | rfl | rfl | rfl | rfl | rfl | rfl | rfl | rfl | rfl
  ·exact packet_k1 R st w0 w h hp hl
  ·exact packet_k2 R st w0 w h hp hl
  ·exact packet_k4 R st w0 w h hp hl
  ·exact packet_k5 R st w0 w h hp hl
  ·exact packet_k6 R st w0 w h hp hl
  ·exact packet_k7 R st w0 w h hp hl
  ·exact packet_k8 R st w0 w h hp hl
  ·exact packet_k9 R st w0 w h hp hl
  ·exact packet_k10 R st w0 w h hp hl
  ·exact packet_k11 R st w0 w h hp hl
  ·exact packet_k12 R st w0 w h hp hl
  ·exact packet_k13 R st w0 w h hp hl
  ·exact packet_k14 R st w0 w h hp hl
  ·exact packet_k15 R st w0 w h hp hl
theorem Mean.base {w:World} {B B':Nat} {p:Pkv} {P:Pa} (h:Mean w B p P) (hB:B'<=B):Mean w B' p P :=
 ⟨h.sc,owns_mono h.props hB,by
  obtain⟨ws,h1,h2,h3⟩:=h.wills
  exact⟨ws,owns_mono h1 hB,h2,fun i a b ha hb=>by
   obtain⟨k1,k2,k3,k4,k5⟩:=h3 i a b ha hb
   exact⟨k1,k2,k3,k4,owns_mono k5 hB⟩⟩,owns_mono h.user hB,owns_mono h.pass hB,owns_mono h.subs hB,owns_mono h.filters hB,owns_mono h.codes hB⟩
theorem owns_cells {w:World} {A:Nat} {vs:List Value} {o B:Nat} {e:TypeId} {s:Nat} {v:Value} {n:Nat} {xs:List Value} (h:w.ownsRow B e s v n xs) (hA:A < B):(w.setCells A o vs).ownsRow B e s v n xs:=by
 induction vs generalizing w o with
 | nil=>exact h
 | cons u vs ih =>
  rw[World.setCells]
  exact ih (owns_out h hA)
theorem Mean.cells {w:World} {A B:Nat} {vs:List Value} {p:Pkv} {P:Pa} (h:Mean w B p P) (hA:A < B):Mean (w.setCells A 0 vs) B p P :=
 ⟨h.sc,owns_cells h.props hA,by
  obtain⟨ws,h1,h2,h3⟩:=h.wills
  exact⟨ws,owns_cells h1 hA,h2,fun i a b ha hb=>by
   obtain⟨k1,k2,k3,k4,k5⟩:=h3 i a b ha hb
   exact⟨k1,k2,k3,k4,owns_cells k5 hA⟩⟩,owns_cells h.user hA,owns_cells h.pass hA,owns_cells h.subs hA,owns_cells h.filters hA,owns_cells h.codes hA⟩
theorem dec_flag (bl off cap:Nat) (l:List Int) (w:World) (h:Byt w (.slice (some ⟨bl,off,none⟩) l.length cap) l) (hl:l≠[]) (hok:bok (l.getD 0 0)=false):Calls Tryz.prog 7 #[.slice (some ⟨bl,off,none⟩) l.length cap] w (DecPost l w):=by
 have HPN:=zh (pk_new w pkz)
 have HBN:Hid (Below w.heap.size w (w.alloc (.cells pkz.cells.toArray 29))):=bal _ _
 have hl1:1<=l.length:=List.length_pos_iff.2 hl
 obtain⟨hc1,hc2⟩:l.length<=cap/\cap<=maxLen:=by
  obtain⟨ao',cap',e,k1,k2⟩:=h.form
  simp only[Value.slice.injEq]at e
  obtain⟨_,_,rfl⟩:=e
  exact⟨k1,k2⟩
 unfold maxLen at hc2
 have hr0:=h.range 0
 have hbl:w.cell? ⟨bl,off,none⟩=some (.int .u8 (l.getD 0 0)):=by
  obtain⟨ao',cap',e',_,_,hcase⟩:=h
  simp only[Value.slice.injEq]at e'
  obtain⟨rfl,_,rfl⟩:=e'
  rcases hcase with h0 | ⟨b',off',e2,hc⟩
  ·exact absurd h0 hl
  ·simp only[Option.some.injEq,Addr.mk.injEq]at e2
   obtain⟨rfl,rfl,_⟩:=e2
   exact hc 0 (by omega)
 have hcl:=cell_lt hbl
 have HH:=zh h
 have HL:=zh hl
 generalize hn:l.length=n at hc1 hl1 HH
 have HN:=zh hn
 obtain⟨b,hb⟩:∃ b,l.getD 0 0=b:=⟨_,rfl⟩
 rw[hb]at hr0 hbl hok
 have HB0:=zh hb
 clear h hl hn hb
 have HDN:Hid (dnum l=1):=by
  show _=_
  unfold dnum
  rw[if_neg (uh HL),uh HB0,if_pos hok]
 go_enter Tryz.func7,Tryz.ntmps7
 go_wp2_with fail
 refine (begin_any b hr0.1 hr0.2 _).mono ?_
 rintro e w1 ⟨rfl,hb1⟩
 have HP1:=zh ((uh HPN).below hb1)
 have HB1:Hid (Below w.heap.size w w1):=(uh HBN).trans (hb1.mono (uh HBN).size)
 clear hb1 HPN HBN hbl hcl
 dsimp only
 iterate 10 go_step
 refine wpList_store_mid rfl 29 _ _ rfl w.heap.size 0 (bpk b).cells.toArray rfl rfl ((uh HP1).there _) packet_size (Pkv.ones' _) ?_
 simp only[Act.put]
 have HP2:=zh ((uh HP1).stored (bpk b))
 have HB2:Hid (Below w.heap.size w (w1.setCells w.heap.size 0 (bpk b).cells)):=setCells_below (uh HB1) (Nat.le_refl _)
 generalize w1.setCells w.heap.size 0 (bpk b).cells=w2 at HP2 HB2 |-
 clear HP1 HB1
 rw[hok]
 go_wp2_with fail
 refine (pf_use 1 _).mono ?_
 rintro e w3 ⟨x,rfl,hE,hb3⟩
 have HP3:=zh ((uh HP2).below hb3)
 have HB3:Hid (Below w.heap.size w w3):=(uh HB2).trans (hb3.mono (uh HB2).size)
 clear hb3 HP2 HB2
 dsimp only
 go_step
 refine wpList_store_mid rfl 29 _ _ rfl w.heap.size 0 pkz.cells.toArray rfl rfl ((uh HP3).there _) packet_size (Pkv.ones' _) ?_
 simp only[Act.put]
 have HPS:=zh ((uh HP3).stored pkz)
 have HBS:Hid (Below w.heap.size w (w3.setCells w.heap.size 0 pkz.cells)):=setCells_below (uh HB3) (Nat.le_refl _)
 have HES:Hid (ErP (w3.setCells w.heap.size 0 pkz.cells) (.iface 118 x) 1):=erp_cells (uh hE) (uh HP3).dup
 generalize w3.setCells w.heap.size 0 pkz.cells=wS at HPS HBS HES |-
 go_wp2
 refine bodyPost_ret (res_pk3 (B:=w.heap.size) (q:=pkz) rfl rfl (uh HPS)) rfl ?_
 exact dec_bad l w _ x 1 (uh HDN) (by decide) HES (uh HBS)
theorem dec_meas (bl off cap:Nat) (l:List Int) (w:World) (h:Byt w (.slice (some ⟨bl,off,none⟩) l.length cap) l) (hl:l≠[]) (hok:bok (l.getD 0 0)=true) (hm:(meas l).2.2≠0):Calls Tryz.prog 7 #[.slice (some ⟨bl,off,none⟩) l.length cap] w (DecPost l w):=by
 have HPN:=zh (pk_new w pkz)
 have HBN:Hid (Below w.heap.size w (w.alloc (.cells pkz.cells.toArray 29))):=bal _ _
 have hl1:1<=l.length:=List.length_pos_iff.2 hl
 obtain⟨hc1,hc2⟩:l.length<=cap/\cap<=maxLen:=by
  obtain⟨ao',cap',e,k1,k2⟩:=h.form
  simp only[Value.slice.injEq]at e
  obtain⟨_,_,rfl⟩:=e
  exact⟨k1,k2⟩
 unfold maxLen at hc2
 have hr0:=h.range 0
 have hbl:w.cell? ⟨bl,off,none⟩=some (.int .u8 (l.getD 0 0)):=by
  obtain⟨ao',cap',e',_,_,hcase⟩:=h
  simp only[Value.slice.injEq]at e'
  obtain⟨rfl,_,rfl⟩:=e'
  rcases hcase with h0 | ⟨b',off',e2,hc⟩
  ·exact absurd h0 hl
  ·simp only[Option.some.injEq,Addr.mk.injEq]at e2
   obtain⟨rfl,rfl,_⟩:=e2
   exact hc 0 (by omega)
 have hcl:=cell_lt hbl
 have HH:=zh h
 have HL:=zh hl
 generalize hn:l.length=n at hc1 hl1 HH
 have HN:=zh hn
 obtain⟨b,hb⟩:∃ b,l.getD 0 0=b:=⟨_,rfl⟩
 rw[hb]at hr0 hbl hok
 have HB0:=zh hb
 clear h hl hn hb
 have HDN:Hid (dnum l=(meas l).2.2):=by
  show _=_
  unfold dnum
  rw[if_neg (uh HL),uh HB0,if_neg (by rw[hok];decide),if_pos hm]
 generalize hmm:(meas l).2.2=m at hm HDN
 have HMM:=zh hmm
 clear hmm
 go_enter Tryz.func7,Tryz.ntmps7
 go_wp2_with fail
 refine (begin_any b hr0.1 hr0.2 _).mono ?_
 rintro e w1 ⟨rfl,hb1⟩
 have HP1:=zh ((uh HPN).below hb1)
 have HB1:Hid (Below w.heap.size w w1):=(uh HBN).trans (hb1.mono (uh HBN).size)
 clear hb1 HPN HBN hbl hcl
 dsimp only
 iterate 10 go_step
 refine wpList_store_mid rfl 29 _ _ rfl w.heap.size 0 (bpk b).cells.toArray rfl rfl ((uh HP1).there _) packet_size (Pkv.ones' _) ?_
 simp only[Act.put]
 have HP2:=zh ((uh HP1).stored (bpk b))
 have HB2:Hid (Below w.heap.size w (w1.setCells w.heap.size 0 (bpk b).cells)):=setCells_below (uh HB1) (Nat.le_refl _)
 generalize w1.setCells w.heap.size 0 (bpk b).cells=w2 at HP2 HB2 |-
 clear HP1 HB1
 rw[hok]
 have HMS:=zh (measure_any (.slice (some ⟨bl,off,none⟩) n cap) l w2 ((uh HH).below (uh HB2)) (uh HL))
 go_wp2_with fail
 refine (uh HMS).mono ?_
 rintro e w3 ⟨E,rfl,hE,hb3⟩
 have HP3:=zh ((uh HP2).below hb3)
 have HB3:Hid (Below w.heap.size w w3):=(uh HB2).trans (hb3.mono (uh HB2).size)
 clear hb3 HP2 HB2 HMS
 rw[uh HMM]at hE
 rcases uh hE with⟨h0,_⟩ | ⟨_,x,d,hx,hd,he⟩
 ·exact absurd h0 hm
 ·subst hx
  have HE:Hid (ErP w3 (.iface 118 x) m):=⟨x,d,rfl,hd,he⟩
  clear he hE
  go_upto_region 8 with fail
  iterate 7 go_step
  refine wpList_store_mid rfl 29 _ _ rfl w.heap.size 0 pkz.cells.toArray rfl rfl ((uh HP3).there _) packet_size (Pkv.ones' _) ?_
  simp only[Act.put]
  have HPS:=zh ((uh HP3).stored pkz)
  have HBS:Hid (Below w.heap.size w (w3.setCells w.heap.size 0 pkz.cells)):=setCells_below (uh HB3) (Nat.le_refl _)
  have HES:Hid (ErP (w3.setCells w.heap.size 0 pkz.cells) (.iface 118 x) m):=erp_cells (uh HE) (uh HP3).dup
  generalize w3.setCells w.heap.size 0 pkz.cells=wS at HPS HBS HES |-
  go_wp2
  refine bodyPost_ret (res_pk3 (B:=w.heap.size) (q:=pkz) rfl rfl (uh HPS)) rfl ?_
  exact dec_bad l w _ x m (uh HDN) hm HES (uh HBS)
theorem meas_le (l:List Int) (h:(meas l).2.2=0):1<=(meas l).1/\(meas l).1<=(meas l).2.1/\(meas l).2.1<=l.length/\(meas l).2.1<=65536:=by
 unfold meas at h |-
 split at h
 ·contradiction
 ·split at h
  ·simp at h
  ·split at h
   ·simp at h
   ·rename_i h1 h2 h3
    rw[if_neg h1,if_neg h2,if_neg h3]
    simp only
    omega
theorem stp_none {α:Type} {f:List Int->Option (α×List Int)} {l:List Int} {x:α} (h:Stp f (some l) x none):f l=none:=by
 unfold Stp at h
 simp only at h
 cases hq:f l with
 | none=>rfl
 | some r=>rw[hq]at h;cases h.2
theorem stp_some {α:Type} {f:List Int->Option (α×List Int)} {l l':List Int} {x:α} (h:Stp f (some l) x (some l')):f l=some (x,l'):=by
 unfold Stp at h
 simp only at h
 cases hq:f l with
 | none=>rw[hq]at h;cases h
 | some r =>
  rw[hq]at h
  obtain⟨rfl,e⟩:=h
  cases e
  rfl
theorem Pk.lt {w:World} {A:Nat} {q:Pkv} (h:Pk w A q):A < w.heap.size:=cell_lt (h 0 (by omega)).1
theorem dec_body (bl off cap:Nat) (l:List Int) (w:World) (h:Byt w (.slice (some ⟨bl,off,none⟩) l.length cap) l) (hl:l≠[]) (hok:bok (l.getD 0 0)=true) (hm:(meas l).2.2=0) (HPA:Hid (PkAt (l.getD 0 0))):Calls Tryz.prog 7 #[.slice (some ⟨bl,off,none⟩) l.length cap] w (DecPost l w):=by
 have HPN:=zh (pk_new w pkz)
 have HBN:Hid (Below w.heap.size w (w.alloc (.cells pkz.cells.toArray 29))):=bal _ _
 have hl1:1<=l.length:=List.length_pos_iff.2 hl
 obtain⟨hc1,hc2⟩:l.length<=cap/\cap<=maxLen:=by
  obtain⟨ao',cap',e,k1,k2⟩:=h.form
  simp only[Value.slice.injEq]at e
  obtain⟨_,_,rfl⟩:=e
  exact⟨k1,k2⟩
 unfold maxLen at hc2
 have hr0:=h.range 0
 have hbl:w.cell? ⟨bl,off,none⟩=some (.int .u8 (l.getD 0 0)):=by
  obtain⟨ao',cap',e',_,_,hcase⟩:=h
  simp only[Value.slice.injEq]at e'
  obtain⟨rfl,_,rfl⟩:=e'
  rcases hcase with h0 | ⟨b',off',e2,hc⟩
  ·exact absurd h0 hl
  ·simp only[Option.some.injEq,Addr.mk.injEq]at e2
   obtain⟨rfl,rfl,_⟩:=e2
   exact hc 0 (by omega)
 have hcl:=cell_lt hbl
 have HH:=zh h
 have HL:=zh hl
 generalize hn:l.length=n at hc1 hl1 HH
 have HN:=zh hn
 obtain⟨b,hb⟩:∃ b,l.getD 0 0=b:=⟨_,rfl⟩
 rw[hb]at hr0 hbl hok HPA
 have HB0:=zh hb
 clear h hl hn hb
 obtain⟨hd,hhd⟩:∃ hd,hd=(meas l).1:=⟨_,rfl⟩
 obtain⟨sz,hsz⟩:∃ sz,sz=(meas l).2.1:=⟨_,rfl⟩
 have hms:=meas_le l hm
 rw[<- hhd,<- hsz]at hms
 obtain⟨hh1,hh2,hh3,hh4⟩:=hms
 have HDB:Hid (dbody l=packet? (bpa b) ((l.drop hd).take (sz - hd))):=by
  show dbody l=_
  unfold dbody
  rw[<- hhd,<- hsz,uh HB0]
 have HD1:Hid (packet? (bpa b) ((l.drop hd).take (sz - hd))=none->dnum l=1):=fun e=>by
  unfold dnum
  rw[if_neg (uh HL),uh HB0,if_neg (by rw[hok];decide),if_neg (by rw[hm];decide),uh HDB,e]
  rfl
 have HD0:Hid (∀ {P':Pa} {l':List Int},packet? (bpa b) ((l.drop hd).take (sz - hd))=some (P',l')->dnum l=0):=fun e=>by
  unfold dnum
  rw[if_neg (uh HL),uh HB0,if_neg (by rw[hok];decide),if_neg (by rw[hm];decide),uh HDB,e]
  rfl
 have HSZ:Hid (sz=(meas l).2.1):=hsz
 rw[uh HN]at hh3
 go_enter Tryz.func7,Tryz.ntmps7
 go_wp2_with fail
 refine (begin_any b hr0.1 hr0.2 _).mono ?_
 rintro e w1 ⟨rfl,hb1⟩
 have HP1:=zh ((uh HPN).below hb1)
 have HB1:Hid (Below w.heap.size w w1):=(uh HBN).trans (hb1.mono (uh HBN).size)
 clear hb1 HPN HBN hbl hcl
 dsimp only
 iterate 10 go_step
 refine wpList_store_mid rfl 29 _ _ rfl w.heap.size 0 (bpk b).cells.toArray rfl rfl ((uh HP1).there _) packet_size (Pkv.ones' _) ?_
 simp only[Act.put]
 have HP2:=zh ((uh HP1).stored (bpk b))
 have HB2:Hid (Below w.heap.size w (w1.setCells w.heap.size 0 (bpk b).cells)):=setCells_below (uh HB1) (Nat.le_refl _)
 generalize w1.setCells w.heap.size 0 (bpk b).cells=w2 at HP2 HB2 |-
 clear HP1 HB1
 rw[hok]
 have HMS:=zh (measure_any (.slice (some ⟨bl,off,none⟩) n cap) l w2 ((uh HH).below (uh HB2)) (uh HL))
 go_wp2_with fail
 refine (uh HMS).mono ?_
 rintro e w3 ⟨E,rfl,hE,hb3⟩
 have HP3:=zh ((uh HP2).below hb3)
 have HB3:Hid (Below w.heap.size w w3):=(uh HB2).trans (hb3.mono (uh HB2).size)
 clear hb3 HP2 HB2 HMS
 obtain⟨q,hq⟩:∃ q,q=bpk b:=⟨_,rfl⟩
 have HPK:Hid (∀ w4:World,RS w3 w4 w3.heap.size (some ((l.drop hd).take (sz - hd)))->Pk w4 w3.heap.size q->Calls Tryz.prog 28 #[.pointer (some ⟨w3.heap.size,0,none⟩)] w4 (PackPost w3 w3.heap.size (bpa b) (some ((l.drop hd).take (sz - hd))) w4)):=fun w4 k1 k2=>by
  rw[hq]at k2
  exact (uh HPA) _ _ _ _ k1 k2 (fun l2 e=>by
   cases e
   rw[List.length_take]
   omega)
 clear HPA
 rw[<- hq]at HP3
 rw[<- hhd,<- hsz]
 clear hq hhd hsz
 have HMID:=zh (((uh HH).below (uh HB3)).mid hd (sz - hd) (by omega))
 by_cases hcap:cap=hd
 ·have e1:hd=cap:=hcap.symm
  clear hcap
  subst e1
  have e2:hd=n:=by omega
  have e3:sz=hd:=by omega
  subst e3
  have HBY:Hid (Byt w3 (.slice (some ⟨bl,off,none⟩) 0 0) ((l.drop sz).take (sz - sz))):=by
   show Byt _ _ _
   have k:=uh HMID
   rw[if_pos rfl,Nat.sub_self]at k
   rw[Nat.sub_self]
   exact k
  clear HMID
  subst e2
  obtain⟨hE0,rfl⟩:(meas l).2.2=0/\E=.nilIface:=by
   rcases uh hE with h | ⟨h,_⟩
   ·exact h
   ·exact absurd hm h
  clear hE hE0
  have hbd3:=bel_drew w3
  have HPd:=zh ((uh HP3).below hbd3)
  have HBd:Hid (Below w.heap.size w w3.drew):=(uh HB3).trans (hbd3.mono (uh HB3).size)
  clear hbd3
  go_wp2_with fail
  refine wp_region_noPanic ?_
  refine wp_region_held_drew (S:=(fun w'=>w'.rangeAt w.heap.size 0 q.cells)) (by kernel_rfl) (uh HPd).range (fun hHeld=>?_)
  refine wpAnyH_take (i:=0) (oi:={ dst:=some 35,op:=Op.load 29 (Operand.tmp 2),type:=29,pos := "packet.go:81",after:=#[],guard:=none }) (v:=q.val) rfl (by kernel_rfl) (by kernel_rfl) (by kernel_rfl) (fun _ _ _ h=>h) (yieldsIf_load_mid (by rfl) 29 _ rfl w.heap.size 0 rfl q.cells _ (fun _ h=>h) Tryz.underlying29 rfl packet_size) (by assumption) ?_
  simp only[Act.put,List.setIfInBounds_toArray,List.set_cons_zero,List.set_cons_succ]
  refine rtk 1 (h:=?_)
  refine rtk 2 (h:=?_)
  refine rtk 3 (h:=?_)
  refine rtk 4 (h:=?_)
  refine wpAnyH_take (i:=5) (oi:={ dst:=some 40,op:=Op.build 69 #[(0,Operand.tmp 35),(1,Operand.tmp 39)],type:=69,pos := "packet.go:81",after:=#[{ on:=0,ground:=Ground.data },{ on:=4,ground:=Ground.data }],guard:=none }) (v:=.agg (rdc q (some ⟨bl,off,none⟩) 0 0)) rfl (by kernel_rfl) (by kernel_rfl) (by kernel_rfl) (fun _ _ _ h=>h) (Or.inl ⟨by rfl,fun w _=>reader_build _ _ _ _ _ _ _ q (some ⟨bl,off,none⟩) 0 0 rfl rfl w⟩) (by assumption) ?_
  simp only[Act.put,List.setIfInBounds_toArray,List.set_cons_zero,List.set_cons_succ]
  refine rcl 6 (h:=fun K hK=>?_)
  refine step_value rfl (reader_alloc _ _ _ _ _ _) ?_
  refine hK.out _ _ ((uh HPd).below (bal _ _)).range (fun hHeld=>?_)
  clear hK K
  simp only[Act.put,List.setIfInBounds_toArray,List.set_cons_zero,List.set_cons_succ]
  refine rcl 7 (h:=fun K hK=>?_)
  refine step_skip rfl (reader_store _ _ _ _ _ _ _ q (some ⟨bl,off,none⟩) 0 0 w3.drew rfl rfl) ?_
  refine hK.out _ _ ((uh HPd).below (bal _ _)).range (fun hHeld=>?_)
  clear hK K
  simp only[Act.put]
  refine wpAnyH_done (by kernel_rfl) ?_ _
  refine NoPanic.normal ?_
  have hR:w3.drew.heap.size=w3.heap.size:=rfl
  have HPR:=zh (rdc_pk w3.drew q (some ⟨bl,off,none⟩) 0 0)
  have HRS:=zh (rdc_rs w3 w3.drew q (some ⟨bl,off,none⟩) 0 0 ((l.drop sz).take (sz - sz)) (uh HBY) (bel_drew w3))
  have HPA:Hid (Pk (w3.drew.alloc (.cells (rdc q (some ⟨bl,off,none⟩) 0 0) 69)) w.heap.size q):=(uh HPd).below (bal _ _)
  have HBA:Hid (Below w.heap.size w (w3.drew.alloc (.cells (rdc q (some ⟨bl,off,none⟩) 0 0) 69))):=(uh HBd).trans ((bal _ _).mono (uh HBd).size)
  have hAR:w.heap.size < w3.heap.size:=(uh HP3).lt
  have hWs:w3.heap.size < (w3.drew.alloc (.cells (rdc q (some ⟨bl,off,none⟩) 0 0) 69)).heap.size:=by simp
  rw[hR]at HPR HRS
  generalize w3.drew.alloc (.cells (rdc q (some ⟨bl,off,none⟩) 0 0) 69)=w4 at HPR HRS HPA HBA hWs |-
  clear HPd HBd hHeld hR HP3
  go_wp2_with fail
  refine ((uh HPK) _ (uh HRS) (uh HPR)).mono ?_
  rintro e w5 ⟨rfl,p',P',st',hp5,hM5,hs5,h5,hx5⟩
  have HP5:=zh hp5
  have HS5:=zh h5
  have HST5:=zh hs5
  have HA5:=zh ((uh HPA).far hx5 (Nat.ne_of_lt hAR))
  have HB5:Hid (Below w.heap.size w w5):=(uh HBA).trans (hx5.below (Nat.le_of_lt hAR) (uh HBA).size)
  have hR5:w3.heap.size < w5.heap.size:=Nat.lt_of_lt_of_le hWs hx5.size
  have HM5:Hid (Mean w5 w3.heap.size.succ p' P'):=(uh hM5).base hWs
  clear hp5 h5 hs5 hx5 hM5 HPA HBA HPR HRS HPK
  cases st' with
  | none =>
   obtain⟨t,x,d,k,c20,hd2,he⟩:=(uh HS5).bad
   have HE5:=zh he
   clear he
   have HDN:Hid (dnum l=1):=(uh HD1) (stp_none (uh HST5))
   go_wp2_with fail
   refine (pbroken d hd2 _ k _ (uh HE5)).mono ?_
   rintro e w6 ⟨y,rfl,hE,hb6⟩
   have HP6:=zh ((uh HA5).below hb6)
   have HB6:Hid (Below w.heap.size w w6):=(uh HB5).trans (hb6.mono (uh HB5).size)
   clear hb6
   dsimp only
   go_step
   refine wpList_store_mid rfl 29 _ _ rfl w.heap.size 0 pkz.cells.toArray rfl rfl ((uh HP6).there _) packet_size (Pkv.ones' _) ?_
   simp only[Act.put]
   have HPS:=zh ((uh HP6).stored pkz)
   have HBS:Hid (Below w.heap.size w (w6.setCells w.heap.size 0 pkz.cells)):=setCells_below (uh HB6) (Nat.le_refl _)
   have HES:Hid (ErP (w6.setCells w.heap.size 0 pkz.cells) (.iface 118 y) 1):=erp_cells (uh hE) (uh HP6).dup
   generalize w6.setCells w.heap.size 0 pkz.cells=wS at HPS HBS HES |-
   go_wp2
   refine bodyPost_ret (res_pk3 (B:=w.heap.size) (q:=pkz) rfl rfl (uh HPS)) rfl ?_
   exact dec_bad l w _ y 1 (uh HDN) (by decide) HES (uh HBS)
  | some l' =>
   have hds:=stp_some (uh HST5)
   have HDN:Hid (dnum l=0):=(uh HD0) hds
   have HDS:=zh hds
   clear hds
   obtain⟨_,_,c20⟩ | ⟨hno,_⟩:=(uh HS5).err
   ·go_upto_region 13 with fail
    iterate 4 go_step
    refine wpList_load_mid rfl 29 _ rfl w3.heap.size 0 rfl p'.cells _ (uh HP5).range Tryz.underlying29 rfl packet_size ?_
    simp only[Act.put,List.setIfInBounds_toArray,List.set_cons_zero,List.set_cons_succ]
    iterate 3 go_step
    refine wpList_store_mid rfl 29 _ _ rfl w.heap.size 0 p'.cells.toArray rfl rfl ((uh HA5).there _) packet_size (Pkv.ones' _) ?_
    simp only[Act.put]
    have HPS:=zh ((uh HA5).stored p')
    have HBS:Hid (Below w.heap.size w (w5.setCells w.heap.size 0 p'.cells)):=setCells_below (uh HB5) (Nat.le_refl _)
    have HMS:Hid (Mean (w5.setCells w.heap.size 0 p'.cells) w.heap.size p' P'):=((uh HM5).cells (Nat.lt_succ_of_lt hAR)).base (Nat.le_succ_of_le (Nat.le_of_lt hAR))
    generalize w5.setCells w.heap.size 0 p'.cells=w6 at HPS HBS HMS |-
    clear c20
    go_wp2
    refine bodyPost_ret (res_pk3 (B:=w.heap.size) (q:=p') rfl rfl (uh HPS)) rfl ?_
    exact⟨p',sz,.nilIface,rfl,.inr ⟨uh HDN,(uh HSZ),rfl,P',l',(uh HDB).trans (uh HDS),HMS⟩,uh HBS⟩
   ·cases hno
 ·have HBY:Hid (Byt w3 (.slice (some ⟨bl,off+hd,none⟩) (sz - hd) (cap - hd)) ((l.drop hd).take (sz - hd))):=by
   show Byt _ _ _
   have k:=uh HMID
   rw[if_neg hcap]at k
   exact k
  clear HMID
  obtain⟨hE0,rfl⟩:(meas l).2.2=0/\E=.nilIface:=by
   rcases uh hE with h | ⟨h,_⟩
   ·exact h
   ·exact absurd hm h
  clear hE hE0
  have hbd3:=bel_drew w3
  have HPd:=zh ((uh HP3).below hbd3)
  have HBd:Hid (Below w.heap.size w w3.drew):=(uh HB3).trans (hbd3.mono (uh HB3).size)
  clear hbd3
  go_wp2_with fail
  refine wp_region_noPanic ?_
  refine wp_region_held_drew (S:=(fun w'=>w'.rangeAt w.heap.size 0 q.cells)) (by kernel_rfl) (uh HPd).range (fun hHeld=>?_)
  refine wpAnyH_take (i:=0) (oi:={ dst:=some 35,op:=Op.load 29 (Operand.tmp 2),type:=29,pos := "packet.go:81",after:=#[],guard:=none }) (v:=q.val) rfl (by kernel_rfl) (by kernel_rfl) (by kernel_rfl) (fun _ _ _ h=>h) (yieldsIf_load_mid (by rfl) 29 _ rfl w.heap.size 0 rfl q.cells _ (fun _ h=>h) Tryz.underlying29 rfl packet_size) (by assumption) ?_
  simp only[Act.put,List.setIfInBounds_toArray,List.set_cons_zero,List.set_cons_succ]
  refine rtk 1 (h:=?_)
  refine rtk 2 (h:=?_)
  refine rtk 3 (h:=?_)
  refine rtk 4 (h:=?_)
  refine wpAnyH_take (i:=5) (oi:={ dst:=some 40,op:=Op.build 69 #[(0,Operand.tmp 35),(1,Operand.tmp 39)],type:=69,pos := "packet.go:81",after:=#[{ on:=0,ground:=Ground.data },{ on:=4,ground:=Ground.data }],guard:=none }) (v:=.agg (rdc q (some ⟨bl,off+hd,none⟩) (sz - hd) (cap - hd))) rfl (by kernel_rfl) (by kernel_rfl) (by kernel_rfl) (fun _ _ _ h=>h) (Or.inl ⟨by rfl,fun w _=>reader_build _ _ _ _ _ _ _ q (some ⟨bl,off+hd,none⟩) (sz - hd) (cap - hd) rfl rfl w⟩) (by assumption) ?_
  simp only[Act.put,List.setIfInBounds_toArray,List.set_cons_zero,List.set_cons_succ]
  refine rcl 6 (h:=fun K hK=>?_)
  refine step_value rfl (reader_alloc _ _ _ _ _ _) ?_
  refine hK.out _ _ ((uh HPd).below (bal _ _)).range (fun hHeld=>?_)
  clear hK K
  simp only[Act.put,List.setIfInBounds_toArray,List.set_cons_zero,List.set_cons_succ]
  refine rcl 7 (h:=fun K hK=>?_)
  refine step_skip rfl (reader_store _ _ _ _ _ _ _ q (some ⟨bl,off+hd,none⟩) (sz - hd) (cap - hd) w3.drew rfl rfl) ?_
  refine hK.out _ _ ((uh HPd).below (bal _ _)).range (fun hHeld=>?_)
  clear hK K
  simp only[Act.put]
  refine wpAnyH_done (by kernel_rfl) ?_ _
  refine NoPanic.normal ?_
  have hR:w3.drew.heap.size=w3.heap.size:=rfl
  have HPR:=zh (rdc_pk w3.drew q (some ⟨bl,off+hd,none⟩) (sz - hd) (cap - hd))
  have HRS:=zh (rdc_rs w3 w3.drew q (some ⟨bl,off+hd,none⟩) (sz - hd) (cap - hd) ((l.drop hd).take (sz - hd)) (uh HBY) (bel_drew w3))
  have HPA:Hid (Pk (w3.drew.alloc (.cells (rdc q (some ⟨bl,off+hd,none⟩) (sz - hd) (cap - hd)) 69)) w.heap.size q):=(uh HPd).below (bal _ _)
  have HBA:Hid (Below w.heap.size w (w3.drew.alloc (.cells (rdc q (some ⟨bl,off+hd,none⟩) (sz - hd) (cap - hd)) 69))):=(uh HBd).trans ((bal _ _).mono (uh HBd).size)
  have hAR:w.heap.size < w3.heap.size:=(uh HP3).lt
  have hWs:w3.heap.size < (w3.drew.alloc (.cells (rdc q (some ⟨bl,off+hd,none⟩) (sz - hd) (cap - hd)) 69)).heap.size:=by simp
  rw[hR]at HPR HRS
  generalize w3.drew.alloc (.cells (rdc q (some ⟨bl,off+hd,none⟩) (sz - hd) (cap - hd)) 69)=w4 at HPR HRS HPA HBA hWs |-
  clear HPd HBd hHeld hR HP3
  go_wp2_with fail
  refine ((uh HPK) _ (uh HRS) (uh HPR)).mono ?_
  rintro e w5 ⟨rfl,p',P',st',hp5,hM5,hs5,h5,hx5⟩
  have HP5:=zh hp5
  have HS5:=zh h5
  have HST5:=zh hs5
  have HA5:=zh ((uh HPA).far hx5 (Nat.ne_of_lt hAR))
  have HB5:Hid (Below w.heap.size w w5):=(uh HBA).trans (hx5.below (Nat.le_of_lt hAR) (uh HBA).size)
  have hR5:w3.heap.size < w5.heap.size:=Nat.lt_of_lt_of_le hWs hx5.size
  have HM5:Hid (Mean w5 w3.heap.size.succ p' P'):=(uh hM5).base hWs
  clear hp5 h5 hs5 hx5 hM5 HPA HBA HPR HRS HPK
  cases st' with
  | none =>
   obtain⟨t,x,d,k,c20,hd2,he⟩:=(uh HS5).bad
   have HE5:=zh he
   clear he
   have HDN:Hid (dnum l=1):=(uh HD1) (stp_none (uh HST5))
   go_wp2_with fail
   refine (pbroken d hd2 _ k _ (uh HE5)).mono ?_
   rintro e w6 ⟨y,rfl,hE,hb6⟩
   have HP6:=zh ((uh HA5).below hb6)
   have HB6:Hid (Below w.heap.size w w6):=(uh HB5).trans (hb6.mono (uh HB5).size)
   clear hb6
   dsimp only
   go_step
   refine wpList_store_mid rfl 29 _ _ rfl w.heap.size 0 pkz.cells.toArray rfl rfl ((uh HP6).there _) packet_size (Pkv.ones' _) ?_
   simp only[Act.put]
   have HPS:=zh ((uh HP6).stored pkz)
   have HBS:Hid (Below w.heap.size w (w6.setCells w.heap.size 0 pkz.cells)):=setCells_below (uh HB6) (Nat.le_refl _)
   have HES:Hid (ErP (w6.setCells w.heap.size 0 pkz.cells) (.iface 118 y) 1):=erp_cells (uh hE) (uh HP6).dup
   generalize w6.setCells w.heap.size 0 pkz.cells=wS at HPS HBS HES |-
   go_wp2
   refine bodyPost_ret (res_pk3 (B:=w.heap.size) (q:=pkz) rfl rfl (uh HPS)) rfl ?_
   exact dec_bad l w _ y 1 (uh HDN) (by decide) HES (uh HBS)
  | some l' =>
   have hds:=stp_some (uh HST5)
   have HDN:Hid (dnum l=0):=(uh HD0) hds
   have HDS:=zh hds
   clear hds
   obtain⟨_,_,c20⟩ | ⟨hno,_⟩:=(uh HS5).err
   ·go_upto_region 13 with fail
    iterate 4 go_step
    refine wpList_load_mid rfl 29 _ rfl w3.heap.size 0 rfl p'.cells _ (uh HP5).range Tryz.underlying29 rfl packet_size ?_
    simp only[Act.put,List.setIfInBounds_toArray,List.set_cons_zero,List.set_cons_succ]
    iterate 3 go_step
    refine wpList_store_mid rfl 29 _ _ rfl w.heap.size 0 p'.cells.toArray rfl rfl ((uh HA5).there _) packet_size (Pkv.ones' _) ?_
    simp only[Act.put]
    have HPS:=zh ((uh HA5).stored p')
    have HBS:Hid (Below w.heap.size w (w5.setCells w.heap.size 0 p'.cells)):=setCells_below (uh HB5) (Nat.le_refl _)
    have HMS:Hid (Mean (w5.setCells w.heap.size 0 p'.cells) w.heap.size p' P'):=((uh HM5).cells (Nat.lt_succ_of_lt hAR)).base (Nat.le_succ_of_le (Nat.le_of_lt hAR))
    generalize w5.setCells w.heap.size 0 p'.cells=w6 at HPS HBS HMS |-
    clear c20
    go_wp2
    refine bodyPost_ret (res_pk3 (B:=w.heap.size) (q:=p') rfl rfl (uh HPS)) rfl ?_
    exact⟨p',sz,.nilIface,rfl,.inr ⟨uh HDN,(uh HSZ),rfl,P',l',(uh HDB).trans (uh HDS),HMS⟩,uh HBS⟩
   ·cases hno
theorem decode_k (v:Value) (l:List Int) (w:World) (h:Byt w v l) (HP:bok (l.getD 0 0)=true->PkAt (l.getD 0 0)):Calls Tryz.prog 7 #[v] w (DecPost l w):=by
 by_cases hl:l=[]
 ·subst hl
  obtain⟨ao,cap,rfl,_⟩:=h.form
  exact dec_nil ao cap w
 ·obtain⟨b,off,cap,rfl,_⟩:=h.form1 (List.length_pos_iff.2 hl)
  cases hok:bok (l.getD 0 0)
  ·exact dec_flag b off cap l w h hl hok
  ·by_cases hm:(meas l).2.2=0
   ·exact dec_body b off cap l w h hl hok hm (HP hok)
   ·exact dec_meas b off cap l w h hl hok hm
theorem decode_any (v:Value) (l:List Int) (w:World) (h:Byt w v l):Calls Tryz.prog 7 #[v] w (DecPost l w) :=
 decode_k v l w h fun hok R st w0 w1 h1 h2 h3=>packet_all R _ (h.range 0).1 (h.range 0).2 hok st w0 w1 h1 h2 h3
theorem infoWill:(Tryz.prog.info? 112).map (fun i=>(i.zero,i.size,i.bytes))=some (some (.agg #[.string ⟨#[]⟩,.string ⟨#[]⟩,.int .i64 0,.bool false,.slice none 0 0]),5,72):=by kernel_rfl
def spT (o:Option Nat) (k:Nat) (t:TypeId):Prop:=t=109\/(t=112/\some k=o)\/t=9\/t=114\/t=3
theorem wnew_one:∀ u ∈ [Value.string ⟨#[]⟩,.string ⟨#[]⟩,.int .i64 0,.bool false,.slice none 0 0],u.oneCell'=true:=by
 intro u hu
 simp only[List.mem_cons,List.not_mem_nil,or_false]at hu
 rcases hu with rfl | rfl | rfl | rfl | rfl <;> rfl
theorem will_ne:¬ ((112:TypeId)=109):=by decide
theorem wills_sp (B:Nat) (v:Value) (n:Nat) (ws:List Wv) (w:World) (hB:B<=w.heap.size) (hn:n<=1000000) (h:w.ownsRow B 112 5 v n (wcs ws)) (hp:∀ (i:Nat) (u:Wv),ws[i]?=some u->∃ m,m<=1000000/\OwnE w B 109 4 u.props.val m):Calls Tryz.prog 39 #[v] w fun e w'=>e=.returned (.tuple #[])/\SF B (fun k t=>t=109\/(t=112/\some k=v.ownBlock)) w w':=by
 obtain⟨i0,hi,hz0,hz1,hz2⟩:=info_parts infoWill
 have hwl:ws.length=n:=by have:=h.1;rw[wcs_length]at this;omega
 have hv:(v=.slice none 0 0/\n=0)\/∃ g cap,v=.slice (some ⟨g,0,none⟩) n cap:=by
  rcases h.2 with h1 | ⟨g,cap,_,h1,_⟩
  ·exact .inl h1
  ·exact .inr ⟨g,cap,h1⟩
 rcases hv with⟨rfl,rfl⟩ | ⟨g,cap,rfl⟩
 ·clear h hp hwl
  go_enter Tryz.func39,Tryz.ntmps39
  go_wp2
  refine wp_loop_rounds 1 ?_
  rw[rounds_succ]
  have HAPP:Hid (∀ ty,∃ v' w',(Builtin.append_ #[24,24] ty #[.slice none 0 0,.slice (some ⟨w.heap.size,0,none⟩) 1 1]).run Tryz.prog (w.alloc (.cells #[.string ⟨#[]⟩,.string ⟨#[]⟩,.int .i64 0,.bool false,.slice none 0 0] 112))=.ok v' w'/\SF B (fun k t=>t=109\/(t=112/\some k=Value.ownBlock (.slice none 0 0))) w w'):=fun ty=>by
   obtain⟨v',w',h1,h2⟩:=app_sf (B:=B) (T:=fun k t=>t=109\/(t=112/\some k=Value.ownBlock (.slice none 0 0))) (w.alloc (.cells #[.string ⟨#[]⟩,.string ⟨#[]⟩,.int .i64 0,.bool false,.slice none 0 0] 112)) 24 ty 112 i0 _ 5 72 Tryz.underlying24 hi hz0 hz1 hz2 rfl (by decide) (.slice none 0 0) 0 ⟨[],World.ownsRow_nil _ _ _ _⟩ ⟨w.heap.size,0,none⟩ 1 [.string ⟨#[]⟩,.string ⟨#[]⟩,.int .i64 0,.bool false,.slice none 0 0] rfl (five_cell _ _ _ _ _ _ _) wnew_one hn (by decide) (by simp;omega) (fun _ h=>.inr ⟨rfl,h.symm⟩)
   exact⟨v',w',h1,(SF.bel (bal _ _) hB).trans h2⟩
  go_wp2_with (first
   | (at_builtin;refine wpList_append_run _ (Z:=fun _ w'=>SF B (fun k t=>t=109\/(t=112/\some k=Value.ownBlock (.slice none 0 0))) w w') rfl _ _ 24 24 rfl _ _ rfl rfl ((uh HAPP) _) ?_)
   | go_in)
  intro v' w1 hsf
  have HSF:=zh hsf
  clear hsf HAPP
  go_wp2
  go_end0
  exact⟨rfl,uh HSF⟩
 ·have HO:=zh h
  have HP:=zh hp
  have HWL:=zh hwl
  clear h hp hwl
  go_enter Tryz.func39,Tryz.ntmps39
  go_wp2
  go_loopw [2] (fun i wr=>∃ (k:Nat) (ys:List Value),k<=n/\i=.int .i64 k/\Hid (SF B (fun k t=>t=109\/(t=112/\some k=Value.ownBlock (.slice (some ⟨g,0,none⟩) n cap))) w wr)/\Hid (wr.ownsRow B 112 5 (.slice (some ⟨g,0,none⟩) n cap) n ys)/\Hid (∀ j,k * 5<=j->ys[j]?=(wcs ws)[j]?)) (fun i _=>n - (intOf i).toNat)
  case atStart=>exact⟨0,wcs ws,Nat.zero_le _,rfl,SF.refl _ _ _,HO,fun _ _=>rfl⟩
  case round =>
   obtain⟨k,ys,hk,rfl,HSF,HY,HYS⟩:=hrel
   by_cases hlt:k < n
   ·obtain⟨u,hu⟩:∃ u,ws[k]?=some u:=⟨_,List.getElem?_eq_getElem (by rw[uh HWL];exact hlt)⟩
    obtain⟨m,hm,ho⟩:=(uh HP) k u hu
    obtain⟨ut,up,uq,ur,⟨pa,pn,pc⟩⟩:=u
    have c4:wr.cell? ⟨g,k * 5+4,none⟩=some (.slice pa pn pc):=by
     rw[(uh HY).cellAt (k * 5+4) (by omega),(uh HYS) (k * 5+4) (by omega),wcs_get ws k _ hu 4 (by omega)]
     rfl
    have HO2:=zh (ho.sf (uh HSF))
    have hBr:B<=wr.heap.size:=Nat.le_trans hB (uh HSF).size
    have HPS:=zh (props_sp B (.slice pa pn pc) m wr hBr hm (uh HO2))
    clear ho hu
    go_wp2_with fail
    refine (uh HPS).mono ?_
    rintro e w2 ⟨rfl,hsf⟩
    have HSF2:Hid (SF B (fun k t=>t=109\/(t=112/\some k=Value.ownBlock (.slice (some ⟨g,0,none⟩) n cap))) w w2):=(uh HSF).trans (hsf.weak (fun _ _ h=>.inl h))
    have HY2:Hid (w2.ownsRow B 112 5 (.slice (some ⟨g,0,none⟩) n cap) n ys):=owns_sf (uh HY) hsf (fun _ _=>will_ne)
    have hE:OwnE w2 B 112 5 (.slice (some ⟨g,0,none⟩) n cap) n:=⟨ys,uh HY2⟩
    have HG:Hid (SFg B (fun k t=>t=109\/(t=112/\some k=Value.ownBlock (.slice (some ⟨g,0,none⟩) n cap))) w w2 g 112):=⟨uh HSF2,hE.blk.1,.inr ⟨rfl,rfl⟩,hE.blk.2⟩
    obtain⟨⟨v0,d0⟩,f0⟩:=hE.cell (k * 5) (by omega)
    obtain⟨⟨v1,d1⟩,f1⟩:=hE.cell (k * 5+1) (by omega)
    obtain⟨⟨v2,d2⟩,f2⟩:=hE.cell (k * 5+2) (by omega)
    obtain⟨⟨v3,d3⟩,f3⟩:=hE.cell (k * 5+3) (by omega)
    obtain⟨⟨v4,d4⟩,f4⟩:=hE.cell (k * 5+4) (by omega)
    clear hsf hE HPS HO2 HSF HY c4
    go_wp2
    go_roundw
    case rel =>
     have hs:=(((((uh HY2).stored (k * 5) (.string ⟨#[115,112,111,105,108,116]⟩)).1.stored (k * 5+1) (.string ⟨#[]⟩)).1.stored (k * 5+2) (.int .i64 0)).1.stored (k * 5+3) (.bool false)).1.stored (k * 5+4) (.slice none 0 0)
     refine⟨k+1,_,by omega,by go_num,(((((uh HG).set _ _).set _ _).set _ _).set _ _ |>.set _ _).1,hs.1,fun j hj=>?_⟩
     rw[List.getElem?_set_ne (by omega),List.getElem?_set_ne (by omega),List.getElem?_set_ne (by omega),List.getElem?_set_ne (by omega),List.getElem?_set_ne (by omega)]
     exact (uh HYS) j (by omega)
    case measure=>simp[intOf];omega
   ·have HAPP:Hid (∀ ty,∃ v' w',(Builtin.append_ #[24,24] ty #[.slice (some ⟨g,0,none⟩) n cap,.slice (some ⟨wr.heap.size,0,none⟩) 1 1]).run Tryz.prog (wr.alloc (.cells #[.string ⟨#[]⟩,.string ⟨#[]⟩,.int .i64 0,.bool false,.slice none 0 0] 112))=.ok v' w'/\SF B (fun k t=>t=109\/(t=112/\some k=Value.ownBlock (.slice (some ⟨g,0,none⟩) n cap))) w w'):=fun ty=>by
     obtain⟨v',w',h1,h2⟩:=app_sf (B:=B) (T:=fun k t=>t=109\/(t=112/\some k=Value.ownBlock (.slice (some ⟨g,0,none⟩) n cap))) (wr.alloc (.cells #[.string ⟨#[]⟩,.string ⟨#[]⟩,.int .i64 0,.bool false,.slice none 0 0] 112)) 24 ty 112 i0 _ 5 72 Tryz.underlying24 hi hz0 hz1 hz2 rfl (by decide) (.slice (some ⟨g,0,none⟩) n cap) n ⟨ys,(uh HY).alloc _⟩ ⟨wr.heap.size,0,none⟩ 1 [.string ⟨#[]⟩,.string ⟨#[]⟩,.int .i64 0,.bool false,.slice none 0 0] rfl (five_cell _ _ _ _ _ _ _) wnew_one hn (by decide) (by have:=(uh HSF).size;simp;omega) (fun _ h=>.inr ⟨rfl,h.symm⟩)
     exact⟨v',w',h1,((uh HSF).trans (SF.bel (bal _ _) (Nat.le_trans hB (uh HSF).size))).trans h2⟩
    clear HY HYS
    go_wp2_with (first
     | (at_builtin;refine wpList_append_run _ (Z:=fun _ w'=>SF B (fun k t=>t=109\/(t=112/\some k=Value.ownBlock (.slice (some ⟨g,0,none⟩) n cap))) w w') rfl _ _ 24 24 rfl _ _ rfl rfl ((uh HAPP) _) ?_)
     | go_in)
    intro v' w1 hsf
    have HSF1:=zh hsf
    clear hsf HAPP
    go_wp2
    go_end0
    exact⟨rfl,uh HSF1⟩
structure Lts (P:Pa):Prop where
 props:P.props.length<=32
 wills:P.wills.length<=1
 wp:∀ u ∈ P.wills,u.props.length<=32
 user:P.user.length<=1
 pass:P.pass.length<=1
 subs:P.subs.length<=16
 filters:P.filters.length<=16
 codes:P.codes.length<=16
theorem pk_block {w:World} {A:Nat} {q:Pkv} (h:w.heap[A]?=some (Obj.cells q.cells.toArray 29 (0,0))):Pk w A q:=fun j hj=>by
 refine⟨?_,by unfold World.frozen?;rw[h];simp⟩
 unfold World.cell?
 dsimp only
 rw[h]
 simpa using cells_get q j hj
theorem pk_ne (o:Option Nat) (k:Nat):¬ spT o k 29:=by
 rintro (h | ⟨h,_⟩ | h | h | h) <;> exact absurd h (by decide)
structure SpOk (w:World) (B:Nat) (q:Pkv):Prop where
 props:∃ n,n<=1000000/\OwnE w B 109 4 q.props.val n
 wills:∃ ws n,n<=1000000/\w.ownsRow B 112 5 q.wills.val n (wcs ws)/\∀ (i:Nat) (u:Wv),ws[i]?=some u->∃ m,m<=1000000/\OwnE w B 109 4 u.props.val m
 user:∃ n,n<=1000000/\OwnE w B 9 1 q.user.val n
 pass:∃ n,n<=1000000/\OwnE w B 9 1 q.pass.val n
 subs:∃ n,n<=1000000/\OwnE w B 114 5 q.subs.val n
 filters:∃ n,n<=1000000/\OwnE w B 9 1 q.filters.val n
 codes:∃ n,n<=1000000/\OwnE w B 3 1 q.codes.val n
theorem own_sf {w w':World} {B:Nat} {e:TypeId} {s:Nat} {v:Value} {T:Nat->TypeId->Prop} (h:∃ n,n<=1000000/\OwnE w B e s v n) (k:SF B T w w'):∃ n,n<=1000000/\OwnE w' B e s v n:=by
 obtain⟨n,h1,h2⟩:=h
 exact⟨n,h1,h2.sf k⟩
theorem SpOk.sf {w w':World} {B:Nat} {q:Pkv} {T:Nat->TypeId->Prop} (h:SpOk w B q) (k:SF B T w w') (ht:∀ g,q.wills.val.ownBlock=some g->¬ T g 112):SpOk w' B q:=by
 refine⟨own_sf h.props k,?_,own_sf h.user k,own_sf h.pass k,own_sf h.subs k,own_sf h.filters k,own_sf h.codes k⟩
 obtain⟨ws,n,h1,h2,h3⟩:=h.wills
 exact⟨ws,n,h1,owns_sf h2 k ht,fun i u hu=>own_sf (h3 i u hu) k⟩
theorem Mean.spok {w:World} {B:Nat} {q:Pkv} {P:Pa} (h:Mean w B q P) (hl:Lts P):SpOk w B q:=by
 refine⟨⟨_,by have:=hl.props;omega,_,h.props⟩,?_,⟨_,by have:=hl.user;omega,_,h.user⟩,⟨_,by have:=hl.pass;omega,_,h.pass⟩,⟨_,by have:=hl.subs;omega,_,h.subs⟩,⟨_,by have:=hl.filters;omega,_,h.filters⟩,⟨_,by have:=hl.codes;omega,_,h.codes⟩⟩
 obtain⟨ws,k1,k2,k3⟩:=h.wills
 refine⟨ws,_,by have:=hl.wills;omega,k1,fun i u hu=>?_⟩
 have hi:i < ws.length:=(List.getElem?_eq_some_iff.1 hu).1
 obtain⟨x,hx⟩:∃ x,P.wills[i]?=some x:=⟨_,List.getElem?_eq_getElem (by rw[<- k2];exact hi)⟩
 have hmem:x ∈ P.wills:=List.mem_of_getElem? hx
 exact⟨x.props.length,by have:=hl.wp x hmem;omega,_,(k3 i u x hu hx).2.2.2.2⟩
theorem packet_sf (B:Nat) (q:Pkv) (w:World) (hB:B<=w.heap.size) (h:SpOk w B q):Calls Tryz.prog 12 #[q.val] w fun e w'=>e=.returned (.tuple #[])/\SF B (spT q.wills.val.ownBlock) w w':=by
 have HAL:Hid (SF B (spT q.wills.val.ownBlock) w (w.alloc (.cells q.cells.toArray 29))):=SF.bel (bal _ _) hB
 have HALb:Hid (Below w.heap.size w (w.alloc (.cells q.cells.toArray 29))):=bal _ _
 have HBX:Hid ((w.alloc (.cells q.cells.toArray 29)).heap[w.heap.size]?=some (Obj.cells q.cells.toArray 29 (0,0))):=Array.getElem?_push_size
 have HM:=zh h
 clear h
 go_enter Tryz.func12,Tryz.ntmps12
 go_upto_region 1 with fail
 change Code.wp _ _ _ _ (w.alloc (.cells q.cells.toArray 29))
 generalize w.alloc (.cells q.cells.toArray 29)=w0 at HAL HALb HBX |-
 have c0:=(pk_block (uh HBX)).props
 have hB0:B<=w0.heap.size:=Nat.le_trans hB (uh HAL).size
 obtain⟨n0,ho0⟩:=own_sf (uh HM).props (uh HAL)
 have HC0:=zh (props_sp B _ n0 w0 hB0 ho0.1 ho0.2)
 clear ho0
 go_wp2_with fail
 refine (uh HC0).mono ?_
 rintro e w1 ⟨rfl,hsf⟩
 have HS1:Hid (SF B (spT q.wills.val.ownBlock) w w1):=(uh HAL).trans (hsf.weak (fun _ _ h=>.inl h))
 have HX1:Hid (w1.heap[w.heap.size]?=some (Obj.cells q.cells.toArray 29 (0,0))):=(hsf.weak (T':=spT q.wills.val.ownBlock) (fun _ _ h=>.inl h)).same _ _ _ (uh HBX) (pk_ne _ _)
 have HS1p:Hid (SF B (fun _ t=>t=109) w w1):=(SF.bel (uh HALb) hB).trans hsf
 clear hsf c0 HC0
 have c1:=(pk_block (uh HX1)).wills
 have hB1:B<=w1.heap.size:=Nat.le_trans hB (uh HS1).size
 have HC1:Hid (Calls Tryz.prog 39 #[q.wills.val] w1 fun e w'=>e=.returned (.tuple #[])/\SF B (fun k t=>t=109\/(t=112/\some k=q.wills.val.ownBlock)) w1 w'):=by
  obtain⟨ws,n,k1,k2,k3⟩:=(uh HM).wills
  exact wills_sp B _ n ws w1 hB1 k1 (owns_sf k2 (uh HS1p) (fun _ _=>will_ne)) (fun i u hu=>own_sf (k3 i u hu) (uh HS1))
 go_wp2_with fail
 refine (uh HC1).mono ?_
 rintro e w2 ⟨rfl,hsf⟩
 have HS2:Hid (SF B (spT q.wills.val.ownBlock) w w2):=(uh HS1).trans (hsf.weak (fun _ _ h=>h.elim (fun h=>.inl h) (fun h=>.inr (.inl h))))
 have HX2:Hid (w2.heap[w.heap.size]?=some (Obj.cells q.cells.toArray 29 (0,0))):=(hsf.weak (T':=spT q.wills.val.ownBlock) (fun _ _ h=>h.elim (fun h=>.inl h) (fun h=>.inr (.inl h)))).same _ _ _ (uh HX1) (pk_ne _ _)
 clear hsf c1 HC1
 have c2:=(pk_block (uh HX2)).user
 have hB2:B<=w2.heap.size:=Nat.le_trans hB (uh HS2).size
 obtain⟨n2,ho2⟩:=own_sf (uh HM).user (uh HS2)
 have HC2:=zh (strings_sp B _ n2 w2 hB2 ho2.1 ho2.2)
 clear ho2
 go_wp2_with fail
 refine (uh HC2).mono ?_
 rintro e w3 ⟨rfl,hsf⟩
 have HS3:Hid (SF B (spT q.wills.val.ownBlock) w w3):=(uh HS2).trans (hsf.weak (fun _ _ h=>.inr (.inr (.inl h))))
 have HX3:Hid (w3.heap[w.heap.size]?=some (Obj.cells q.cells.toArray 29 (0,0))):=(hsf.weak (T':=spT q.wills.val.ownBlock) (fun _ _ h=>.inr (.inr (.inl h)))).same _ _ _ (uh HX2) (pk_ne _ _)
 clear hsf c2 HC2
 have c3:=(pk_block (uh HX3)).pass
 have hB3:B<=w3.heap.size:=Nat.le_trans hB (uh HS3).size
 obtain⟨n3,ho3⟩:=own_sf (uh HM).pass (uh HS3)
 have HC3:=zh (strings_sp B _ n3 w3 hB3 ho3.1 ho3.2)
 clear ho3
 go_wp2_with fail
 refine (uh HC3).mono ?_
 rintro e w4 ⟨rfl,hsf⟩
 have HS4:Hid (SF B (spT q.wills.val.ownBlock) w w4):=(uh HS3).trans (hsf.weak (fun _ _ h=>.inr (.inr (.inl h))))
 have HX4:Hid (w4.heap[w.heap.size]?=some (Obj.cells q.cells.toArray 29 (0,0))):=(hsf.weak (T':=spT q.wills.val.ownBlock) (fun _ _ h=>.inr (.inr (.inl h)))).same _ _ _ (uh HX3) (pk_ne _ _)
 clear hsf c3 HC3
 have c4:=(pk_block (uh HX4)).subs
 have hB4:B<=w4.heap.size:=Nat.le_trans hB (uh HS4).size
 obtain⟨n4,ho4⟩:=own_sf (uh HM).subs (uh HS4)
 have HC4:=zh (subs_sp B _ n4 w4 hB4 ho4.1 ho4.2)
 clear ho4
 go_wp2_with fail
 refine (uh HC4).mono ?_
 rintro e w5 ⟨rfl,hsf⟩
 have HS5:Hid (SF B (spT q.wills.val.ownBlock) w w5):=(uh HS4).trans (hsf.weak (fun _ _ h=>.inr (.inr (.inr (.inl h)))))
 have HX5:Hid (w5.heap[w.heap.size]?=some (Obj.cells q.cells.toArray 29 (0,0))):=(hsf.weak (T':=spT q.wills.val.ownBlock) (fun _ _ h=>.inr (.inr (.inr (.inl h))))).same _ _ _ (uh HX4) (pk_ne _ _)
 clear hsf c4 HC4
 have c5:=(pk_block (uh HX5)).filters
 have hB5:B<=w5.heap.size:=Nat.le_trans hB (uh HS5).size
 obtain⟨n5,ho5⟩:=own_sf (uh HM).filters (uh HS5)
 have HC5:=zh (strings_sp B _ n5 w5 hB5 ho5.1 ho5.2)
 clear ho5
 go_wp2_with fail
 refine (uh HC5).mono ?_
 rintro e w6 ⟨rfl,hsf⟩
 have HS6:Hid (SF B (spT q.wills.val.ownBlock) w w6):=(uh HS5).trans (hsf.weak (fun _ _ h=>.inr (.inr (.inl h))))
 have HX6:Hid (w6.heap[w.heap.size]?=some (Obj.cells q.cells.toArray 29 (0,0))):=(hsf.weak (T':=spT q.wills.val.ownBlock) (fun _ _ h=>.inr (.inr (.inl h)))).same _ _ _ (uh HX5) (pk_ne _ _)
 clear hsf c5 HC5
 have c6:=(pk_block (uh HX6)).codes
 have hB6:B<=w6.heap.size:=Nat.le_trans hB (uh HS6).size
 obtain⟨n6,ho6⟩:=own_sf (uh HM).codes (uh HS6)
 have HC6:=zh (numbers_sp B _ n6 w6 hB6 ho6.1 ho6.2)
 clear ho6
 go_wp2_with fail
 refine (uh HC6).mono ?_
 rintro e w7 ⟨rfl,hsf⟩
 have HS7:Hid (SF B (spT q.wills.val.ownBlock) w w7):=(uh HS6).trans (hsf.weak (fun _ _ h=>.inr (.inr (.inr (.inr h)))))
 have HX7:Hid (w7.heap[w.heap.size]?=some (Obj.cells q.cells.toArray 29 (0,0))):=(hsf.weak (T':=spT q.wills.val.ownBlock) (fun _ _ h=>.inr (.inr (.inr (.inr h))))).same _ _ _ (uh HX6) (pk_ne _ _)
 clear hsf c6 HC6
 go_wp2
 go_end0
 exact⟨rfl,uh HS7⟩
theorem packet_sp (B:Nat) (q:Pkv) (P:Pa) (w:World) (hB:B<=w.heap.size) (h:Mean w B q P) (hl:Lts P):Calls Tryz.prog 12 #[q.val] w fun e w'=>e=.returned (.tuple #[])/\Below B w w':=by
 refine (packet_sf B q w hB (h.spok hl)).mono ?_
 rintro e w' ⟨rfl,hs⟩
 exact⟨rfl,hs.below⟩
end Go.Proofs.YtpheelbbpiieiaaGreatDoor.K
