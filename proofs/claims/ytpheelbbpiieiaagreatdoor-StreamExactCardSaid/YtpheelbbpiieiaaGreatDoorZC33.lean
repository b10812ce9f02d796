/- Proved here: helpers, one text behind the other. -/
import Derived.Deep.Cut
import Derived.Test.YtpheelbbpiieiaaGreatDoorZC32
set_option maxHeartbeats 20000000
namespace Go.Proofs.YtpheelbbpiieiaaGreatDoor.K
open Go.RowKit
set_option maxRecDepth 100000
def hnum (lim:Int) (l:List Int):Int:=if l=[] then 3 else if bok (l.getD 0 0)=false then 1 else if (V.vget (l.drop 1)).2.2≠0 then (V.vget (l.drop 1)).2.2 else if lim < ((1+ghd (l.drop 1)+(gid (l.drop 1)).toNat:Nat):Int) then 2 else 0
def HeadPost (lim:Int) (l:List Int) (w:World) (e:Ending) (w':World):Prop :=
 ∃ (q:Pkv) (a n:Nat),e=.returned (.tuple #[q.val,.int .i64 a,.int .i64 n,.int .i64 (hnum lim l)])/\(hnum lim l=0->q=bpk (l.getD 0 0)/\a=1+ghd (l.drop 1)/\n=(gid (l.drop 1)).toNat)/\Below w.heap.size w w'
theorem res_pk4 {fn:Func} {a t u v:Tmp} (h:fn.results=#[.cell a 29,.tmp t,.tmp u,.tmp v]) {tmps:Array Value} {w:World} {B:Nat} {q:Pkv} (ha:tmps[a]?.getD undef=.pointer (some ⟨B,0,none⟩)) (hq:Pk w B q):(results fn tmps).run Tryz.prog w=.ok (.tuple #[q.val,tmps[t]?.getD undef,tmps[u]?.getD undef,tmps[v]?.getD undef]) w:=by
 have k:=run_loadVar_mid (P:=Tryz.prog) w B 0 29 q.cells _ hq.range Tryz.underlying29 rfl packet_size
 simp[results,h,ha,asAddr,k]
 rfl
theorem packet_build1 (a:Act) (dst:Option Tmp) (x:Operand) (ty:TypeId) (pos:String) (after:Array Edge) (k:Int) (hx:a.eval x=.int .i64 k) (w:World) :
  (execOp a.eval ⟨dst,.build 29 #[(0,x)],ty,pos,after,none⟩).run Tryz.prog w=.ok (.value (pk0 k false 0 false).val) w:=by
 unfold execOp
 simp only[List.map_toArray,List.map_cons,List.map_nil,hx]
 kernel_rfl
theorem packet_alloc (ρ:Operand->Value) (dst:Option Tmp) (ty:TypeId) (pos:String) (after:Array Edge) (w:World) :
  (execOp ρ ⟨dst,.alloc 29,ty,pos,after,none⟩).run Tryz.prog w=.ok (.value (.pointer (some ⟨w.heap.size,0,none⟩))) (w.alloc (.cells pkz.cells.toArray 29)):=by
 kernel_rfl
theorem packet_store (a:Act) (dst:Option Tmp) (x y:Operand) (ty:TypeId) (pos:String) (after:Array Edge) (q:Pkv) (w:World) (hx:a.eval x=.pointer (some ⟨w.heap.size,0,none⟩)) (hy:a.eval y=q.val) :
  (execOp a.eval ⟨dst,.store 29 x y,ty,pos,after,none⟩).run Tryz.prog (w.alloc (.cells pkz.cells.toArray 29))=.ok .skip (w.alloc (.cells q.cells.toArray 29)):=by
 show Sem.run Tryz.prog (do Instr.storeAt 29 (a.eval x) (a.eval y);pure Next.skip) _=_
 rw[hx,hy,show q.val=.agg q.cells.toArray from rfl]
 simp only[Sem.run_bind]
 rw[run_storeAt_new w 29 pkz.cells.toArray q.cells.toArray (by rw[packet_size];rfl) rfl (Pkv.ones' q)]
 rfl
theorem head_nil (ao:Option Addr) (cap:Nat) (lim:Int) (w:World):Calls Tryz.prog 30 #[.slice ao 0 cap,.int .i64 lim] w (HeadPost lim [] w):=by
 have HPN:=zh (pk_new w pkz)
 have HBN:Hid (Below w.heap.size w (w.alloc (.cells pkz.cells.toArray 29))):=bal _ _
 have hdn:hnum lim []=3:=by unfold hnum;rw[if_pos rfl]
 obtain⟨l,hl⟩:∃ l:List Int,l=[]:=⟨_,rfl⟩
 rw[<- hl]at hdn |-
 have HDN:=zh hdn
 clear hdn hl
 go_enter Tryz.func30,Tryz.ntmps30
 go_upto_region 2 with fail
 change Code.wp _ _ _ _ (w.alloc (.cells pkz.cells.toArray 29))
 generalize w.alloc (.cells pkz.cells.toArray 29)=w1 at HPN HBN |-
 iterate 4 go_step
 refine wpList_store_mid rfl 29 _ _ rfl w.heap.size 0 pkz.cells.toArray rfl rfl ((uh HPN).there _) packet_size (Pkv.ones' _) ?_
 simp only[Act.put]
 have HPS:=zh ((uh HPN).stored pkz)
 have HBS:Hid (Below w.heap.size w (w1.setCells w.heap.size 0 pkz.cells)):=setCells_below (uh HBN) (Nat.le_refl _)
 generalize w1.setCells w.heap.size 0 pkz.cells=w2 at HPS HBS |-
 go_wp2
 refine bodyPost_ret (res_pk4 (B:=w.heap.size) (q:=pkz) rfl rfl (uh HPS)) rfl ?_
 exact⟨pkz,0,0,by rw[uh HDN];rfl,fun h=>absurd ((uh HDN).symm.trans h) (by decide),uh HBS⟩
theorem wpList_wanted {P:Program} {ops:Array Oper} {Q:Exit->Act->World->Prop} {a:Act} {w:World} {rest:List Oper} {o:Oper} (hw:Region.wanted o (yielded ops a.tmps)=true) (h:∀ K:Act->World->Prop,(∀ a w,wpList P ops Q rest a w->K a w)->o.wp P a w K Q):wpList P ops Q (o :: rest) a w :=
 wpList_step fun K hK=>by rw[if_pos hw];exact h K hK
def HeadR (l:List Int) (s10 s11 s12:Value):Prop :=
 (∃ a b m:Int,m≠0/\(V.vget l).2.2=m/\s10=.int .i64 a/\s11=.int .i64 b/\s12=.int .i64 m)\/(∃ N K:Nat,gid l=N/\ghd l=K/\K<=4/\N<=268435455/\(V.vget l).2.2=0/\s10=.int .i64 N/\s11=.int .i64 K/\s12=.int .i64 0)
theorem headR_any (v:Value) (l:List Int) (w:World) (h:Byt w v l):Calls Tryz.prog 60 #[v] w fun e w'=>∃ a b m:Int,e=.returned (.tuple #[.int .i64 a,.int .i64 b,.int .i64 m])/\Hid (HeadR l (.int .i64 a) (.int .i64 b) (.int .i64 m))/\Below w.heap.size w w':=by
 by_cases hv:(V.vget l).2.2=0
 ·obtain⟨hv',h1,h2,h3,h4,h5⟩:=vget_is l h.range hv
  have hQ4:=ghd_le l h2 h5
  obtain⟨N,hN⟩:∃ N:Nat,gid l=N:=⟨(gid l).toNat,by omega⟩
  refine (rvget_good v l w h N (ghd l) (by rw[hv',hN])).mono ?_
  rintro e w' ⟨rfl,hb⟩
  exact⟨N,ghd l,0,rfl,.inr ⟨N,ghd l,hN,rfl,hQ4,by omega,hv,rfl,rfl,rfl⟩,hb⟩
 ·refine (rvget_fail v l w h _ rfl).mono ?_
  rintro e w' ⟨a,b,rfl,hb⟩
  exact⟨a,b,_,rfl,.inl ⟨a,b,_,hv,rfl,rfl,rfl,rfl⟩,hb⟩
theorem bok_is (b:Int) (h0:0<=b) (h1:b<=255):bok b=!((b / 16 == 0) || (b % 16 != pgfl b) || ((bpk b).qos == 3) || ((bpk b).dup && ((bpk b).qos == 0))):=byte_cases (P:=fun b=>bok b=!((b / 16 == 0) || (b % 16 != pgfl b) || ((bpk b).qos == 3) || ((bpk b).dup && ((bpk b).qos == 0)))) (by decide +kernel) b h0 h1
theorem head_some (bl off cap:Nat) (l:List Int) (lim:Int) (w:World) (h:Byt w (.slice (some ⟨bl,off,none⟩) l.length cap) l) (hl:l≠[]):Calls Tryz.prog 30 #[.slice (some ⟨bl,off,none⟩) l.length cap,.int .i64 lim] w (HeadPost lim l w):=by
 have HPN:=zh (pk_new w pkz)
 have HBN:Hid (Below w.heap.size w (w.alloc (.cells pkz.cells.toArray 29))):=bal _ _
 have hl1:1<=l.length:=List.length_pos_iff.2 hl
 obtain⟨hc1,hc2⟩:l.length<=cap/\cap<=maxLen:=(byt_len h).2
 unfold maxLen at hc2
 have hr0:=h.range 0
 obtain⟨b',off',e',hbl⟩:=byt_at h 0 hl1
 simp only[Option.some.injEq,Addr.mk.injEq]at e'
 obtain⟨rfl,rfl,_⟩:=e'
 rw[Nat.add_zero]at hbl
 have hcl:=cell_lt hbl
 have HH:=zh h
 have HL:=zh hl
 generalize hn:l.length=n at hc1 hl1 HH
 have HN:=zh hn
 obtain⟨b,hb⟩:∃ b,l.getD 0 0=b:=⟨_,rfl⟩
 rw[hb]at hr0 hbl
 have HB0:=zh hb
 clear h hl hn hb
 go_enter Tryz.func30,Tryz.ntmps30
 go_upto_region 3 with fail
 change Code.wp _ _ _ _ (w.alloc (.cells pkz.cells.toArray 29))
 generalize w.alloc (.cells pkz.cells.toArray 29)=w1 at HPN HBN |-
 have hbl1:w1.cell? ⟨bl,off,none⟩=some (.int .u8 b):=((uh HBN).cell (p:=⟨bl,off,none⟩) hcl).trans hbl
 have hlt1:=(uh HPN).lt
 have hcl1:bl < w.heap.size:=hcl
 clear hbl hcl
 iterate 16 go_step
 refine wpList_value rfl (packet_build1 _ _ _ _ _ _ (b / 16) rfl _) ?_
 simp only[Act.put,List.setIfInBounds_toArray,List.set_cons_zero,List.set_cons_succ]
 refine wpList_value rfl (packet_alloc _ _ _ _ _ _) ?_
 simp only[Act.put,List.setIfInBounds_toArray,List.set_cons_zero,List.set_cons_succ]
 refine wpList_skip rfl (packet_store _ _ _ _ _ _ _ (pk0 (b / 16) false 0 false) _ rfl rfl) ?_
 simp only[Act.put]
 have HP8:=zh (pk_new w1 (pk0 (b / 16) false 0 false))
 have HP4:=zh ((uh HPN).below (al (.cells (pk0 (b / 16) false 0 false).cells.toArray 29)))
 have HB3:Hid (Below w.heap.size w (w1.alloc (.cells (pk0 (b / 16) false 0 false).cells.toArray 29))):=(uh HBN).alloc (Nat.le_of_lt hlt1) _
 have hbl3:(w1.alloc (.cells (pk0 (b / 16) false 0 false).cells.toArray 29)).cell? ⟨bl,off,none⟩=some (.int .u8 b):=(World.cell?_alloc_lt _ _ ⟨bl,off,none⟩ (Nat.lt_trans hcl1 hlt1)).trans hbl1
 obtain⟨B,hB⟩:∃ B,B=w1.heap.size:=⟨_,rfl⟩
 rw[<- hB]at HP8 hlt1 |-
 generalize w1.alloc (.cells (pk0 (b / 16) false 0 false).cells.toArray 29)=w3 at HP8 HP4 HB3 hbl3 |-
 clear HPN HBN hbl1 hB
 have k15:bits .and .u8 b 15=b % 16:=byte_cases (P:=fun x=>bits .and .u8 x 15=x % 16) (by decide +kernel) b hr0.1 hr0.2
 have k8:=and8' b hr0.1 hr0.2
 have k1:=and1' b hr0.1 hr0.2
 have kq:=shq' b hr0.1 hr0.2
 have c0:=(uh HP8).kind
 have c1:=(uh HP8).dup
 have c2:=(uh HP8).qos
 have c3:=(uh HP8).retain
 have f1:=(uh HP8).dup_f
 have f2:=(uh HP8).qos_f
 have f3:=(uh HP8).retain_f
 simp only[pk0]at c0 c1 c2 c3
 go_upto_if 30 with fail
 go_cut [] from 13 (fun wx=>Hid (Pk wx B (bpk b))/\Hid (Pk wx w.heap.size pkz)/\Hid (Below w.heap.size w wx))
 case first =>
  by_cases h3:b / 16=3
  ·go_wp2
   go_meet
   case rel =>
    have e:bpk b=pk0 3 (btest b 8) (b / 2 % 4) (btest b 1):=if_pos h3
    have HP8a:=((((uh HP8).set_dup (btest b 8)).set_qos (b / 2 % 4)).set_retain (btest b 1))
    rw[h3]at HP8a
    rw[e]
    have hne:w.heap.size≠B:=by omega
    exact⟨HP8a,(((uh HP4).blk (Below.heap_setCell _ _ _ _ hne)).blk (Below.heap_setCell _ _ _ _ hne)).blk (Below.heap_setCell _ _ _ _ hne),(((uh HB3).setCell (Nat.le_of_lt hlt1) _).setCell (Nat.le_of_lt hlt1) _).setCell (Nat.le_of_lt hlt1) _⟩
  ·go_wp2
   go_meet
   case rel =>
    have e:bpk b=pk0 (b / 16) false 0 false:=if_neg h3
    rw[e]
    exact⟨HP8,HP4,HB3⟩
 case rest =>
 obtain⟨HP8',HP4',HB3'⟩:=hcut
 obtain⟨wx,hwx⟩:∃ wx,wx=wc:=⟨_,rfl⟩
 subst hwx
 clear HP8 HP4 HB3 c0 c1 c2 c3 f1 f2 f3 k15 k8 k1 kq hbl3
 have HFL:Hid (∀ W:World,Calls Tryz.prog 59 #[.agg (bpk b).cells.toArray] W fun e w'=>e=.returned (.int .i64 (pgfl b))/\Below W.heap.size W w'):=gflags_b b
 have HOK:=zh (bok_is b hr0.1 hr0.2)
 have hkk:(bpk b).kind=b / 16:=by unfold bpk;split <;> simp_all [pk0]
 generalize hg:pgfl b=G at HFL HOK
 clear hg
 go_upto_region 9 with fail
 go_cut [65] from 13 (fun s65 wx=>s65=.bool (!bok b)/\Hid (Pk wx B (bpk b))/\Hid (Pk wx w.heap.size pkz)/\Hid (Below w.heap.size w wx))
 case first =>
  have d0:=(uh HP8').kind
  rw[hkk]at d0
  by_cases hk0:b / 16=0
  ·have hk1:(b / 16 == 0)=true:=by simpa using hk0
   go_wp2
   go_meet
   case rel=>exact⟨by rw[uh HOK,hk1];rfl,HP8',HP4',HB3'⟩
  ·have hk1:(b / 16 == 0)=false:=by simpa using hk0
   iterate 15 go_step
   refine wpList_wanted (by rfl) fun K hK=>wp_load_mid 29 _ rfl B 0 rfl (bpk b).cells _ (uh HP8').range Tryz.underlying29 rfl packet_size (hK _ _ ?_)
   clear hK K
   simp only[Act.put,List.setIfInBounds_toArray,List.set_cons_zero,List.set_cons_succ]
   go_wp2_with fail
   refine ((uh HFL) _).mono ?_
   rintro e wy ⟨rfl,hby⟩
   have hp8:=(uh HP8').below hby
   have hp4:=(uh HP4').below hby
   have hb3:Below w.heap.size w wy:=(uh HB3').trans (hby.mono (uh HB3').size)
   have d1:=hp8.dup
   have d2:=hp8.qos
   have HP8y:=zh hp8
   have HP4y:=zh hp4
   have HB3y:=zh hb3
   clear hby hp8 hp4 hb3 d0 HP8' HP4' HB3' HFL
   generalize (bpk b).dup=dd at d1 HOK
   generalize (bpk b).qos=qq at d2 HOK
   rw[hk1]at HOK
   cases hf:(b % 16 != G)
   ·rw[hf]at HOK
    cases hq3:(qq == 3)
    ·rw[hq3]at HOK
     cases dd
     ·go_wp2
      go_meet
      case rel=>exact⟨by rw[uh HOK];rfl,HP8y,HP4y,HB3y⟩
     ·cases hq0:(qq == 0)
      ·rw[hq0]at HOK
       go_wp2
       go_meet
       case rel=>exact⟨by rw[uh HOK];rfl,HP8y,HP4y,HB3y⟩
      ·rw[hq0]at HOK
       go_wp2
       go_meet
       case rel=>exact⟨by rw[uh HOK];rfl,HP8y,HP4y,HB3y⟩
    ·rw[hq3]at HOK
     go_wp2
     go_meet
     case rel=>exact⟨by rw[uh HOK];rfl,HP8y,HP4y,HB3y⟩
   ·rw[hf]at HOK
    go_wp2
    go_meet
    case rel=>exact⟨by rw[uh HOK];rfl,HP8y,HP4y,HB3y⟩
 case rest =>
 obtain⟨rfl,HP8,HP4,HB3⟩:=hcut
 obtain⟨wy,hwy⟩:∃ wy,wy=wc:=⟨_,rfl⟩
 subst hwy
 clear HP8' HP4' HB3' HFL HOK hkk
 have HN1:Hid (∀ m,hnum lim l=m->m≠0->∀ W,Pk W w.heap.size pkz->Below w.heap.size w W->HeadPost lim l w (.returned (.tuple #[pkz.val,.int .i64 0,.int .i64 0,.int .i64 m])) W):=fun m hm h0 W _ hb=>⟨pkz,0,0,by rw[hm];rfl,fun e=>absurd (hm.symm.trans e) h0,hb⟩
 have HNU:Hid (hnum lim l=if bok b=false then 1 else if (V.vget (l.drop 1)).2.2≠0 then (V.vget (l.drop 1)).2.2 else if lim < ((1+ghd (l.drop 1)+(gid (l.drop 1)).toNat:Nat):Int) then 2 else 0):=by
  show hnum lim l=_
  unfold hnum
  rw[if_neg (uh HL),uh HB0]
 cases hok:bok b
 ·rw[hok,if_pos rfl]at HNU
  clear hok
  go_upto_region 10 with fail
  iterate 4 go_step
  refine wpList_store_mid rfl 29 _ _ rfl w.heap.size 0 pkz.cells.toArray rfl rfl ((uh HP4).there _) packet_size (Pkv.ones' _) ?_
  simp only[Act.put]
  have HPS:=zh ((uh HP4).stored pkz)
  have HBS:Hid (Below w.heap.size w (wy.setCells w.heap.size 0 pkz.cells)):=setCells_below (uh HB3) (Nat.le_refl _)
  generalize wy.setCells w.heap.size 0 pkz.cells=w2 at HPS HBS |-
  go_wp2
  refine bodyPost_ret (res_pk4 (B:=w.heap.size) (q:=pkz) rfl rfl (uh HPS)) rfl ?_
  exact (uh HN1) 1 (uh HNU) (by decide) _ (uh HPS) (uh HBS)
 rw[hok,if_neg (by decide)]at HNU
 clear hok
 have HBY:Hid (Byt wy (.slice (some ⟨bl,off,none⟩) n cap) l):=(uh HH).below ((uh HB3))
 have HDR:=zh ((uh HBY).drop' 1 hl1)
 clear HBY
 go_upto_region 11 with fail
 go_cut [10,11,12] from 13 (fun s10 s11 s12 wx=>Hid (HeadR (l.drop 1) s10 s11 s12)/\Hid (Pk wx B (bpk b))/\Hid (Pk wx w.heap.size pkz)/\Hid (Below w.heap.size w wx))
 case first =>
  by_cases hcap:cap=1
  ·have HT:Hid (Byt wy (.slice (some ⟨bl,off,none⟩) 0 0) (l.drop 1)):=by
    show Byt _ _ _
    have k:=uh HDR
    rw[if_pos hcap,show n - 1=0 by omega,show cap - 1=0 by omega]at k
    exact k
   clear HDR
   obtain rfl:n=1:=by omega
   subst hcap
   go_wp2_with fail
   refine (headR_any _ _ _ (uh HT)).mono ?_
   rintro e wz ⟨a1,a2,a3,rfl,hR,hb⟩
   have HPa:=zh ((uh HP8).below hb)
   have HPb:=zh ((uh HP4).below hb)
   have HBc:Hid (Below w.heap.size w wz):=(uh HB3).trans (hb.mono (uh HB3).size)
   clear hb
   go_wp2
   go_meet
   case rel=>exact⟨hR,HPa,HPb,HBc⟩
  ·have HT:Hid (Byt wy (.slice (some ⟨bl,off+1,none⟩) (n - 1) (cap - 1)) (l.drop 1)):=by
    show Byt _ _ _
    have k:=uh HDR
    rw[if_neg hcap]at k
    exact k
   clear HDR
   go_wp2_with fail
   refine (headR_any _ _ _ (uh HT)).mono ?_
   rintro e wz ⟨a1,a2,a3,rfl,hR,hb⟩
   have HPa:=zh ((uh HP8).below hb)
   have HPb:=zh ((uh HP4).below hb)
   have HBc:Hid (Below w.heap.size w wz):=(uh HB3).trans (hb.mono (uh HB3).size)
   clear hb
   go_wp2
   go_meet
   case rel=>exact⟨hR,HPa,HPb,HBc⟩
 case rest =>
 obtain⟨HR,HP8,HP4,HB3⟩:=hcut
 obtain⟨wz,hwz⟩:∃ wz,wz=wc:=⟨_,rfl⟩
 subst hwz
 clear HDR
 rcases uh HR with⟨a1,a2,a3,h0,hm,rfl,rfl,rfl⟩ | ⟨N,K,hN,hK,hK4,hN2,hm,rfl,rfl,rfl⟩
 ·rw[if_pos (by rw[hm];exact h0),hm]at HNU
  have h1:(a3 == 0)=false:=by simpa using h0
  have h2:(a3 != 0)=true:=by simpa using h0
  clear hm
  go_upto_region 13 with fail
  iterate 7 go_step
  refine wpList_store_mid rfl 29 _ _ rfl w.heap.size 0 pkz.cells.toArray rfl rfl ((uh HP4).there _) packet_size (Pkv.ones' _) ?_
  simp only[Act.put]
  have HPS:=zh ((uh HP4).stored pkz)
  have HBS:Hid (Below w.heap.size w (wz.setCells w.heap.size 0 pkz.cells)):=setCells_below (uh HB3) (Nat.le_refl _)
  generalize wz.setCells w.heap.size 0 pkz.cells=w2 at HPS HBS |-
  go_wp2
  refine bodyPost_ret (res_pk4 (B:=w.heap.size) (q:=pkz) rfl rfl (uh HPS)) rfl ?_
  exact (uh HN1) a3 (uh HNU) h0 _ (uh HPS) (uh HBS)
 rw[if_neg (by rw[hm];decide),hN,hK,Int.toNat_natCast]at HNU
 clear hm
 by_cases hlim:lim < ((1+K+N:Nat):Int)
 ·rw[if_pos hlim]at HNU
  go_upto_region 15 with fail
  iterate 4 go_step
  refine wpList_store_mid rfl 29 _ _ rfl w.heap.size 0 pkz.cells.toArray rfl rfl ((uh HP4).there _) packet_size (Pkv.ones' _) ?_
  simp only[Act.put]
  have HPS:=zh ((uh HP4).stored pkz)
  have HBS:Hid (Below w.heap.size w (wz.setCells w.heap.size 0 pkz.cells)):=setCells_below (uh HB3) (Nat.le_refl _)
  generalize wz.setCells w.heap.size 0 pkz.cells=w2 at HPS HBS |-
  go_wp2
  refine bodyPost_ret (res_pk4 (B:=w.heap.size) (q:=pkz) rfl rfl (uh HPS)) rfl ?_
  exact (uh HN1) 2 (uh HNU) (by decide) _ (uh HPS) (uh HBS)
 ·rw[if_neg hlim]at HNU
  go_upto_region 16 with fail
  go_step
  refine wpList_load_mid rfl 29 _ rfl B 0 rfl (bpk b).cells _ (uh HP8).range Tryz.underlying29 rfl packet_size ?_
  simp only[Act.put,List.setIfInBounds_toArray,List.set_cons_zero,List.set_cons_succ]
  iterate 9 go_step
  refine wpList_store_mid rfl 29 _ _ rfl w.heap.size 0 (bpk b).cells.toArray rfl rfl ((uh HP4).there _) packet_size (Pkv.ones' _) ?_
  simp only[Act.put]
  have HPS:=zh ((uh HP4).stored (bpk b))
  have HBS:Hid (Below w.heap.size w (wz.setCells w.heap.size 0 (bpk b).cells)):=setCells_below (uh HB3) (Nat.le_refl _)
  generalize wz.setCells w.heap.size 0 (bpk b).cells=w2 at HPS HBS |-
  go_wp2
  refine bodyPost_ret (res_pk4 (B:=w.heap.size) (q:=bpk b) rfl rfl (uh HPS)) rfl ?_
  exact⟨bpk b,1+K,N,by rw[uh HNU];exact (by go_num),fun _=>⟨by rw[uh HB0],by rw[hK],by rw[hN,Int.toNat_natCast]⟩,uh HBS⟩
theorem head_pg (v:Value) (l:List Int) (lim:Int) (w:World) (h:Byt w v l):Calls Tryz.prog 30 #[v,.int .i64 lim] w (HeadPost lim l w):=by
 by_cases hl:l=[]
 ·subst hl
  obtain⟨ao,cap,rfl,_⟩:=h.form
  exact head_nil ao cap lim w
 ·obtain⟨b,off,cap,rfl,_⟩:=h.form1 (List.length_pos_iff.2 hl)
  exact head_some b off cap l lim w h hl
end Go.Proofs.YtpheelbbpiieiaaGreatDoor.K
