/- Proved here: helpers, one text behind the other. -/
import Derived.Test.YtpheelbbpiieiaaGreatDoorZC23
import Derived.Test.YtpheelbbpiieiaaGreatDoorZC15
set_option maxHeartbeats 20000000
namespace Go.Proofs.YtpheelbbpiieiaaGreatDoor.K
open Go.RowKit
set_option maxRecDepth 100000
theorem sh16 (x:Int) (h0:0<=x) (h1:x<=255):x >>> 4=x / 16:=byte_cases (P:=fun x=>x >>> 4=x / 16) (by decide +kernel) x h0 h1
theorem and15 (x:Int) (h0:0<=x) (h1:x<=255):bits .and .i64 x 15=x % 16:=byte_cases (P:=fun x=>bits .and .i64 x 15=x % 16) (by decide +kernel) x h0 h1
theorem and8' (x:Int) (h0:0<=x) (h1:x<=255):(bits .and .i64 (x % 16) 8 != 0)=btest x 8:=byte_cases (P:=fun x=>(bits .and .i64 (x % 16) 8 != 0)=btest x 8) (by decide +kernel) x h0 h1
theorem and1' (x:Int) (h0:0<=x) (h1:x<=255):(bits .and .i64 (x % 16) 1 != 0)=btest x 1:=byte_cases (P:=fun x=>(bits .and .i64 (x % 16) 1 != 0)=btest x 1) (by decide +kernel) x h0 h1
theorem shq' (x:Int) (h0:0<=x) (h1:x<=255):bits .and .i64 (x % 16 / 2) 3=x / 2 % 4:=byte_cases (P:=fun x=>bits .and .i64 (x % 16 / 2) 3=x / 2 % 4) (by decide +kernel) x h0 h1
def bpk (b:Int):Pkv:=if b / 16=3 then pk0 3 (btest b 8) (b / 2 % 4) (btest b 1) else pk0 (b / 16) false 0 false
def bpa (b:Int):Pa:=if b / 16=3 then pa0 3 (btest b 8) (b / 2 % 4) (btest b 1) else pa0 (b / 16) false 0 false
def bfl (b:Int):Int:=if b / 16=3 then pfl (btest b 8) (b / 2 % 4) (btest b 1) else if b / 16=6\/b / 16=8\/b / 16=10 then 2 else 0
def bmay (b:Int):Bool:=if b / 16=3 then pok (btest b 8) (b / 2 % 4) else if b / 16=6\/b / 16=8\/b / 16=10 then true else decide (1<=b / 16) && decide (b / 16<=15)
def bok (b:Int):Bool:=bmay b && (bfl b == b % 16)
theorem flagsOf_b (b:Int) (w:World):Calls Tryz.prog 49 #[(bpk b).val] w fun e w'=>e=.returned (.tuple #[.int .i64 (bfl b),.bool (bmay b)])/\Below w.heap.size w w':=by
 unfold bfl bmay bpk
 by_cases h3:b / 16=3
 ·simp only[if_pos h3]
  exact flagsOf_pub _ w rfl
 ·simp only[if_neg h3]
  by_cases h6:b / 16=6\/b / 16=8\/b / 16=10
  ·simp only[if_pos h6]
   exact flagsOf_fixed _ w h6
  ·simp only[if_neg h6]
   exact flagsOf_other _ w h3 (fun e=>h6 (.inl e)) (fun e=>h6 (.inr (.inl e))) (fun e=>h6 (.inr (.inr e)))
theorem begin_any (b:Int) (h0:0<=b) (h1:b<=255) (w:World):Calls Tryz.prog 26 #[.int .i64 b] w fun e w'=>e=.returned (.tuple #[(bpk b).val,.bool (bok b)])/\Below w.heap.size w w':=by
 have k1:=sh16 b h0 h1
 have k2:=and15 b h0 h1
 have k3:=and8' b h0 h1
 have k4:=and1' b h0 h1
 have k5:=shq' b h0 h1
 by_cases h3:b / 16=3
 ·have e1:bpk b=pk0 3 (btest b 8) (b / 2 % 4) (btest b 1):=if_pos h3
  have HE:=zh e1
  clear e1
  have HPN:=zh (pk_new w (pk0 3 (btest b 8) (b / 2 % 4) (btest b 1)))
  have hbN:Hid (Below w.heap.size w (w.alloc (.cells (pk0 3 (btest b 8) (b / 2 % 4) (btest b 1)).cells.toArray 29))):=bal _ _
  have HFL:Hid (∀ W:World,Calls Tryz.prog 49 #[.agg (pk0 3 (btest b 8) (b / 2 % 4) (btest b 1)).cells.toArray] W fun e w'=>e=.returned (.tuple #[.int .i64 (bfl b),.bool (bmay b)])/\Below W.heap.size W w'):=fun W=>by
   have k:=flagsOf_b b W
   rw[uh HE]at k
   exact k
  have HR:Hid (∀ mb fl,bmay b=mb->bfl b=fl->bok b=(mb && (fl == b % 16))):=fun mb fl e1 e2=>by rw[<- e1,<- e2];rfl
  generalize hfl:bfl b=fl at HFL
  generalize hmb:bmay b=mb at HFL
  have HOK:=zh ((uh HR) mb fl hmb hfl)
  clear hfl hmb HR
  go_enter Tryz.func26,Tryz.ntmps26
  go_upto_region 6 with fail
  go_step
  refine wpList_load_mid rfl 29 _ rfl w.heap.size 0 rfl (pk0 3 (btest b 8) (b / 2 % 4) (btest b 1)).cells _ (uh HPN).range Tryz.underlying29 rfl packet_size ?_
  simp only[Act.put,List.setIfInBounds_toArray,List.set_cons_zero,List.set_cons_succ]
  go_wp2_with fail
  refine ((uh HFL) _).mono ?_
  rintro e w1 ⟨rfl,hb1⟩
  have HP1:=zh ((uh HPN).below hb1)
  have HB1:Hid (Below w.heap.size w w1):=(uh hbN).trans (hb1.mono (uh hbN).size)
  clear hb1 hbN HPN HFL
  cases mb
  ·go_upto_region 7 with fail
   go_step
   refine wpList_load_mid rfl 29 _ rfl w.heap.size 0 rfl (pk0 3 (btest b 8) (b / 2 % 4) (btest b 1)).cells _ (uh HP1).range Tryz.underlying29 rfl packet_size ?_
   simp only[Act.put,List.setIfInBounds_toArray,List.set_cons_zero,List.set_cons_succ]
   ((iterate 6 go_step);go_skip;(iterate 3 go_step))
   refine wpList_store_mid rfl 29 _ _ rfl w.heap.size 0 (pk0 3 (btest b 8) (b / 2 % 4) (btest b 1)).cells.toArray rfl rfl ((uh HP1).there _) packet_size (Pkv.ones' _) ?_
   simp only[Act.put]
   have HPS:=zh ((uh HP1).stored (pk0 3 (btest b 8) (b / 2 % 4) (btest b 1)))
   have HBS:Hid (Below w.heap.size w (w1.setCells w.heap.size 0 (pk0 3 (btest b 8) (b / 2 % 4) (btest b 1)).cells)):=setCells_below (uh HB1) (Nat.le_refl _)
   generalize w1.setCells w.heap.size 0 (pk0 3 (btest b 8) (b / 2 % 4) (btest b 1)).cells=w2 at HPS HBS |-
   go_wp2
   refine bodyPost_ret (res_pk2 (B:=w.heap.size) (q:=(pk0 3 (btest b 8) (b / 2 % 4) (btest b 1))) rfl rfl (uh HPS)) rfl ?_
   exact⟨by rw[uh HOK,uh HE];rfl,uh HBS⟩
  ·go_upto_region 7 with fail
   go_step
   refine wpList_load_mid rfl 29 _ rfl w.heap.size 0 rfl (pk0 3 (btest b 8) (b / 2 % 4) (btest b 1)).cells _ (uh HP1).range Tryz.underlying29 rfl packet_size ?_
   simp only[Act.put,List.setIfInBounds_toArray,List.set_cons_zero,List.set_cons_succ]
   iterate 15 go_step
   refine wpList_store_mid rfl 29 _ _ rfl w.heap.size 0 (pk0 3 (btest b 8) (b / 2 % 4) (btest b 1)).cells.toArray rfl rfl ((uh HP1).there _) packet_size (Pkv.ones' _) ?_
   simp only[Act.put]
   have HPS:=zh ((uh HP1).stored (pk0 3 (btest b 8) (b / 2 % 4) (btest b 1)))
   have HBS:Hid (Below w.heap.size w (w1.setCells w.heap.size 0 (pk0 3 (btest b 8) (b / 2 % 4) (btest b 1)).cells)):=setCells_below (uh HB1) (Nat.le_refl _)
   generalize w1.setCells w.heap.size 0 (pk0 3 (btest b 8) (b / 2 % 4) (btest b 1)).cells=w2 at HPS HBS |-
   go_wp2
   refine bodyPost_ret (res_pk2 (B:=w.heap.size) (q:=(pk0 3 (btest b 8) (b / 2 % 4) (btest b 1))) rfl rfl (uh HPS)) rfl ?_
   exact⟨by rw[uh HOK,uh HE];rfl,uh HBS⟩
 ·have e1:bpk b=pk0 (b / 16) false 0 false:=if_neg h3
  have HE:=zh e1
  clear e1
  have HPN:=zh (pk_new w (pk0 (b / 16) false 0 false))
  have hbN:Hid (Below w.heap.size w (w.alloc (.cells (pk0 (b / 16) false 0 false).cells.toArray 29))):=bal _ _
  have HFL:Hid (∀ W:World,Calls Tryz.prog 49 #[.agg (pk0 (b / 16) false 0 false).cells.toArray] W fun e w'=>e=.returned (.tuple #[.int .i64 (bfl b),.bool (bmay b)])/\Below W.heap.size W w'):=fun W=>by
   have k:=flagsOf_b b W
   rw[uh HE]at k
   exact k
  have HR:Hid (∀ mb fl,bmay b=mb->bfl b=fl->bok b=(mb && (fl == b % 16))):=fun mb fl e1 e2=>by rw[<- e1,<- e2];rfl
  generalize hfl:bfl b=fl at HFL
  generalize hmb:bmay b=mb at HFL
  have HOK:=zh ((uh HR) mb fl hmb hfl)
  clear hfl hmb HR
  go_enter Tryz.func26,Tryz.ntmps26
  go_upto_region 6 with fail
  go_step
  refine wpList_load_mid rfl 29 _ rfl w.heap.size 0 rfl (pk0 (b / 16) false 0 false).cells _ (uh HPN).range Tryz.underlying29 rfl packet_size ?_
  simp only[Act.put,List.setIfInBounds_toArray,List.set_cons_zero,List.set_cons_succ]
  go_wp2_with fail
  refine ((uh HFL) _).mono ?_
  rintro e w1 ⟨rfl,hb1⟩
  have HP1:=zh ((uh HPN).below hb1)
  have HB1:Hid (Below w.heap.size w w1):=(uh hbN).trans (hb1.mono (uh hbN).size)
  clear hb1 hbN HPN HFL
  cases mb
  ·go_upto_region 7 with fail
   go_step
   refine wpList_load_mid rfl 29 _ rfl w.heap.size 0 rfl (pk0 (b / 16) false 0 false).cells _ (uh HP1).range Tryz.underlying29 rfl packet_size ?_
   simp only[Act.put,List.setIfInBounds_toArray,List.set_cons_zero,List.set_cons_succ]
   ((iterate 6 go_step);go_skip;(iterate 3 go_step))
   refine wpList_store_mid rfl 29 _ _ rfl w.heap.size 0 (pk0 (b / 16) false 0 false).cells.toArray rfl rfl ((uh HP1).there _) packet_size (Pkv.ones' _) ?_
   simp only[Act.put]
   have HPS:=zh ((uh HP1).stored (pk0 (b / 16) false 0 false))
   have HBS:Hid (Below w.heap.size w (w1.setCells w.heap.size 0 (pk0 (b / 16) false 0 false).cells)):=setCells_below (uh HB1) (Nat.le_refl _)
   generalize w1.setCells w.heap.size 0 (pk0 (b / 16) false 0 false).cells=w2 at HPS HBS |-
   go_wp2
   refine bodyPost_ret (res_pk2 (B:=w.heap.size) (q:=(pk0 (b / 16) false 0 false)) rfl rfl (uh HPS)) rfl ?_
   exact⟨by rw[uh HOK,uh HE];rfl,uh HBS⟩
  ·go_upto_region 7 with fail
   go_step
   refine wpList_load_mid rfl 29 _ rfl w.heap.size 0 rfl (pk0 (b / 16) false 0 false).cells _ (uh HP1).range Tryz.underlying29 rfl packet_size ?_
   simp only[Act.put,List.setIfInBounds_toArray,List.set_cons_zero,List.set_cons_succ]
   iterate 15 go_step
   refine wpList_store_mid rfl 29 _ _ rfl w.heap.size 0 (pk0 (b / 16) false 0 false).cells.toArray rfl rfl ((uh HP1).there _) packet_size (Pkv.ones' _) ?_
   simp only[Act.put]
   have HPS:=zh ((uh HP1).stored (pk0 (b / 16) false 0 false))
   have HBS:Hid (Below w.heap.size w (w1.setCells w.heap.size 0 (pk0 (b / 16) false 0 false).cells)):=setCells_below (uh HB1) (Nat.le_refl _)
   generalize w1.setCells w.heap.size 0 (pk0 (b / 16) false 0 false).cells=w2 at HPS HBS |-
   go_wp2
   refine bodyPost_ret (res_pk2 (B:=w.heap.size) (q:=(pk0 (b / 16) false 0 false)) rfl rfl (uh HPS)) rfl ?_
   exact⟨by rw[uh HOK,uh HE];rfl,uh HBS⟩
end Go.Proofs.YtpheelbbpiieiaaGreatDoor.K
