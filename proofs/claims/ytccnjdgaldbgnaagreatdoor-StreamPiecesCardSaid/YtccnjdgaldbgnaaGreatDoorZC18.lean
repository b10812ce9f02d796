/- Proved here: helpers, one text behind the other. -/
import Derived.Test.YtccnjdgaldbgnaaGreatDoorZC5
import Derived.Test.YtccnjdgaldbgnaaGreatDoorZC17
import Derived.Test.YtccnjdgaldbgnaaGreatDoorZC15
set_option maxHeartbeats 20000000
namespace Go.Proofs.YtccnjdgaldbgnaaGreatDoor
open Go.RowKit
set_option maxRecDepth 100000
def GoOk (p:Pr) (K:Int) (w:World) (e:Ending) (w':World):Prop:=e=.returned (.tuple #[.agg #[.int .i64 p.1,.int .i64 p.2.1,.string p.2.2.1,.string p.2.2.2],.int .i64 K,.nilIface])/\Below w.heap.size w w'
def set4 (w:World) (B:Nat) (a b:Int) (s t:ByteArray):World:=(((w.setCell ⟨B,0,none⟩ (.int .i64 a)).setCell ⟨B,1,none⟩ (.int .i64 b)).setCell ⟨B,2,none⟩ (.string s)).setCell ⟨B,3,none⟩ (.string t)
theorem set4_c0 (w:World) (B:Nat) (a b:Int) (s t:ByteArray) {x:Value} (h:w.cell? ⟨B,0,none⟩=some x):(set4 w B a b s t).cell? ⟨B,0,none⟩=some (.int .i64 a):=by
 unfold set4
 simp (maxDischargeDepth:=12) [cell_set,h]
theorem set4_c1 (w:World) (B:Nat) (a b:Int) (s t:ByteArray) {x:Value} (h:w.cell? ⟨B,1,none⟩=some x):(set4 w B a b s t).cell? ⟨B,1,none⟩=some (.int .i64 b):=by
 unfold set4
 simp (maxDischargeDepth:=12) [cell_set,h]
theorem set4_c2 (w:World) (B:Nat) (a b:Int) (s t:ByteArray) {x:Value} (h:w.cell? ⟨B,2,none⟩=some x):(set4 w B a b s t).cell? ⟨B,2,none⟩=some (.string s):=by
 unfold set4
 simp (maxDischargeDepth:=12) [cell_set,h]
theorem set4_c3 (w:World) (B:Nat) (a b:Int) (s t:ByteArray) {x:Value} (h:w.cell? ⟨B,3,none⟩=some x):(set4 w B a b s t).cell? ⟨B,3,none⟩=some (.string t):=by
 unfold set4
 simp (maxDischargeDepth:=12) [cell_set,h]
theorem set4_frozen (w:World) (B:Nat) (a b:Int) (s t:ByteArray) (p:Addr):(set4 w B a b s t).frozen? p=w.frozen? p:=by
 unfold set4
 simp[World.frozen?_setCell]
theorem set4_below (w w0:World) (B B0:Nat) (a b:Int) (s t:ByteArray) (h:Below B0 w0 w) (hB:B0<=B):Below B0 w0 (set4 w B a b s t):=by
 unfold set4
 exact (((h.setCell hB _).setCell hB _).setCell hB _).setCell hB _
theorem set4_off {B:Nat} {w:World} {v:Value} {n:Int} (h:InnOff B w v n) (a b:Int) (s t:ByteArray):InnOff B (set4 w B a b s t) v n:=by
 unfold set4
 exact (((h.set rfl).set rfl).set rfl).set rfl
theorem gone_bad1 (v:Value) (l:List Int) (w:World) (h:Byt w v l) (m:Int) (hv:(V.vget l).2.2=m) (hm:m≠0):Calls Tryz.prog 125 #[v] w (GvBad w):=by
 obtain⟨ao,cap,rfl,hc1,hc2⟩:=h.form
 have HV:=zh h
 have Hhv:=zh hv
 clear h hv
 generalize hn:l.length=n at hc1 HV
 go_enter Tryz.func125,Tryz.ntmps125
 go_wp2_with fail
 refine (vget_fail _ l _ ((uh HV).below (by go_grown)) m (uh Hhv) hm).mono ?_
 rintro e w1 ⟨a,b,x,rfl,hi,hb1⟩
 have HB1:=bal1 hb1
 have q0:w1.cell? ⟨w.heap.size,0,none⟩=some (.int .i64 0):=(hb1.cell (p:=⟨w.heap.size,0,none⟩) (by simp)).trans (by simp)
 have f0:w1.frozen? ⟨w.heap.size,0,none⟩=false:=(hb1.frozen (p:=⟨w.heap.size,0,none⟩) (by simp)).trans (by simp)
 have q1:w1.cell? ⟨w.heap.size,1,none⟩=some (.int .i64 0):=(hb1.cell (p:=⟨w.heap.size,1,none⟩) (by simp)).trans (by simp)
 have f1:w1.frozen? ⟨w.heap.size,1,none⟩=false:=(hb1.frozen (p:=⟨w.heap.size,1,none⟩) (by simp)).trans (by simp)
 have q2:w1.cell? ⟨w.heap.size,2,none⟩=some (.string ⟨#[]⟩):=(hb1.cell (p:=⟨w.heap.size,2,none⟩) (by simp)).trans (by simp)
 have f2:w1.frozen? ⟨w.heap.size,2,none⟩=false:=(hb1.frozen (p:=⟨w.heap.size,2,none⟩) (by simp)).trans (by simp)
 have q3:w1.cell? ⟨w.heap.size,3,none⟩=some (.string ⟨#[]⟩):=(hb1.cell (p:=⟨w.heap.size,3,none⟩) (by simp)).trans (by simp)
 have f3:w1.frozen? ⟨w.heap.size,3,none⟩=false:=(hb1.frozen (p:=⟨w.heap.size,3,none⟩) (by simp)).trans (by simp)
 have HOF:=zh ((uh hi).off q1)
 clear hb1 hi
 go_wp2
 (try simp only[Exit.inBlock,Exit.then])
 refine bodyPost_ret (res_p (B:=w.heap.size) (v0:=.int .i64 0) (v1:=.int .i64 0) (v2:=.string ⟨#[]⟩) (v3:=.string ⟨#[]⟩) rfl rfl ?c0 ?c1 ?c2 ?c3) rfl ?_
 case c0=>simp (maxDischargeDepth:=12) [cell_set,q0]
 case c1=>simp (maxDischargeDepth:=12) [cell_set,q1]
 case c2=>simp (maxDischargeDepth:=12) [cell_set,q2]
 case c3=>simp (maxDischargeDepth:=12) [cell_set,q3]
 refine⟨_,_,_,_,_,_,_,m,rfl,InnOff.inn (B:=w.heap.size) ?_,?_⟩
 ·refine InnOff.set ?_ rfl;refine InnOff.set ?_ rfl;refine InnOff.set ?_ rfl;refine InnOff.set ?_ rfl;exact uh HOF
 ·have:=uh HB1;go_grown
theorem gone_ok (v:Value) (l:List Int) (w:World) (h:Byt w v l) (id:Int) (Q:Nat) (hv:V.vget l=(id,(Q:Int),0)) (hQ:1<=Q/\Q<=l.length) (f wd lo hi:Int) (hsh:shv id=.agg #[.int .i64 f,.int .i64 wd,.int .i64 lo,.int .i64 hi]) (N:Int) (s t:ByteArray) (M:Nat) (hM:Q+M<=l.length) (hg:∀ vb W,Byt W vb (l.drop Q)->Calls Tryz.prog 128 #[vb,shp f wd lo hi] W (GvOk N s t M W)):Calls Tryz.prog 125 #[v] w (GoOk (id,N,s,t) (Q+M:Nat) w):=by
 obtain⟨b,off,cap,rfl,hc1,hc2⟩:=h.form1 (by omega)
 unfold maxLen at hc2
 have HV:=zh h
 have Hhv:=zh hv
 have HSH:=zh hsh
 have HG:=zh hg
 clear h hv hsh hg
 generalize hn:l.length=n at hc1 hQ HV hM
 have HN:=zh hn
 clear hn
 by_cases hcQ:cap=Q
 ·have hcQ2:=hcQ.symm
  clear hcQ
  subst hcQ2
  go_enter Tryz.func125,Tryz.ntmps125
  go_wp2_with fail
  refine (vget_good _ l _ ((uh HV).below (by go_grown)) id Q (uh Hhv)).mono ?_
  rintro e w1 ⟨rfl,hb1⟩
  have HB1:=bal1 hb1
  have HD:Hid (Byt w1 (.slice (some ⟨b,off,none⟩) 0 0) (l.drop Q)):=by
   show Byt _ _ _
   have:=((uh HV).below (uh HB1)).drop' Q (by omega)
   rw[if_pos rfl,Nat.sub_self,show n - Q=0 from by omega]at this;exact this
  have q0:w1.cell? ⟨w.heap.size,0,none⟩=some (.int .i64 0):=(hb1.cell (p:=⟨w.heap.size,0,none⟩) (by simp)).trans (by simp)
  have f0:w1.frozen? ⟨w.heap.size,0,none⟩=false:=(hb1.frozen (p:=⟨w.heap.size,0,none⟩) (by simp)).trans (by simp)
  have q1:w1.cell? ⟨w.heap.size,1,none⟩=some (.int .i64 0):=(hb1.cell (p:=⟨w.heap.size,1,none⟩) (by simp)).trans (by simp)
  have f1:w1.frozen? ⟨w.heap.size,1,none⟩=false:=(hb1.frozen (p:=⟨w.heap.size,1,none⟩) (by simp)).trans (by simp)
  have q2:w1.cell? ⟨w.heap.size,2,none⟩=some (.string ⟨#[]⟩):=(hb1.cell (p:=⟨w.heap.size,2,none⟩) (by simp)).trans (by simp)
  have f2:w1.frozen? ⟨w.heap.size,2,none⟩=false:=(hb1.frozen (p:=⟨w.heap.size,2,none⟩) (by simp)).trans (by simp)
  have q3:w1.cell? ⟨w.heap.size,3,none⟩=some (.string ⟨#[]⟩):=(hb1.cell (p:=⟨w.heap.size,3,none⟩) (by simp)).trans (by simp)
  have f3:w1.frozen? ⟨w.heap.size,3,none⟩=false:=(hb1.frozen (p:=⟨w.heap.size,3,none⟩) (by simp)).trans (by simp)
  have hl1:w.heap.size < w1.heap.size:=cell_lt q0
  have HC:Hid (Below w1.heap.size w1 w1):=Below.refl _ _
  clear hb1
  go_wp2_with fail
  refine wp_region_noPanic ?_
  refine wp_region_held_drew (S:=(fun _=>True)) (by kernel_rfl) trivial (fun hHeld=>?_)
  refine rtk 0 (h:=?_)
  refine rtk 1 (h:=?_)
  refine rtk 2 (h:=?_)
  refine rtk 3 (h:=?_)
  refine rcl 4 (h:=fun K hK=>?_)
  go_simp
  refine (shape_use id f wd lo hi (uh HSH) _).mono ?_
  rintro e w2 ⟨rfl,hb2⟩
  have hb2':=below_undrew1 hb2
  clear hb2
  have HD2:=zh ((uh HD).below hb2')
  refine hK.out _ _ trivial (fun hHeld=>?_)
  clear hK K
  refine rcl 5 (h:=fun K hK=>?_)
  go_simp
  refine ((uh HG) _ _ (uh HD2)).mono ?_
  rintro e w3 ⟨rfl,hb3⟩
  have HB3:Hid (Below w1.heap.size w1 w3):=hb2'.trans (hb3.mono hb2'.size)
  have r0:=((uh HB3).cell (cell_lt q0)).trans q0
  have g0:=((uh HB3).frozen (p:=⟨w.heap.size,0,none⟩) (cell_lt q0)).trans f0
  have r1:=((uh HB3).cell (cell_lt q1)).trans q1
  have g1:=((uh HB3).frozen (p:=⟨w.heap.size,1,none⟩) (cell_lt q1)).trans f1
  have r2:=((uh HB3).cell (cell_lt q2)).trans q2
  have g2:=((uh HB3).frozen (p:=⟨w.heap.size,2,none⟩) (cell_lt q2)).trans f2
  have r3:=((uh HB3).cell (cell_lt q3)).trans q3
  have g3:=((uh HB3).frozen (p:=⟨w.heap.size,3,none⟩) (cell_lt q3)).trans f3
  clear hb2' hb3
  refine hK.out _ _ trivial (fun hHeld=>?_)
  clear hK K
  refine rtk 6 (h:=?_)
  refine rtk 7 (h:=?_)
  refine rtk 8 (h:=?_)
  refine rtk 9 (h:=?_)
  refine rcl 10 (h:=fun K hK=>?_)
  go_simp
  refine hK.out _ _ trivial (fun hHeld=>?_)
  clear hK K
  show wpAnyH _ _ _ _ _ _ _ _ (set4 w3 w.heap.size 0 N s t)
  have c0:=set4_c0 w3 w.heap.size 0 N s t r0
  have c1:=set4_c1 w3 w.heap.size 0 N s t r1
  have c2:=set4_c2 w3 w.heap.size 0 N s t r2
  have c3:=set4_c3 w3 w.heap.size 0 N s t r3
  have e0:=(set4_frozen w3 w.heap.size 0 N s t ⟨w.heap.size,0,none⟩).trans g0
  have e1:=(set4_frozen w3 w.heap.size 0 N s t ⟨w.heap.size,1,none⟩).trans g1
  have e2:=(set4_frozen w3 w.heap.size 0 N s t ⟨w.heap.size,2,none⟩).trans g2
  have e3:=(set4_frozen w3 w.heap.size 0 N s t ⟨w.heap.size,3,none⟩).trans g3
  have HB4:Hid (Below w.heap.size w (set4 w3 w.heap.size 0 N s t)):=set4_below _ _ _ _ _ _ _ _ ((uh HB1).trans ((uh HB3).mono (uh HB1).size)) (Nat.le_refl _)
  generalize set4 w3 w.heap.size 0 N s t=W4 at c0 c1 c2 c3 e0 e1 e2 e3 HB4  |-
  clear r0 r1 r2 r3 g0 g1 g2 g3 q0 q1 q2 q3 f0 f1 f2 f3 HB3
  refine rcl 11 (h:=fun K hK=>?_)
  go_simp
  refine hK.out _ _ trivial (fun hHeld=>?_)
  clear hK K
  refine rcl 12 (h:=fun K hK=>?_)
  go_simp
  refine hK.out _ _ trivial (fun hHeld=>?_)
  clear hK K
  refine wpAnyH_done (by kernel_rfl) ?_ _
  refine NoPanic.normal ?_
  clear HD2 HG
  go_wp2
  (try simp only[Exit.inBlock,Exit.then])
  refine bodyPost_ret (res_p (B:=w.heap.size) (v0:=.int .i64 (id)) (v1:=.int .i64 (N)) (v2:=.string s) (v3:=.string t) rfl rfl ?c0 ?c1 ?c2 ?c3) rfl ?_
  case c0=>simp (maxDischargeDepth:=12) [cell_set,c0]
  case c1=>simp (maxDischargeDepth:=12) [cell_set,c1]
  case c2=>simp (maxDischargeDepth:=12) [cell_set,c2]
  case c3=>simp (maxDischargeDepth:=12) [cell_set,c3]
  exact⟨by go_num,by have:=uh HB4;go_grown⟩
 ·go_enter Tryz.func125,Tryz.ntmps125
  go_wp2_with fail
  refine (vget_good _ l _ ((uh HV).below (by go_grown)) id Q (uh Hhv)).mono ?_
  rintro e w1 ⟨rfl,hb1⟩
  have HB1:=bal1 hb1
  have HD:Hid (Byt w1 (.slice (some ⟨b,off+Q,none⟩) (n - Q) (cap - Q)) (l.drop Q)):=by
   show Byt _ _ _
   have:=((uh HV).below (uh HB1)).drop' Q (by omega)
   rw[if_neg hcQ]at this;exact this
  have q0:w1.cell? ⟨w.heap.size,0,none⟩=some (.int .i64 0):=(hb1.cell (p:=⟨w.heap.size,0,none⟩) (by simp)).trans (by simp)
  have f0:w1.frozen? ⟨w.heap.size,0,none⟩=false:=(hb1.frozen (p:=⟨w.heap.size,0,none⟩) (by simp)).trans (by simp)
  have q1:w1.cell? ⟨w.heap.size,1,none⟩=some (.int .i64 0):=(hb1.cell (p:=⟨w.heap.size,1,none⟩) (by simp)).trans (by simp)
  have f1:w1.frozen? ⟨w.heap.size,1,none⟩=false:=(hb1.frozen (p:=⟨w.heap.size,1,none⟩) (by simp)).trans (by simp)
  have q2:w1.cell? ⟨w.heap.size,2,none⟩=some (.string ⟨#[]⟩):=(hb1.cell (p:=⟨w.heap.size,2,none⟩) (by simp)).trans (by simp)
  have f2:w1.frozen? ⟨w.heap.size,2,none⟩=false:=(hb1.frozen (p:=⟨w.heap.size,2,none⟩) (by simp)).trans (by simp)
  have q3:w1.cell? ⟨w.heap.size,3,none⟩=some (.string ⟨#[]⟩):=(hb1.cell (p:=⟨w.heap.size,3,none⟩) (by simp)).trans (by simp)
  have f3:w1.frozen? ⟨w.heap.size,3,none⟩=false:=(hb1.frozen (p:=⟨w.heap.size,3,none⟩) (by simp)).trans (by simp)
  have hl1:w.heap.size < w1.heap.size:=cell_lt q0
  have HC:Hid (Below w1.heap.size w1 w1):=Below.refl _ _
  clear hb1
  go_wp2_with fail
  refine wp_region_noPanic ?_
  refine wp_region_held_drew (S:=(fun _=>True)) (by kernel_rfl) trivial (fun hHeld=>?_)
  refine rtk 0 (h:=?_)
  refine rtk 1 (h:=?_)
  refine rtk 2 (h:=?_)
  refine rtk 3 (h:=?_)
  refine rcl 4 (h:=fun K hK=>?_)
  go_simp
  refine (shape_use id f wd lo hi (uh HSH) _).mono ?_
  rintro e w2 ⟨rfl,hb2⟩
  have hb2':=below_undrew1 hb2
  clear hb2
  have HD2:=zh ((uh HD).below hb2')
  refine hK.out _ _ trivial (fun hHeld=>?_)
  clear hK K
  refine rcl 5 (h:=fun K hK=>?_)
  go_simp
  refine ((uh HG) _ _ (uh HD2)).mono ?_
  rintro e w3 ⟨rfl,hb3⟩
  have HB3:Hid (Below w1.heap.size w1 w3):=hb2'.trans (hb3.mono hb2'.size)
  have r0:=((uh HB3).cell (cell_lt q0)).trans q0
  have g0:=((uh HB3).frozen (p:=⟨w.heap.size,0,none⟩) (cell_lt q0)).trans f0
  have r1:=((uh HB3).cell (cell_lt q1)).trans q1
  have g1:=((uh HB3).frozen (p:=⟨w.heap.size,1,none⟩) (cell_lt q1)).trans f1
  have r2:=((uh HB3).cell (cell_lt q2)).trans q2
  have g2:=((uh HB3).frozen (p:=⟨w.heap.size,2,none⟩) (cell_lt q2)).trans f2
  have r3:=((uh HB3).cell (cell_lt q3)).trans q3
  have g3:=((uh HB3).frozen (p:=⟨w.heap.size,3,none⟩) (cell_lt q3)).trans f3
  clear hb2' hb3
  refine hK.out _ _ trivial (fun hHeld=>?_)
  clear hK K
  refine rtk 6 (h:=?_)
  refine rtk 7 (h:=?_)
  refine rtk 8 (h:=?_)
  refine rtk 9 (h:=?_)
  refine rcl 10 (h:=fun K hK=>?_)
  go_simp
  refine hK.out _ _ trivial (fun hHeld=>?_)
  clear hK K
  show wpAnyH _ _ _ _ _ _ _ _ (set4 w3 w.heap.size 0 N s t)
  have c0:=set4_c0 w3 w.heap.size 0 N s t r0
  have c1:=set4_c1 w3 w.heap.size 0 N s t r1
  have c2:=set4_c2 w3 w.heap.size 0 N s t r2
  have c3:=set4_c3 w3 w.heap.size 0 N s t r3
  have e0:=(set4_frozen w3 w.heap.size 0 N s t ⟨w.heap.size,0,none⟩).trans g0
  have e1:=(set4_frozen w3 w.heap.size 0 N s t ⟨w.heap.size,1,none⟩).trans g1
  have e2:=(set4_frozen w3 w.heap.size 0 N s t ⟨w.heap.size,2,none⟩).trans g2
  have e3:=(set4_frozen w3 w.heap.size 0 N s t ⟨w.heap.size,3,none⟩).trans g3
  have HB4:Hid (Below w.heap.size w (set4 w3 w.heap.size 0 N s t)):=set4_below _ _ _ _ _ _ _ _ ((uh HB1).trans ((uh HB3).mono (uh HB1).size)) (Nat.le_refl _)
  generalize set4 w3 w.heap.size 0 N s t=W4 at c0 c1 c2 c3 e0 e1 e2 e3 HB4  |-
  clear r0 r1 r2 r3 g0 g1 g2 g3 q0 q1 q2 q3 f0 f1 f2 f3 HB3
  refine rcl 11 (h:=fun K hK=>?_)
  go_simp
  refine hK.out _ _ trivial (fun hHeld=>?_)
  clear hK K
  refine rcl 12 (h:=fun K hK=>?_)
  go_simp
  refine hK.out _ _ trivial (fun hHeld=>?_)
  clear hK K
  refine wpAnyH_done (by kernel_rfl) ?_ _
  refine NoPanic.normal ?_
  clear HD2 HG
  go_wp2
  (try simp only[Exit.inBlock,Exit.then])
  refine bodyPost_ret (res_p (B:=w.heap.size) (v0:=.int .i64 (id)) (v1:=.int .i64 (N)) (v2:=.string s) (v3:=.string t) rfl rfl ?c0 ?c1 ?c2 ?c3) rfl ?_
  case c0=>simp (maxDischargeDepth:=12) [cell_set,c0]
  case c1=>simp (maxDischargeDepth:=12) [cell_set,c1]
  case c2=>simp (maxDischargeDepth:=12) [cell_set,c2]
  case c3=>simp (maxDischargeDepth:=12) [cell_set,c3]
  exact⟨by go_num,by have:=uh HB4;go_grown⟩
theorem gone_bad2 (v:Value) (l:List Int) (w:World) (h:Byt w v l) (id:Int) (Q:Nat) (hv:V.vget l=(id,(Q:Int),0)) (hQ:1<=Q/\Q<=l.length) (f wd lo hi:Int) (hsh:shv id=.agg #[.int .i64 f,.int .i64 wd,.int .i64 lo,.int .i64 hi]) (hg:∀ vb W,Byt W vb (l.drop Q)->Calls Tryz.prog 128 #[vb,shp f wd lo hi] W (GvBad W)):Calls Tryz.prog 125 #[v] w (GvBad w):=by
 obtain⟨b,off,cap,rfl,hc1,hc2⟩:=h.form1 (by omega)
 unfold maxLen at hc2
 have HV:=zh h
 have Hhv:=zh hv
 have HSH:=zh hsh
 have HG:=zh hg
 clear h hv hsh hg
 generalize hn:l.length=n at hc1 hQ HV 
 have HN:=zh hn
 clear hn
 by_cases hcQ:cap=Q
 ·have hcQ2:=hcQ.symm
  clear hcQ
  subst hcQ2
  go_enter Tryz.func125,Tryz.ntmps125
  go_wp2_with fail
  refine (vget_good _ l _ ((uh HV).below (by go_grown)) id Q (uh Hhv)).mono ?_
  rintro e w1 ⟨rfl,hb1⟩
  have HB1:=bal1 hb1
  have HD:Hid (Byt w1 (.slice (some ⟨b,off,none⟩) 0 0) (l.drop Q)):=by
   show Byt _ _ _
   have:=((uh HV).below (uh HB1)).drop' Q (by omega)
   rw[if_pos rfl,Nat.sub_self,show n - Q=0 from by omega]at this;exact this
  have q0:w1.cell? ⟨w.heap.size,0,none⟩=some (.int .i64 0):=(hb1.cell (p:=⟨w.heap.size,0,none⟩) (by simp)).trans (by simp)
  have f0:w1.frozen? ⟨w.heap.size,0,none⟩=false:=(hb1.frozen (p:=⟨w.heap.size,0,none⟩) (by simp)).trans (by simp)
  have q1:w1.cell? ⟨w.heap.size,1,none⟩=some (.int .i64 0):=(hb1.cell (p:=⟨w.heap.size,1,none⟩) (by simp)).trans (by simp)
  have f1:w1.frozen? ⟨w.heap.size,1,none⟩=false:=(hb1.frozen (p:=⟨w.heap.size,1,none⟩) (by simp)).trans (by simp)
  have q2:w1.cell? ⟨w.heap.size,2,none⟩=some (.string ⟨#[]⟩):=(hb1.cell (p:=⟨w.heap.size,2,none⟩) (by simp)).trans (by simp)
  have f2:w1.frozen? ⟨w.heap.size,2,none⟩=false:=(hb1.frozen (p:=⟨w.heap.size,2,none⟩) (by simp)).trans (by simp)
  have q3:w1.cell? ⟨w.heap.size,3,none⟩=some (.string ⟨#[]⟩):=(hb1.cell (p:=⟨w.heap.size,3,none⟩) (by simp)).trans (by simp)
  have f3:w1.frozen? ⟨w.heap.size,3,none⟩=false:=(hb1.frozen (p:=⟨w.heap.size,3,none⟩) (by simp)).trans (by simp)
  have hl1:w.heap.size < w1.heap.size:=cell_lt q0
  have HC:Hid (Below w1.heap.size w1 w1):=Below.refl _ _
  clear hb1
  go_wp2_with fail
  refine wp_region_noPanic ?_
  refine wp_region_held_drew (S:=(fun _=>True)) (by kernel_rfl) trivial (fun hHeld=>?_)
  refine rtk 0 (h:=?_)
  refine rtk 1 (h:=?_)
  refine rtk 2 (h:=?_)
  refine rtk 3 (h:=?_)
  refine rcl 4 (h:=fun K hK=>?_)
  go_simp
  refine (shape_use id f wd lo hi (uh HSH) _).mono ?_
  rintro e w2 ⟨rfl,hb2⟩
  have hb2':=below_undrew1 hb2
  clear hb2
  have HD2:=zh ((uh HD).below hb2')
  refine hK.out _ _ trivial (fun hHeld=>?_)
  clear hK K
  refine rcl 5 (h:=fun K hK=>?_)
  go_simp
  refine ((uh HG) _ _ (uh HD2)).mono ?_
  rintro e w3 ⟨i3,n3,s3,t3,k3,ty3,x3,m3,rfl,hi3,hb3⟩
  have HB3:Hid (Below w1.heap.size w1 w3):=hb2'.trans (hb3.mono hb2'.size)
  have r0:=((uh HB3).cell (cell_lt q0)).trans q0
  have g0:=((uh HB3).frozen (p:=⟨w.heap.size,0,none⟩) (cell_lt q0)).trans f0
  have r1:=((uh HB3).cell (cell_lt q1)).trans q1
  have g1:=((uh HB3).frozen (p:=⟨w.heap.size,1,none⟩) (cell_lt q1)).trans f1
  have r2:=((uh HB3).cell (cell_lt q2)).trans q2
  have g2:=((uh HB3).frozen (p:=⟨w.heap.size,2,none⟩) (cell_lt q2)).trans f2
  have r3:=((uh HB3).cell (cell_lt q3)).trans q3
  have g3:=((uh HB3).frozen (p:=⟨w.heap.size,3,none⟩) (cell_lt q3)).trans f3
  clear hb2' hb3
  refine hK.out _ _ trivial (fun hHeld=>?_)
  clear hK K
  refine rtk 6 (h:=?_)
  refine rtk 7 (h:=?_)
  refine rtk 8 (h:=?_)
  refine rtk 9 (h:=?_)
  refine rcl 10 (h:=fun K hK=>?_)
  go_simp
  refine hK.out _ _ trivial (fun hHeld=>?_)
  clear hK K
  show wpAnyH _ _ _ _ _ _ _ _ (set4 w3 w.heap.size i3 n3 s3 t3)
  have c0:=set4_c0 w3 w.heap.size i3 n3 s3 t3 r0
  have c1:=set4_c1 w3 w.heap.size i3 n3 s3 t3 r1
  have c2:=set4_c2 w3 w.heap.size i3 n3 s3 t3 r2
  have c3:=set4_c3 w3 w.heap.size i3 n3 s3 t3 r3
  have e0:=(set4_frozen w3 w.heap.size i3 n3 s3 t3 ⟨w.heap.size,0,none⟩).trans g0
  have e1:=(set4_frozen w3 w.heap.size i3 n3 s3 t3 ⟨w.heap.size,1,none⟩).trans g1
  have e2:=(set4_frozen w3 w.heap.size i3 n3 s3 t3 ⟨w.heap.size,2,none⟩).trans g2
  have e3:=(set4_frozen w3 w.heap.size i3 n3 s3 t3 ⟨w.heap.size,3,none⟩).trans g3
  have HB4:Hid (Below w.heap.size w (set4 w3 w.heap.size i3 n3 s3 t3)):=set4_below _ _ _ _ _ _ _ _ ((uh HB1).trans ((uh HB3).mono (uh HB1).size)) (Nat.le_refl _)
  have HOF4:=zh (set4_off ((uh hi3).off r1) i3 n3 s3 t3)
  clear hi3
  generalize set4 w3 w.heap.size i3 n3 s3 t3=W4 at c0 c1 c2 c3 e0 e1 e2 e3 HB4 HOF4 |-
  clear r0 r1 r2 r3 g0 g1 g2 g3 q0 q1 q2 q3 f0 f1 f2 f3 HB3
  refine rcl 11 (h:=fun K hK=>?_)
  go_simp
  refine hK.out _ _ trivial (fun hHeld=>?_)
  clear hK K
  refine rcl 12 (h:=fun K hK=>?_)
  go_simp
  refine hK.out _ _ trivial (fun hHeld=>?_)
  clear hK K
  refine wpAnyH_done (by kernel_rfl) ?_ _
  refine NoPanic.normal ?_
  clear HD2 HG
  go_wp2
  (try simp only[Exit.inBlock,Exit.then])
  refine bodyPost_ret (res_p (B:=w.heap.size) (v0:=.int .i64 (0)) (v1:=.int .i64 (0)) (v2:=.string ⟨#[]⟩) (v3:=.string ⟨#[]⟩) rfl rfl ?c0 ?c1 ?c2 ?c3) rfl ?_
  case c0=>simp (maxDischargeDepth:=12) [cell_set,c0]
  case c1=>simp (maxDischargeDepth:=12) [cell_set,c1]
  case c2=>simp (maxDischargeDepth:=12) [cell_set,c2]
  case c3=>simp (maxDischargeDepth:=12) [cell_set,c3]
  refine⟨_,_,_,_,_,_,_,m3,rfl,InnOff.inn (B:=w.heap.size) ?_,?_⟩
  ·refine InnOff.set ?_ rfl;refine InnOff.set ?_ rfl;refine InnOff.set ?_ rfl;refine InnOff.set ?_ rfl;exact uh HOF4
  ·have:=uh HB4;go_grown
 ·go_enter Tryz.func125,Tryz.ntmps125
  go_wp2_with fail
  refine (vget_good _ l _ ((uh HV).below (by go_grown)) id Q (uh Hhv)).mono ?_
  rintro e w1 ⟨rfl,hb1⟩
  have HB1:=bal1 hb1
  have HD:Hid (Byt w1 (.slice (some ⟨b,off+Q,none⟩) (n - Q) (cap - Q)) (l.drop Q)):=by
   show Byt _ _ _
   have:=((uh HV).below (uh HB1)).drop' Q (by omega)
   rw[if_neg hcQ]at this;exact this
  have q0:w1.cell? ⟨w.heap.size,0,none⟩=some (.int .i64 0):=(hb1.cell (p:=⟨w.heap.size,0,none⟩) (by simp)).trans (by simp)
  have f0:w1.frozen? ⟨w.heap.size,0,none⟩=false:=(hb1.frozen (p:=⟨w.heap.size,0,none⟩) (by simp)).trans (by simp)
  have q1:w1.cell? ⟨w.heap.size,1,none⟩=some (.int .i64 0):=(hb1.cell (p:=⟨w.heap.size,1,none⟩) (by simp)).trans (by simp)
  have f1:w1.frozen? ⟨w.heap.size,1,none⟩=false:=(hb1.frozen (p:=⟨w.heap.size,1,none⟩) (by simp)).trans (by simp)
  have q2:w1.cell? ⟨w.heap.size,2,none⟩=some (.string ⟨#[]⟩):=(hb1.cell (p:=⟨w.heap.size,2,none⟩) (by simp)).trans (by simp)
  have f2:w1.frozen? ⟨w.heap.size,2,none⟩=false:=(hb1.frozen (p:=⟨w.heap.size,2,none⟩) (by simp)).trans (by simp)
  have q3:w1.cell? ⟨w.heap.size,3,none⟩=some (.string ⟨#[]⟩):=(hb1.cell (p:=⟨w.heap.size,3,none⟩) (by simp)).trans (by simp)
  have f3:w1.frozen? ⟨w.heap.size,3,none⟩=false:=(hb1.frozen (p:=⟨w.heap.size,3,none⟩) (by simp)).trans (by simp)
  have hl1:w.heap.size < w1.heap.size:=cell_lt q0
  have HC:Hid (Below w1.heap.size w1 w1):=Below.refl _ _
  clear hb1
  go_wp2_with fail
  refine wp_region_noPanic ?_
  refine wp_region_held_drew (S:=(fun _=>True)) (by kernel_rfl) trivial (fun hHeld=>?_)
  refine rtk 0 (h:=?_)
  refine rtk 1 (h:=?_)
  refine rtk 2 (h:=?_)
  refine rtk 3 (h:=?_)
  refine rcl 4 (h:=fun K hK=>?_)
  go_simp
  refine (shape_use id f wd lo hi (uh HSH) _).mono ?_
  rintro e w2 ⟨rfl,hb2⟩
  have hb2':=below_undrew1 hb2
  clear hb2
  have HD2:=zh ((uh HD).below hb2')
  refine hK.out _ _ trivial (fun hHeld=>?_)
  clear hK K
  refine rcl 5 (h:=fun K hK=>?_)
  go_simp
  refine ((uh HG) _ _ (uh HD2)).mono ?_
  rintro e w3 ⟨i3,n3,s3,t3,k3,ty3,x3,m3,rfl,hi3,hb3⟩
  have HB3:Hid (Below w1.heap.size w1 w3):=hb2'.trans (hb3.mono hb2'.size)
  have r0:=((uh HB3).cell (cell_lt q0)).trans q0
  have g0:=((uh HB3).frozen (p:=⟨w.heap.size,0,none⟩) (cell_lt q0)).trans f0
  have r1:=((uh HB3).cell (cell_lt q1)).trans q1
  have g1:=((uh HB3).frozen (p:=⟨w.heap.size,1,none⟩) (cell_lt q1)).trans f1
  have r2:=((uh HB3).cell (cell_lt q2)).trans q2
  have g2:=((uh HB3).frozen (p:=⟨w.heap.size,2,none⟩) (cell_lt q2)).trans f2
  have r3:=((uh HB3).cell (cell_lt q3)).trans q3
  have g3:=((uh HB3).frozen (p:=⟨w.heap.size,3,none⟩) (cell_lt q3)).trans f3
  clear hb2' hb3
  refine hK.out _ _ trivial (fun hHeld=>?_)
  clear hK K
  refine rtk 6 (h:=?_)
  refine rtk 7 (h:=?_)
  refine rtk 8 (h:=?_)
  refine rtk 9 (h:=?_)
  refine rcl 10 (h:=fun K hK=>?_)
  go_simp
  refine hK.out _ _ trivial (fun hHeld=>?_)
  clear hK K
  show wpAnyH _ _ _ _ _ _ _ _ (set4 w3 w.heap.size i3 n3 s3 t3)
  have c0:=set4_c0 w3 w.heap.size i3 n3 s3 t3 r0
  have c1:=set4_c1 w3 w.heap.size i3 n3 s3 t3 r1
  have c2:=set4_c2 w3 w.heap.size i3 n3 s3 t3 r2
  have c3:=set4_c3 w3 w.heap.size i3 n3 s3 t3 r3
  have e0:=(set4_frozen w3 w.heap.size i3 n3 s3 t3 ⟨w.heap.size,0,none⟩).trans g0
  have e1:=(set4_frozen w3 w.heap.size i3 n3 s3 t3 ⟨w.heap.size,1,none⟩).trans g1
  have e2:=(set4_frozen w3 w.heap.size i3 n3 s3 t3 ⟨w.heap.size,2,none⟩).trans g2
  have e3:=(set4_frozen w3 w.heap.size i3 n3 s3 t3 ⟨w.heap.size,3,none⟩).trans g3
  have HB4:Hid (Below w.heap.size w (set4 w3 w.heap.size i3 n3 s3 t3)):=set4_below _ _ _ _ _ _ _ _ ((uh HB1).trans ((uh HB3).mono (uh HB1).size)) (Nat.le_refl _)
  have HOF4:=zh (set4_off ((uh hi3).off r1) i3 n3 s3 t3)
  clear hi3
  generalize set4 w3 w.heap.size i3 n3 s3 t3=W4 at c0 c1 c2 c3 e0 e1 e2 e3 HB4 HOF4 |-
  clear r0 r1 r2 r3 g0 g1 g2 g3 q0 q1 q2 q3 f0 f1 f2 f3 HB3
  refine rcl 11 (h:=fun K hK=>?_)
  go_simp
  refine hK.out _ _ trivial (fun hHeld=>?_)
  clear hK K
  refine rcl 12 (h:=fun K hK=>?_)
  go_simp
  refine hK.out _ _ trivial (fun hHeld=>?_)
  clear hK K
  refine wpAnyH_done (by kernel_rfl) ?_ _
  refine NoPanic.normal ?_
  clear HD2 HG
  go_wp2
  (try simp only[Exit.inBlock,Exit.then])
  refine bodyPost_ret (res_p (B:=w.heap.size) (v0:=.int .i64 (0)) (v1:=.int .i64 (0)) (v2:=.string ⟨#[]⟩) (v3:=.string ⟨#[]⟩) rfl rfl ?c0 ?c1 ?c2 ?c3) rfl ?_
  case c0=>simp (maxDischargeDepth:=12) [cell_set,c0]
  case c1=>simp (maxDischargeDepth:=12) [cell_set,c1]
  case c2=>simp (maxDischargeDepth:=12) [cell_set,c2]
  case c3=>simp (maxDischargeDepth:=12) [cell_set,c3]
  refine⟨_,_,_,_,_,_,_,m3,rfl,InnOff.inn (B:=w.heap.size) ?_,?_⟩
  ·refine InnOff.set ?_ rfl;refine InnOff.set ?_ rfl;refine InnOff.set ?_ rfl;refine InnOff.set ?_ rfl;exact uh HOF4
  ·have:=uh HB4;go_grown
theorem lst_pos (id:Int):0<=lst id:=by unfold lst;split <;> omega
theorem fit_num {id n:Int} {s t:ByteArray} (h:fit (id,n,s,t)=true):0<=n/\lst id<=n/\n<=mx id:=by
 unfold fit at h
 rw[Bool.and_eq_true,Bool.and_eq_true,decide_eq_true_eq,decide_eq_true_eq]at h
 have:=lst_pos id
 have h1:=h.1
 simp only at h1
 omega
theorem shv_of (id k f wd m:Int) (hk:kd id=k) (hf:(if k=1\/k=2\/k=4 then 1 else if k=5 then 2 else if k=6 then 3 else if k=7 then 4 else if k=8 then 5 else 0)=f) (hw:(if k=1\/k=2\/k=4 then k else 0)=wd) (hm:mx id=m):shv id=.agg #[.int .i64 f,.int .i64 wd,.int .i64 (lst id),.int .i64 m]:=by
 unfold shv frm wid
 rw[hk,hf,hw,hm]
theorem pvb_num (id n:Int) (s t:ByteArray) (k:Int) (hk:kd id=k) (h:k=1\/k=2\/k=4):pvb (id,n,s,t)=nbs k n:=by
 unfold pvb nbs
 rcases h with rfl | rfl | rfl <;> simp[hk]
theorem value_ok (id n:Int) (s t:ByteArray) (w:World) (hm:may (id,n,s,t)=true):Calls Tryz.prog 115 #[.agg #[.int .i64 id,.int .i64 n,.string s,.string t]] w (ValOk (pvb (id,n,s,t)) w):=by
 unfold may at hm
 rw[Bool.and_eq_true]at hm
 obtain⟨hf,ht⟩:=hm
 obtain⟨h0,h1,h2⟩:=fit_num hf
 have hx:mx id=(if kd id=1 then 1 else if kd id=2 then 65535 else if kd id=4 then 4294967295 else if kd id=5 then 268435455 else 0):=rfl
 rcases kd_cases id with h | h | h | h | h | h | h | h
 ·unfold txo at ht;simp[h]at ht
 ·rw[pvb_num id n s t 1 h (by omega)]
  rw[if_pos h]at hx
  exact value_num id n 1 s t w _ _ (shv_of id 1 1 1 1 h rfl rfl hx) (.inl ⟨rfl,by omega⟩) h0
 ·rw[pvb_num id n s t 2 h (by omega)]
  rw[if_neg (by omega),if_pos h]at hx
  exact value_num id n 2 s t w _ _ (shv_of id 2 1 2 65535 h rfl rfl hx) (.inr (.inl ⟨rfl,by omega⟩)) h0
 ·rw[pvb_num id n s t 4 h (by omega)]
  rw[if_neg (by omega),if_neg (by omega),if_pos h]at hx
  exact value_num id n 4 s t w _ _ (shv_of id 4 1 4 4294967295 h rfl rfl hx) (.inr (.inr ⟨rfl,by omega⟩)) h0
 ·rw[show pvb (id,n,s,t)=V.put n from by unfold pvb;simp[h]]
  rw[if_neg (by omega),if_neg (by omega),if_neg (by omega),if_pos h]at hx
  exact value_var id n s t w _ _ _ (shv_of id 5 2 0 _ h rfl rfl hx) h0 (by omega)
 ·rw[show pvb (id,n,s,t)=tx s from by unfold pvb;simp[h]]
  rw[if_neg (by omega),if_neg (by omega),if_neg (by omega),if_neg (by omega)]at hx
  exact value_text id n s t w _ _ _ (shv_of id 6 3 0 _ h rfl rfl hx) (by unfold txo at ht;simpa [h] using ht)
 ·rw[show pvb (id,n,s,t)=tx s from by unfold pvb;simp[h]]
  rw[if_neg (by omega),if_neg (by omega),if_neg (by omega),if_neg (by omega)]at hx
  exact value_bin id n s t w _ _ _ (shv_of id 7 4 0 _ h rfl rfl hx) (by unfold txo at ht;simpa [h] using ht)
 ·rw[show pvb (id,n,s,t)=tx s++tx t from by unfold pvb;simp[h]]
  rw[if_neg (by omega),if_neg (by omega),if_neg (by omega),if_neg (by omega)]at hx
  have hc:chk (sb s)=0/\chk (sb t)=0:=by unfold txo at ht;simpa [h] using ht
  exact value_pair id n s t w _ _ _ (shv_of id 8 5 0 _ h rfl rfl hx) hc.1 hc.2
theorem value_bad (id n:Int) (s t:ByteArray) (w:World) (hls:s.size<=4611686018427387904) (hlt:t.size<=4611686018427387904) (hk:kd id≠0) (ht:txo (id,n,s,t)=false):Calls Tryz.prog 115 #[.agg #[.int .i64 id,.int .i64 n,.string s,.string t]] w (ValBad w):=by
 have hx:mx id=(if kd id=1 then 1 else if kd id=2 then 65535 else if kd id=4 then 4294967295 else if kd id=5 then 268435455 else 0):=rfl
 rcases kd_cases id with h | h | h | h | h | h | h | h
 ·exact absurd h hk
 ·unfold txo at ht;simp[h]at ht
 ·unfold txo at ht;simp[h]at ht
 ·unfold txo at ht;simp[h]at ht
 ·unfold txo at ht;simp[h]at ht
 ·rw[if_neg (by omega),if_neg (by omega),if_neg (by omega),if_neg (by omega)]at hx
  exact value_text_bad id n s t w _ _ _ (shv_of id 6 3 0 _ h rfl rfl hx) hls (by unfold txo at ht;simpa [h] using ht)
 ·rw[if_neg (by omega),if_neg (by omega),if_neg (by omega),if_neg (by omega)]at hx
  exact value_bin_bad id n s t w _ _ _ (shv_of id 7 4 0 _ h rfl rfl hx) (by unfold txo at ht;simpa [h] using ht)
 ·rw[if_neg (by omega),if_neg (by omega),if_neg (by omega),if_neg (by omega)]at hx
  have hc:chk (sb s)=0->¬ chk (sb t)=0:=by unfold txo at ht;simpa [h] using ht
  by_cases hs:chk (sb s)=0
  ·exact value_pair_bad2 id n s t w _ _ _ (shv_of id 8 5 0 _ h rfl rfl hx) hlt hs (hc hs)
  ·exact value_pair_bad1 id n s t w _ _ _ (shv_of id 8 5 0 _ h rfl rfl hx) hls hs
theorem one_ok (id n:Int) (s t:ByteArray) (w:World) (hi:1<=id/\id<=42) (hm:may (id,n,s,t)=true):Calls Tryz.prog 98 #[.agg #[.int .i64 id,.int .i64 n,.string s,.string t]] w (ValOk (pb (id,n,s,t)) w):=by
 have hle:=pvb_le _ hm
 have HM:=zh hm
 have HV:=zh (fun W=>value_ok id n s t W hm)
 have HL:=zh (V.put_len id)
 have HP:Hid (pb (id,n,s,t)=V.put id++pvb (id,n,s,t)):=rfl
 generalize pb (id,n,s,t)=l at HP |-
 generalize pvb (id,n,s,t)=l2 at HP HV hle
 clear hm HM
 go_enter Tryz.func98,Tryz.ntmps98
 go_wp2_with fail
 refine (vput_use id _ (by omega) (by omega)).mono ?_
 rintro e w1 ⟨v1,rfl,hown1,hy1,hb1⟩
 have HR:=zh (uh hy1).range
 have HB1:=bal1 hb1
 have c0:w1.cell? ⟨w.heap.size,0,none⟩=some (.int .i64 id):=(hb1.cell (p:=⟨w.heap.size,0,none⟩) (by simp)).trans (by simp)
 have c1:w1.cell? ⟨w.heap.size,1,none⟩=some (.int .i64 n):=(hb1.cell (p:=⟨w.heap.size,1,none⟩) (by simp)).trans (by simp)
 have c2:w1.cell? ⟨w.heap.size,2,none⟩=some (.string s):=(hb1.cell (p:=⟨w.heap.size,2,none⟩) (by simp)).trans (by simp)
 have c3:w1.cell? ⟨w.heap.size,3,none⟩=some (.string t):=(hb1.cell (p:=⟨w.heap.size,3,none⟩) (by simp)).trans (by simp)
 have HO1:Hid (w1.ownsRow w.heap.size 5 1 v1 (V.put id).length ((V.put id).map (Value.int .u8))):=owns_mono (uh hown1) (by simp)
 clear hb1 hown1 hy1
 go_wp2_with fail
 refine ((uh HV) _).mono ?_
 rintro e w2 ⟨v2,rfl,hy2,hb2⟩
 have HO2:Hid (w2.ownsRow w.heap.size 5 1 v1 (V.put id).length ((V.put id).map (Value.int .u8))):=owns_below (uh HO1) hb2
 have HB2:Hid (Below w.heap.size w w2):=(uh HB1).trans (hb2.mono (uh HB1).size)
 clear hb2 HB1 HO1 c0 c1 c2 c3
 go_wp2_with (first
  | (at_builtin;refine wpList_append_byt _ rfl _ _ rfl w.heap.size _ (V.put id).length (V.put id) rfl (uh HO2) v2 l2 rfl (uh hy2) (by have:=uh HL;omega) (uh HB2).size ?_)
  | go_in)
 intro v3 w3 hown3 hgrow3
 have hb3:Below w.heap.size w w3:=(uh HB2).grown hgrow3 (uh HB2).size (fun k hk=>((uh HO2).lt k hk).1)
 have HY3:Hid (Byt w3 v3 l):=by
  show Byt _ _ _
  rw[uh HP]
  exact byt_of_owns (by rw[List.map_append];exact hown3) (range_app (uh HR) (uh hy2).range)
 clear hown3 hgrow3
 go_wp2
 go_ret2
 exact⟨_,rfl,HY3,hb3⟩
theorem one_bad (id n:Int) (s t:ByteArray) (w:World) (hi:1<=id/\id<=42) (hls:s.size<=4611686018427387904) (hlt:t.size<=4611686018427387904) (hk:kd id≠0) (ht:txo (id,n,s,t)=false):Calls Tryz.prog 98 #[.agg #[.int .i64 id,.int .i64 n,.string s,.string t]] w (ValBad w):=by
 have HV:=zh (fun W=>value_bad id n s t W hls hlt hk ht)
 clear hls hlt hk ht
 go_enter Tryz.func98,Tryz.ntmps98
 go_wp2_with fail
 refine (vput_use id _ (by omega) (by omega)).mono ?_
 rintro e w1 ⟨v1,rfl,-,-,hb1⟩
 have HB1:=bal1 hb1
 have c0:w1.cell? ⟨w.heap.size,0,none⟩=some (.int .i64 id):=(hb1.cell (p:=⟨w.heap.size,0,none⟩) (by simp)).trans (by simp)
 have c1:w1.cell? ⟨w.heap.size,1,none⟩=some (.int .i64 n):=(hb1.cell (p:=⟨w.heap.size,1,none⟩) (by simp)).trans (by simp)
 have c2:w1.cell? ⟨w.heap.size,2,none⟩=some (.string s):=(hb1.cell (p:=⟨w.heap.size,2,none⟩) (by simp)).trans (by simp)
 have c3:w1.cell? ⟨w.heap.size,3,none⟩=some (.string t):=(hb1.cell (p:=⟨w.heap.size,3,none⟩) (by simp)).trans (by simp)
 clear hb1
 go_wp2_with fail
 refine ((uh HV) _).mono ?_
 rintro e w2 ⟨t2,x2,m,rfl,hi2,hb2⟩
 go_wp2
 go_ret2
 exact⟨_,_,_,rfl,hi2,(uh HB1).trans (hb2.mono (uh HB1).size)⟩
end Go.Proofs.YtccnjdgaldbgnaaGreatDoor
