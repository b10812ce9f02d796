/- Proved here: helpers, one text behind the other. -/
import Derived.Test.YtpheelbbpiieiaaGreatDoorZC5
import Derived.Test.YtpheelbbpiieiaaGreatDoorZC19
import Derived.Test.YtpheelbbpiieiaaGreatDoorZC14
set_option maxHeartbeats 20000000
namespace Go.Proofs.YtpheelbbpiieiaaGreatDoor
open Go.RowKit
set_option maxRecDepth 100000
theorem four_new {w w1:World} {a b:Int} {c d:ByteArray} {t:TypeId} (hb:Below (w.alloc (.cells #[.int .i64 a,.int .i64 b,.string c,.string d] t)).heap.size (w.alloc (.cells #[.int .i64 a,.int .i64 b,.string c,.string d] t)) w1):(w1.cell? ⟨w.heap.size,0,none⟩=some (.int .i64 a)/\w1.frozen? ⟨w.heap.size,0,none⟩=false)/\(w1.cell? ⟨w.heap.size,1,none⟩=some (.int .i64 b)/\w1.frozen? ⟨w.heap.size,1,none⟩=false)/\(w1.cell? ⟨w.heap.size,2,none⟩=some (.string c)/\w1.frozen? ⟨w.heap.size,2,none⟩=false)/\(w1.cell? ⟨w.heap.size,3,none⟩=some (.string d)/\w1.frozen? ⟨w.heap.size,3,none⟩=false) :=
 ⟨⟨(hb.cell (p:=⟨w.heap.size,0,none⟩) (by simp)).trans (by simp),(hb.frozen (p:=⟨w.heap.size,0,none⟩) (by simp)).trans (by simp)⟩,⟨(hb.cell (p:=⟨w.heap.size,1,none⟩) (by simp)).trans (by simp),(hb.frozen (p:=⟨w.heap.size,1,none⟩) (by simp)).trans (by simp)⟩,⟨(hb.cell (p:=⟨w.heap.size,2,none⟩) (by simp)).trans (by simp),(hb.frozen (p:=⟨w.heap.size,2,none⟩) (by simp)).trans (by simp)⟩,⟨(hb.cell (p:=⟨w.heap.size,3,none⟩) (by simp)).trans (by simp),(hb.frozen (p:=⟨w.heap.size,3,none⟩) (by simp)).trans (by simp)⟩⟩
theorem old_cell {w1 w2:World} {B j:Nat} {ob:Obj} {x:Value} (hb:Below (w1.alloc ob).heap.size (w1.alloc ob) w2) (q:w1.cell? ⟨B,j,none⟩=some x) (f:w1.frozen? ⟨B,j,none⟩=false):w2.cell? ⟨B,j,none⟩=some x/\w2.frozen? ⟨B,j,none⟩=false:=by
 have hl:B < w1.heap.size:=cell_lt q
 have hl2:B < (w1.alloc ob).heap.size:=by simp;omega
 exact⟨(hb.cell (p:=⟨B,j,none⟩) hl2).trans ((World.cell?_alloc_lt _ _ ⟨B,j,none⟩ hl).trans q),(hb.frozen (p:=⟨B,j,none⟩) hl2).trans ((((Below.refl w1.heap.size w1).alloc (Nat.le_refl _) _).frozen (p:=⟨B,j,none⟩) hl).trans f)⟩
theorem four_old {w1 w2:World} {B:Nat} {ob:Obj} {x0 x1 x2 x3:Value} (hb:Below (w1.alloc ob).heap.size (w1.alloc ob) w2) (q0:w1.cell? ⟨B,0,none⟩=some x0) (f0:w1.frozen? ⟨B,0,none⟩=false) (q1:w1.cell? ⟨B,1,none⟩=some x1) (f1:w1.frozen? ⟨B,1,none⟩=false) (q2:w1.cell? ⟨B,2,none⟩=some x2) (f2:w1.frozen? ⟨B,2,none⟩=false) (q3:w1.cell? ⟨B,3,none⟩=some x3) (f3:w1.frozen? ⟨B,3,none⟩=false):(w2.cell? ⟨B,0,none⟩=some (x0)/\w2.frozen? ⟨B,0,none⟩=false)/\(w2.cell? ⟨B,1,none⟩=some (x1)/\w2.frozen? ⟨B,1,none⟩=false)/\(w2.cell? ⟨B,2,none⟩=some (x2)/\w2.frozen? ⟨B,2,none⟩=false)/\(w2.cell? ⟨B,3,none⟩=some (x3)/\w2.frozen? ⟨B,3,none⟩=false) :=
 ⟨old_cell hb q0 f0,old_cell hb q1 f1,old_cell hb q2 f2,old_cell hb q3 f3⟩
theorem kind_tell (id k:Int) (h:kd id=k) (w:World):Calls Tryz.prog 147 #[.int .i64 id] w fun e w'=>e=.returned (.int .i64 k)/\w'=w:=by
 subst h
 exact kind_any id w
theorem rvget_good (v:Value) (l:List Int) (w:World) (h:Byt w v l) (n:Int) (K:Nat) (hv:V.vget l=(n,(K:Int),0)):Calls Tryz.prog 60 #[v] w fun e w'=>e=.returned (.tuple #[.int .i64 n,.int .i64 K,.int .i64 0])/\Below w.heap.size w w':=by
 refine (V.rget_any v l w h).mono ?_
 rintro e w' ⟨rfl,hb⟩
 rw[hv]
 exact⟨rfl,hb⟩
theorem rvget_fail (v:Value) (l:List Int) (w:World) (h:Byt w v l) (m:Int) (hv:(V.vget l).2.2=m):Calls Tryz.prog 60 #[v] w fun e w'=>∃ a b,e=.returned (.tuple #[.int .i64 a,.int .i64 b,.int .i64 m])/\Below w.heap.size w w':=by
 refine (V.rget_any v l w h).mono ?_
 rintro e w' ⟨rfl,hb⟩
 rw[hv]
 exact⟨_,_,rfl,hb⟩
theorem rtget_good (v:Value) (l:List Int) (w:World) (h:Byt w v l) (n:ByteArray) (K:Nat) (hv:gt l=(n,(K:Int),0)):Calls Tryz.prog 93 #[v] w fun e w'=>e=.returned (.tuple #[.string n,.int .i64 K,.int .i64 0])/\Below w.heap.size w w':=by
 refine (rget_any v l w h).mono ?_
 rintro e w' ⟨rfl,hb⟩
 rw[hv]
 exact⟨rfl,hb⟩
theorem rtget_fail (v:Value) (l:List Int) (w:World) (h:Byt w v l) (m:Int) (hv:(gt l).2.2=m):Calls Tryz.prog 93 #[v] w fun e w'=>∃ a b,e=.returned (.tuple #[.string a,.int .i64 b,.int .i64 m])/\Below w.heap.size w w':=by
 refine (rget_any v l w h).mono ?_
 rintro e w' ⟨rfl,hb⟩
 rw[hv]
 exact⟨_,_,rfl,hb⟩
theorem rtbin_good (v:Value) (l:List Int) (w:World) (h:Byt w v l) (n:ByteArray) (K:Nat) (hv:gbn l=(n,(K:Int),0)):Calls Tryz.prog 122 #[v] w fun e w'=>e=.returned (.tuple #[.string n,.int .i64 K,.int .i64 0])/\Below w.heap.size w w':=by
 refine (rgetBin_any v l w h).mono ?_
 rintro e w' ⟨rfl,hb⟩
 rw[hv]
 exact⟨rfl,hb⟩
theorem rtbin_fail (v:Value) (l:List Int) (w:World) (h:Byt w v l) (m:Int) (hv:(gbn l).2.2=m):Calls Tryz.prog 122 #[v] w fun e w'=>∃ a b,e=.returned (.tuple #[.string a,.int .i64 b,.int .i64 m])/\Below w.heap.size w w':=by
 refine (rgetBin_any v l w h).mono ?_
 rintro e w' ⟨rfl,hb⟩
 rw[hv]
 exact⟨_,_,rfl,hb⟩
theorem res_p2 {fn:Func} {a t:Tmp} (h:fn.results=#[.cell a 109,.tmp t]) {tmps:Array Value} {w:World} {B:Nat} {v0 v1 v2 v3:Value} (ha:tmps[a]?.getD undef=.pointer (some ⟨B,0,none⟩)) (c0:w.cell? ⟨B,0,none⟩=some v0) (c1:w.cell? ⟨B,1,none⟩=some v1) (c2:w.cell? ⟨B,2,none⟩=some v2) (c3:w.cell? ⟨B,3,none⟩=some v3) :
  (results fn tmps).run Tryz.prog w=.ok (.tuple #[.agg #[v0,v1,v2,v3],tmps[t]?.getD undef]) w:=by
 simp[results,h,ha,go_sem,c0,c1,c2,c3]
def RgOk (p:Pr) (K:Int) (w:World) (e:Ending) (w':World):Prop:=e=.returned (.tuple #[.agg #[.int .i64 p.1,.int .i64 p.2.1,.string p.2.2.1,.string p.2.2.2],.int .i64 K])/\Below w.heap.size w w'
def RgBad (w:World) (e:Ending) (w':World):Prop:=∃ i n s t,e=.returned (.tuple #[.agg #[.int .i64 i,.int .i64 n,.string s,.string t],.int .i64 0])/\Below w.heap.size w w'
theorem rg_text (v:Value) (l:List Int) (w:World) (h:Byt w v l) (id:Int) (Q:Nat) (hv:V.vget l=(id,(Q:Int),0)) (hQ:1<=Q/\Q<=l.length) (hQ4:Q<=4) (hk:kd id=6) (s:ByteArray) (M:Nat) (hg:gt (l.drop Q)=(s,(M:Int),0)) (hM:1<=M) (hM2:Q+M<=l.length):Calls Tryz.prog 123 #[v] w (RgOk (id,0,s,es) (Q+M:Nat) w):=by
 obtain⟨b,off,cap,rfl,hc1,hc2⟩:=h.form1 (by omega)
 unfold maxLen at hc2
 have HV:=zh h
 have Hhv:=zh hv
 have HKD:=zh hk
 have Hhg:=zh hg
 clear h hv hk hg
 generalize hn:l.length=n at hc1 hQ HV hM2
 have HN:=zh hn
 clear hn
 have hcQ:¬ cap=Q:=by omega
 go_enter Tryz.func123,Tryz.ntmps123
 go_wp2_with fail
 refine (rvget_good _ l _ ((uh HV).below (bal _ _)) id Q (uh Hhv)).mono ?_
 rintro e w1 ⟨rfl,hb1⟩
 have HB1:=bal1 hb1
 have HD:Hid (Byt w1 (.slice (some ⟨b,off+Q,none⟩) (n - Q) (cap - Q)) (l.drop Q)):=by
  show Byt _ _ _
  have:=((uh HV).below (uh HB1)).drop' Q (by omega)
  rw[if_neg hcQ]at this;exact this
 obtain⟨⟨q0,f0⟩,⟨q1,f1⟩,⟨q2,f2⟩,q3,f3⟩:=four_new hb1
 have hl1:w.heap.size < w1.heap.size:=cell_lt q0
 have hne:¬ w1.heap.size=w.heap.size:=by omega
 clear hb1
 go_wp2_with (first | (go_at_call 147;refine (kind_tell id 6 (uh HKD) _).mono ?_;rintro e w2 ⟨rfl,hw⟩;obtain rfl:=hw.symm;clear hw) | fail)
 refine (rtget_good _ _ _ ((uh HD).below (bal _ _)) s M (uh Hhg)).mono ?_
 rintro e w2 ⟨rfl,hb2⟩
 obtain⟨⟨p0,h0⟩,⟨p1,h1⟩,⟨p2,h2⟩,p3,h3⟩:=four_new hb2
 obtain⟨⟨r0,g0⟩,⟨r1,g1⟩,⟨r2,g2⟩,r3,g3⟩:=four_old hb2 q0 f0 q1 f1 q2 f2 q3 f3
 have HB2:Hid (Below w.heap.size w w2):=((uh HB1).alloc (uh HB1).size _).trans (hb2.mono (by simp;omega))
 clear hb2
 go_wp2
 (try simp only[Exit.inBlock,Exit.then])
 refine bodyPost_ret (res_p2 (B:=w.heap.size) (v0:=.int .i64 id) (v1:=.int .i64 0) (v2:=.string s) (v3:=.string ⟨#[]⟩) rfl rfl ?c0 ?c1 ?c2 ?c3) rfl ?_
 case c0=>simp (maxDischargeDepth:=12) [cell_set,r0]
 case c1=>simp (maxDischargeDepth:=12) [cell_set,r1]
 case c2=>simp (maxDischargeDepth:=12) [cell_set,r2]
 case c3=>simp (maxDischargeDepth:=12) [cell_set,r3]
 exact⟨by go_num,by have:=uh HB2;go_grown⟩
theorem rg_text_bad (v:Value) (l:List Int) (w:World) (h:Byt w v l) (id:Int) (Q:Nat) (hv:V.vget l=(id,(Q:Int),0)) (hQ:1<=Q/\Q<=l.length) (hQ4:Q<=4) (hk:kd id=6) (m:Int) (hg:(gt (l.drop Q)).2.2=m) (hm:m≠0):Calls Tryz.prog 123 #[v] w (RgBad w):=by
 obtain⟨b,off,cap,rfl,hc1,hc2⟩:=h.form1 (by omega)
 unfold maxLen at hc2
 have HV:=zh h
 have Hhv:=zh hv
 have HKD:=zh hk
 have Hhg:=zh hg
 clear h hv hk hg
 generalize hn:l.length=n at hc1 hQ HV 
 have HN:=zh hn
 clear hn
 by_cases hcQ:cap=Q
 ·have e1:Q=cap:=hcQ.symm
  clear hcQ
  subst e1
  have e2:Q=n:=by omega
  subst e2
  go_enter Tryz.func123,Tryz.ntmps123
  go_wp2_with fail
  refine (rvget_good _ l _ ((uh HV).below (bal _ _)) id Q (uh Hhv)).mono ?_
  rintro e w1 ⟨rfl,hb1⟩
  have HB1:=bal1 hb1
  have HD:Hid (Byt w1 (.slice (some ⟨b,off,none⟩) 0 0) (l.drop Q)):=by
   show Byt _ _ _
   have:=((uh HV).below (uh HB1)).drop' Q (by omega)
   rw[if_pos rfl,Nat.sub_self]at this;exact this
  obtain⟨⟨q0,f0⟩,⟨q1,f1⟩,⟨q2,f2⟩,q3,f3⟩:=four_new hb1
  have hl1:w.heap.size < w1.heap.size:=cell_lt q0
  have hne:¬ w1.heap.size=w.heap.size:=by omega
  clear hb1
  go_wp2_with (first | (go_at_call 147;refine (kind_tell id 6 (uh HKD) _).mono ?_;rintro e w2 ⟨rfl,hw⟩;obtain rfl:=hw.symm;clear hw) | fail)
  refine (rtget_fail _ _ _ ((uh HD).below (bal _ _)) m (uh Hhg)).mono ?_
  rintro e w2 ⟨a,b2,rfl,hb2⟩
  obtain⟨⟨p0,h0⟩,⟨p1,h1⟩,⟨p2,h2⟩,p3,h3⟩:=four_new hb2
  obtain⟨⟨r0,g0⟩,⟨r1,g1⟩,⟨r2,g2⟩,r3,g3⟩:=four_old hb2 q0 f0 q1 f1 q2 f2 q3 f3
  have HB2:Hid (Below w.heap.size w w2):=((uh HB1).alloc (uh HB1).size _).trans (hb2.mono (by simp;omega))
  clear hb2
  go_wp2
  (try simp only[Exit.inBlock,Exit.then])
  refine bodyPost_ret (res_p2 (B:=w.heap.size) (v0:=.int .i64 id) (v1:=.int .i64 0) (v2:=.string a) (v3:=.string ⟨#[]⟩) rfl rfl ?c0 ?c1 ?c2 ?c3) rfl ?_
  case c0=>simp (maxDischargeDepth:=12) [cell_set,r0]
  case c1=>simp (maxDischargeDepth:=12) [cell_set,r1]
  case c2=>simp (maxDischargeDepth:=12) [cell_set,r2]
  case c3=>simp (maxDischargeDepth:=12) [cell_set,r3]
  exact⟨_,_,_,_,rfl,by have:=uh HB2;go_grown⟩
 ·go_enter Tryz.func123,Tryz.ntmps123
  go_wp2_with fail
  refine (rvget_good _ l _ ((uh HV).below (bal _ _)) id Q (uh Hhv)).mono ?_
  rintro e w1 ⟨rfl,hb1⟩
  have HB1:=bal1 hb1
  have HD:Hid (Byt w1 (.slice (some ⟨b,off+Q,none⟩) (n - Q) (cap - Q)) (l.drop Q)):=by
   show Byt _ _ _
   have:=((uh HV).below (uh HB1)).drop' Q (by omega)
   rw[if_neg hcQ]at this;exact this
  obtain⟨⟨q0,f0⟩,⟨q1,f1⟩,⟨q2,f2⟩,q3,f3⟩:=four_new hb1
  have hl1:w.heap.size < w1.heap.size:=cell_lt q0
  have hne:¬ w1.heap.size=w.heap.size:=by omega
  clear hb1
  go_wp2_with (first | (go_at_call 147;refine (kind_tell id 6 (uh HKD) _).mono ?_;rintro e w2 ⟨rfl,hw⟩;obtain rfl:=hw.symm;clear hw) | fail)
  refine (rtget_fail _ _ _ ((uh HD).below (bal _ _)) m (uh Hhg)).mono ?_
  rintro e w2 ⟨a,b2,rfl,hb2⟩
  obtain⟨⟨p0,h0⟩,⟨p1,h1⟩,⟨p2,h2⟩,p3,h3⟩:=four_new hb2
  obtain⟨⟨r0,g0⟩,⟨r1,g1⟩,⟨r2,g2⟩,r3,g3⟩:=four_old hb2 q0 f0 q1 f1 q2 f2 q3 f3
  have HB2:Hid (Below w.heap.size w w2):=((uh HB1).alloc (uh HB1).size _).trans (hb2.mono (by simp;omega))
  clear hb2
  go_wp2
  (try simp only[Exit.inBlock,Exit.then])
  refine bodyPost_ret (res_p2 (B:=w.heap.size) (v0:=.int .i64 id) (v1:=.int .i64 0) (v2:=.string a) (v3:=.string ⟨#[]⟩) rfl rfl ?c0 ?c1 ?c2 ?c3) rfl ?_
  case c0=>simp (maxDischargeDepth:=12) [cell_set,r0]
  case c1=>simp (maxDischargeDepth:=12) [cell_set,r1]
  case c2=>simp (maxDischargeDepth:=12) [cell_set,r2]
  case c3=>simp (maxDischargeDepth:=12) [cell_set,r3]
  exact⟨_,_,_,_,rfl,by have:=uh HB2;go_grown⟩
theorem rg_bin (v:Value) (l:List Int) (w:World) (h:Byt w v l) (id:Int) (Q:Nat) (hv:V.vget l=(id,(Q:Int),0)) (hQ:1<=Q/\Q<=l.length) (hQ4:Q<=4) (hk:kd id=7) (s:ByteArray) (M:Nat) (hg:gbn (l.drop Q)=(s,(M:Int),0)) (hM:1<=M) (hM2:Q+M<=l.length):Calls Tryz.prog 123 #[v] w (RgOk (id,0,s,es) (Q+M:Nat) w):=by
 obtain⟨b,off,cap,rfl,hc1,hc2⟩:=h.form1 (by omega)
 unfold maxLen at hc2
 have HV:=zh h
 have Hhv:=zh hv
 have HKD:=zh hk
 have Hhg:=zh hg
 clear h hv hk hg
 generalize hn:l.length=n at hc1 hQ HV hM2
 have HN:=zh hn
 clear hn
 have hcQ:¬ cap=Q:=by omega
 go_enter Tryz.func123,Tryz.ntmps123
 go_wp2_with fail
 refine (rvget_good _ l _ ((uh HV).below (bal _ _)) id Q (uh Hhv)).mono ?_
 rintro e w1 ⟨rfl,hb1⟩
 have HB1:=bal1 hb1
 have HD:Hid (Byt w1 (.slice (some ⟨b,off+Q,none⟩) (n - Q) (cap - Q)) (l.drop Q)):=by
  show Byt _ _ _
  have:=((uh HV).below (uh HB1)).drop' Q (by omega)
  rw[if_neg hcQ]at this;exact this
 obtain⟨⟨q0,f0⟩,⟨q1,f1⟩,⟨q2,f2⟩,q3,f3⟩:=four_new hb1
 have hl1:w.heap.size < w1.heap.size:=cell_lt q0
 have hne:¬ w1.heap.size=w.heap.size:=by omega
 clear hb1
 go_wp2_with (first | (go_at_call 147;refine (kind_tell id 7 (uh HKD) _).mono ?_;rintro e w2 ⟨rfl,hw⟩;obtain rfl:=hw.symm;clear hw) | fail)
 refine (rtbin_good _ _ _ ((uh HD).below (bal _ _)) s M (uh Hhg)).mono ?_
 rintro e w2 ⟨rfl,hb2⟩
 obtain⟨⟨p0,h0⟩,⟨p1,h1⟩,⟨p2,h2⟩,p3,h3⟩:=four_new hb2
 obtain⟨⟨r0,g0⟩,⟨r1,g1⟩,⟨r2,g2⟩,r3,g3⟩:=four_old hb2 q0 f0 q1 f1 q2 f2 q3 f3
 have HB2:Hid (Below w.heap.size w w2):=((uh HB1).alloc (uh HB1).size _).trans (hb2.mono (by simp;omega))
 clear hb2
 go_wp2
 (try simp only[Exit.inBlock,Exit.then])
 refine bodyPost_ret (res_p2 (B:=w.heap.size) (v0:=.int .i64 id) (v1:=.int .i64 0) (v2:=.string s) (v3:=.string ⟨#[]⟩) rfl rfl ?c0 ?c1 ?c2 ?c3) rfl ?_
 case c0=>simp (maxDischargeDepth:=12) [cell_set,r0]
 case c1=>simp (maxDischargeDepth:=12) [cell_set,r1]
 case c2=>simp (maxDischargeDepth:=12) [cell_set,r2]
 case c3=>simp (maxDischargeDepth:=12) [cell_set,r3]
 exact⟨by go_num,by have:=uh HB2;go_grown⟩
theorem rg_bin_bad (v:Value) (l:List Int) (w:World) (h:Byt w v l) (id:Int) (Q:Nat) (hv:V.vget l=(id,(Q:Int),0)) (hQ:1<=Q/\Q<=l.length) (hQ4:Q<=4) (hk:kd id=7) (m:Int) (hg:(gbn (l.drop Q)).2.2=m) (hm:m≠0):Calls Tryz.prog 123 #[v] w (RgBad w):=by
 obtain⟨b,off,cap,rfl,hc1,hc2⟩:=h.form1 (by omega)
 unfold maxLen at hc2
 have HV:=zh h
 have Hhv:=zh hv
 have HKD:=zh hk
 have Hhg:=zh hg
 clear h hv hk hg
 generalize hn:l.length=n at hc1 hQ HV 
 have HN:=zh hn
 clear hn
 by_cases hcQ:cap=Q
 ·have e1:Q=cap:=hcQ.symm
  clear hcQ
  subst e1
  have e2:Q=n:=by omega
  subst e2
  go_enter Tryz.func123,Tryz.ntmps123
  go_wp2_with fail
  refine (rvget_good _ l _ ((uh HV).below (bal _ _)) id Q (uh Hhv)).mono ?_
  rintro e w1 ⟨rfl,hb1⟩
  have HB1:=bal1 hb1
  have HD:Hid (Byt w1 (.slice (some ⟨b,off,none⟩) 0 0) (l.drop Q)):=by
   show Byt _ _ _
   have:=((uh HV).below (uh HB1)).drop' Q (by omega)
   rw[if_pos rfl,Nat.sub_self]at this;exact this
  obtain⟨⟨q0,f0⟩,⟨q1,f1⟩,⟨q2,f2⟩,q3,f3⟩:=four_new hb1
  have hl1:w.heap.size < w1.heap.size:=cell_lt q0
  have hne:¬ w1.heap.size=w.heap.size:=by omega
  clear hb1
  go_wp2_with (first | (go_at_call 147;refine (kind_tell id 7 (uh HKD) _).mono ?_;rintro e w2 ⟨rfl,hw⟩;obtain rfl:=hw.symm;clear hw) | fail)
  refine (rtbin_fail _ _ _ ((uh HD).below (bal _ _)) m (uh Hhg)).mono ?_
  rintro e w2 ⟨a,b2,rfl,hb2⟩
  obtain⟨⟨p0,h0⟩,⟨p1,h1⟩,⟨p2,h2⟩,p3,h3⟩:=four_new hb2
  obtain⟨⟨r0,g0⟩,⟨r1,g1⟩,⟨r2,g2⟩,r3,g3⟩:=four_old hb2 q0 f0 q1 f1 q2 f2 q3 f3
  have HB2:Hid (Below w.heap.size w w2):=((uh HB1).alloc (uh HB1).size _).trans (hb2.mono (by simp;omega))
  clear hb2
  go_wp2
  (try simp only[Exit.inBlock,Exit.then])
  refine bodyPost_ret (res_p2 (B:=w.heap.size) (v0:=.int .i64 id) (v1:=.int .i64 0) (v2:=.string a) (v3:=.string ⟨#[]⟩) rfl rfl ?c0 ?c1 ?c2 ?c3) rfl ?_
  case c0=>simp (maxDischargeDepth:=12) [cell_set,r0]
  case c1=>simp (maxDischargeDepth:=12) [cell_set,r1]
  case c2=>simp (maxDischargeDepth:=12) [cell_set,r2]
  case c3=>simp (maxDischargeDepth:=12) [cell_set,r3]
  exact⟨_,_,_,_,rfl,by have:=uh HB2;go_grown⟩
 ·go_enter Tryz.func123,Tryz.ntmps123
  go_wp2_with fail
  refine (rvget_good _ l _ ((uh HV).below (bal _ _)) id Q (uh Hhv)).mono ?_
  rintro e w1 ⟨rfl,hb1⟩
  have HB1:=bal1 hb1
  have HD:Hid (Byt w1 (.slice (some ⟨b,off+Q,none⟩) (n - Q) (cap - Q)) (l.drop Q)):=by
   show Byt _ _ _
   have:=((uh HV).below (uh HB1)).drop' Q (by omega)
   rw[if_neg hcQ]at this;exact this
  obtain⟨⟨q0,f0⟩,⟨q1,f1⟩,⟨q2,f2⟩,q3,f3⟩:=four_new hb1
  have hl1:w.heap.size < w1.heap.size:=cell_lt q0
  have hne:¬ w1.heap.size=w.heap.size:=by omega
  clear hb1
  go_wp2_with (first | (go_at_call 147;refine (kind_tell id 7 (uh HKD) _).mono ?_;rintro e w2 ⟨rfl,hw⟩;obtain rfl:=hw.symm;clear hw) | fail)
  refine (rtbin_fail _ _ _ ((uh HD).below (bal _ _)) m (uh Hhg)).mono ?_
  rintro e w2 ⟨a,b2,rfl,hb2⟩
  obtain⟨⟨p0,h0⟩,⟨p1,h1⟩,⟨p2,h2⟩,p3,h3⟩:=four_new hb2
  obtain⟨⟨r0,g0⟩,⟨r1,g1⟩,⟨r2,g2⟩,r3,g3⟩:=four_old hb2 q0 f0 q1 f1 q2 f2 q3 f3
  have HB2:Hid (Below w.heap.size w w2):=((uh HB1).alloc (uh HB1).size _).trans (hb2.mono (by simp;omega))
  clear hb2
  go_wp2
  (try simp only[Exit.inBlock,Exit.then])
  refine bodyPost_ret (res_p2 (B:=w.heap.size) (v0:=.int .i64 id) (v1:=.int .i64 0) (v2:=.string a) (v3:=.string ⟨#[]⟩) rfl rfl ?c0 ?c1 ?c2 ?c3) rfl ?_
  case c0=>simp (maxDischargeDepth:=12) [cell_set,r0]
  case c1=>simp (maxDischargeDepth:=12) [cell_set,r1]
  case c2=>simp (maxDischargeDepth:=12) [cell_set,r2]
  case c3=>simp (maxDischargeDepth:=12) [cell_set,r3]
  exact⟨_,_,_,_,rfl,by have:=uh HB2;go_grown⟩
theorem rg_var (v:Value) (l:List Int) (w:World) (h:Byt w v l) (id:Int) (Q:Nat) (hv:V.vget l=(id,(Q:Int),0)) (hQ:1<=Q/\Q<=l.length) (hQ4:Q<=4) (hk:kd id=5) (s:Int) (M:Nat) (hg:V.vget (l.drop Q)=(s,(M:Int),0)) (hM:1<=M) (hM2:Q+M<=l.length):Calls Tryz.prog 123 #[v] w (RgOk (id,s,es,es) (Q+M:Nat) w):=by
 obtain⟨b,off,cap,rfl,hc1,hc2⟩:=h.form1 (by omega)
 unfold maxLen at hc2
 have HV:=zh h
 have Hhv:=zh hv
 have HKD:=zh hk
 have Hhg:=zh hg
 clear h hv hk hg
 generalize hn:l.length=n at hc1 hQ HV hM2
 have HN:=zh hn
 clear hn
 have hcQ:¬ cap=Q:=by omega
 go_enter Tryz.func123,Tryz.ntmps123
 go_wp2_with fail
 refine (rvget_good _ l _ ((uh HV).below (bal _ _)) id Q (uh Hhv)).mono ?_
 rintro e w1 ⟨rfl,hb1⟩
 have HB1:=bal1 hb1
 have HD:Hid (Byt w1 (.slice (some ⟨b,off+Q,none⟩) (n - Q) (cap - Q)) (l.drop Q)):=by
  show Byt _ _ _
  have:=((uh HV).below (uh HB1)).drop' Q (by omega)
  rw[if_neg hcQ]at this;exact this
 obtain⟨⟨q0,f0⟩,⟨q1,f1⟩,⟨q2,f2⟩,q3,f3⟩:=four_new hb1
 have hl1:w.heap.size < w1.heap.size:=cell_lt q0
 have hne:¬ w1.heap.size=w.heap.size:=by omega
 clear hb1
 go_wp2_with (first | (go_at_call 147;refine (kind_tell id 5 (uh HKD) _).mono ?_;rintro e w2 ⟨rfl,hw⟩;obtain rfl:=hw.symm;clear hw) | fail)
 refine (rvget_good _ _ _ ((uh HD).below (bal _ _)) s M (uh Hhg)).mono ?_
 rintro e w2 ⟨rfl,hb2⟩
 obtain⟨⟨p0,h0⟩,⟨p1,h1⟩,⟨p2,h2⟩,p3,h3⟩:=four_new hb2
 obtain⟨⟨r0,g0⟩,⟨r1,g1⟩,⟨r2,g2⟩,r3,g3⟩:=four_old hb2 q0 f0 q1 f1 q2 f2 q3 f3
 have HB2:Hid (Below w.heap.size w w2):=((uh HB1).alloc (uh HB1).size _).trans (hb2.mono (by simp;omega))
 clear hb2
 go_wp2
 (try simp only[Exit.inBlock,Exit.then])
 refine bodyPost_ret (res_p2 (B:=w.heap.size) (v0:=.int .i64 id) (v1:=.int .i64 s) (v2:=.string ⟨#[]⟩) (v3:=.string ⟨#[]⟩) rfl rfl ?c0 ?c1 ?c2 ?c3) rfl ?_
 case c0=>simp (maxDischargeDepth:=12) [cell_set,r0]
 case c1=>simp (maxDischargeDepth:=12) [cell_set,r1]
 case c2=>simp (maxDischargeDepth:=12) [cell_set,r2]
 case c3=>simp (maxDischargeDepth:=12) [cell_set,r3]
 exact⟨by go_num,by have:=uh HB2;go_grown⟩
theorem rg_var_bad (v:Value) (l:List Int) (w:World) (h:Byt w v l) (id:Int) (Q:Nat) (hv:V.vget l=(id,(Q:Int),0)) (hQ:1<=Q/\Q<=l.length) (hQ4:Q<=4) (hk:kd id=5) (m:Int) (hg:(V.vget (l.drop Q)).2.2=m) (hm:m≠0):Calls Tryz.prog 123 #[v] w (RgBad w):=by
 obtain⟨b,off,cap,rfl,hc1,hc2⟩:=h.form1 (by omega)
 unfold maxLen at hc2
 have HV:=zh h
 have Hhv:=zh hv
 have HKD:=zh hk
 have Hhg:=zh hg
 clear h hv hk hg
 generalize hn:l.length=n at hc1 hQ HV 
 have HN:=zh hn
 clear hn
 by_cases hcQ:cap=Q
 ·have e1:Q=cap:=hcQ.symm
  clear hcQ
  subst e1
  have e2:Q=n:=by omega
  subst e2
  go_enter Tryz.func123,Tryz.ntmps123
  go_wp2_with fail
  refine (rvget_good _ l _ ((uh HV).below (bal _ _)) id Q (uh Hhv)).mono ?_
  rintro e w1 ⟨rfl,hb1⟩
  have HB1:=bal1 hb1
  have HD:Hid (Byt w1 (.slice (some ⟨b,off,none⟩) 0 0) (l.drop Q)):=by
   show Byt _ _ _
   have:=((uh HV).below (uh HB1)).drop' Q (by omega)
   rw[if_pos rfl,Nat.sub_self]at this;exact this
  obtain⟨⟨q0,f0⟩,⟨q1,f1⟩,⟨q2,f2⟩,q3,f3⟩:=four_new hb1
  have hl1:w.heap.size < w1.heap.size:=cell_lt q0
  have hne:¬ w1.heap.size=w.heap.size:=by omega
  clear hb1
  go_wp2_with (first | (go_at_call 147;refine (kind_tell id 5 (uh HKD) _).mono ?_;rintro e w2 ⟨rfl,hw⟩;obtain rfl:=hw.symm;clear hw) | fail)
  refine (rvget_fail _ _ _ ((uh HD).below (bal _ _)) m (uh Hhg)).mono ?_
  rintro e w2 ⟨a,b2,rfl,hb2⟩
  obtain⟨⟨p0,h0⟩,⟨p1,h1⟩,⟨p2,h2⟩,p3,h3⟩:=four_new hb2
  obtain⟨⟨r0,g0⟩,⟨r1,g1⟩,⟨r2,g2⟩,r3,g3⟩:=four_old hb2 q0 f0 q1 f1 q2 f2 q3 f3
  have HB2:Hid (Below w.heap.size w w2):=((uh HB1).alloc (uh HB1).size _).trans (hb2.mono (by simp;omega))
  clear hb2
  go_wp2
  (try simp only[Exit.inBlock,Exit.then])
  refine bodyPost_ret (res_p2 (B:=w.heap.size) (v0:=.int .i64 id) (v1:=.int .i64 a) (v2:=.string ⟨#[]⟩) (v3:=.string ⟨#[]⟩) rfl rfl ?c0 ?c1 ?c2 ?c3) rfl ?_
  case c0=>simp (maxDischargeDepth:=12) [cell_set,r0]
  case c1=>simp (maxDischargeDepth:=12) [cell_set,r1]
  case c2=>simp (maxDischargeDepth:=12) [cell_set,r2]
  case c3=>simp (maxDischargeDepth:=12) [cell_set,r3]
  exact⟨_,_,_,_,rfl,by have:=uh HB2;go_grown⟩
 ·go_enter Tryz.func123,Tryz.ntmps123
  go_wp2_with fail
  refine (rvget_good _ l _ ((uh HV).below (bal _ _)) id Q (uh Hhv)).mono ?_
  rintro e w1 ⟨rfl,hb1⟩
  have HB1:=bal1 hb1
  have HD:Hid (Byt w1 (.slice (some ⟨b,off+Q,none⟩) (n - Q) (cap - Q)) (l.drop Q)):=by
   show Byt _ _ _
   have:=((uh HV).below (uh HB1)).drop' Q (by omega)
   rw[if_neg hcQ]at this;exact this
  obtain⟨⟨q0,f0⟩,⟨q1,f1⟩,⟨q2,f2⟩,q3,f3⟩:=four_new hb1
  have hl1:w.heap.size < w1.heap.size:=cell_lt q0
  have hne:¬ w1.heap.size=w.heap.size:=by omega
  clear hb1
  go_wp2_with (first | (go_at_call 147;refine (kind_tell id 5 (uh HKD) _).mono ?_;rintro e w2 ⟨rfl,hw⟩;obtain rfl:=hw.symm;clear hw) | fail)
  refine (rvget_fail _ _ _ ((uh HD).below (bal _ _)) m (uh Hhg)).mono ?_
  rintro e w2 ⟨a,b2,rfl,hb2⟩
  obtain⟨⟨p0,h0⟩,⟨p1,h1⟩,⟨p2,h2⟩,p3,h3⟩:=four_new hb2
  obtain⟨⟨r0,g0⟩,⟨r1,g1⟩,⟨r2,g2⟩,r3,g3⟩:=four_old hb2 q0 f0 q1 f1 q2 f2 q3 f3
  have HB2:Hid (Below w.heap.size w w2):=((uh HB1).alloc (uh HB1).size _).trans (hb2.mono (by simp;omega))
  clear hb2
  go_wp2
  (try simp only[Exit.inBlock,Exit.then])
  refine bodyPost_ret (res_p2 (B:=w.heap.size) (v0:=.int .i64 id) (v1:=.int .i64 a) (v2:=.string ⟨#[]⟩) (v3:=.string ⟨#[]⟩) rfl rfl ?c0 ?c1 ?c2 ?c3) rfl ?_
  case c0=>simp (maxDischargeDepth:=12) [cell_set,r0]
  case c1=>simp (maxDischargeDepth:=12) [cell_set,r1]
  case c2=>simp (maxDischargeDepth:=12) [cell_set,r2]
  case c3=>simp (maxDischargeDepth:=12) [cell_set,r3]
  exact⟨_,_,_,_,rfl,by have:=uh HB2;go_grown⟩
theorem rg_none (v:Value) (l:List Int) (w:World) (h:Byt w v l) (id:Int) (Q:Nat) (hv:V.vget l=(id,(Q:Int),0)) (hQ:1<=Q/\Q<=l.length) (hQ4:Q<=4) (hk:kd id=0):Calls Tryz.prog 123 #[v] w (RgBad w):=by
 obtain⟨b,off,cap,rfl,hc1,hc2⟩:=h.form1 (by omega)
 unfold maxLen at hc2
 have HV:=zh h
 have Hhv:=zh hv
 have HKD:=zh hk
 clear h hv hk 
 generalize hn:l.length=n at hc1 hQ HV 
 have HN:=zh hn
 clear hn
 by_cases hcQ:cap=Q
 ·have e1:Q=cap:=hcQ.symm
  clear hcQ
  subst e1
  have e2:Q=n:=by omega
  subst e2
  go_enter Tryz.func123,Tryz.ntmps123
  go_wp2_with fail
  refine (rvget_good _ l _ ((uh HV).below (bal _ _)) id Q (uh Hhv)).mono ?_
  rintro e w1 ⟨rfl,hb1⟩
  have HB1:=bal1 hb1
  have HD:Hid (Byt w1 (.slice (some ⟨b,off,none⟩) 0 0) (l.drop Q)):=by
   show Byt _ _ _
   have:=((uh HV).below (uh HB1)).drop' Q (by omega)
   rw[if_pos rfl,Nat.sub_self]at this;exact this
  obtain⟨⟨q0,f0⟩,⟨q1,f1⟩,⟨q2,f2⟩,q3,f3⟩:=four_new hb1
  have hl1:w.heap.size < w1.heap.size:=cell_lt q0
  have hne:¬ w1.heap.size=w.heap.size:=by omega
  clear hb1
  go_wp2_with (first | (go_at_call 147;refine (kind_tell id 0 (uh HKD) _).mono ?_;rintro e w2 ⟨rfl,hw⟩;obtain rfl:=hw.symm;clear hw) | fail)
  (try simp only[Exit.inBlock,Exit.then])
  refine bodyPost_ret (res_p2 (B:=w.heap.size) (v0:=.int .i64 id) (v1:=.int .i64 0) (v2:=.string ⟨#[]⟩) (v3:=.string ⟨#[]⟩) rfl rfl ?c0 ?c1 ?c2 ?c3) rfl ?_
  case c0=>rw[World.cell?_alloc_lt _ _ _ (by simpa using hl1)];simp (maxDischargeDepth:=12) [cell_set,q0]
  case c1=>rw[World.cell?_alloc_lt _ _ _ (by simpa using hl1)];simp (maxDischargeDepth:=12) [cell_set,q1]
  case c2=>rw[World.cell?_alloc_lt _ _ _ (by simpa using hl1)];simp (maxDischargeDepth:=12) [cell_set,q2]
  case c3=>rw[World.cell?_alloc_lt _ _ _ (by simpa using hl1)];simp (maxDischargeDepth:=12) [cell_set,q3]
  exact⟨_,_,_,_,rfl,by have:=uh HB1;go_grown⟩
 ·go_enter Tryz.func123,Tryz.ntmps123
  go_wp2_with fail
  refine (rvget_good _ l _ ((uh HV).below (bal _ _)) id Q (uh Hhv)).mono ?_
  rintro e w1 ⟨rfl,hb1⟩
  have HB1:=bal1 hb1
  have HD:Hid (Byt w1 (.slice (some ⟨b,off+Q,none⟩) (n - Q) (cap - Q)) (l.drop Q)):=by
   show Byt _ _ _
   have:=((uh HV).below (uh HB1)).drop' Q (by omega)
   rw[if_neg hcQ]at this;exact this
  obtain⟨⟨q0,f0⟩,⟨q1,f1⟩,⟨q2,f2⟩,q3,f3⟩:=four_new hb1
  have hl1:w.heap.size < w1.heap.size:=cell_lt q0
  have hne:¬ w1.heap.size=w.heap.size:=by omega
  clear hb1
  go_wp2_with (first | (go_at_call 147;refine (kind_tell id 0 (uh HKD) _).mono ?_;rintro e w2 ⟨rfl,hw⟩;obtain rfl:=hw.symm;clear hw) | fail)
  (try simp only[Exit.inBlock,Exit.then])
  refine bodyPost_ret (res_p2 (B:=w.heap.size) (v0:=.int .i64 id) (v1:=.int .i64 0) (v2:=.string ⟨#[]⟩) (v3:=.string ⟨#[]⟩) rfl rfl ?c0 ?c1 ?c2 ?c3) rfl ?_
  case c0=>rw[World.cell?_alloc_lt _ _ _ (by simpa using hl1)];simp (maxDischargeDepth:=12) [cell_set,q0]
  case c1=>rw[World.cell?_alloc_lt _ _ _ (by simpa using hl1)];simp (maxDischargeDepth:=12) [cell_set,q1]
  case c2=>rw[World.cell?_alloc_lt _ _ _ (by simpa using hl1)];simp (maxDischargeDepth:=12) [cell_set,q2]
  case c3=>rw[World.cell?_alloc_lt _ _ _ (by simpa using hl1)];simp (maxDischargeDepth:=12) [cell_set,q3]
  exact⟨_,_,_,_,rfl,by have:=uh HB1;go_grown⟩
theorem rg_num1 (v:Value) (l:List Int) (w:World) (h:Byt w v l) (id:Int) (Q:Nat) (hv:V.vget l=(id,(Q:Int),0)) (hQ:1<=Q/\Q<=l.length) (hQ4:Q<=4) (hk:kd id=1) (hM2:Q+1<=l.length):Calls Tryz.prog 123 #[v] w (RgOk (id,be 1 (l.drop Q),es,es) (Q+1:Nat) w):=by
 obtain⟨x0,hx0⟩:∃ x,(l.drop Q).getD 0 0=x:=⟨_,rfl⟩
 have r0:=Rng.drop h.range Q 0
 rw[hx0]at r0
 have hbe:be 1 (l.drop Q)=x0:=by unfold be;simp only[hx0];simp
 obtain⟨b,off,cap,rfl,hc1,hc2⟩:=h.form1 (by omega)
 unfold maxLen at hc2
 have HCC:Hid (∀ W:World,Byt W (.slice (some ⟨b,off+Q,none⟩) (l.length - Q) (cap - Q)) (l.drop Q)->∀ j,j < 1->W.cell? ⟨b,off+Q+j,none⟩=some (.int .u8 ((l.drop Q).getD j 0))):=fun W hW j hj=>by
  obtain⟨ao',cap',e,_,_,hcase⟩:=hW
  simp only[Value.slice.injEq]at e
  obtain⟨rfl,_,_⟩:=e
  rcases hcase with hc | ⟨b',off',e',hc⟩
  ·have:=congrArg List.length hc
   simp at this
   omega
  ·simp only[Option.some.injEq,Addr.mk.injEq]at e'
   obtain⟨rfl,rfl,_⟩:=e'
   exact hc j (by rw[List.length_drop];omega)
 have HCB:Hid (∀ W:World,Byt W (.slice (some ⟨b,off+Q,none⟩) (l.length - Q) (cap - Q)) (l.drop Q)->b < W.heap.size):=fun W hW=>cell_lt ((uh HCC) W hW 0 (by omega))
 have HX0:=zh hx0
 clear hx0
 have HBE:=zh hbe
 clear hbe
 have HV:=zh h
 have Hhv:=zh hv
 have HKD:=zh hk
 clear h hv hk 
 generalize hn:l.length=n at hc1 hQ HV hM2 HCC HCB
 have HN:=zh hn
 clear hn
 have hcQ:¬ cap=Q:=by omega
 go_enter Tryz.func123,Tryz.ntmps123
 go_wp2_with fail
 refine (rvget_good _ l _ ((uh HV).below (bal _ _)) id Q (uh Hhv)).mono ?_
 rintro e w1 ⟨rfl,hb1⟩
 have HB1:=bal1 hb1
 have HD:Hid (Byt w1 (.slice (some ⟨b,off+Q,none⟩) (n - Q) (cap - Q)) (l.drop Q)):=by
  show Byt _ _ _
  have:=((uh HV).below (uh HB1)).drop' Q (by omega)
  rw[if_neg hcQ]at this;exact this
 obtain⟨⟨q0,f0⟩,⟨q1,f1⟩,⟨q2,f2⟩,q3,f3⟩:=four_new hb1
 have hl1:w.heap.size < w1.heap.size:=cell_lt q0
 have hne:¬ w1.heap.size=w.heap.size:=by omega
 clear hb1
 have hbl:b < w1.heap.size:=(uh HCB) w1 (uh HD)
 have y0:w1.cell? ⟨b,off+Q,none⟩=some (.int .u8 x0):=by
  have:=(uh HCC) w1 (uh HD) 0 (by omega)
  rw[uh HX0]at this
  exact this
 have ix0:((0:Nat):Int) < ((n - Q:Nat):Int):=by omega
 have iy0:(0:Int) < ((n - Q:Nat):Int):=by omega
 have iz0:0 < n - Q:=by omega
 have hnb:¬ b=w1.heap.size:=by omega
 have e0:bits .or .i64 0 x0=x0:=V.or_zero x0 r0.1 (by omega)
 go_wp2_with (first | (go_at_call 147;refine (kind_tell id 1 (uh HKD) _).mono ?_;rintro e w2 ⟨rfl,hw⟩;obtain rfl:=hw.symm;clear hw) | fail)
 refine wp_loop_rounds 2 ?_
 rw[rounds_succ]
 go_wp2_with fail
 refine wp_region_noPanic ?_
 refine wp_region_held_drew (S:=(fun w'=>w'.cell? ⟨b,off+Q,none⟩=some (.int .u8 x0))) (by kernel_rfl) (by go_keep) (fun hHeld=>?_)
 refine rtk 0 (h:=?_)
 refine rtk 3 (h:=?_)
 refine rtk 4 (h:=?_)
 refine rtk 5 (h:=?_)
 refine rtk 6 (h:=?_)
 refine rtk 7 (h:=?_)
 refine rcl 1 (h:=fun K hK=>?_)
 go_simp
 refine hK.out _ _ (by go_keep) (fun hHeld=>?_)
 clear hK K
 refine rtk 2 (h:=?_)
 refine rtk 8 (h:=?_)
 refine rtk 9 (h:=?_)
 refine rcl 10 (h:=fun K hK=>?_)
 go_simp
 refine hK.out _ _ (by go_keep) (fun hHeld=>?_)
 clear hK K
 refine wpAnyH_done (by kernel_rfl) ?_ _
 refine NoPanic.normal ?_
 go_wp2_with fail
 rw[rounds_succ]
 go_wp2
 (try simp only[Exit.inBlock,Exit.then])
 refine bodyPost_ret (res_p2 (B:=w.heap.size) (v0:=.int .i64 id) (v1:=.int .i64 (x0)) (v2:=.string ⟨#[]⟩) (v3:=.string ⟨#[]⟩) rfl rfl ?c0 ?c1 ?c2 ?c3) rfl ?_
 case c0=>simp only[World.cell?_drew];rw[World.cell?_alloc_lt _ _ _ (by simpa using hl1)];simp (maxDischargeDepth:=12) [cell_set,q0]
 case c1=>simp only[World.cell?_drew];rw[World.cell?_alloc_lt _ _ _ (by simpa using hl1)];simp (maxDischargeDepth:=12) [cell_set,q1]
 case c2=>simp only[World.cell?_drew];rw[World.cell?_alloc_lt _ _ _ (by simpa using hl1)];simp (maxDischargeDepth:=12) [cell_set,q2]
 case c3=>simp only[World.cell?_drew];rw[World.cell?_alloc_lt _ _ _ (by simpa using hl1)];simp (maxDischargeDepth:=12) [cell_set,q3]
 refine⟨?_,by have:=uh HB1;go_grown⟩
 rw[uh HBE]
 go_num
theorem rg_num1_bad (v:Value) (l:List Int) (w:World) (h:Byt w v l) (id:Int) (Q:Nat) (hv:V.vget l=(id,(Q:Int),0)) (hQ:1<=Q/\Q<=l.length) (hQ4:Q<=4) (hk:kd id=1) (hM2:l.length < Q+1):Calls Tryz.prog 123 #[v] w (RgBad w):=by
 obtain⟨b,off,cap,rfl,hc1,hc2⟩:=h.form1 (by omega)
 unfold maxLen at hc2
 have HV:=zh h
 have Hhv:=zh hv
 have HKD:=zh hk
 clear h hv hk 
 generalize hn:l.length=n at hc1 hQ HV hM2
 have HN:=zh hn
 clear hn
 by_cases hcQ:cap=Q
 ·have e1:Q=cap:=hcQ.symm
  clear hcQ
  subst e1
  have e2:Q=n:=by omega
  subst e2
  go_enter Tryz.func123,Tryz.ntmps123
  go_wp2_with fail
  refine (rvget_good _ l _ ((uh HV).below (bal _ _)) id Q (uh Hhv)).mono ?_
  rintro e w1 ⟨rfl,hb1⟩
  have HB1:=bal1 hb1
  have HD:Hid (Byt w1 (.slice (some ⟨b,off,none⟩) 0 0) (l.drop Q)):=by
   show Byt _ _ _
   have:=((uh HV).below (uh HB1)).drop' Q (by omega)
   rw[if_pos rfl,Nat.sub_self]at this;exact this
  obtain⟨⟨q0,f0⟩,⟨q1,f1⟩,⟨q2,f2⟩,q3,f3⟩:=four_new hb1
  have hl1:w.heap.size < w1.heap.size:=cell_lt q0
  have hne:¬ w1.heap.size=w.heap.size:=by omega
  clear hb1
  go_wp2_with (first | (go_at_call 147;refine (kind_tell id 1 (uh HKD) _).mono ?_;rintro e w2 ⟨rfl,hw⟩;obtain rfl:=hw.symm;clear hw) | fail)
  (try simp only[Exit.inBlock,Exit.then])
  refine bodyPost_ret (res_p2 (B:=w.heap.size) (v0:=.int .i64 id) (v1:=.int .i64 0) (v2:=.string ⟨#[]⟩) (v3:=.string ⟨#[]⟩) rfl rfl ?c0 ?c1 ?c2 ?c3) rfl ?_
  case c0=>rw[World.cell?_alloc_lt _ _ _ (by simpa using hl1)];simp (maxDischargeDepth:=12) [cell_set,q0]
  case c1=>rw[World.cell?_alloc_lt _ _ _ (by simpa using hl1)];simp (maxDischargeDepth:=12) [cell_set,q1]
  case c2=>rw[World.cell?_alloc_lt _ _ _ (by simpa using hl1)];simp (maxDischargeDepth:=12) [cell_set,q2]
  case c3=>rw[World.cell?_alloc_lt _ _ _ (by simpa using hl1)];simp (maxDischargeDepth:=12) [cell_set,q3]
  exact⟨_,_,_,_,rfl,by have:=uh HB1;go_grown⟩
 ·go_enter Tryz.func123,Tryz.ntmps123
  go_wp2_with fail
  refine (rvget_good _ l _ ((uh HV).below (bal _ _)) id Q (uh Hhv)).mono ?_
  rintro e w1 ⟨rfl,hb1⟩
  have HB1:=bal1 hb1
  have HD:Hid (Byt w1 (.slice (some ⟨b,off+Q,none⟩) (n - Q) (cap - Q)) (l.drop Q)):=by
   show Byt _ _ _
   have:=((uh HV).below (uh HB1)).drop' Q (by omega)
   rw[if_neg hcQ]at this;exact this
  obtain⟨⟨q0,f0⟩,⟨q1,f1⟩,⟨q2,f2⟩,q3,f3⟩:=four_new hb1
  have hl1:w.heap.size < w1.heap.size:=cell_lt q0
  have hne:¬ w1.heap.size=w.heap.size:=by omega
  clear hb1
  go_wp2_with (first | (go_at_call 147;refine (kind_tell id 1 (uh HKD) _).mono ?_;rintro e w2 ⟨rfl,hw⟩;obtain rfl:=hw.symm;clear hw) | fail)
  (try simp only[Exit.inBlock,Exit.then])
  refine bodyPost_ret (res_p2 (B:=w.heap.size) (v0:=.int .i64 id) (v1:=.int .i64 0) (v2:=.string ⟨#[]⟩) (v3:=.string ⟨#[]⟩) rfl rfl ?c0 ?c1 ?c2 ?c3) rfl ?_
  case c0=>rw[World.cell?_alloc_lt _ _ _ (by simpa using hl1)];simp (maxDischargeDepth:=12) [cell_set,q0]
  case c1=>rw[World.cell?_alloc_lt _ _ _ (by simpa using hl1)];simp (maxDischargeDepth:=12) [cell_set,q1]
  case c2=>rw[World.cell?_alloc_lt _ _ _ (by simpa using hl1)];simp (maxDischargeDepth:=12) [cell_set,q2]
  case c3=>rw[World.cell?_alloc_lt _ _ _ (by simpa using hl1)];simp (maxDischargeDepth:=12) [cell_set,q3]
  exact⟨_,_,_,_,rfl,by have:=uh HB1;go_grown⟩
theorem rg_num2 (v:Value) (l:List Int) (w:World) (h:Byt w v l) (id:Int) (Q:Nat) (hv:V.vget l=(id,(Q:Int),0)) (hQ:1<=Q/\Q<=l.length) (hQ4:Q<=4) (hk:kd id=2) (hM2:Q+2<=l.length):Calls Tryz.prog 123 #[v] w (RgOk (id,be 2 (l.drop Q),es,es) (Q+2:Nat) w):=by
 obtain⟨x0,hx0⟩:∃ x,(l.drop Q).getD 0 0=x:=⟨_,rfl⟩
 have r0:=Rng.drop h.range Q 0
 rw[hx0]at r0
 obtain⟨x1,hx1⟩:∃ x,(l.drop Q).getD 1 0=x:=⟨_,rfl⟩
 have r1:=Rng.drop h.range Q 1
 rw[hx1]at r1
 have hbe:be 2 (l.drop Q)=x0 * 256+x1:=by unfold be;simp only[hx0,hx1];simp
 obtain⟨b,off,cap,rfl,hc1,hc2⟩:=h.form1 (by omega)
 unfold maxLen at hc2
 have HCC:Hid (∀ W:World,Byt W (.slice (some ⟨b,off+Q,none⟩) (l.length - Q) (cap - Q)) (l.drop Q)->∀ j,j < 2->W.cell? ⟨b,off+Q+j,none⟩=some (.int .u8 ((l.drop Q).getD j 0))):=fun W hW j hj=>by
  obtain⟨ao',cap',e,_,_,hcase⟩:=hW
  simp only[Value.slice.injEq]at e
  obtain⟨rfl,_,_⟩:=e
  rcases hcase with hc | ⟨b',off',e',hc⟩
  ·have:=congrArg List.length hc
   simp at this
   omega
  ·simp only[Option.some.injEq,Addr.mk.injEq]at e'
   obtain⟨rfl,rfl,_⟩:=e'
   exact hc j (by rw[List.length_drop];omega)
 have HCB:Hid (∀ W:World,Byt W (.slice (some ⟨b,off+Q,none⟩) (l.length - Q) (cap - Q)) (l.drop Q)->b < W.heap.size):=fun W hW=>cell_lt ((uh HCC) W hW 0 (by omega))
 have HX0:=zh hx0
 clear hx0
 have HX1:=zh hx1
 clear hx1
 have HBE:=zh hbe
 clear hbe
 have HV:=zh h
 have Hhv:=zh hv
 have HKD:=zh hk
 clear h hv hk 
 generalize hn:l.length=n at hc1 hQ HV hM2 HCC HCB
 have HN:=zh hn
 clear hn
 have hcQ:¬ cap=Q:=by omega
 go_enter Tryz.func123,Tryz.ntmps123
 go_wp2_with fail
 refine (rvget_good _ l _ ((uh HV).below (bal _ _)) id Q (uh Hhv)).mono ?_
 rintro e w1 ⟨rfl,hb1⟩
 have HB1:=bal1 hb1
 have HD:Hid (Byt w1 (.slice (some ⟨b,off+Q,none⟩) (n - Q) (cap - Q)) (l.drop Q)):=by
  show Byt _ _ _
  have:=((uh HV).below (uh HB1)).drop' Q (by omega)
  rw[if_neg hcQ]at this;exact this
 obtain⟨⟨q0,f0⟩,⟨q1,f1⟩,⟨q2,f2⟩,q3,f3⟩:=four_new hb1
 have hl1:w.heap.size < w1.heap.size:=cell_lt q0
 have hne:¬ w1.heap.size=w.heap.size:=by omega
 clear hb1
 have hbl:b < w1.heap.size:=(uh HCB) w1 (uh HD)
 have y0:w1.cell? ⟨b,off+Q,none⟩=some (.int .u8 x0):=by
  have:=(uh HCC) w1 (uh HD) 0 (by omega)
  rw[uh HX0]at this
  exact this
 have y1:w1.cell? ⟨b,off+Q+1,none⟩=some (.int .u8 x1):=by
  have:=(uh HCC) w1 (uh HD) 1 (by omega)
  rw[uh HX1]at this
  exact this
 have ix0:((0:Nat):Int) < ((n - Q:Nat):Int):=by omega
 have iy0:(0:Int) < ((n - Q:Nat):Int):=by omega
 have iz0:0 < n - Q:=by omega
 have ix1:((1:Nat):Int) < ((n - Q:Nat):Int):=by omega
 have iy1:(1:Int) < ((n - Q:Nat):Int):=by omega
 have iz1:1 < n - Q:=by omega
 have hnb:¬ b=w1.heap.size:=by omega
 have e0:bits .or .i64 0 x0=x0:=V.or_zero x0 r0.1 (by omega)
 have e1:=or_256 (x0) x1 (by omega) (by omega) r1.1 r1.2
 go_wp2_with (first | (go_at_call 147;refine (kind_tell id 2 (uh HKD) _).mono ?_;rintro e w2 ⟨rfl,hw⟩;obtain rfl:=hw.symm;clear hw) | fail)
 refine wp_loop_rounds 3 ?_
 rw[rounds_succ]
 go_wp2_with fail
 refine wp_region_noPanic ?_
 refine wp_region_held_drew (S:=(fun w'=>w'.cell? ⟨b,off+Q,none⟩=some (.int .u8 x0))) (by kernel_rfl) (by go_keep) (fun hHeld=>?_)
 refine rtk 0 (h:=?_)
 refine rtk 3 (h:=?_)
 refine rtk 4 (h:=?_)
 refine rtk 5 (h:=?_)
 refine rtk 6 (h:=?_)
 refine rtk 7 (h:=?_)
 refine rcl 1 (h:=fun K hK=>?_)
 go_simp
 refine hK.out _ _ (by go_keep) (fun hHeld=>?_)
 clear hK K
 refine rtk 2 (h:=?_)
 refine rtk 8 (h:=?_)
 refine rtk 9 (h:=?_)
 refine rcl 10 (h:=fun K hK=>?_)
 go_simp
 refine hK.out _ _ (by go_keep) (fun hHeld=>?_)
 clear hK K
 refine wpAnyH_done (by kernel_rfl) ?_ _
 refine NoPanic.normal ?_
 go_wp2_with fail
 rw[rounds_succ]
 go_wp2_with fail
 refine wp_region_noPanic ?_
 refine wp_region_held_drew (S:=(fun w'=>w'.cell? ⟨b,off+Q+1,none⟩=some (.int .u8 x1))) (by kernel_rfl) (by go_keep) (fun hHeld=>?_)
 refine rtk 0 (h:=?_)
 refine rtk 3 (h:=?_)
 refine rtk 4 (h:=?_)
 refine rtk 5 (h:=?_)
 refine rtk 6 (h:=?_)
 refine rtk 7 (h:=?_)
 refine rcl 1 (h:=fun K hK=>?_)
 go_simp
 refine hK.out _ _ (by go_keep) (fun hHeld=>?_)
 clear hK K
 refine rtk 2 (h:=?_)
 refine rtk 8 (h:=?_)
 refine rtk 9 (h:=?_)
 refine rcl 10 (h:=fun K hK=>?_)
 go_simp
 refine hK.out _ _ (by go_keep) (fun hHeld=>?_)
 clear hK K
 refine wpAnyH_done (by kernel_rfl) ?_ _
 refine NoPanic.normal ?_
 go_wp2_with fail
 rw[rounds_succ]
 go_wp2
 (try simp only[Exit.inBlock,Exit.then])
 refine bodyPost_ret (res_p2 (B:=w.heap.size) (v0:=.int .i64 id) (v1:=.int .i64 (x0 * 256+x1)) (v2:=.string ⟨#[]⟩) (v3:=.string ⟨#[]⟩) rfl rfl ?c0 ?c1 ?c2 ?c3) rfl ?_
 case c0=>simp only[World.cell?_drew];rw[World.cell?_alloc_lt _ _ _ (by simpa using hl1)];simp (maxDischargeDepth:=12) [cell_set,q0]
 case c1=>simp only[World.cell?_drew];rw[World.cell?_alloc_lt _ _ _ (by simpa using hl1)];simp (maxDischargeDepth:=12) [cell_set,q1]
 case c2=>simp only[World.cell?_drew];rw[World.cell?_alloc_lt _ _ _ (by simpa using hl1)];simp (maxDischargeDepth:=12) [cell_set,q2]
 case c3=>simp only[World.cell?_drew];rw[World.cell?_alloc_lt _ _ _ (by simpa using hl1)];simp (maxDischargeDepth:=12) [cell_set,q3]
 refine⟨?_,by have:=uh HB1;go_grown⟩
 rw[uh HBE]
 go_num
theorem rg_num2_bad (v:Value) (l:List Int) (w:World) (h:Byt w v l) (id:Int) (Q:Nat) (hv:V.vget l=(id,(Q:Int),0)) (hQ:1<=Q/\Q<=l.length) (hQ4:Q<=4) (hk:kd id=2) (hM2:l.length < Q+2):Calls Tryz.prog 123 #[v] w (RgBad w):=by
 obtain⟨b,off,cap,rfl,hc1,hc2⟩:=h.form1 (by omega)
 unfold maxLen at hc2
 have HV:=zh h
 have Hhv:=zh hv
 have HKD:=zh hk
 clear h hv hk 
 generalize hn:l.length=n at hc1 hQ HV hM2
 have HN:=zh hn
 clear hn
 by_cases hcQ:cap=Q
 ·have e1:Q=cap:=hcQ.symm
  clear hcQ
  subst e1
  have e2:Q=n:=by omega
  subst e2
  go_enter Tryz.func123,Tryz.ntmps123
  go_wp2_with fail
  refine (rvget_good _ l _ ((uh HV).below (bal _ _)) id Q (uh Hhv)).mono ?_
  rintro e w1 ⟨rfl,hb1⟩
  have HB1:=bal1 hb1
  have HD:Hid (Byt w1 (.slice (some ⟨b,off,none⟩) 0 0) (l.drop Q)):=by
   show Byt _ _ _
   have:=((uh HV).below (uh HB1)).drop' Q (by omega)
   rw[if_pos rfl,Nat.sub_self]at this;exact this
  obtain⟨⟨q0,f0⟩,⟨q1,f1⟩,⟨q2,f2⟩,q3,f3⟩:=four_new hb1
  have hl1:w.heap.size < w1.heap.size:=cell_lt q0
  have hne:¬ w1.heap.size=w.heap.size:=by omega
  clear hb1
  go_wp2_with (first | (go_at_call 147;refine (kind_tell id 2 (uh HKD) _).mono ?_;rintro e w2 ⟨rfl,hw⟩;obtain rfl:=hw.symm;clear hw) | fail)
  (try simp only[Exit.inBlock,Exit.then])
  refine bodyPost_ret (res_p2 (B:=w.heap.size) (v0:=.int .i64 id) (v1:=.int .i64 0) (v2:=.string ⟨#[]⟩) (v3:=.string ⟨#[]⟩) rfl rfl ?c0 ?c1 ?c2 ?c3) rfl ?_
  case c0=>rw[World.cell?_alloc_lt _ _ _ (by simpa using hl1)];simp (maxDischargeDepth:=12) [cell_set,q0]
  case c1=>rw[World.cell?_alloc_lt _ _ _ (by simpa using hl1)];simp (maxDischargeDepth:=12) [cell_set,q1]
  case c2=>rw[World.cell?_alloc_lt _ _ _ (by simpa using hl1)];simp (maxDischargeDepth:=12) [cell_set,q2]
  case c3=>rw[World.cell?_alloc_lt _ _ _ (by simpa using hl1)];simp (maxDischargeDepth:=12) [cell_set,q3]
  exact⟨_,_,_,_,rfl,by have:=uh HB1;go_grown⟩
 ·go_enter Tryz.func123,Tryz.ntmps123
  go_wp2_with fail
  refine (rvget_good _ l _ ((uh HV).below (bal _ _)) id Q (uh Hhv)).mono ?_
  rintro e w1 ⟨rfl,hb1⟩
  have HB1:=bal1 hb1
  have HD:Hid (Byt w1 (.slice (some ⟨b,off+Q,none⟩) (n - Q) (cap - Q)) (l.drop Q)):=by
   show Byt _ _ _
   have:=((uh HV).below (uh HB1)).drop' Q (by omega)
   rw[if_neg hcQ]at this;exact this
  obtain⟨⟨q0,f0⟩,⟨q1,f1⟩,⟨q2,f2⟩,q3,f3⟩:=four_new hb1
  have hl1:w.heap.size < w1.heap.size:=cell_lt q0
  have hne:¬ w1.heap.size=w.heap.size:=by omega
  clear hb1
  go_wp2_with (first | (go_at_call 147;refine (kind_tell id 2 (uh HKD) _).mono ?_;rintro e w2 ⟨rfl,hw⟩;obtain rfl:=hw.symm;clear hw) | fail)
  (try simp only[Exit.inBlock,Exit.then])
  refine bodyPost_ret (res_p2 (B:=w.heap.size) (v0:=.int .i64 id) (v1:=.int .i64 0) (v2:=.string ⟨#[]⟩) (v3:=.string ⟨#[]⟩) rfl rfl ?c0 ?c1 ?c2 ?c3) rfl ?_
  case c0=>rw[World.cell?_alloc_lt _ _ _ (by simpa using hl1)];simp (maxDischargeDepth:=12) [cell_set,q0]
  case c1=>rw[World.cell?_alloc_lt _ _ _ (by simpa using hl1)];simp (maxDischargeDepth:=12) [cell_set,q1]
  case c2=>rw[World.cell?_alloc_lt _ _ _ (by simpa using hl1)];simp (maxDischargeDepth:=12) [cell_set,q2]
  case c3=>rw[World.cell?_alloc_lt _ _ _ (by simpa using hl1)];simp (maxDischargeDepth:=12) [cell_set,q3]
  exact⟨_,_,_,_,rfl,by have:=uh HB1;go_grown⟩
theorem rg_num4 (v:Value) (l:List Int) (w:World) (h:Byt w v l) (id:Int) (Q:Nat) (hv:V.vget l=(id,(Q:Int),0)) (hQ:1<=Q/\Q<=l.length) (hQ4:Q<=4) (hk:kd id=4) (hM2:Q+4<=l.length):Calls Tryz.prog 123 #[v] w (RgOk (id,be 4 (l.drop Q),es,es) (Q+4:Nat) w):=by
 obtain⟨x0,hx0⟩:∃ x,(l.drop Q).getD 0 0=x:=⟨_,rfl⟩
 have r0:=Rng.drop h.range Q 0
 rw[hx0]at r0
 obtain⟨x1,hx1⟩:∃ x,(l.drop Q).getD 1 0=x:=⟨_,rfl⟩
 have r1:=Rng.drop h.range Q 1
 rw[hx1]at r1
 obtain⟨x2,hx2⟩:∃ x,(l.drop Q).getD 2 0=x:=⟨_,rfl⟩
 have r2:=Rng.drop h.range Q 2
 rw[hx2]at r2
 obtain⟨x3,hx3⟩:∃ x,(l.drop Q).getD 3 0=x:=⟨_,rfl⟩
 have r3:=Rng.drop h.range Q 3
 rw[hx3]at r3
 have hbe:be 4 (l.drop Q)=((x0 * 256+x1) * 256+x2) * 256+x3:=by unfold be;simp only[hx0,hx1,hx2,hx3];simp
 obtain⟨b,off,cap,rfl,hc1,hc2⟩:=h.form1 (by omega)
 unfold maxLen at hc2
 have HCC:Hid (∀ W:World,Byt W (.slice (some ⟨b,off+Q,none⟩) (l.length - Q) (cap - Q)) (l.drop Q)->∀ j,j < 4->W.cell? ⟨b,off+Q+j,none⟩=some (.int .u8 ((l.drop Q).getD j 0))):=fun W hW j hj=>by
  obtain⟨ao',cap',e,_,_,hcase⟩:=hW
  simp only[Value.slice.injEq]at e
  obtain⟨rfl,_,_⟩:=e
  rcases hcase with hc | ⟨b',off',e',hc⟩
  ·have:=congrArg List.length hc
   simp at this
   omega
  ·simp only[Option.some.injEq,Addr.mk.injEq]at e'
   obtain⟨rfl,rfl,_⟩:=e'
   exact hc j (by rw[List.length_drop];omega)
 have HCB:Hid (∀ W:World,Byt W (.slice (some ⟨b,off+Q,none⟩) (l.length - Q) (cap - Q)) (l.drop Q)->b < W.heap.size):=fun W hW=>cell_lt ((uh HCC) W hW 0 (by omega))
 have HX0:=zh hx0
 clear hx0
 have HX1:=zh hx1
 clear hx1
 have HX2:=zh hx2
 clear hx2
 have HX3:=zh hx3
 clear hx3
 have HBE:=zh hbe
 clear hbe
 have HV:=zh h
 have Hhv:=zh hv
 have HKD:=zh hk
 clear h hv hk 
 generalize hn:l.length=n at hc1 hQ HV hM2 HCC HCB
 have HN:=zh hn
 clear hn
 have hcQ:¬ cap=Q:=by omega
 go_enter Tryz.func123,Tryz.ntmps123
 go_wp2_with fail
 refine (rvget_good _ l _ ((uh HV).below (bal _ _)) id Q (uh Hhv)).mono ?_
 rintro e w1 ⟨rfl,hb1⟩
 have HB1:=bal1 hb1
 have HD:Hid (Byt w1 (.slice (some ⟨b,off+Q,none⟩) (n - Q) (cap - Q)) (l.drop Q)):=by
  show Byt _ _ _
  have:=((uh HV).below (uh HB1)).drop' Q (by omega)
  rw[if_neg hcQ]at this;exact this
 obtain⟨⟨q0,f0⟩,⟨q1,f1⟩,⟨q2,f2⟩,q3,f3⟩:=four_new hb1
 have hl1:w.heap.size < w1.heap.size:=cell_lt q0
 have hne:¬ w1.heap.size=w.heap.size:=by omega
 clear hb1
 have hbl:b < w1.heap.size:=(uh HCB) w1 (uh HD)
 have y0:w1.cell? ⟨b,off+Q,none⟩=some (.int .u8 x0):=by
  have:=(uh HCC) w1 (uh HD) 0 (by omega)
  rw[uh HX0]at this
  exact this
 have y1:w1.cell? ⟨b,off+Q+1,none⟩=some (.int .u8 x1):=by
  have:=(uh HCC) w1 (uh HD) 1 (by omega)
  rw[uh HX1]at this
  exact this
 have y2:w1.cell? ⟨b,off+Q+2,none⟩=some (.int .u8 x2):=by
  have:=(uh HCC) w1 (uh HD) 2 (by omega)
  rw[uh HX2]at this
  exact this
 have y3:w1.cell? ⟨b,off+Q+3,none⟩=some (.int .u8 x3):=by
  have:=(uh HCC) w1 (uh HD) 3 (by omega)
  rw[uh HX3]at this
  exact this
 have ix0:((0:Nat):Int) < ((n - Q:Nat):Int):=by omega
 have iy0:(0:Int) < ((n - Q:Nat):Int):=by omega
 have iz0:0 < n - Q:=by omega
 have ix1:((1:Nat):Int) < ((n - Q:Nat):Int):=by omega
 have iy1:(1:Int) < ((n - Q:Nat):Int):=by omega
 have iz1:1 < n - Q:=by omega
 have ix2:((2:Nat):Int) < ((n - Q:Nat):Int):=by omega
 have iy2:(2:Int) < ((n - Q:Nat):Int):=by omega
 have iz2:2 < n - Q:=by omega
 have ix3:((3:Nat):Int) < ((n - Q:Nat):Int):=by omega
 have iy3:(3:Int) < ((n - Q:Nat):Int):=by omega
 have iz3:3 < n - Q:=by omega
 have hnb:¬ b=w1.heap.size:=by omega
 have e0:bits .or .i64 0 x0=x0:=V.or_zero x0 r0.1 (by omega)
 have e1:=or_256 (x0) x1 (by omega) (by omega) r1.1 r1.2
 have e2:=or_256 (x0 * 256+x1) x2 (by omega) (by omega) r2.1 r2.2
 have e3:=or_256 ((x0 * 256+x1) * 256+x2) x3 (by omega) (by omega) r3.1 r3.2
 go_wp2_with (first | (go_at_call 147;refine (kind_tell id 4 (uh HKD) _).mono ?_;rintro e w2 ⟨rfl,hw⟩;obtain rfl:=hw.symm;clear hw) | fail)
 refine wp_loop_rounds 5 ?_
 rw[rounds_succ]
 go_wp2_with fail
 refine wp_region_noPanic ?_
 refine wp_region_held_drew (S:=(fun w'=>w'.cell? ⟨b,off+Q,none⟩=some (.int .u8 x0))) (by kernel_rfl) (by go_keep) (fun hHeld=>?_)
 refine rtk 0 (h:=?_)
 refine rtk 3 (h:=?_)
 refine rtk 4 (h:=?_)
 refine rtk 5 (h:=?_)
 refine rtk 6 (h:=?_)
 refine rtk 7 (h:=?_)
 refine rcl 1 (h:=fun K hK=>?_)
 go_simp
 refine hK.out _ _ (by go_keep) (fun hHeld=>?_)
 clear hK K
 refine rtk 2 (h:=?_)
 refine rtk 8 (h:=?_)
 refine rtk 9 (h:=?_)
 refine rcl 10 (h:=fun K hK=>?_)
 go_simp
 refine hK.out _ _ (by go_keep) (fun hHeld=>?_)
 clear hK K
 refine wpAnyH_done (by kernel_rfl) ?_ _
 refine NoPanic.normal ?_
 go_wp2_with fail
 rw[rounds_succ]
 go_wp2_with fail
 refine wp_region_noPanic ?_
 refine wp_region_held_drew (S:=(fun w'=>w'.cell? ⟨b,off+Q+1,none⟩=some (.int .u8 x1))) (by kernel_rfl) (by go_keep) (fun hHeld=>?_)
 refine rtk 0 (h:=?_)
 refine rtk 3 (h:=?_)
 refine rtk 4 (h:=?_)
 refine rtk 5 (h:=?_)
 refine rtk 6 (h:=?_)
 refine rtk 7 (h:=?_)
 refine rcl 1 (h:=fun K hK=>?_)
 go_simp
 refine hK.out _ _ (by go_keep) (fun hHeld=>?_)
 clear hK K
 refine rtk 2 (h:=?_)
 refine rtk 8 (h:=?_)
 refine rtk 9 (h:=?_)
 refine rcl 10 (h:=fun K hK=>?_)
 go_simp
 refine hK.out _ _ (by go_keep) (fun hHeld=>?_)
 clear hK K
 refine wpAnyH_done (by kernel_rfl) ?_ _
 refine NoPanic.normal ?_
 go_wp2_with fail
 rw[rounds_succ]
 go_wp2_with fail
 refine wp_region_noPanic ?_
 refine wp_region_held_drew (S:=(fun w'=>w'.cell? ⟨b,off+Q+2,none⟩=some (.int .u8 x2))) (by kernel_rfl) (by go_keep) (fun hHeld=>?_)
 refine rtk 0 (h:=?_)
 refine rtk 3 (h:=?_)
 refine rtk 4 (h:=?_)
 refine rtk 5 (h:=?_)
 refine rtk 6 (h:=?_)
 refine rtk 7 (h:=?_)
 refine rcl 1 (h:=fun K hK=>?_)
 go_simp
 refine hK.out _ _ (by go_keep) (fun hHeld=>?_)
 clear hK K
 refine rtk 2 (h:=?_)
 refine rtk 8 (h:=?_)
 refine rtk 9 (h:=?_)
 refine rcl 10 (h:=fun K hK=>?_)
 go_simp
 refine hK.out _ _ (by go_keep) (fun hHeld=>?_)
 clear hK K
 refine wpAnyH_done (by kernel_rfl) ?_ _
 refine NoPanic.normal ?_
 go_wp2_with fail
 rw[rounds_succ]
 go_wp2_with fail
 refine wp_region_noPanic ?_
 refine wp_region_held_drew (S:=(fun w'=>w'.cell? ⟨b,off+Q+3,none⟩=some (.int .u8 x3))) (by kernel_rfl) (by go_keep) (fun hHeld=>?_)
 refine rtk 0 (h:=?_)
 refine rtk 3 (h:=?_)
 refine rtk 4 (h:=?_)
 refine rtk 5 (h:=?_)
 refine rtk 6 (h:=?_)
 refine rtk 7 (h:=?_)
 refine rcl 1 (h:=fun K hK=>?_)
 go_simp
 refine hK.out _ _ (by go_keep) (fun hHeld=>?_)
 clear hK K
 refine rtk 2 (h:=?_)
 refine rtk 8 (h:=?_)
 refine rtk 9 (h:=?_)
 refine rcl 10 (h:=fun K hK=>?_)
 go_simp
 refine hK.out _ _ (by go_keep) (fun hHeld=>?_)
 clear hK K
 refine wpAnyH_done (by kernel_rfl) ?_ _
 refine NoPanic.normal ?_
 go_wp2_with fail
 rw[rounds_succ]
 go_wp2
 (try simp only[Exit.inBlock,Exit.then])
 refine bodyPost_ret (res_p2 (B:=w.heap.size) (v0:=.int .i64 id) (v1:=.int .i64 (((x0 * 256+x1) * 256+x2) * 256+x3)) (v2:=.string ⟨#[]⟩) (v3:=.string ⟨#[]⟩) rfl rfl ?c0 ?c1 ?c2 ?c3) rfl ?_
 case c0=>simp only[World.cell?_drew];rw[World.cell?_alloc_lt _ _ _ (by simpa using hl1)];simp (maxDischargeDepth:=12) [cell_set,q0]
 case c1=>simp only[World.cell?_drew];rw[World.cell?_alloc_lt _ _ _ (by simpa using hl1)];simp (maxDischargeDepth:=12) [cell_set,q1]
 case c2=>simp only[World.cell?_drew];rw[World.cell?_alloc_lt _ _ _ (by simpa using hl1)];simp (maxDischargeDepth:=12) [cell_set,q2]
 case c3=>simp only[World.cell?_drew];rw[World.cell?_alloc_lt _ _ _ (by simpa using hl1)];simp (maxDischargeDepth:=12) [cell_set,q3]
 refine⟨?_,by have:=uh HB1;go_grown⟩
 rw[uh HBE]
 go_num
theorem rg_num4_bad (v:Value) (l:List Int) (w:World) (h:Byt w v l) (id:Int) (Q:Nat) (hv:V.vget l=(id,(Q:Int),0)) (hQ:1<=Q/\Q<=l.length) (hQ4:Q<=4) (hk:kd id=4) (hM2:l.length < Q+4):Calls Tryz.prog 123 #[v] w (RgBad w):=by
 obtain⟨b,off,cap,rfl,hc1,hc2⟩:=h.form1 (by omega)
 unfold maxLen at hc2
 have HV:=zh h
 have Hhv:=zh hv
 have HKD:=zh hk
 clear h hv hk 
 generalize hn:l.length=n at hc1 hQ HV hM2
 have HN:=zh hn
 clear hn
 by_cases hcQ:cap=Q
 ·have e1:Q=cap:=hcQ.symm
  clear hcQ
  subst e1
  have e2:Q=n:=by omega
  subst e2
  go_enter Tryz.func123,Tryz.ntmps123
  go_wp2_with fail
  refine (rvget_good _ l _ ((uh HV).below (bal _ _)) id Q (uh Hhv)).mono ?_
  rintro e w1 ⟨rfl,hb1⟩
  have HB1:=bal1 hb1
  have HD:Hid (Byt w1 (.slice (some ⟨b,off,none⟩) 0 0) (l.drop Q)):=by
   show Byt _ _ _
   have:=((uh HV).below (uh HB1)).drop' Q (by omega)
   rw[if_pos rfl,Nat.sub_self]at this;exact this
  obtain⟨⟨q0,f0⟩,⟨q1,f1⟩,⟨q2,f2⟩,q3,f3⟩:=four_new hb1
  have hl1:w.heap.size < w1.heap.size:=cell_lt q0
  have hne:¬ w1.heap.size=w.heap.size:=by omega
  clear hb1
  go_wp2_with (first | (go_at_call 147;refine (kind_tell id 4 (uh HKD) _).mono ?_;rintro e w2 ⟨rfl,hw⟩;obtain rfl:=hw.symm;clear hw) | fail)
  (try simp only[Exit.inBlock,Exit.then])
  refine bodyPost_ret (res_p2 (B:=w.heap.size) (v0:=.int .i64 id) (v1:=.int .i64 0) (v2:=.string ⟨#[]⟩) (v3:=.string ⟨#[]⟩) rfl rfl ?c0 ?c1 ?c2 ?c3) rfl ?_
  case c0=>rw[World.cell?_alloc_lt _ _ _ (by simpa using hl1)];simp (maxDischargeDepth:=12) [cell_set,q0]
  case c1=>rw[World.cell?_alloc_lt _ _ _ (by simpa using hl1)];simp (maxDischargeDepth:=12) [cell_set,q1]
  case c2=>rw[World.cell?_alloc_lt _ _ _ (by simpa using hl1)];simp (maxDischargeDepth:=12) [cell_set,q2]
  case c3=>rw[World.cell?_alloc_lt _ _ _ (by simpa using hl1)];simp (maxDischargeDepth:=12) [cell_set,q3]
  exact⟨_,_,_,_,rfl,by have:=uh HB1;go_grown⟩
 ·go_enter Tryz.func123,Tryz.ntmps123
  go_wp2_with fail
  refine (rvget_good _ l _ ((uh HV).below (bal _ _)) id Q (uh Hhv)).mono ?_
  rintro e w1 ⟨rfl,hb1⟩
  have HB1:=bal1 hb1
  have HD:Hid (Byt w1 (.slice (some ⟨b,off+Q,none⟩) (n - Q) (cap - Q)) (l.drop Q)):=by
   show Byt _ _ _
   have:=((uh HV).below (uh HB1)).drop' Q (by omega)
   rw[if_neg hcQ]at this;exact this
  obtain⟨⟨q0,f0⟩,⟨q1,f1⟩,⟨q2,f2⟩,q3,f3⟩:=four_new hb1
  have hl1:w.heap.size < w1.heap.size:=cell_lt q0
  have hne:¬ w1.heap.size=w.heap.size:=by omega
  clear hb1
  go_wp2_with (first | (go_at_call 147;refine (kind_tell id 4 (uh HKD) _).mono ?_;rintro e w2 ⟨rfl,hw⟩;obtain rfl:=hw.symm;clear hw) | fail)
  (try simp only[Exit.inBlock,Exit.then])
  refine bodyPost_ret (res_p2 (B:=w.heap.size) (v0:=.int .i64 id) (v1:=.int .i64 0) (v2:=.string ⟨#[]⟩) (v3:=.string ⟨#[]⟩) rfl rfl ?c0 ?c1 ?c2 ?c3) rfl ?_
  case c0=>rw[World.cell?_alloc_lt _ _ _ (by simpa using hl1)];simp (maxDischargeDepth:=12) [cell_set,q0]
  case c1=>rw[World.cell?_alloc_lt _ _ _ (by simpa using hl1)];simp (maxDischargeDepth:=12) [cell_set,q1]
  case c2=>rw[World.cell?_alloc_lt _ _ _ (by simpa using hl1)];simp (maxDischargeDepth:=12) [cell_set,q2]
  case c3=>rw[World.cell?_alloc_lt _ _ _ (by simpa using hl1)];simp (maxDischargeDepth:=12) [cell_set,q3]
  exact⟨_,_,_,_,rfl,by have:=uh HB1;go_grown⟩
theorem rg_pair (v:Value) (l:List Int) (w:World) (h:Byt w v l) (id:Int) (Q:Nat) (hv:V.vget l=(id,(Q:Int),0)) (hQ:1<=Q/\Q<=l.length) (hQ4:Q<=4) (hk:kd id=8) (s:ByteArray) (M:Nat) (hg:gt (l.drop Q)=(s,(M:Int),0)) (hM:2<=M) (hM2:Q+M<=l.length) (t:ByteArray) (T:Nat) (ht:gt ((l.drop Q).drop M)=(t,(T:Int),0)) (hT:2<=T) (hT2:Q+M+T<=l.length):Calls Tryz.prog 123 #[v] w (RgOk (id,0,s,t) (Q+(M+T):Nat) w):=by
 obtain⟨b,off,cap,rfl,hc1,hc2⟩:=h.form1 (by omega)
 unfold maxLen at hc2
 have HV:=zh h
 have Hhv:=zh hv
 have HKD:=zh hk
 have Hhg:=zh hg
 have Hht:=zh ht
 clear h hv hk hg ht
 generalize hn:l.length=n at hc1 hQ HV hM2 hT2
 have HN:=zh hn
 clear hn
 have HD0:Hid (Byt w (.slice (some ⟨b,off+Q,none⟩) (n - Q) (cap - Q)) (l.drop Q)):=by
  show Byt _ _ _
  have:=(uh HV).drop' Q (by omega)
  rw[if_neg (by omega)]at this
  skip
  exact this
 have HDD:Hid (Byt w (.slice (some ⟨b,off+Q+M,none⟩) (n - Q - M) (cap - Q - M)) ((l.drop Q).drop M)):=by
  show Byt _ _ _
  have:=(uh HD0).drop' M (by omega)
  rw[if_neg (by omega)]at this
  exact this
 go_enter Tryz.func123,Tryz.ntmps123
 go_wp2_with fail
 refine (rvget_good _ l _ ((uh HV).below (bal _ _)) id Q (uh Hhv)).mono ?_
 rintro e w1 ⟨rfl,hb1⟩
 have HB1:=bal1 hb1
 obtain⟨⟨q0,f0⟩,⟨q1,f1⟩,⟨q2,f2⟩,q3,f3⟩:=four_new hb1
 have hl1:w.heap.size < w1.heap.size:=cell_lt q0
 have hne:¬ w1.heap.size=w.heap.size:=by omega
 clear hb1
 go_wp2_with (first | (go_at_call 147;refine (kind_tell id 8 (uh HKD) _).mono ?_;rintro e w2 ⟨rfl,hw⟩;obtain rfl:=hw.symm;clear hw) | fail)
 refine (rtget_good _ _ _ (((uh HD0).below (uh HB1)).below (bal _ _)) s M (uh Hhg)).mono ?_
 rintro e w2 ⟨rfl,hb2⟩
 obtain⟨⟨p0,h0⟩,⟨p1,h1⟩,⟨p2,h2⟩,p3,h3⟩:=four_new hb2
 obtain⟨⟨r0,g0⟩,⟨r1,g1⟩,⟨r2,g2⟩,r3,g3⟩:=four_old hb2 q0 f0 q1 f1 q2 f2 q3 f3
 have HB2:Hid (Below w.heap.size w w2):=((uh HB1).alloc (uh HB1).size _).trans (hb2.mono (by simp;omega))
 clear hb2
 have HB2s:Hid (Below w.heap.size w (w2.setCell ⟨w1.heap.size,2,none⟩ (.string s))):=(uh HB2).setCell (by show w.heap.size<=w1.heap.size;omega) _
 have hl2:w1.heap.size < w2.heap.size:=cell_lt p0
 go_wp2_with fail
 refine (rtget_good _ _ _ ((uh HDD).below (uh HB2s)) t T (uh Hht)).mono ?_
 rintro e w3 ⟨rfl,hb3⟩
 have P0:w3.cell? ⟨w1.heap.size,0,none⟩=some (.int .i64 id):=(hb3.cell (p:=⟨w1.heap.size,0,none⟩) (by simp;omega)).trans (by simp (maxDischargeDepth:=12) [cell_set,p0])
 have F0:w3.frozen? ⟨w1.heap.size,0,none⟩=false:=(hb3.frozen (p:=⟨w1.heap.size,0,none⟩) (by simp;omega)).trans (by rw[World.frozen?_setCell];exact h0)
 have R0:w3.cell? ⟨w.heap.size,0,none⟩=some (.int .i64 0):=(hb3.cell (p:=⟨w.heap.size,0,none⟩) (by simp;omega)).trans ((World.cell?_setCell_far _ _ _ _ hne).trans r0)
 have G0:w3.frozen? ⟨w.heap.size,0,none⟩=false:=(hb3.frozen (p:=⟨w.heap.size,0,none⟩) (by simp;omega)).trans (by rw[World.frozen?_setCell];exact g0)
 have P1:w3.cell? ⟨w1.heap.size,1,none⟩=some (.int .i64 0):=(hb3.cell (p:=⟨w1.heap.size,1,none⟩) (by simp;omega)).trans (by simp (maxDischargeDepth:=12) [cell_set,p1])
 have F1:w3.frozen? ⟨w1.heap.size,1,none⟩=false:=(hb3.frozen (p:=⟨w1.heap.size,1,none⟩) (by simp;omega)).trans (by rw[World.frozen?_setCell];exact h1)
 have R1:w3.cell? ⟨w.heap.size,1,none⟩=some (.int .i64 0):=(hb3.cell (p:=⟨w.heap.size,1,none⟩) (by simp;omega)).trans ((World.cell?_setCell_far _ _ _ _ hne).trans r1)
 have G1:w3.frozen? ⟨w.heap.size,1,none⟩=false:=(hb3.frozen (p:=⟨w.heap.size,1,none⟩) (by simp;omega)).trans (by rw[World.frozen?_setCell];exact g1)
 have P2:w3.cell? ⟨w1.heap.size,2,none⟩=some (.string s):=(hb3.cell (p:=⟨w1.heap.size,2,none⟩) (by simp;omega)).trans (by simp (maxDischargeDepth:=12) [cell_set,p2])
 have F2:w3.frozen? ⟨w1.heap.size,2,none⟩=false:=(hb3.frozen (p:=⟨w1.heap.size,2,none⟩) (by simp;omega)).trans (by rw[World.frozen?_setCell];exact h2)
 have R2:w3.cell? ⟨w.heap.size,2,none⟩=some (.string ⟨#[]⟩):=(hb3.cell (p:=⟨w.heap.size,2,none⟩) (by simp;omega)).trans ((World.cell?_setCell_far _ _ _ _ hne).trans r2)
 have G2:w3.frozen? ⟨w.heap.size,2,none⟩=false:=(hb3.frozen (p:=⟨w.heap.size,2,none⟩) (by simp;omega)).trans (by rw[World.frozen?_setCell];exact g2)
 have P3:w3.cell? ⟨w1.heap.size,3,none⟩=some (.string ⟨#[]⟩):=(hb3.cell (p:=⟨w1.heap.size,3,none⟩) (by simp;omega)).trans (by simp (maxDischargeDepth:=12) [cell_set,p3])
 have F3:w3.frozen? ⟨w1.heap.size,3,none⟩=false:=(hb3.frozen (p:=⟨w1.heap.size,3,none⟩) (by simp;omega)).trans (by rw[World.frozen?_setCell];exact h3)
 have R3:w3.cell? ⟨w.heap.size,3,none⟩=some (.string ⟨#[]⟩):=(hb3.cell (p:=⟨w.heap.size,3,none⟩) (by simp;omega)).trans ((World.cell?_setCell_far _ _ _ _ hne).trans r3)
 have G3:w3.frozen? ⟨w.heap.size,3,none⟩=false:=(hb3.frozen (p:=⟨w.heap.size,3,none⟩) (by simp;omega)).trans (by rw[World.frozen?_setCell];exact g3)
 have HB3:Hid (Below w.heap.size w w3):=(uh HB2s).trans (hb3.mono (by simp;omega))
 clear hb3 HB2s HB2 HB1 HDD HD0 p0 h0 r0 g0 q0 f0 p1 h1 r1 g1 q1 f1 p2 h2 r2 g2 q2 f2 p3 h3 r3 g3 q3 f3
 go_wp2
 (try simp only[Exit.inBlock,Exit.then])
 refine bodyPost_ret (res_p2 (B:=w.heap.size) (v0:=.int .i64 id) (v1:=.int .i64 0) (v2:=.string s) (v3:=.string t) rfl rfl ?c0 ?c1 ?c2 ?c3) rfl ?_
 case c0=>simp (maxDischargeDepth:=12) [cell_set,R0]
 case c1=>simp (maxDischargeDepth:=12) [cell_set,R1]
 case c2=>simp (maxDischargeDepth:=12) [cell_set,R2]
 case c3=>simp (maxDischargeDepth:=12) [cell_set,R3]
 exact⟨by go_num,by have:=uh HB3;go_grown⟩
theorem rg_pair_bad2 (v:Value) (l:List Int) (w:World) (h:Byt w v l) (id:Int) (Q:Nat) (hv:V.vget l=(id,(Q:Int),0)) (hQ:1<=Q/\Q<=l.length) (hQ4:Q<=4) (hk:kd id=8) (s:ByteArray) (M:Nat) (hg:gt (l.drop Q)=(s,(M:Int),0)) (hM:2<=M) (hM2:Q+M<=l.length) (m:Int) (ht:(gt ((l.drop Q).drop M)).2.2=m) (hm:m≠0):Calls Tryz.prog 123 #[v] w (RgBad w):=by
 obtain⟨b,off,cap,rfl,hc1,hc2⟩:=h.form1 (by omega)
 unfold maxLen at hc2
 have HV:=zh h
 have Hhv:=zh hv
 have HKD:=zh hk
 have Hhg:=zh hg
 have Hht:=zh ht
 clear h hv hk hg ht
 generalize hn:l.length=n at hc1 hQ HV hM2
 have HN:=zh hn
 clear hn
 by_cases hcM:cap=Q+M
 ·have e1:n=Q+M:=by omega
  subst hcM
  subst e1
  have HD0:Hid (Byt w (.slice (some ⟨b,off+Q,none⟩) M M) (l.drop Q)):=by
   show Byt _ _ _
   have:=(uh HV).drop' Q (by omega)
   rw[if_neg (by omega)]at this
   rw[Nat.add_sub_cancel_left]at this
   exact this
  have HDD:Hid (Byt w (.slice (some ⟨b,off+Q,none⟩) 0 0) ((l.drop Q).drop M)):=by
   show Byt _ _ _
   have:=(uh HD0).drop' M (by omega)
   rw[if_pos rfl,Nat.sub_self]at this
   exact this
  go_enter Tryz.func123,Tryz.ntmps123
  go_wp2_with fail
  refine (rvget_good _ l _ ((uh HV).below (bal _ _)) id Q (uh Hhv)).mono ?_
  rintro e w1 ⟨rfl,hb1⟩
  have HB1:=bal1 hb1
  obtain⟨⟨q0,f0⟩,⟨q1,f1⟩,⟨q2,f2⟩,q3,f3⟩:=four_new hb1
  have hl1:w.heap.size < w1.heap.size:=cell_lt q0
  have hne:¬ w1.heap.size=w.heap.size:=by omega
  clear hb1
  go_wp2_with (first | (go_at_call 147;refine (kind_tell id 8 (uh HKD) _).mono ?_;rintro e w2 ⟨rfl,hw⟩;obtain rfl:=hw.symm;clear hw) | fail)
  refine (rtget_good _ _ _ (((uh HD0).below (uh HB1)).below (bal _ _)) s M (uh Hhg)).mono ?_
  rintro e w2 ⟨rfl,hb2⟩
  obtain⟨⟨p0,h0⟩,⟨p1,h1⟩,⟨p2,h2⟩,p3,h3⟩:=four_new hb2
  obtain⟨⟨r0,g0⟩,⟨r1,g1⟩,⟨r2,g2⟩,r3,g3⟩:=four_old hb2 q0 f0 q1 f1 q2 f2 q3 f3
  have HB2:Hid (Below w.heap.size w w2):=((uh HB1).alloc (uh HB1).size _).trans (hb2.mono (by simp;omega))
  clear hb2
  have HB2s:Hid (Below w.heap.size w (w2.setCell ⟨w1.heap.size,2,none⟩ (.string s))):=(uh HB2).setCell (by show w.heap.size<=w1.heap.size;omega) _
  have hl2:w1.heap.size < w2.heap.size:=cell_lt p0
  go_wp2_with fail
  refine (rtget_fail _ _ _ ((uh HDD).below (uh HB2s)) m (uh Hht)).mono ?_
  rintro e w3 ⟨a,b2,rfl,hb3⟩
  have P0:w3.cell? ⟨w1.heap.size,0,none⟩=some (.int .i64 id):=(hb3.cell (p:=⟨w1.heap.size,0,none⟩) (by simp;omega)).trans (by simp (maxDischargeDepth:=12) [cell_set,p0])
  have F0:w3.frozen? ⟨w1.heap.size,0,none⟩=false:=(hb3.frozen (p:=⟨w1.heap.size,0,none⟩) (by simp;omega)).trans (by rw[World.frozen?_setCell];exact h0)
  have R0:w3.cell? ⟨w.heap.size,0,none⟩=some (.int .i64 0):=(hb3.cell (p:=⟨w.heap.size,0,none⟩) (by simp;omega)).trans ((World.cell?_setCell_far _ _ _ _ hne).trans r0)
  have G0:w3.frozen? ⟨w.heap.size,0,none⟩=false:=(hb3.frozen (p:=⟨w.heap.size,0,none⟩) (by simp;omega)).trans (by rw[World.frozen?_setCell];exact g0)
  have P1:w3.cell? ⟨w1.heap.size,1,none⟩=some (.int .i64 0):=(hb3.cell (p:=⟨w1.heap.size,1,none⟩) (by simp;omega)).trans (by simp (maxDischargeDepth:=12) [cell_set,p1])
  have F1:w3.frozen? ⟨w1.heap.size,1,none⟩=false:=(hb3.frozen (p:=⟨w1.heap.size,1,none⟩) (by simp;omega)).trans (by rw[World.frozen?_setCell];exact h1)
  have R1:w3.cell? ⟨w.heap.size,1,none⟩=some (.int .i64 0):=(hb3.cell (p:=⟨w.heap.size,1,none⟩) (by simp;omega)).trans ((World.cell?_setCell_far _ _ _ _ hne).trans r1)
  have G1:w3.frozen? ⟨w.heap.size,1,none⟩=false:=(hb3.frozen (p:=⟨w.heap.size,1,none⟩) (by simp;omega)).trans (by rw[World.frozen?_setCell];exact g1)
  have P2:w3.cell? ⟨w1.heap.size,2,none⟩=some (.string s):=(hb3.cell (p:=⟨w1.heap.size,2,none⟩) (by simp;omega)).trans (by simp (maxDischargeDepth:=12) [cell_set,p2])
  have F2:w3.frozen? ⟨w1.heap.size,2,none⟩=false:=(hb3.frozen (p:=⟨w1.heap.size,2,none⟩) (by simp;omega)).trans (by rw[World.frozen?_setCell];exact h2)
  have R2:w3.cell? ⟨w.heap.size,2,none⟩=some (.string ⟨#[]⟩):=(hb3.cell (p:=⟨w.heap.size,2,none⟩) (by simp;omega)).trans ((World.cell?_setCell_far _ _ _ _ hne).trans r2)
  have G2:w3.frozen? ⟨w.heap.size,2,none⟩=false:=(hb3.frozen (p:=⟨w.heap.size,2,none⟩) (by simp;omega)).trans (by rw[World.frozen?_setCell];exact g2)
  have P3:w3.cell? ⟨w1.heap.size,3,none⟩=some (.string ⟨#[]⟩):=(hb3.cell (p:=⟨w1.heap.size,3,none⟩) (by simp;omega)).trans (by simp (maxDischargeDepth:=12) [cell_set,p3])
  have F3:w3.frozen? ⟨w1.heap.size,3,none⟩=false:=(hb3.frozen (p:=⟨w1.heap.size,3,none⟩) (by simp;omega)).trans (by rw[World.frozen?_setCell];exact h3)
  have R3:w3.cell? ⟨w.heap.size,3,none⟩=some (.string ⟨#[]⟩):=(hb3.cell (p:=⟨w.heap.size,3,none⟩) (by simp;omega)).trans ((World.cell?_setCell_far _ _ _ _ hne).trans r3)
  have G3:w3.frozen? ⟨w.heap.size,3,none⟩=false:=(hb3.frozen (p:=⟨w.heap.size,3,none⟩) (by simp;omega)).trans (by rw[World.frozen?_setCell];exact g3)
  have HB3:Hid (Below w.heap.size w w3):=(uh HB2s).trans (hb3.mono (by simp;omega))
  clear hb3 HB2s HB2 HB1 HDD HD0 p0 h0 r0 g0 q0 f0 p1 h1 r1 g1 q1 f1 p2 h2 r2 g2 q2 f2 p3 h3 r3 g3 q3 f3
  go_wp2
  (try simp only[Exit.inBlock,Exit.then])
  refine bodyPost_ret (res_p2 (B:=w.heap.size) (v0:=.int .i64 id) (v1:=.int .i64 0) (v2:=.string s) (v3:=.string a) rfl rfl ?c0 ?c1 ?c2 ?c3) rfl ?_
  case c0=>simp (maxDischargeDepth:=12) [cell_set,R0]
  case c1=>simp (maxDischargeDepth:=12) [cell_set,R1]
  case c2=>simp (maxDischargeDepth:=12) [cell_set,R2]
  case c3=>simp (maxDischargeDepth:=12) [cell_set,R3]
  exact⟨_,_,_,_,rfl,by have:=uh HB3;go_grown⟩
 ·have HD0:Hid (Byt w (.slice (some ⟨b,off+Q,none⟩) (n - Q) (cap - Q)) (l.drop Q)):=by
   show Byt _ _ _
   have:=(uh HV).drop' Q (by omega)
   rw[if_neg (by omega)]at this
   skip
   exact this
  have HDD:Hid (Byt w (.slice (some ⟨b,off+Q+M,none⟩) (n - Q - M) (cap - Q - M)) ((l.drop Q).drop M)):=by
   show Byt _ _ _
   have:=(uh HD0).drop' M (by omega)
   rw[if_neg (by omega)]at this
   exact this
  go_enter Tryz.func123,Tryz.ntmps123
  go_wp2_with fail
  refine (rvget_good _ l _ ((uh HV).below (bal _ _)) id Q (uh Hhv)).mono ?_
  rintro e w1 ⟨rfl,hb1⟩
  have HB1:=bal1 hb1
  obtain⟨⟨q0,f0⟩,⟨q1,f1⟩,⟨q2,f2⟩,q3,f3⟩:=four_new hb1
  have hl1:w.heap.size < w1.heap.size:=cell_lt q0
  have hne:¬ w1.heap.size=w.heap.size:=by omega
  clear hb1
  go_wp2_with (first | (go_at_call 147;refine (kind_tell id 8 (uh HKD) _).mono ?_;rintro e w2 ⟨rfl,hw⟩;obtain rfl:=hw.symm;clear hw) | fail)
  refine (rtget_good _ _ _ (((uh HD0).below (uh HB1)).below (bal _ _)) s M (uh Hhg)).mono ?_
  rintro e w2 ⟨rfl,hb2⟩
  obtain⟨⟨p0,h0⟩,⟨p1,h1⟩,⟨p2,h2⟩,p3,h3⟩:=four_new hb2
  obtain⟨⟨r0,g0⟩,⟨r1,g1⟩,⟨r2,g2⟩,r3,g3⟩:=four_old hb2 q0 f0 q1 f1 q2 f2 q3 f3
  have HB2:Hid (Below w.heap.size w w2):=((uh HB1).alloc (uh HB1).size _).trans (hb2.mono (by simp;omega))
  clear hb2
  have HB2s:Hid (Below w.heap.size w (w2.setCell ⟨w1.heap.size,2,none⟩ (.string s))):=(uh HB2).setCell (by show w.heap.size<=w1.heap.size;omega) _
  have hl2:w1.heap.size < w2.heap.size:=cell_lt p0
  go_wp2_with fail
  refine (rtget_fail _ _ _ ((uh HDD).below (uh HB2s)) m (uh Hht)).mono ?_
  rintro e w3 ⟨a,b2,rfl,hb3⟩
  have P0:w3.cell? ⟨w1.heap.size,0,none⟩=some (.int .i64 id):=(hb3.cell (p:=⟨w1.heap.size,0,none⟩) (by simp;omega)).trans (by simp (maxDischargeDepth:=12) [cell_set,p0])
  have F0:w3.frozen? ⟨w1.heap.size,0,none⟩=false:=(hb3.frozen (p:=⟨w1.heap.size,0,none⟩) (by simp;omega)).trans (by rw[World.frozen?_setCell];exact h0)
  have R0:w3.cell? ⟨w.heap.size,0,none⟩=some (.int .i64 0):=(hb3.cell (p:=⟨w.heap.size,0,none⟩) (by simp;omega)).trans ((World.cell?_setCell_far _ _ _ _ hne).trans r0)
  have G0:w3.frozen? ⟨w.heap.size,0,none⟩=false:=(hb3.frozen (p:=⟨w.heap.size,0,none⟩) (by simp;omega)).trans (by rw[World.frozen?_setCell];exact g0)
  have P1:w3.cell? ⟨w1.heap.size,1,none⟩=some (.int .i64 0):=(hb3.cell (p:=⟨w1.heap.size,1,none⟩) (by simp;omega)).trans (by simp (maxDischargeDepth:=12) [cell_set,p1])
  have F1:w3.frozen? ⟨w1.heap.size,1,none⟩=false:=(hb3.frozen (p:=⟨w1.heap.size,1,none⟩) (by simp;omega)).trans (by rw[World.frozen?_setCell];exact h1)
  have R1:w3.cell? ⟨w.heap.size,1,none⟩=some (.int .i64 0):=(hb3.cell (p:=⟨w.heap.size,1,none⟩) (by simp;omega)).trans ((World.cell?_setCell_far _ _ _ _ hne).trans r1)
  have G1:w3.frozen? ⟨w.heap.size,1,none⟩=false:=(hb3.frozen (p:=⟨w.heap.size,1,none⟩) (by simp;omega)).trans (by rw[World.frozen?_setCell];exact g1)
  have P2:w3.cell? ⟨w1.heap.size,2,none⟩=some (.string s):=(hb3.cell (p:=⟨w1.heap.size,2,none⟩) (by simp;omega)).trans (by simp (maxDischargeDepth:=12) [cell_set,p2])
  have F2:w3.frozen? ⟨w1.heap.size,2,none⟩=false:=(hb3.frozen (p:=⟨w1.heap.size,2,none⟩) (by simp;omega)).trans (by rw[World.frozen?_setCell];exact h2)
  have R2:w3.cell? ⟨w.heap.size,2,none⟩=some (.string ⟨#[]⟩):=(hb3.cell (p:=⟨w.heap.size,2,none⟩) (by simp;omega)).trans ((World.cell?_setCell_far _ _ _ _ hne).trans r2)
  have G2:w3.frozen? ⟨w.heap.size,2,none⟩=false:=(hb3.frozen (p:=⟨w.heap.size,2,none⟩) (by simp;omega)).trans (by rw[World.frozen?_setCell];exact g2)
  have P3:w3.cell? ⟨w1.heap.size,3,none⟩=some (.string ⟨#[]⟩):=(hb3.cell (p:=⟨w1.heap.size,3,none⟩) (by simp;omega)).trans (by simp (maxDischargeDepth:=12) [cell_set,p3])
  have F3:w3.frozen? ⟨w1.heap.size,3,none⟩=false:=(hb3.frozen (p:=⟨w1.heap.size,3,none⟩) (by simp;omega)).trans (by rw[World.frozen?_setCell];exact h3)
  have R3:w3.cell? ⟨w.heap.size,3,none⟩=some (.string ⟨#[]⟩):=(hb3.cell (p:=⟨w.heap.size,3,none⟩) (by simp;omega)).trans ((World.cell?_setCell_far _ _ _ _ hne).trans r3)
  have G3:w3.frozen? ⟨w.heap.size,3,none⟩=false:=(hb3.frozen (p:=⟨w.heap.size,3,none⟩) (by simp;omega)).trans (by rw[World.frozen?_setCell];exact g3)
  have HB3:Hid (Below w.heap.size w w3):=(uh HB2s).trans (hb3.mono (by simp;omega))
  clear hb3 HB2s HB2 HB1 HDD HD0 p0 h0 r0 g0 q0 f0 p1 h1 r1 g1 q1 f1 p2 h2 r2 g2 q2 f2 p3 h3 r3 g3 q3 f3
  go_wp2
  (try simp only[Exit.inBlock,Exit.then])
  refine bodyPost_ret (res_p2 (B:=w.heap.size) (v0:=.int .i64 id) (v1:=.int .i64 0) (v2:=.string s) (v3:=.string a) rfl rfl ?c0 ?c1 ?c2 ?c3) rfl ?_
  case c0=>simp (maxDischargeDepth:=12) [cell_set,R0]
  case c1=>simp (maxDischargeDepth:=12) [cell_set,R1]
  case c2=>simp (maxDischargeDepth:=12) [cell_set,R2]
  case c3=>simp (maxDischargeDepth:=12) [cell_set,R3]
  exact⟨_,_,_,_,rfl,by have:=uh HB3;go_grown⟩
theorem rg_pair_bad1 (v:Value) (l:List Int) (w:World) (h:Byt w v l) (id:Int) (Q:Nat) (hv:V.vget l=(id,(Q:Int),0)) (hQ:1<=Q/\Q<=l.length) (hQ4:Q<=4) (hk:kd id=8) (m:Int) (hg:(gt (l.drop Q)).2.2=m) (hm:m≠0):Calls Tryz.prog 123 #[v] w (RgBad w):=by
 obtain⟨b,off,cap,rfl,hc1,hc2⟩:=h.form1 (by omega)
 unfold maxLen at hc2
 have HV:=zh h
 have Hhv:=zh hv
 have HKD:=zh hk
 have Hhg:=zh hg
 clear h hv hk hg
 generalize hn:l.length=n at hc1 hQ HV 
 have HN:=zh hn
 clear hn
 by_cases hcQ:cap=Q
 ·have e1:Q=cap:=hcQ.symm
  clear hcQ
  subst e1
  have e2:Q=n:=by omega
  subst e2
  go_enter Tryz.func123,Tryz.ntmps123
  go_wp2_with fail
  refine (rvget_good _ l _ ((uh HV).below (bal _ _)) id Q (uh Hhv)).mono ?_
  rintro e w1 ⟨rfl,hb1⟩
  have HB1:=bal1 hb1
  have HD:Hid (Byt w1 (.slice (some ⟨b,off,none⟩) 0 0) (l.drop Q)):=by
   show Byt _ _ _
   have:=((uh HV).below (uh HB1)).drop' Q (by omega)
   rw[if_pos rfl,Nat.sub_self]at this;exact this
  obtain⟨⟨q0,f0⟩,⟨q1,f1⟩,⟨q2,f2⟩,q3,f3⟩:=four_new hb1
  have hl1:w.heap.size < w1.heap.size:=cell_lt q0
  have hne:¬ w1.heap.size=w.heap.size:=by omega
  clear hb1
  go_wp2_with (first | (go_at_call 147;refine (kind_tell id 8 (uh HKD) _).mono ?_;rintro e w2 ⟨rfl,hw⟩;obtain rfl:=hw.symm;clear hw) | fail)
  refine (rtget_fail _ _ _ ((uh HD).below (bal _ _)) m (uh Hhg)).mono ?_
  rintro e w2 ⟨a,b2,rfl,hb2⟩
  obtain⟨⟨p0,h0⟩,⟨p1,h1⟩,⟨p2,h2⟩,p3,h3⟩:=four_new hb2
  obtain⟨⟨r0,g0⟩,⟨r1,g1⟩,⟨r2,g2⟩,r3,g3⟩:=four_old hb2 q0 f0 q1 f1 q2 f2 q3 f3
  have HB2:Hid (Below w.heap.size w w2):=((uh HB1).alloc (uh HB1).size _).trans (hb2.mono (by simp;omega))
  clear hb2
  go_wp2
  (try simp only[Exit.inBlock,Exit.then])
  refine bodyPost_ret (res_p2 (B:=w.heap.size) (v0:=.int .i64 id) (v1:=.int .i64 0) (v2:=.string a) (v3:=.string ⟨#[]⟩) rfl rfl ?c0 ?c1 ?c2 ?c3) rfl ?_
  case c0=>simp (maxDischargeDepth:=12) [cell_set,r0]
  case c1=>simp (maxDischargeDepth:=12) [cell_set,r1]
  case c2=>simp (maxDischargeDepth:=12) [cell_set,r2]
  case c3=>simp (maxDischargeDepth:=12) [cell_set,r3]
  exact⟨_,_,_,_,rfl,by have:=uh HB2;go_grown⟩
 ·go_enter Tryz.func123,Tryz.ntmps123
  go_wp2_with fail
  refine (rvget_good _ l _ ((uh HV).below (bal _ _)) id Q (uh Hhv)).mono ?_
  rintro e w1 ⟨rfl,hb1⟩
  have HB1:=bal1 hb1
  have HD:Hid (Byt w1 (.slice (some ⟨b,off+Q,none⟩) (n - Q) (cap - Q)) (l.drop Q)):=by
   show Byt _ _ _
   have:=((uh HV).below (uh HB1)).drop' Q (by omega)
   rw[if_neg hcQ]at this;exact this
  obtain⟨⟨q0,f0⟩,⟨q1,f1⟩,⟨q2,f2⟩,q3,f3⟩:=four_new hb1
  have hl1:w.heap.size < w1.heap.size:=cell_lt q0
  have hne:¬ w1.heap.size=w.heap.size:=by omega
  clear hb1
  go_wp2_with (first | (go_at_call 147;refine (kind_tell id 8 (uh HKD) _).mono ?_;rintro e w2 ⟨rfl,hw⟩;obtain rfl:=hw.symm;clear hw) | fail)
  refine (rtget_fail _ _ _ ((uh HD).below (bal _ _)) m (uh Hhg)).mono ?_
  rintro e w2 ⟨a,b2,rfl,hb2⟩
  obtain⟨⟨p0,h0⟩,⟨p1,h1⟩,⟨p2,h2⟩,p3,h3⟩:=four_new hb2
  obtain⟨⟨r0,g0⟩,⟨r1,g1⟩,⟨r2,g2⟩,r3,g3⟩:=four_old hb2 q0 f0 q1 f1 q2 f2 q3 f3
  have HB2:Hid (Below w.heap.size w w2):=((uh HB1).alloc (uh HB1).size _).trans (hb2.mono (by simp;omega))
  clear hb2
  go_wp2
  (try simp only[Exit.inBlock,Exit.then])
  refine bodyPost_ret (res_p2 (B:=w.heap.size) (v0:=.int .i64 id) (v1:=.int .i64 0) (v2:=.string a) (v3:=.string ⟨#[]⟩) rfl rfl ?c0 ?c1 ?c2 ?c3) rfl ?_
  case c0=>simp (maxDischargeDepth:=12) [cell_set,r0]
  case c1=>simp (maxDischargeDepth:=12) [cell_set,r1]
  case c2=>simp (maxDischargeDepth:=12) [cell_set,r2]
  case c3=>simp (maxDischargeDepth:=12) [cell_set,r3]
  exact⟨_,_,_,_,rfl,by have:=uh HB2;go_grown⟩
theorem rg_id_bad (v:Value) (l:List Int) (w:World) (h:Byt w v l) (m:Int) (hv:(V.vget l).2.2=m) (hm:m≠0):Calls Tryz.prog 123 #[v] w (RgBad w):=by
 obtain⟨ao,cap,rfl,hc1,hc2⟩:=h.form
 have HV:=zh h
 have Hhv:=zh hv
 clear h hv
 generalize hn:l.length=n at hc1 HV
 go_enter Tryz.func123,Tryz.ntmps123
 go_wp2_with fail
 refine (rvget_fail _ l _ ((uh HV).below (bal _ _)) m (uh Hhv)).mono ?_
 rintro e w1 ⟨a,b,rfl,hb1⟩
 have HB1:=bal1 hb1
 obtain⟨⟨q0,f0⟩,⟨q1,f1⟩,⟨q2,f2⟩,q3,f3⟩:=four_new hb1
 clear hb1
 go_wp2
 (try simp only[Exit.inBlock,Exit.then])
 refine bodyPost_ret (res_p2 (B:=w.heap.size) (v0:=.int .i64 0) (v1:=.int .i64 0) (v2:=.string ⟨#[]⟩) (v3:=.string ⟨#[]⟩) rfl rfl ?c0 ?c1 ?c2 ?c3) rfl ?_
 case c0=>simp (maxDischargeDepth:=12) [cell_set,q0]
 case c1=>simp (maxDischargeDepth:=12) [cell_set,q1]
 case c2=>simp (maxDischargeDepth:=12) [cell_set,q2]
 case c3=>simp (maxDischargeDepth:=12) [cell_set,q3]
 exact⟨_,_,_,_,rfl,by have:=uh HB1;go_grown⟩
end Go.Proofs.YtpheelbbpiieiaaGreatDoor
