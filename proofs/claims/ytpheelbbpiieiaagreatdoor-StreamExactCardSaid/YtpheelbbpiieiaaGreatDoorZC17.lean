/- Proved here: helpers, one text behind the other. -/
import Derived.Test.YtpheelbbpiieiaaGreatDoorZC12
import Derived.Test.YtpheelbbpiieiaaGreatDoorZC15
import Derived.Test.YtpheelbbpiieiaaGreatDoorZC9
import Derived.Test.YtpheelbbpiieiaaGreatDoorZC16
import Derived.Test.YtpheelbbpiieiaaGreatDoorZC5
set_option maxHeartbeats 20000000
namespace Go.Proofs.YtpheelbbpiieiaaGreatDoor
open Go.RowKit
set_option maxRecDepth 100000
theorem vget_good (v:Value) (l:List Int) (w:World) (h:Byt w v l) (n:Int) (K:Nat) (hv:V.vget l=(n,(K:Int),0)):Calls Tryz.prog 50 #[v] w fun e w'=>e=.returned (.tuple #[.int .i64 n,.int .i64 K,.nilIface])/\Below w.heap.size w w':=by
 refine (V.get_any v l w h).mono ?_
 rintro e w' ⟨E,rfl,hE,hb⟩
 rw[hv]at hE |-
 rcases hE with⟨_,rfl⟩ | ⟨h0,_⟩
 ·exact⟨rfl,hb⟩
 ·exact absurd rfl h0
theorem vget_fail (v:Value) (l:List Int) (w:World) (h:Byt w v l) (m:Int) (hv:(V.vget l).2.2=m) (hm:m≠0):Calls Tryz.prog 50 #[v] w fun e w'=>∃ a b x,e=.returned (.tuple #[.int .i64 a,.int .i64 b,.iface 118 x])/\Hid (Inn w' (.iface 118 x) m)/\Below w.heap.size w w':=by
 refine (V.get_any v l w h).mono ?_
 rintro e w' ⟨E,rfl,hE,hb⟩
 rw[hv]at hE
 rcases hE with⟨h0,_⟩ | ⟨_,b,rfl,hc⟩
 ·exact absurd h0 hm
 ·exact⟨_,_,_,rfl,.inr ⟨b,rfl,hc⟩,hb⟩
theorem fault_cell (n:Int) (w:World):(faultW n w).cell? ⟨w.heap.size,1,none⟩=some (.iface 63 (.int .i64 n)):=by simp[faultW]
theorem gt_cases (l:List Int):(∃ s K,full l=true/\utf (sb (gbs l))=true/\s=gbs l/\K=2+nb l/\gt l=(s,(K:Int),0))\/(∃ m,m≠0/\gt l=(⟨#[]⟩,0,m)):=by
 unfold gt
 by_cases hf:full l=true
 ·rw[if_pos hf]
  by_cases hu:utf (sb (gbs l))=true
  ·rw[if_pos hu];exact .inl ⟨_,_,hf,hu,rfl,rfl,rfl⟩
  ·rw[if_neg hu];exact .inr ⟨1,by decide,rfl⟩
 ·rw[if_neg hf];exact .inr ⟨3,by decide,rfl⟩
theorem tget_good (v:Value) (l:List Int) (w:World) (h:Byt w v l) (s:ByteArray) (K:Nat) (hv:gt l=(s,(K:Int),0)):Calls Tryz.prog 114 #[v] w fun e w'=>e=.returned (.tuple #[.string s,.int .i64 K,.nilIface])/\Below w.heap.size w w':=by
 rcases gt_cases l with⟨s',K',hf,hu,rfl,rfl,hg⟩ | ⟨m,hm,hg⟩
 ·rw[hg]at hv
  simp only[Prod.mk.injEq]at hv
  obtain⟨rfl,hk,_⟩:=hv
  refine (get_ok v l w h hf hu).mono ?_
  rintro e w' ⟨rfl,q,rfl⟩
  exact⟨by rw[hk],below_q q⟩
 ·rw[hg]at hv
  simp only[Prod.mk.injEq]at hv
  exact absurd hv.2.2 hm
theorem tget_fail (v:Value) (l:List Int) (w:World) (h:Byt w v l) (m:Int) (hv:(gt l).2.2=m) (hm:m≠0):Calls Tryz.prog 114 #[v] w fun e w'=>∃ s a x,e=.returned (.tuple #[.string s,.int .i64 a,.iface 118 x])/\Hid (Inn w' (.iface 118 x) m)/\Below w.heap.size w w':=by
 unfold gt at hv
 by_cases hf:full l=true
 ·rw[if_pos hf]at hv
  by_cases hu:utf (sb (gbs l))=true
  ·rw[if_pos hu]at hv;exact absurd hv.symm hm
  ·rw[if_neg hu]at hv
   subst hv
   refine (get_form v l w h hf (by simpa using hu)).mono ?_
   rintro e w' ⟨rfl,q,rfl⟩
   exact⟨_,_,_,rfl,.inr ⟨_,rfl,fault_cell _ _⟩,(below_q q).trans (fault_below 1 (w.drewN q))⟩
 ·rw[if_neg hf]at hv
  subst hv
  refine (get_short v l w h (by simpa using hf)).mono ?_
  rintro e w' ⟨rfl,q,rfl⟩
  exact⟨_,_,_,rfl,.inr ⟨_,rfl,fault_cell _ _⟩,(below_q q).trans (fault_below 3 (w.drewN q))⟩
theorem tbin_good (v:Value) (l:List Int) (w:World) (h:Byt w v l) (s:ByteArray) (K:Nat) (hv:gbn l=(s,(K:Int),0)):Calls Tryz.prog 116 #[v] w fun e w'=>e=.returned (.tuple #[.string s,.int .i64 K,.nilIface])/\Below w.heap.size w w':=by
 unfold gbn at hv
 by_cases hf:full l=true
 ·rw[if_pos hf]at hv
  simp only[Prod.mk.injEq]at hv
  obtain⟨rfl,hk,_⟩:=hv
  refine (gbin_ok v l w h hf).mono ?_
  rintro e w' ⟨rfl,q,rfl⟩
  exact⟨by rw[hk],below_q q⟩
 ·rw[if_neg hf]at hv
  simp at hv
theorem tbin_fail (v:Value) (l:List Int) (w:World) (h:Byt w v l) (m:Int) (hv:(gbn l).2.2=m) (hm:m≠0):Calls Tryz.prog 116 #[v] w fun e w'=>∃ s a x,e=.returned (.tuple #[.string s,.int .i64 a,.iface 118 x])/\Hid (Inn w' (.iface 118 x) m)/\Below w.heap.size w w':=by
 unfold gbn at hv
 by_cases hf:full l=true
 ·rw[if_pos hf]at hv;exact absurd hv.symm hm
 ·rw[if_neg hf]at hv
  subst hv
  refine (gbin_short v l w h (by simpa using hf)).mono ?_
  rintro e w' ⟨rfl,q,rfl⟩
  exact⟨_,_,_,rfl,.inr ⟨_,rfl,fault_cell _ _⟩,(below_q q).trans (fault_below 3 (w.drewN q))⟩
theorem gnum_good (v:Value) (l:List Int) (w:World) (h:Byt w v l) (k:Int) (hk:k=1\/k=2\/k=4) (hl:k<=l.length):Calls Tryz.prog 169 #[v,.int .i64 k] w fun e w'=>e=.returned (.tuple #[.int .i64 (be k l),.int .i64 k,.nilIface])/\Below w.heap.size w w':=by
 obtain⟨ao,cap,rfl,hlen,hr,hcase⟩:=h
 rcases hcase with rfl | ⟨b,off,rfl,hc⟩
 ·simp at hl;omega
 ·rcases hk with rfl | rfl | rfl
  ·exact gnum_1 b off l.length cap _ w (by omega) hlen.1 hlen.2 (hc 0 (by omega)) (hr 0)
  ·exact gnum_2 b off l.length cap _ _ w (by omega) hlen.1 hlen.2 (hc 0 (by omega)) (hc 1 (by omega)) (hr 0) (hr 1)
  ·exact gnum_4 b off l.length cap _ _ _ _ w (by omega) hlen.1 hlen.2 (hc 0 (by omega)) (hc 1 (by omega)) (hc 2 (by omega)) (hc 3 (by omega)) (hr 0) (hr 1) (hr 2) (hr 3)
theorem gnum_fail (v:Value) (l:List Int) (w:World) (h:Byt w v l) (k:Int) (hl:(l.length:Int) < k):Calls Tryz.prog 169 #[v,.int .i64 k] w fun e w'=>e=.returned (.tuple #[.int .i64 0,.int .i64 0,.iface 63 (.int .i64 3)])/\Below w.heap.size w w':=by
 obtain⟨ao,cap,rfl,_⟩:=h
 refine (gnum_short ao _ cap k w hl).mono ?_
 rintro e w' ⟨rfl,rfl⟩
 exact⟨rfl,Below.refl _ _⟩
def PairBad (w:World) (e:Ending) (w':World):Prop:=∃ s t a x n,e=.returned (.tuple #[.string s,.string t,.int .i64 a,.iface 118 x])/\Hid (Inn w' (.iface 118 x) n)/\Below w.heap.size w w'
theorem gpair_ok (v:Value) (l:List Int) (w:World) (h:Byt w v l) (s t:ByteArray) (K M:Nat) (h1:gt l=(s,(K:Int),0)) (h2:gt (l.drop K)=(t,(M:Int),0)) (hK:2<=K/\K<=l.length) (hM:K+M<=l.length) :
  Calls Tryz.prog 170 #[v] w fun e w'=>e=.returned (.tuple #[.string s,.string t,.int .i64 (K+M:Nat),.nilIface])/\Below w.heap.size w w':=by
 obtain⟨b,off,cap,rfl,hc1,hc2⟩:=h.form1 (by omega)
 unfold maxLen at hc2
 have HV:=zh h
 have H1:=zh h1
 have H2:=zh h2
 clear h h1 h2
 generalize hn:l.length=n at hc1 hK hM HV
 go_enter Tryz.func170,Tryz.ntmps170
 go_wp2_with fail
 refine (tget_good _ l _ (uh HV) s K (uh H1)).mono ?_
 rintro e w1 ⟨rfl,hb1⟩
 have HD1:Hid (cap=K->Byt w1 (.slice (some ⟨b,off,none⟩) (n - K) 0) (l.drop K)):=fun e=>by
  have:=((uh HV).below hb1).drop' K (by omega)
  rw[if_pos e,e,Nat.sub_self]at this;exact this
 have HD2:Hid (¬ cap=K->Byt w1 (.slice (some ⟨b,off+K,none⟩) (n - K) (cap - K)) (l.drop K)):=fun e=>by
  have:=((uh HV).below hb1).drop' K (by omega)
  rw[if_neg e]at this;exact this
 have HB1:=zh hb1
 clear hb1
 go_wp2_with fail
 case inl h =>
  refine (tget_good _ _ _ ((uh HD1) h) t M (uh H2)).mono ?_
  rintro e w2 ⟨rfl,hb2⟩
  go_wp2
  go_returns
  exact⟨by go_num,(uh HB1).trans (hb2.mono (uh HB1).size)⟩
 case inr h =>
  refine (tget_good _ _ _ ((uh HD2) h) t M (uh H2)).mono ?_
  rintro e w2 ⟨rfl,hb2⟩
  go_wp2
  go_returns
  exact⟨by go_num,(uh HB1).trans (hb2.mono (uh HB1).size)⟩
theorem gpair_bad1 (v:Value) (l:List Int) (w:World) (h:Byt w v l) (m:Int) (h1:(gt l).2.2=m) (hm:m≠0):Calls Tryz.prog 170 #[v] w (PairBad w):=by
 obtain⟨ao,cap,rfl,hc1,hc2⟩:=h.form
 have HV:=zh h
 have H1:=zh h1
 clear h h1
 generalize hn:l.length=n at hc1 HV
 go_enter Tryz.func170,Tryz.ntmps170
 go_wp2_with fail
 refine (tget_fail _ l _ (uh HV) m (uh H1) hm).mono ?_
 rintro e w1 ⟨s,a,x,rfl,hi,hb1⟩
 go_wp2
 go_returns
 exact⟨_,_,_,_,_,rfl,hi,hb1⟩
theorem gpair_bad2 (v:Value) (l:List Int) (w:World) (h:Byt w v l) (s:ByteArray) (K:Nat) (h1:gt l=(s,(K:Int),0)) (hK:2<=K/\K<=l.length) (m:Int) (h2:(gt (l.drop K)).2.2=m) (hm:m≠0):Calls Tryz.prog 170 #[v] w (PairBad w):=by
 obtain⟨b,off,cap,rfl,hc1,hc2⟩:=h.form1 (by omega)
 unfold maxLen at hc2
 have HV:=zh h
 have H1:=zh h1
 have H2:=zh h2
 clear h h1 h2
 generalize hn:l.length=n at hc1 hK HV
 go_enter Tryz.func170,Tryz.ntmps170
 go_wp2_with fail
 refine (tget_good _ l _ (uh HV) s K (uh H1)).mono ?_
 rintro e w1 ⟨rfl,hb1⟩
 have HD1:Hid (cap=K->Byt w1 (.slice (some ⟨b,off,none⟩) (n - K) 0) (l.drop K)):=fun e=>by
  have:=((uh HV).below hb1).drop' K (by omega)
  rw[if_pos e,e,Nat.sub_self]at this;exact this
 have HD2:Hid (¬ cap=K->Byt w1 (.slice (some ⟨b,off+K,none⟩) (n - K) (cap - K)) (l.drop K)):=fun e=>by
  have:=((uh HV).below hb1).drop' K (by omega)
  rw[if_neg e]at this;exact this
 have HB1:=zh hb1
 clear hb1
 go_wp2_with fail
 case inl h =>
  refine (tget_fail _ _ _ ((uh HD1) h) m (uh H2) hm).mono ?_
  rintro e w2 ⟨s,a,x,rfl,hi,hb2⟩
  go_wp2
  go_returns
  exact⟨_,_,_,_,_,rfl,hi,(uh HB1).trans (hb2.mono (uh HB1).size)⟩
 case inr h =>
  refine (tget_fail _ _ _ ((uh HD2) h) m (uh H2) hm).mono ?_
  rintro e w2 ⟨s,a,x,rfl,hi,hb2⟩
  go_wp2
  go_returns
  exact⟨_,_,_,_,_,rfl,hi,(uh HB1).trans (hb2.mono (uh HB1).size)⟩
theorem cell_set (w:World) (p q:Addr) (v:Value) (h:(w.cell? q).isSome=true):(w.setCell p v).cell? q=if p=q then some v else w.cell? q:=by
 by_cases e:p=q
 ·subst e
  rw[if_pos rfl]
  exact World.cell?_setCell_same' w p v h
 ·rw[if_neg e]
  exact World.cell?_setCell_other _ _ _ _ e
theorem res_p {fn:Func} {a t u:Tmp} (h:fn.results=#[.cell a 109,.tmp t,.tmp u]) {tmps:Array Value} {w:World} {B:Nat} {v0 v1 v2 v3:Value} (ha:tmps[a]?.getD undef=.pointer (some ⟨B,0,none⟩)) (c0:w.cell? ⟨B,0,none⟩=some v0) (c1:w.cell? ⟨B,1,none⟩=some v1) (c2:w.cell? ⟨B,2,none⟩=some v2) (c3:w.cell? ⟨B,3,none⟩=some v3) :
  (results fn tmps).run Tryz.prog w=.ok (.tuple #[.agg #[v0,v1,v2,v3],tmps[t]?.getD undef,tmps[u]?.getD undef]) w:=by
 simp[results,h,ha,go_sem,c0,c1,c2,c3]
def InnOff (B:Nat) (w:World) (v:Value) (n:Int):Prop:=v=.iface 63 (.int .i64 n)\/∃ b,b≠B/\v=.iface 118 (.pointer (some ⟨b,0,none⟩))/\w.cell? ⟨b,1,none⟩=some (.iface 63 (.int .i64 n))
theorem InnOff.inn {B:Nat} {w:World} {v:Value} {n:Int} (h:InnOff B w v n):Inn w v n:=by
 rcases h with h | ⟨b,_,h1,h2⟩
 ·exact .inl h
 ·exact .inr ⟨b,h1,h2⟩
theorem InnOff.set {B:Nat} {w:World} {v:Value} {n:Int} (h:InnOff B w v n) {p:Addr} {u:Value} (hp:p.block=B):InnOff B (w.setCell p u) v n:=by
 rcases h with h | ⟨b,h0,h1,h2⟩
 ·exact .inl h
 ·exact .inr ⟨b,h0,h1,by rw[World.cell?_setCell_far _ _ _ _ (by rw[hp];exact Ne.symm h0)];exact h2⟩
theorem Inn.off {B:Nat} {w:World} {v:Value} {n z:Int} (h:Inn w v n) (hB:w.cell? ⟨B,1,none⟩=some (.int .i64 z)):InnOff B w v n:=by
 rcases h with h | ⟨b,h1,h2⟩
 ·exact .inl h
 ·refine .inr ⟨b,?_,h1,h2⟩
  rintro rfl
  rw[hB]at h2
  simp at h2
def GvOk (n:Int) (s t:ByteArray) (K:Int) (w:World) (e:Ending) (w':World):Prop:=e=.returned (.tuple #[.agg #[.int .i64 0,.int .i64 n,.string s,.string t],.int .i64 K,.nilIface])/\Below w.heap.size w w'
def GvBad (w:World) (e:Ending) (w':World):Prop:=∃ i n s t K ty x m,e=.returned (.tuple #[.agg #[.int .i64 i,.int .i64 n,.string s,.string t],.int .i64 K,.iface ty x])/\Hid (Inn w' (.iface ty x) m)/\Below w.heap.size w w'
abbrev shp (f k lo hi:Int):Value:=.agg #[.int .i64 f,.int .i64 k,.int .i64 lo,.int .i64 hi]
theorem gval_num (v:Value) (l:List Int) (w:World) (h:Byt w v l) (k lo hi:Int) (hk:k=1\/k=2\/k=4) (hl:k<=l.length):Calls Tryz.prog 158 #[v,shp 1 k lo hi] w (GvOk (be k l) es es k w):=by
 obtain⟨ao,cap,rfl,hc1,hc2⟩:=h.form
 have HV:=zh h
 have Hhk:=zh hk
 clear hk
 have Hhl:=zh hl
 clear hl
 clear h
 generalize hn:l.length=n at hc1 HV
 go_enter Tryz.func158,Tryz.ntmps158
 go_wp2_with fail
 refine (gnum_good _ l _ ((uh HV).below (by go_grown)) k (uh Hhk) (uh Hhl)).mono ?_
 rintro e w1 ⟨rfl,hb1⟩
 have HB1:Hid (Below w.heap.size w w1):=((bal _ _).alloc (by simp) _).trans (hb1.mono (by simp;omega))
 have q0:w1.cell? ⟨w.heap.size+1,0,none⟩=some (.int .i64 0):=(hb1.cell (p:=⟨w.heap.size+1,0,none⟩) (by simp)).trans (by simp)
 have q1:w1.cell? ⟨w.heap.size+1,1,none⟩=some (.int .i64 0):=(hb1.cell (p:=⟨w.heap.size+1,1,none⟩) (by simp)).trans (by simp)
 have q2:w1.cell? ⟨w.heap.size+1,2,none⟩=some (.string ⟨#[]⟩):=(hb1.cell (p:=⟨w.heap.size+1,2,none⟩) (by simp)).trans (by simp)
 have q3:w1.cell? ⟨w.heap.size+1,3,none⟩=some (.string ⟨#[]⟩):=(hb1.cell (p:=⟨w.heap.size+1,3,none⟩) (by simp)).trans (by simp)
 have f0:w1.frozen? ⟨w.heap.size+1,0,none⟩=false:=(hb1.frozen (p:=⟨w.heap.size+1,0,none⟩) (by simp)).trans (by simp)
 have f1:w1.frozen? ⟨w.heap.size+1,1,none⟩=false:=(hb1.frozen (p:=⟨w.heap.size+1,1,none⟩) (by simp)).trans (by simp)
 have f2:w1.frozen? ⟨w.heap.size+1,2,none⟩=false:=(hb1.frozen (p:=⟨w.heap.size+1,2,none⟩) (by simp)).trans (by simp)
 have f3:w1.frozen? ⟨w.heap.size+1,3,none⟩=false:=(hb1.frozen (p:=⟨w.heap.size+1,3,none⟩) (by simp)).trans (by simp)
 clear hb1
 go_wp2
 (try simp only[Exit.inBlock,Exit.then])
 refine bodyPost_ret (res_p (B:=w.heap.size+1) (v0:=.int .i64 0) (v1:=.int .i64 (be k l)) (v2:=.string ⟨#[]⟩) (v3:=.string ⟨#[]⟩) rfl rfl ?c0 ?c1 ?c2 ?c3) rfl ?_
 case c0=>simp (maxDischargeDepth:=12) [cell_set,q0]
 case c1=>simp (maxDischargeDepth:=12) [cell_set,q1]
 case c2=>simp (maxDischargeDepth:=12) [cell_set,q2]
 case c3=>simp (maxDischargeDepth:=12) [cell_set,q3]
 exact⟨rfl,by have:=uh HB1;go_grown⟩
theorem gval_num_bad (v:Value) (l:List Int) (w:World) (h:Byt w v l) (k lo hi:Int) (hl:(l.length:Int) < k):Calls Tryz.prog 158 #[v,shp 1 k lo hi] w (GvBad w):=by
 obtain⟨ao,cap,rfl,hc1,hc2⟩:=h.form
 have HV:=zh h
 have Hhl:=zh hl
 clear hl
 clear h
 generalize hn:l.length=n at hc1 HV
 go_enter Tryz.func158,Tryz.ntmps158
 go_wp2_with fail
 refine (gnum_fail _ l _ ((uh HV).below (by go_grown)) k (uh Hhl)).mono ?_
 rintro e w1 ⟨rfl,hb1⟩
 have HB1:Hid (Below w.heap.size w w1):=((bal _ _).alloc (by simp) _).trans (hb1.mono (by simp;omega))
 have q0:w1.cell? ⟨w.heap.size+1,0,none⟩=some (.int .i64 0):=(hb1.cell (p:=⟨w.heap.size+1,0,none⟩) (by simp)).trans (by simp)
 have q1:w1.cell? ⟨w.heap.size+1,1,none⟩=some (.int .i64 0):=(hb1.cell (p:=⟨w.heap.size+1,1,none⟩) (by simp)).trans (by simp)
 have q2:w1.cell? ⟨w.heap.size+1,2,none⟩=some (.string ⟨#[]⟩):=(hb1.cell (p:=⟨w.heap.size+1,2,none⟩) (by simp)).trans (by simp)
 have q3:w1.cell? ⟨w.heap.size+1,3,none⟩=some (.string ⟨#[]⟩):=(hb1.cell (p:=⟨w.heap.size+1,3,none⟩) (by simp)).trans (by simp)
 have f0:w1.frozen? ⟨w.heap.size+1,0,none⟩=false:=(hb1.frozen (p:=⟨w.heap.size+1,0,none⟩) (by simp)).trans (by simp)
 have f1:w1.frozen? ⟨w.heap.size+1,1,none⟩=false:=(hb1.frozen (p:=⟨w.heap.size+1,1,none⟩) (by simp)).trans (by simp)
 have f2:w1.frozen? ⟨w.heap.size+1,2,none⟩=false:=(hb1.frozen (p:=⟨w.heap.size+1,2,none⟩) (by simp)).trans (by simp)
 have f3:w1.frozen? ⟨w.heap.size+1,3,none⟩=false:=(hb1.frozen (p:=⟨w.heap.size+1,3,none⟩) (by simp)).trans (by simp)
 clear hb1
 go_wp2
 (try simp only[Exit.inBlock,Exit.then])
 refine bodyPost_ret (res_p (B:=w.heap.size+1) (v0:=.int .i64 0) (v1:=.int .i64 (0)) (v2:=.string ⟨#[]⟩) (v3:=.string ⟨#[]⟩) rfl rfl ?c0 ?c1 ?c2 ?c3) rfl ?_
 case c0=>simp (maxDischargeDepth:=12) [cell_set,q0]
 case c1=>simp (maxDischargeDepth:=12) [cell_set,q1]
 case c2=>simp (maxDischargeDepth:=12) [cell_set,q2]
 case c3=>simp (maxDischargeDepth:=12) [cell_set,q3]
 exact⟨_,_,_,_,_,_,_,_,rfl,.inl rfl,by have:=uh HB1;go_grown⟩
theorem gval_var (v:Value) (l:List Int) (w:World) (h:Byt w v l) (wd lo hi:Int) (N:Int) (K:Nat) (hg:V.vget l=(N,(K:Int),0)):Calls Tryz.prog 158 #[v,shp 2 wd lo hi] w (GvOk N es es K w):=by
 obtain⟨ao,cap,rfl,hc1,hc2⟩:=h.form
 have HV:=zh h
 have Hhg:=zh hg
 clear hg
 clear h
 generalize hn:l.length=n at hc1 HV
 go_enter Tryz.func158,Tryz.ntmps158
 go_wp2_with fail
 refine (vget_good _ l _ ((uh HV).below (by go_grown)) N K (uh Hhg)).mono ?_
 rintro e w1 ⟨rfl,hb1⟩
 have HB1:Hid (Below w.heap.size w w1):=((bal _ _).alloc (by simp) _).trans (hb1.mono (by simp;omega))
 have q0:w1.cell? ⟨w.heap.size+1,0,none⟩=some (.int .i64 0):=(hb1.cell (p:=⟨w.heap.size+1,0,none⟩) (by simp)).trans (by simp)
 have q1:w1.cell? ⟨w.heap.size+1,1,none⟩=some (.int .i64 0):=(hb1.cell (p:=⟨w.heap.size+1,1,none⟩) (by simp)).trans (by simp)
 have q2:w1.cell? ⟨w.heap.size+1,2,none⟩=some (.string ⟨#[]⟩):=(hb1.cell (p:=⟨w.heap.size+1,2,none⟩) (by simp)).trans (by simp)
 have q3:w1.cell? ⟨w.heap.size+1,3,none⟩=some (.string ⟨#[]⟩):=(hb1.cell (p:=⟨w.heap.size+1,3,none⟩) (by simp)).trans (by simp)
 have f0:w1.frozen? ⟨w.heap.size+1,0,none⟩=false:=(hb1.frozen (p:=⟨w.heap.size+1,0,none⟩) (by simp)).trans (by simp)
 have f1:w1.frozen? ⟨w.heap.size+1,1,none⟩=false:=(hb1.frozen (p:=⟨w.heap.size+1,1,none⟩) (by simp)).trans (by simp)
 have f2:w1.frozen? ⟨w.heap.size+1,2,none⟩=false:=(hb1.frozen (p:=⟨w.heap.size+1,2,none⟩) (by simp)).trans (by simp)
 have f3:w1.frozen? ⟨w.heap.size+1,3,none⟩=false:=(hb1.frozen (p:=⟨w.heap.size+1,3,none⟩) (by simp)).trans (by simp)
 clear hb1
 go_wp2
 (try simp only[Exit.inBlock,Exit.then])
 refine bodyPost_ret (res_p (B:=w.heap.size+1) (v0:=.int .i64 0) (v1:=.int .i64 (N)) (v2:=.string ⟨#[]⟩) (v3:=.string ⟨#[]⟩) rfl rfl ?c0 ?c1 ?c2 ?c3) rfl ?_
 case c0=>simp (maxDischargeDepth:=12) [cell_set,q0]
 case c1=>simp (maxDischargeDepth:=12) [cell_set,q1]
 case c2=>simp (maxDischargeDepth:=12) [cell_set,q2]
 case c3=>simp (maxDischargeDepth:=12) [cell_set,q3]
 exact⟨rfl,by have:=uh HB1;go_grown⟩
theorem gval_var_bad (v:Value) (l:List Int) (w:World) (h:Byt w v l) (wd lo hi:Int) (m:Int) (hg:(V.vget l).2.2=m) (hm:m≠0):Calls Tryz.prog 158 #[v,shp 2 wd lo hi] w (GvBad w):=by
 obtain⟨ao,cap,rfl,hc1,hc2⟩:=h.form
 have HV:=zh h
 have Hhg:=zh hg
 clear hg
 clear h
 generalize hn:l.length=n at hc1 HV
 go_enter Tryz.func158,Tryz.ntmps158
 go_wp2_with fail
 refine (vget_fail _ l _ ((uh HV).below (by go_grown)) m (uh Hhg) hm).mono ?_
 rintro e w1 ⟨a,b,x,rfl,hi,hb1⟩
 have HB1:Hid (Below w.heap.size w w1):=((bal _ _).alloc (by simp) _).trans (hb1.mono (by simp;omega))
 have q0:w1.cell? ⟨w.heap.size+1,0,none⟩=some (.int .i64 0):=(hb1.cell (p:=⟨w.heap.size+1,0,none⟩) (by simp)).trans (by simp)
 have q1:w1.cell? ⟨w.heap.size+1,1,none⟩=some (.int .i64 0):=(hb1.cell (p:=⟨w.heap.size+1,1,none⟩) (by simp)).trans (by simp)
 have q2:w1.cell? ⟨w.heap.size+1,2,none⟩=some (.string ⟨#[]⟩):=(hb1.cell (p:=⟨w.heap.size+1,2,none⟩) (by simp)).trans (by simp)
 have q3:w1.cell? ⟨w.heap.size+1,3,none⟩=some (.string ⟨#[]⟩):=(hb1.cell (p:=⟨w.heap.size+1,3,none⟩) (by simp)).trans (by simp)
 have f0:w1.frozen? ⟨w.heap.size+1,0,none⟩=false:=(hb1.frozen (p:=⟨w.heap.size+1,0,none⟩) (by simp)).trans (by simp)
 have f1:w1.frozen? ⟨w.heap.size+1,1,none⟩=false:=(hb1.frozen (p:=⟨w.heap.size+1,1,none⟩) (by simp)).trans (by simp)
 have f2:w1.frozen? ⟨w.heap.size+1,2,none⟩=false:=(hb1.frozen (p:=⟨w.heap.size+1,2,none⟩) (by simp)).trans (by simp)
 have f3:w1.frozen? ⟨w.heap.size+1,3,none⟩=false:=(hb1.frozen (p:=⟨w.heap.size+1,3,none⟩) (by simp)).trans (by simp)
 clear hb1
 have HOF:=zh ((uh hi).off q1)
 clear hi
 go_wp2
 (try simp only[Exit.inBlock,Exit.then])
 refine bodyPost_ret (res_p (B:=w.heap.size+1) (v0:=.int .i64 0) (v1:=.int .i64 (a)) (v2:=.string ⟨#[]⟩) (v3:=.string ⟨#[]⟩) rfl rfl ?c0 ?c1 ?c2 ?c3) rfl ?_
 case c0=>simp (maxDischargeDepth:=12) [cell_set,q0]
 case c1=>simp (maxDischargeDepth:=12) [cell_set,q1]
 case c2=>simp (maxDischargeDepth:=12) [cell_set,q2]
 case c3=>simp (maxDischargeDepth:=12) [cell_set,q3]
 refine⟨_,_,_,_,_,_,_,m,rfl,InnOff.inn (B:=w.heap.size+1) ?_,?_⟩
 ·refine InnOff.set ?_ rfl;refine InnOff.set ?_ rfl;refine InnOff.set ?_ rfl;refine InnOff.set ?_ rfl;refine InnOff.set ?_ rfl;exact uh HOF
 ·have:=uh HB1;go_grown
theorem gval_text (v:Value) (l:List Int) (w:World) (h:Byt w v l) (wd lo hi:Int) (s:ByteArray) (K:Nat) (hg:gt l=(s,(K:Int),0)):Calls Tryz.prog 158 #[v,shp 3 wd lo hi] w (GvOk 0 s es K w):=by
 obtain⟨ao,cap,rfl,hc1,hc2⟩:=h.form
 have HV:=zh h
 have Hhg:=zh hg
 clear hg
 clear h
 generalize hn:l.length=n at hc1 HV
 go_enter Tryz.func158,Tryz.ntmps158
 go_wp2_with fail
 refine (tget_good _ l _ ((uh HV).below (by go_grown)) s K (uh Hhg)).mono ?_
 rintro e w1 ⟨rfl,hb1⟩
 have HB1:Hid (Below w.heap.size w w1):=((bal _ _).alloc (by simp) _).trans (hb1.mono (by simp;omega))
 have q0:w1.cell? ⟨w.heap.size+1,0,none⟩=some (.int .i64 0):=(hb1.cell (p:=⟨w.heap.size+1,0,none⟩) (by simp)).trans (by simp)
 have q1:w1.cell? ⟨w.heap.size+1,1,none⟩=some (.int .i64 0):=(hb1.cell (p:=⟨w.heap.size+1,1,none⟩) (by simp)).trans (by simp)
 have q2:w1.cell? ⟨w.heap.size+1,2,none⟩=some (.string ⟨#[]⟩):=(hb1.cell (p:=⟨w.heap.size+1,2,none⟩) (by simp)).trans (by simp)
 have q3:w1.cell? ⟨w.heap.size+1,3,none⟩=some (.string ⟨#[]⟩):=(hb1.cell (p:=⟨w.heap.size+1,3,none⟩) (by simp)).trans (by simp)
 have f0:w1.frozen? ⟨w.heap.size+1,0,none⟩=false:=(hb1.frozen (p:=⟨w.heap.size+1,0,none⟩) (by simp)).trans (by simp)
 have f1:w1.frozen? ⟨w.heap.size+1,1,none⟩=false:=(hb1.frozen (p:=⟨w.heap.size+1,1,none⟩) (by simp)).trans (by simp)
 have f2:w1.frozen? ⟨w.heap.size+1,2,none⟩=false:=(hb1.frozen (p:=⟨w.heap.size+1,2,none⟩) (by simp)).trans (by simp)
 have f3:w1.frozen? ⟨w.heap.size+1,3,none⟩=false:=(hb1.frozen (p:=⟨w.heap.size+1,3,none⟩) (by simp)).trans (by simp)
 clear hb1
 go_wp2
 (try simp only[Exit.inBlock,Exit.then])
 refine bodyPost_ret (res_p (B:=w.heap.size+1) (v0:=.int .i64 0) (v1:=.int .i64 (0)) (v2:=.string s) (v3:=.string ⟨#[]⟩) rfl rfl ?c0 ?c1 ?c2 ?c3) rfl ?_
 case c0=>simp (maxDischargeDepth:=12) [cell_set,q0]
 case c1=>simp (maxDischargeDepth:=12) [cell_set,q1]
 case c2=>simp (maxDischargeDepth:=12) [cell_set,q2]
 case c3=>simp (maxDischargeDepth:=12) [cell_set,q3]
 exact⟨rfl,by have:=uh HB1;go_grown⟩
theorem gval_text_bad (v:Value) (l:List Int) (w:World) (h:Byt w v l) (wd lo hi:Int) (m:Int) (hg:(gt l).2.2=m) (hm:m≠0):Calls Tryz.prog 158 #[v,shp 3 wd lo hi] w (GvBad w):=by
 obtain⟨ao,cap,rfl,hc1,hc2⟩:=h.form
 have HV:=zh h
 have Hhg:=zh hg
 clear hg
 clear h
 generalize hn:l.length=n at hc1 HV
 go_enter Tryz.func158,Tryz.ntmps158
 go_wp2_with fail
 refine (tget_fail _ l _ ((uh HV).below (by go_grown)) m (uh Hhg) hm).mono ?_
 rintro e w1 ⟨s,a,x,rfl,hi,hb1⟩
 have HB1:Hid (Below w.heap.size w w1):=((bal _ _).alloc (by simp) _).trans (hb1.mono (by simp;omega))
 have q0:w1.cell? ⟨w.heap.size+1,0,none⟩=some (.int .i64 0):=(hb1.cell (p:=⟨w.heap.size+1,0,none⟩) (by simp)).trans (by simp)
 have q1:w1.cell? ⟨w.heap.size+1,1,none⟩=some (.int .i64 0):=(hb1.cell (p:=⟨w.heap.size+1,1,none⟩) (by simp)).trans (by simp)
 have q2:w1.cell? ⟨w.heap.size+1,2,none⟩=some (.string ⟨#[]⟩):=(hb1.cell (p:=⟨w.heap.size+1,2,none⟩) (by simp)).trans (by simp)
 have q3:w1.cell? ⟨w.heap.size+1,3,none⟩=some (.string ⟨#[]⟩):=(hb1.cell (p:=⟨w.heap.size+1,3,none⟩) (by simp)).trans (by simp)
 have f0:w1.frozen? ⟨w.heap.size+1,0,none⟩=false:=(hb1.frozen (p:=⟨w.heap.size+1,0,none⟩) (by simp)).trans (by simp)
 have f1:w1.frozen? ⟨w.heap.size+1,1,none⟩=false:=(hb1.frozen (p:=⟨w.heap.size+1,1,none⟩) (by simp)).trans (by simp)
 have f2:w1.frozen? ⟨w.heap.size+1,2,none⟩=false:=(hb1.frozen (p:=⟨w.heap.size+1,2,none⟩) (by simp)).trans (by simp)
 have f3:w1.frozen? ⟨w.heap.size+1,3,none⟩=false:=(hb1.frozen (p:=⟨w.heap.size+1,3,none⟩) (by simp)).trans (by simp)
 clear hb1
 have HOF:=zh ((uh hi).off q1)
 clear hi
 go_wp2
 (try simp only[Exit.inBlock,Exit.then])
 refine bodyPost_ret (res_p (B:=w.heap.size+1) (v0:=.int .i64 0) (v1:=.int .i64 (0)) (v2:=.string s) (v3:=.string ⟨#[]⟩) rfl rfl ?c0 ?c1 ?c2 ?c3) rfl ?_
 case c0=>simp (maxDischargeDepth:=12) [cell_set,q0]
 case c1=>simp (maxDischargeDepth:=12) [cell_set,q1]
 case c2=>simp (maxDischargeDepth:=12) [cell_set,q2]
 case c3=>simp (maxDischargeDepth:=12) [cell_set,q3]
 refine⟨_,_,_,_,_,_,_,m,rfl,InnOff.inn (B:=w.heap.size+1) ?_,?_⟩
 ·refine InnOff.set ?_ rfl;refine InnOff.set ?_ rfl;refine InnOff.set ?_ rfl;refine InnOff.set ?_ rfl;refine InnOff.set ?_ rfl;exact uh HOF
 ·have:=uh HB1;go_grown
theorem gval_bin (v:Value) (l:List Int) (w:World) (h:Byt w v l) (wd lo hi:Int) (s:ByteArray) (K:Nat) (hg:gbn l=(s,(K:Int),0)):Calls Tryz.prog 158 #[v,shp 4 wd lo hi] w (GvOk 0 s es K w):=by
 obtain⟨ao,cap,rfl,hc1,hc2⟩:=h.form
 have HV:=zh h
 have Hhg:=zh hg
 clear hg
 clear h
 generalize hn:l.length=n at hc1 HV
 go_enter Tryz.func158,Tryz.ntmps158
 go_wp2_with fail
 refine (tbin_good _ l _ ((uh HV).below (by go_grown)) s K (uh Hhg)).mono ?_
 rintro e w1 ⟨rfl,hb1⟩
 have HB1:Hid (Below w.heap.size w w1):=((bal _ _).alloc (by simp) _).trans (hb1.mono (by simp;omega))
 have q0:w1.cell? ⟨w.heap.size+1,0,none⟩=some (.int .i64 0):=(hb1.cell (p:=⟨w.heap.size+1,0,none⟩) (by simp)).trans (by simp)
 have q1:w1.cell? ⟨w.heap.size+1,1,none⟩=some (.int .i64 0):=(hb1.cell (p:=⟨w.heap.size+1,1,none⟩) (by simp)).trans (by simp)
 have q2:w1.cell? ⟨w.heap.size+1,2,none⟩=some (.string ⟨#[]⟩):=(hb1.cell (p:=⟨w.heap.size+1,2,none⟩) (by simp)).trans (by simp)
 have q3:w1.cell? ⟨w.heap.size+1,3,none⟩=some (.string ⟨#[]⟩):=(hb1.cell (p:=⟨w.heap.size+1,3,none⟩) (by simp)).trans (by simp)
 have f0:w1.frozen? ⟨w.heap.size+1,0,none⟩=false:=(hb1.frozen (p:=⟨w.heap.size+1,0,none⟩) (by simp)).trans (by simp)
 have f1:w1.frozen? ⟨w.heap.size+1,1,none⟩=false:=(hb1.frozen (p:=⟨w.heap.size+1,1,none⟩) (by simp)).trans (by simp)
 have f2:w1.frozen? ⟨w.heap.size+1,2,none⟩=false:=(hb1.frozen (p:=⟨w.heap.size+1,2,none⟩) (by simp)).trans (by simp)
 have f3:w1.frozen? ⟨w.heap.size+1,3,none⟩=false:=(hb1.frozen (p:=⟨w.heap.size+1,3,none⟩) (by simp)).trans (by simp)
 clear hb1
 go_wp2
 (try simp only[Exit.inBlock,Exit.then])
 refine bodyPost_ret (res_p (B:=w.heap.size+1) (v0:=.int .i64 0) (v1:=.int .i64 (0)) (v2:=.string s) (v3:=.string ⟨#[]⟩) rfl rfl ?c0 ?c1 ?c2 ?c3) rfl ?_
 case c0=>simp (maxDischargeDepth:=12) [cell_set,q0]
 case c1=>simp (maxDischargeDepth:=12) [cell_set,q1]
 case c2=>simp (maxDischargeDepth:=12) [cell_set,q2]
 case c3=>simp (maxDischargeDepth:=12) [cell_set,q3]
 exact⟨rfl,by have:=uh HB1;go_grown⟩
theorem gval_bin_bad (v:Value) (l:List Int) (w:World) (h:Byt w v l) (wd lo hi:Int) (m:Int) (hg:(gbn l).2.2=m) (hm:m≠0):Calls Tryz.prog 158 #[v,shp 4 wd lo hi] w (GvBad w):=by
 obtain⟨ao,cap,rfl,hc1,hc2⟩:=h.form
 have HV:=zh h
 have Hhg:=zh hg
 clear hg
 clear h
 generalize hn:l.length=n at hc1 HV
 go_enter Tryz.func158,Tryz.ntmps158
 go_wp2_with fail
 refine (tbin_fail _ l _ ((uh HV).below (by go_grown)) m (uh Hhg) hm).mono ?_
 rintro e w1 ⟨s,a,x,rfl,hi,hb1⟩
 have HB1:Hid (Below w.heap.size w w1):=((bal _ _).alloc (by simp) _).trans (hb1.mono (by simp;omega))
 have q0:w1.cell? ⟨w.heap.size+1,0,none⟩=some (.int .i64 0):=(hb1.cell (p:=⟨w.heap.size+1,0,none⟩) (by simp)).trans (by simp)
 have q1:w1.cell? ⟨w.heap.size+1,1,none⟩=some (.int .i64 0):=(hb1.cell (p:=⟨w.heap.size+1,1,none⟩) (by simp)).trans (by simp)
 have q2:w1.cell? ⟨w.heap.size+1,2,none⟩=some (.string ⟨#[]⟩):=(hb1.cell (p:=⟨w.heap.size+1,2,none⟩) (by simp)).trans (by simp)
 have q3:w1.cell? ⟨w.heap.size+1,3,none⟩=some (.string ⟨#[]⟩):=(hb1.cell (p:=⟨w.heap.size+1,3,none⟩) (by simp)).trans (by simp)
 have f0:w1.frozen? ⟨w.heap.size+1,0,none⟩=false:=(hb1.frozen (p:=⟨w.heap.size+1,0,none⟩) (by simp)).trans (by simp)
 have f1:w1.frozen? ⟨w.heap.size+1,1,none⟩=false:=(hb1.frozen (p:=⟨w.heap.size+1,1,none⟩) (by simp)).trans (by simp)
 have f2:w1.frozen? ⟨w.heap.size+1,2,none⟩=false:=(hb1.frozen (p:=⟨w.heap.size+1,2,none⟩) (by simp)).trans (by simp)
 have f3:w1.frozen? ⟨w.heap.size+1,3,none⟩=false:=(hb1.frozen (p:=⟨w.heap.size+1,3,none⟩) (by simp)).trans (by simp)
 clear hb1
 have HOF:=zh ((uh hi).off q1)
 clear hi
 go_wp2
 (try simp only[Exit.inBlock,Exit.then])
 refine bodyPost_ret (res_p (B:=w.heap.size+1) (v0:=.int .i64 0) (v1:=.int .i64 (0)) (v2:=.string s) (v3:=.string ⟨#[]⟩) rfl rfl ?c0 ?c1 ?c2 ?c3) rfl ?_
 case c0=>simp (maxDischargeDepth:=12) [cell_set,q0]
 case c1=>simp (maxDischargeDepth:=12) [cell_set,q1]
 case c2=>simp (maxDischargeDepth:=12) [cell_set,q2]
 case c3=>simp (maxDischargeDepth:=12) [cell_set,q3]
 refine⟨_,_,_,_,_,_,_,m,rfl,InnOff.inn (B:=w.heap.size+1) ?_,?_⟩
 ·refine InnOff.set ?_ rfl;refine InnOff.set ?_ rfl;refine InnOff.set ?_ rfl;refine InnOff.set ?_ rfl;refine InnOff.set ?_ rfl;exact uh HOF
 ·have:=uh HB1;go_grown
theorem gval_pair (v:Value) (l:List Int) (w:World) (h:Byt w v l) (wd lo hi:Int) (s t:ByteArray) (K M:Nat) (h1:gt l=(s,(K:Int),0)) (h2:gt (l.drop K)=(t,(M:Int),0)) (hK:2<=K/\K<=l.length) (hM:K+M<=l.length):Calls Tryz.prog 158 #[v,shp 5 wd lo hi] w (GvOk 0 s t (K+M:Nat) w):=by
 obtain⟨ao,cap,rfl,hc1,hc2⟩:=h.form
 have HV:=zh h
 have Hh1:=zh h1
 clear h1
 have Hh2:=zh h2
 clear h2
 have HhK:=zh hK
 clear hK
 have HhM:=zh hM
 clear hM
 clear h
 generalize hn:l.length=n at hc1 HV
 go_enter Tryz.func158,Tryz.ntmps158
 go_wp2_with fail
 refine (gpair_ok _ l _ ((uh HV).below (by go_grown)) s t K M (uh Hh1) (uh Hh2) (uh HhK) (uh HhM)).mono ?_
 rintro e w1 ⟨rfl,hb1⟩
 have HB1:Hid (Below w.heap.size w w1):=((bal _ _).alloc (by simp) _).trans (hb1.mono (by simp;omega))
 have q0:w1.cell? ⟨w.heap.size+1,0,none⟩=some (.int .i64 0):=(hb1.cell (p:=⟨w.heap.size+1,0,none⟩) (by simp)).trans (by simp)
 have q1:w1.cell? ⟨w.heap.size+1,1,none⟩=some (.int .i64 0):=(hb1.cell (p:=⟨w.heap.size+1,1,none⟩) (by simp)).trans (by simp)
 have q2:w1.cell? ⟨w.heap.size+1,2,none⟩=some (.string ⟨#[]⟩):=(hb1.cell (p:=⟨w.heap.size+1,2,none⟩) (by simp)).trans (by simp)
 have q3:w1.cell? ⟨w.heap.size+1,3,none⟩=some (.string ⟨#[]⟩):=(hb1.cell (p:=⟨w.heap.size+1,3,none⟩) (by simp)).trans (by simp)
 have f0:w1.frozen? ⟨w.heap.size+1,0,none⟩=false:=(hb1.frozen (p:=⟨w.heap.size+1,0,none⟩) (by simp)).trans (by simp)
 have f1:w1.frozen? ⟨w.heap.size+1,1,none⟩=false:=(hb1.frozen (p:=⟨w.heap.size+1,1,none⟩) (by simp)).trans (by simp)
 have f2:w1.frozen? ⟨w.heap.size+1,2,none⟩=false:=(hb1.frozen (p:=⟨w.heap.size+1,2,none⟩) (by simp)).trans (by simp)
 have f3:w1.frozen? ⟨w.heap.size+1,3,none⟩=false:=(hb1.frozen (p:=⟨w.heap.size+1,3,none⟩) (by simp)).trans (by simp)
 clear hb1
 go_wp2
 (try simp only[Exit.inBlock,Exit.then])
 refine bodyPost_ret (res_p (B:=w.heap.size+1) (v0:=.int .i64 0) (v1:=.int .i64 (0)) (v2:=.string s) (v3:=.string t) rfl rfl ?c0 ?c1 ?c2 ?c3) rfl ?_
 case c0=>simp (maxDischargeDepth:=12) [cell_set,q0]
 case c1=>simp (maxDischargeDepth:=12) [cell_set,q1]
 case c2=>simp (maxDischargeDepth:=12) [cell_set,q2]
 case c3=>simp (maxDischargeDepth:=12) [cell_set,q3]
 exact⟨rfl,by have:=uh HB1;go_grown⟩
theorem gval_pair_bad (v:Value) (l:List Int) (w:World) (h:Byt w v l) (wd lo hi:Int) (hp:∀ W,Byt W v l->Calls Tryz.prog 170 #[v] W (PairBad W)):Calls Tryz.prog 158 #[v,shp 5 wd lo hi] w (GvBad w):=by
 obtain⟨ao,cap,rfl,hc1,hc2⟩:=h.form
 have Hhp:=zh hp
 clear hp
 have HV:=zh h
 clear h
 generalize hn:l.length=n at hc1 HV Hhp
 go_enter Tryz.func158,Tryz.ntmps158
 go_wp2_with fail
 refine ((uh Hhp) _ ((uh HV).below (by go_grown))).mono ?_
 rintro e w1 ⟨s,t,a,x,m,rfl,hi,hb1⟩
 have HB1:Hid (Below w.heap.size w w1):=((bal _ _).alloc (by simp) _).trans (hb1.mono (by simp;omega))
 have q0:w1.cell? ⟨w.heap.size+1,0,none⟩=some (.int .i64 0):=(hb1.cell (p:=⟨w.heap.size+1,0,none⟩) (by simp)).trans (by simp)
 have q1:w1.cell? ⟨w.heap.size+1,1,none⟩=some (.int .i64 0):=(hb1.cell (p:=⟨w.heap.size+1,1,none⟩) (by simp)).trans (by simp)
 have q2:w1.cell? ⟨w.heap.size+1,2,none⟩=some (.string ⟨#[]⟩):=(hb1.cell (p:=⟨w.heap.size+1,2,none⟩) (by simp)).trans (by simp)
 have q3:w1.cell? ⟨w.heap.size+1,3,none⟩=some (.string ⟨#[]⟩):=(hb1.cell (p:=⟨w.heap.size+1,3,none⟩) (by simp)).trans (by simp)
 have f0:w1.frozen? ⟨w.heap.size+1,0,none⟩=false:=(hb1.frozen (p:=⟨w.heap.size+1,0,none⟩) (by simp)).trans (by simp)
 have f1:w1.frozen? ⟨w.heap.size+1,1,none⟩=false:=(hb1.frozen (p:=⟨w.heap.size+1,1,none⟩) (by simp)).trans (by simp)
 have f2:w1.frozen? ⟨w.heap.size+1,2,none⟩=false:=(hb1.frozen (p:=⟨w.heap.size+1,2,none⟩) (by simp)).trans (by simp)
 have f3:w1.frozen? ⟨w.heap.size+1,3,none⟩=false:=(hb1.frozen (p:=⟨w.heap.size+1,3,none⟩) (by simp)).trans (by simp)
 clear hb1
 have HOF:=zh ((uh hi).off q1)
 clear hi
 go_wp2
 (try simp only[Exit.inBlock,Exit.then])
 refine bodyPost_ret (res_p (B:=w.heap.size+1) (v0:=.int .i64 0) (v1:=.int .i64 (0)) (v2:=.string s) (v3:=.string t) rfl rfl ?c0 ?c1 ?c2 ?c3) rfl ?_
 case c0=>simp (maxDischargeDepth:=12) [cell_set,q0]
 case c1=>simp (maxDischargeDepth:=12) [cell_set,q1]
 case c2=>simp (maxDischargeDepth:=12) [cell_set,q2]
 case c3=>simp (maxDischargeDepth:=12) [cell_set,q3]
 refine⟨_,_,_,_,_,_,_,m,rfl,InnOff.inn (B:=w.heap.size+1) ?_,?_⟩
 ·refine InnOff.set ?_ rfl;refine InnOff.set ?_ rfl;refine InnOff.set ?_ rfl;refine InnOff.set ?_ rfl;refine InnOff.set ?_ rfl;refine InnOff.set ?_ rfl;exact uh HOF
 ·have:=uh HB1;go_grown
theorem gval_none (v:Value) (l:List Int) (w:World) (h:Byt w v l) (wd lo hi:Int):Calls Tryz.prog 158 #[v,shp 0 wd lo hi] w (GvBad w):=by
 obtain⟨ao,cap,rfl,hc1,hc2⟩:=h.form
 have HV:=zh h
 clear h
 generalize hn:l.length=n at hc1 HV
 go_enter Tryz.func158,Tryz.ntmps158
 go_wp2
 go_returns
 exact⟨_,_,_,_,_,_,_,_,rfl,.inl rfl,by go_grown⟩
def GoOk (p:Pr) (K:Int) (w:World) (e:Ending) (w':World):Prop:=e=.returned (.tuple #[.agg #[.int .i64 p.1,.int .i64 p.2.1,.string p.2.2.1,.string p.2.2.2],.int .i64 K,.nilIface])/\Below w.heap.size w w'
def set4 (w:World) (B:Nat) (a b:Int) (s t:ByteArray):World:=(((w.setCell ⟨B,0,none⟩ (.int .i64 a)).setCell ⟨B,1,none⟩ (.int .i64 b)).setCell ⟨B,2,none⟩ (.string s)).setCell ⟨B,3,none⟩ (.string t)
theorem set4_c0 (w:World) (B:Nat) (a b:Int) (s t:ByteArray) {x:Value} (h:w.cell? ⟨B,0,none⟩=some x):(set4 w B a b s t).cell? ⟨B,0,none⟩=some (.int .i64 a):=by
 unfold set4
 simp (maxDischargeDepth:=12) [cell_set,h]
theorem set4_c1 (w:World) (B:Nat) (a b:Int) (s t:ByteArray) {x:Value} (h:w.cell? ⟨B,1,none⟩=some x):(set4 w B a b s t).cell? ⟨B,1,none⟩=some (.int .i64 b):=by
 unfold set4
 simp (maxDischargeDepth:=12) [cell_set,h]
theorem set4_c2 (w:World) (B:Nat) (a b:Int) (s t:ByteArray) {x:Value} (h:w.cell? ⟨B,2,none⟩=some x):(set4 w B a b s t).cell? ⟨B,2,none⟩=some (.string s):=by
 unfold set4
 simp (maxDischargeDepth:=12) [cell_set,h]
theorem set4_c3 (w:World) (B:Nat) (a b:Int) (s t:ByteArray) {x:Value} (h:w.cell? ⟨B,3,none⟩=some x):(set4 w B a b s t).cell? ⟨B,3,none⟩=some (.string t):=by
 unfold set4
 simp (maxDischargeDepth:=12) [cell_set,h]
theorem set4_frozen (w:World) (B:Nat) (a b:Int) (s t:ByteArray) (p:Addr):(set4 w B a b s t).frozen? p=w.frozen? p:=by
 unfold set4
 simp[World.frozen?_setCell]
theorem set4_below (w w0:World) (B B0:Nat) (a b:Int) (s t:ByteArray) (h:Below B0 w0 w) (hB:B0<=B):Below B0 w0 (set4 w B a b s t):=by
 unfold set4
 exact (((h.setCell hB _).setCell hB _).setCell hB _).setCell hB _
theorem set4_off {B:Nat} {w:World} {v:Value} {n:Int} (h:InnOff B w v n) (a b:Int) (s t:ByteArray):InnOff B (set4 w B a b s t) v n:=by
 unfold set4
 exact (((h.set rfl).set rfl).set rfl).set rfl
theorem gone_bad1 (v:Value) (l:List Int) (w:World) (h:Byt w v l) (m:Int) (hv:(V.vget l).2.2=m) (hm:m≠0):Calls Tryz.prog 144 #[v] w (GvBad w):=by
 obtain⟨ao,cap,rfl,hc1,hc2⟩:=h.form
 have HV:=zh h
 have Hhv:=zh hv
 clear h hv
 generalize hn:l.length=n at hc1 HV
 go_enter Tryz.func144,Tryz.ntmps144
 go_wp2_with fail
 refine (vget_fail _ l _ ((uh HV).below (by go_grown)) m (uh Hhv) hm).mono ?_
 rintro e w1 ⟨a,b,x,rfl,hi,hb1⟩
 have HB1:=bal1 hb1
 have q0:w1.cell? ⟨w.heap.size,0,none⟩=some (.int .i64 0):=(hb1.cell (p:=⟨w.heap.size,0,none⟩) (by simp)).trans (by simp)
 have f0:w1.frozen? ⟨w.heap.size,0,none⟩=false:=(hb1.frozen (p:=⟨w.heap.size,0,none⟩) (by simp)).trans (by simp)
 have q1:w1.cell? ⟨w.heap.size,1,none⟩=some (.int .i64 0):=(hb1.cell (p:=⟨w.heap.size,1,none⟩) (by simp)).trans (by simp)
 have f1:w1.frozen? ⟨w.heap.size,1,none⟩=false:=(hb1.frozen (p:=⟨w.heap.size,1,none⟩) (by simp)).trans (by simp)
 have q2:w1.cell? ⟨w.heap.size,2,none⟩=some (.string ⟨#[]⟩):=(hb1.cell (p:=⟨w.heap.size,2,none⟩) (by simp)).trans (by simp)
 have f2:w1.frozen? ⟨w.heap.size,2,none⟩=false:=(hb1.frozen (p:=⟨w.heap.size,2,none⟩) (by simp)).trans (by simp)
 have q3:w1.cell? ⟨w.heap.size,3,none⟩=some (.string ⟨#[]⟩):=(hb1.cell (p:=⟨w.heap.size,3,none⟩) (by simp)).trans (by simp)
 have f3:w1.frozen? ⟨w.heap.size,3,none⟩=false:=(hb1.frozen (p:=⟨w.heap.size,3,none⟩) (by simp)).trans (by simp)
 have HOF:=zh ((uh hi).off q1)
 clear hb1 hi
 go_wp2
 (try simp only[Exit.inBlock,Exit.then])
 refine bodyPost_ret (res_p (B:=w.heap.size) (v0:=.int .i64 0) (v1:=.int .i64 0) (v2:=.string ⟨#[]⟩) (v3:=.string ⟨#[]⟩) rfl rfl ?c0 ?c1 ?c2 ?c3) rfl ?_
 case c0=>simp (maxDischargeDepth:=12) [cell_set,q0]
 case c1=>simp (maxDischargeDepth:=12) [cell_set,q1]
 case c2=>simp (maxDischargeDepth:=12) [cell_set,q2]
 case c3=>simp (maxDischargeDepth:=12) [cell_set,q3]
 refine⟨_,_,_,_,_,_,_,m,rfl,InnOff.inn (B:=w.heap.size) ?_,?_⟩
 ·refine InnOff.set ?_ rfl;refine InnOff.set ?_ rfl;refine InnOff.set ?_ rfl;refine InnOff.set ?_ rfl;exact uh HOF
 ·have:=uh HB1;go_grown
theorem gone_ok (v:Value) (l:List Int) (w:World) (h:Byt w v l) (id:Int) (Q:Nat) (hv:V.vget l=(id,(Q:Int),0)) (hQ:1<=Q/\Q<=l.length) (f wd lo hi:Int) (hsh:shv id=.agg #[.int .i64 f,.int .i64 wd,.int .i64 lo,.int .i64 hi]) (N:Int) (s t:ByteArray) (M:Nat) (hM:Q+M<=l.length) (hg:∀ vb W,Byt W vb (l.drop Q)->Calls Tryz.prog 158 #[vb,shp f wd lo hi] W (GvOk N s t M W)):Calls Tryz.prog 144 #[v] w (GoOk (id,N,s,t) (Q+M:Nat) w):=by
 obtain⟨b,off,cap,rfl,hc1,hc2⟩:=h.form1 (by omega)
 unfold maxLen at hc2
 have HV:=zh h
 have Hhv:=zh hv
 have HSH:=zh hsh
 have HG:=zh hg
 clear h hv hsh hg
 generalize hn:l.length=n at hc1 hQ HV hM
 have HN:=zh hn
 clear hn
 by_cases hcQ:cap=Q
 ·have hcQ2:=hcQ.symm
  clear hcQ
  subst hcQ2
  go_enter Tryz.func144,Tryz.ntmps144
  go_wp2_with fail
  refine (vget_good _ l _ ((uh HV).below (by go_grown)) id Q (uh Hhv)).mono ?_
  rintro e w1 ⟨rfl,hb1⟩
  have HB1:=bal1 hb1
  have HD:Hid (Byt w1 (.slice (some ⟨b,off,none⟩) 0 0) (l.drop Q)):=by
   show Byt _ _ _
   have:=((uh HV).below (uh HB1)).drop' Q (by omega)
   rw[if_pos rfl,Nat.sub_self,show n - Q=0 from by omega]at this;exact this
  have q0:w1.cell? ⟨w.heap.size,0,none⟩=some (.int .i64 0):=(hb1.cell (p:=⟨w.heap.size,0,none⟩) (by simp)).trans (by simp)
  have f0:w1.frozen? ⟨w.heap.size,0,none⟩=false:=(hb1.frozen (p:=⟨w.heap.size,0,none⟩) (by simp)).trans (by simp)
  have q1:w1.cell? ⟨w.heap.size,1,none⟩=some (.int .i64 0):=(hb1.cell (p:=⟨w.heap.size,1,none⟩) (by simp)).trans (by simp)
  have f1:w1.frozen? ⟨w.heap.size,1,none⟩=false:=(hb1.frozen (p:=⟨w.heap.size,1,none⟩) (by simp)).trans (by simp)
  have q2:w1.cell? ⟨w.heap.size,2,none⟩=some (.string ⟨#[]⟩):=(hb1.cell (p:=⟨w.heap.size,2,none⟩) (by simp)).trans (by simp)
  have f2:w1.frozen? ⟨w.heap.size,2,none⟩=false:=(hb1.frozen (p:=⟨w.heap.size,2,none⟩) (by simp)).trans (by simp)
  have q3:w1.cell? ⟨w.heap.size,3,none⟩=some (.string ⟨#[]⟩):=(hb1.cell (p:=⟨w.heap.size,3,none⟩) (by simp)).trans (by simp)
  have f3:w1.frozen? ⟨w.heap.size,3,none⟩=false:=(hb1.frozen (p:=⟨w.heap.size,3,none⟩) (by simp)).trans (by simp)
  have hl1:w.heap.size < w1.heap.size:=cell_lt q0
  have HC:Hid (Below w1.heap.size w1 w1):=Below.refl _ _
  clear hb1
  go_wp2_with fail
  refine wp_region_noPanic ?_
  refine wp_region_held_drew (S:=(fun _=>True)) (by kernel_rfl) trivial (fun hHeld=>?_)
  refine rtk 0 (h:=?_)
  refine rtk 1 (h:=?_)
  refine rtk 2 (h:=?_)
  refine rtk 3 (h:=?_)
  refine rcl 4 (h:=fun K hK=>?_)
  go_simp
  refine (shape_use id f wd lo hi (uh HSH) _).mono ?_
  rintro e w2 ⟨rfl,hb2⟩
  have hb2':=below_undrew1 hb2
  clear hb2
  have HD2:=zh ((uh HD).below hb2')
  refine hK.out _ _ trivial (fun hHeld=>?_)
  clear hK K
  refine rcl 5 (h:=fun K hK=>?_)
  go_simp
  refine ((uh HG) _ _ (uh HD2)).mono ?_
  rintro e w3 ⟨rfl,hb3⟩
  have HB3:Hid (Below w1.heap.size w1 w3):=hb2'.trans (hb3.mono hb2'.size)
  have r0:=((uh HB3).cell (cell_lt q0)).trans q0
  have g0:=((uh HB3).frozen (p:=⟨w.heap.size,0,none⟩) (cell_lt q0)).trans f0
  have r1:=((uh HB3).cell (cell_lt q1)).trans q1
  have g1:=((uh HB3).frozen (p:=⟨w.heap.size,1,none⟩) (cell_lt q1)).trans f1
  have r2:=((uh HB3).cell (cell_lt q2)).trans q2
  have g2:=((uh HB3).frozen (p:=⟨w.heap.size,2,none⟩) (cell_lt q2)).trans f2
  have r3:=((uh HB3).cell (cell_lt q3)).trans q3
  have g3:=((uh HB3).frozen (p:=⟨w.heap.size,3,none⟩) (cell_lt q3)).trans f3
  clear hb2' hb3
  refine hK.out _ _ trivial (fun hHeld=>?_)
  clear hK K
  refine rtk 6 (h:=?_)
  refine rtk 7 (h:=?_)
  refine rtk 8 (h:=?_)
  refine rtk 9 (h:=?_)
  refine rcl 10 (h:=fun K hK=>?_)
  go_simp
  refine hK.out _ _ trivial (fun hHeld=>?_)
  clear hK K
  show wpAnyH _ _ _ _ _ _ _ _ (set4 w3 w.heap.size 0 N s t)
  have c0:=set4_c0 w3 w.heap.size 0 N s t r0
  have c1:=set4_c1 w3 w.heap.size 0 N s t r1
  have c2:=set4_c2 w3 w.heap.size 0 N s t r2
  have c3:=set4_c3 w3 w.heap.size 0 N s t r3
  have e0:=(set4_frozen w3 w.heap.size 0 N s t ⟨w.heap.size,0,none⟩).trans g0
  have e1:=(set4_frozen w3 w.heap.size 0 N s t ⟨w.heap.size,1,none⟩).trans g1
  have e2:=(set4_frozen w3 w.heap.size 0 N s t ⟨w.heap.size,2,none⟩).trans g2
  have e3:=(set4_frozen w3 w.heap.size 0 N s t ⟨w.heap.size,3,none⟩).trans g3
  have HB4:Hid (Below w.heap.size w (set4 w3 w.heap.size 0 N s t)):=set4_below _ _ _ _ _ _ _ _ ((uh HB1).trans ((uh HB3).mono (uh HB1).size)) (Nat.le_refl _)
  generalize set4 w3 w.heap.size 0 N s t=W4 at c0 c1 c2 c3 e0 e1 e2 e3 HB4  |-
  clear r0 r1 r2 r3 g0 g1 g2 g3 q0 q1 q2 q3 f0 f1 f2 f3 HB3
  refine rcl 11 (h:=fun K hK=>?_)
  go_simp
  refine hK.out _ _ trivial (fun hHeld=>?_)
  clear hK K
  refine rcl 12 (h:=fun K hK=>?_)
  go_simp
  refine hK.out _ _ trivial (fun hHeld=>?_)
  clear hK K
  refine wpAnyH_done (by kernel_rfl) ?_ _
  refine NoPanic.normal ?_
  clear HD2 HG
  go_wp2
  (try simp only[Exit.inBlock,Exit.then])
  refine bodyPost_ret (res_p (B:=w.heap.size) (v0:=.int .i64 (id)) (v1:=.int .i64 (N)) (v2:=.string s) (v3:=.string t) rfl rfl ?c0 ?c1 ?c2 ?c3) rfl ?_
  case c0=>simp (maxDischargeDepth:=12) [cell_set,c0]
  case c1=>simp (maxDischargeDepth:=12) [cell_set,c1]
  case c2=>simp (maxDischargeDepth:=12) [cell_set,c2]
  case c3=>simp (maxDischargeDepth:=12) [cell_set,c3]
  exact⟨by go_num,by have:=uh HB4;go_grown⟩
 ·go_enter Tryz.func144,Tryz.ntmps144
  go_wp2_with fail
  refine (vget_good _ l _ ((uh HV).below (by go_grown)) id Q (uh Hhv)).mono ?_
  rintro e w1 ⟨rfl,hb1⟩
  have HB1:=bal1 hb1
  have HD:Hid (Byt w1 (.slice (some ⟨b,off+Q,none⟩) (n - Q) (cap - Q)) (l.drop Q)):=by
   show Byt _ _ _
   have:=((uh HV).below (uh HB1)).drop' Q (by omega)
   rw[if_neg hcQ]at this;exact this
  have q0:w1.cell? ⟨w.heap.size,0,none⟩=some (.int .i64 0):=(hb1.cell (p:=⟨w.heap.size,0,none⟩) (by simp)).trans (by simp)
  have f0:w1.frozen? ⟨w.heap.size,0,none⟩=false:=(hb1.frozen (p:=⟨w.heap.size,0,none⟩) (by simp)).trans (by simp)
  have q1:w1.cell? ⟨w.heap.size,1,none⟩=some (.int .i64 0):=(hb1.cell (p:=⟨w.heap.size,1,none⟩) (by simp)).trans (by simp)
  have f1:w1.frozen? ⟨w.heap.size,1,none⟩=false:=(hb1.frozen (p:=⟨w.heap.size,1,none⟩) (by simp)).trans (by simp)
  have q2:w1.cell? ⟨w.heap.size,2,none⟩=some (.string ⟨#[]⟩):=(hb1.cell (p:=⟨w.heap.size,2,none⟩) (by simp)).trans (by simp)
  have f2:w1.frozen? ⟨w.heap.size,2,none⟩=false:=(hb1.frozen (p:=⟨w.heap.size,2,none⟩) (by simp)).trans (by simp)
  have q3:w1.cell? ⟨w.heap.size,3,none⟩=some (.string ⟨#[]⟩):=(hb1.cell (p:=⟨w.heap.size,3,none⟩) (by simp)).trans (by simp)
  have f3:w1.frozen? ⟨w.heap.size,3,none⟩=false:=(hb1.frozen (p:=⟨w.heap.size,3,none⟩) (by simp)).trans (by simp)
  have hl1:w.heap.size < w1.heap.size:=cell_lt q0
  have HC:Hid (Below w1.heap.size w1 w1):=Below.refl _ _
  clear hb1
  go_wp2_with fail
  refine wp_region_noPanic ?_
  refine wp_region_held_drew (S:=(fun _=>True)) (by kernel_rfl) trivial (fun hHeld=>?_)
  refine rtk 0 (h:=?_)
  refine rtk 1 (h:=?_)
  refine rtk 2 (h:=?_)
  refine rtk 3 (h:=?_)
  refine rcl 4 (h:=fun K hK=>?_)
  go_simp
  refine (shape_use id f wd lo hi (uh HSH) _).mono ?_
  rintro e w2 ⟨rfl,hb2⟩
  have hb2':=below_undrew1 hb2
  clear hb2
  have HD2:=zh ((uh HD).below hb2')
  refine hK.out _ _ trivial (fun hHeld=>?_)
  clear hK K
  refine rcl 5 (h:=fun K hK=>?_)
  go_simp
  refine ((uh HG) _ _ (uh HD2)).mono ?_
  rintro e w3 ⟨rfl,hb3⟩
  have HB3:Hid (Below w1.heap.size w1 w3):=hb2'.trans (hb3.mono hb2'.size)
  have r0:=((uh HB3).cell (cell_lt q0)).trans q0
  have g0:=((uh HB3).frozen (p:=⟨w.heap.size,0,none⟩) (cell_lt q0)).trans f0
  have r1:=((uh HB3).cell (cell_lt q1)).trans q1
  have g1:=((uh HB3).frozen (p:=⟨w.heap.size,1,none⟩) (cell_lt q1)).trans f1
  have r2:=((uh HB3).cell (cell_lt q2)).trans q2
  have g2:=((uh HB3).frozen (p:=⟨w.heap.size,2,none⟩) (cell_lt q2)).trans f2
  have r3:=((uh HB3).cell (cell_lt q3)).trans q3
  have g3:=((uh HB3).frozen (p:=⟨w.heap.size,3,none⟩) (cell_lt q3)).trans f3
  clear hb2' hb3
  refine hK.out _ _ trivial (fun hHeld=>?_)
  clear hK K
  refine rtk 6 (h:=?_)
  refine rtk 7 (h:=?_)
  refine rtk 8 (h:=?_)
  refine rtk 9 (h:=?_)
  refine rcl 10 (h:=fun K hK=>?_)
  go_simp
  refine hK.out _ _ trivial (fun hHeld=>?_)
  clear hK K
  show wpAnyH _ _ _ _ _ _ _ _ (set4 w3 w.heap.size 0 N s t)
  have c0:=set4_c0 w3 w.heap.size 0 N s t r0
  have c1:=set4_c1 w3 w.heap.size 0 N s t r1
  have c2:=set4_c2 w3 w.heap.size 0 N s t r2
  have c3:=set4_c3 w3 w.heap.size 0 N s t r3
  have e0:=(set4_frozen w3 w.heap.size 0 N s t ⟨w.heap.size,0,none⟩).trans g0
  have e1:=(set4_frozen w3 w.heap.size 0 N s t ⟨w.heap.size,1,none⟩).trans g1
  have e2:=(set4_frozen w3 w.heap.size 0 N s t ⟨w.heap.size,2,none⟩).trans g2
  have e3:=(set4_frozen w3 w.heap.size 0 N s t ⟨w.heap.size,3,none⟩).trans g3
  have HB4:Hid (Below w.heap.size w (set4 w3 w.heap.size 0 N s t)):=set4_below _ _ _ _ _ _ _ _ ((uh HB1).trans ((uh HB3).mono (uh HB1).size)) (Nat.le_refl _)
  generalize set4 w3 w.heap.size 0 N s t=W4 at c0 c1 c2 c3 e0 e1 e2 e3 HB4  |-
  clear r0 r1 r2 r3 g0 g1 g2 g3 q0 q1 q2 q3 f0 f1 f2 f3 HB3
  refine rcl 11 (h:=fun K hK=>?_)
  go_simp
  refine hK.out _ _ trivial (fun hHeld=>?_)
  clear hK K
  refine rcl 12 (h:=fun K hK=>?_)
  go_simp
  refine hK.out _ _ trivial (fun hHeld=>?_)
  clear hK K
  refine wpAnyH_done (by kernel_rfl) ?_ _
  refine NoPanic.normal ?_
  clear HD2 HG
  go_wp2
  (try simp only[Exit.inBlock,Exit.then])
  refine bodyPost_ret (res_p (B:=w.heap.size) (v0:=.int .i64 (id)) (v1:=.int .i64 (N)) (v2:=.string s) (v3:=.string t) rfl rfl ?c0 ?c1 ?c2 ?c3) rfl ?_
  case c0=>simp (maxDischargeDepth:=12) [cell_set,c0]
  case c1=>simp (maxDischargeDepth:=12) [cell_set,c1]
  case c2=>simp (maxDischargeDepth:=12) [cell_set,c2]
  case c3=>simp (maxDischargeDepth:=12) [cell_set,c3]
  exact⟨by go_num,by have:=uh HB4;go_grown⟩
theorem gone_bad2 (v:Value) (l:List Int) (w:World) (h:Byt w v l) (id:Int) (Q:Nat) (hv:V.vget l=(id,(Q:Int),0)) (hQ:1<=Q/\Q<=l.length) (f wd lo hi:Int) (hsh:shv id=.agg #[.int .i64 f,.int .i64 wd,.int .i64 lo,.int .i64 hi]) (hg:∀ vb W,Byt W vb (l.drop Q)->Calls Tryz.prog 158 #[vb,shp f wd lo hi] W (GvBad W)):Calls Tryz.prog 144 #[v] w (GvBad w):=by
 obtain⟨b,off,cap,rfl,hc1,hc2⟩:=h.form1 (by omega)
 unfold maxLen at hc2
 have HV:=zh h
 have Hhv:=zh hv
 have HSH:=zh hsh
 have HG:=zh hg
 clear h hv hsh hg
 generalize hn:l.length=n at hc1 hQ HV 
 have HN:=zh hn
 clear hn
 by_cases hcQ:cap=Q
 ·have hcQ2:=hcQ.symm
  clear hcQ
  subst hcQ2
  go_enter Tryz.func144,Tryz.ntmps144
  go_wp2_with fail
  refine (vget_good _ l _ ((uh HV).below (by go_grown)) id Q (uh Hhv)).mono ?_
  rintro e w1 ⟨rfl,hb1⟩
  have HB1:=bal1 hb1
  have HD:Hid (Byt w1 (.slice (some ⟨b,off,none⟩) 0 0) (l.drop Q)):=by
   show Byt _ _ _
   have:=((uh HV).below (uh HB1)).drop' Q (by omega)
   rw[if_pos rfl,Nat.sub_self,show n - Q=0 from by omega]at this;exact this
  have q0:w1.cell? ⟨w.heap.size,0,none⟩=some (.int .i64 0):=(hb1.cell (p:=⟨w.heap.size,0,none⟩) (by simp)).trans (by simp)
  have f0:w1.frozen? ⟨w.heap.size,0,none⟩=false:=(hb1.frozen (p:=⟨w.heap.size,0,none⟩) (by simp)).trans (by simp)
  have q1:w1.cell? ⟨w.heap.size,1,none⟩=some (.int .i64 0):=(hb1.cell (p:=⟨w.heap.size,1,none⟩) (by simp)).trans (by simp)
  have f1:w1.frozen? ⟨w.heap.size,1,none⟩=false:=(hb1.frozen (p:=⟨w.heap.size,1,none⟩) (by simp)).trans (by simp)
  have q2:w1.cell? ⟨w.heap.size,2,none⟩=some (.string ⟨#[]⟩):=(hb1.cell (p:=⟨w.heap.size,2,none⟩) (by simp)).trans (by simp)
  have f2:w1.frozen? ⟨w.heap.size,2,none⟩=false:=(hb1.frozen (p:=⟨w.heap.size,2,none⟩) (by simp)).trans (by simp)
  have q3:w1.cell? ⟨w.heap.size,3,none⟩=some (.string ⟨#[]⟩):=(hb1.cell (p:=⟨w.heap.size,3,none⟩) (by simp)).trans (by simp)
  have f3:w1.frozen? ⟨w.heap.size,3,none⟩=false:=(hb1.frozen (p:=⟨w.heap.size,3,none⟩) (by simp)).trans (by simp)
  have hl1:w.heap.size < w1.heap.size:=cell_lt q0
  have HC:Hid (Below w1.heap.size w1 w1):=Below.refl _ _
  clear hb1
  go_wp2_with fail
  refine wp_region_noPanic ?_
  refine wp_region_held_drew (S:=(fun _=>True)) (by kernel_rfl) trivial (fun hHeld=>?_)
  refine rtk 0 (h:=?_)
  refine rtk 1 (h:=?_)
  refine rtk 2 (h:=?_)
  refine rtk 3 (h:=?_)
  refine rcl 4 (h:=fun K hK=>?_)
  go_simp
  refine (shape_use id f wd lo hi (uh HSH) _).mono ?_
  rintro e w2 ⟨rfl,hb2⟩
  have hb2':=below_undrew1 hb2
  clear hb2
  have HD2:=zh ((uh HD).below hb2')
  refine hK.out _ _ trivial (fun hHeld=>?_)
  clear hK K
  refine rcl 5 (h:=fun K hK=>?_)
  go_simp
  refine ((uh HG) _ _ (uh HD2)).mono ?_
  rintro e w3 ⟨i3,n3,s3,t3,k3,ty3,x3,m3,rfl,hi3,hb3⟩
  have HB3:Hid (Below w1.heap.size w1 w3):=hb2'.trans (hb3.mono hb2'.size)
  have r0:=((uh HB3).cell (cell_lt q0)).trans q0
  have g0:=((uh HB3).frozen (p:=⟨w.heap.size,0,none⟩) (cell_lt q0)).trans f0
  have r1:=((uh HB3).cell (cell_lt q1)).trans q1
  have g1:=((uh HB3).frozen (p:=⟨w.heap.size,1,none⟩) (cell_lt q1)).trans f1
  have r2:=((uh HB3).cell (cell_lt q2)).trans q2
  have g2:=((uh HB3).frozen (p:=⟨w.heap.size,2,none⟩) (cell_lt q2)).trans f2
  have r3:=((uh HB3).cell (cell_lt q3)).trans q3
  have g3:=((uh HB3).frozen (p:=⟨w.heap.size,3,none⟩) (cell_lt q3)).trans f3
  clear hb2' hb3
  refine hK.out _ _ trivial (fun hHeld=>?_)
  clear hK K
  refine rtk 6 (h:=?_)
  refine rtk 7 (h:=?_)
  refine rtk 8 (h:=?_)
  refine rtk 9 (h:=?_)
  refine rcl 10 (h:=fun K hK=>?_)
  go_simp
  refine hK.out _ _ trivial (fun hHeld=>?_)
  clear hK K
  show wpAnyH _ _ _ _ _ _ _ _ (set4 w3 w.heap.size i3 n3 s3 t3)
  have c0:=set4_c0 w3 w.heap.size i3 n3 s3 t3 r0
  have c1:=set4_c1 w3 w.heap.size i3 n3 s3 t3 r1
  have c2:=set4_c2 w3 w.heap.size i3 n3 s3 t3 r2
  have c3:=set4_c3 w3 w.heap.size i3 n3 s3 t3 r3
  have e0:=(set4_frozen w3 w.heap.size i3 n3 s3 t3 ⟨w.heap.size,0,none⟩).trans g0
  have e1:=(set4_frozen w3 w.heap.size i3 n3 s3 t3 ⟨w.heap.size,1,none⟩).trans g1
  have e2:=(set4_frozen w3 w.heap.size i3 n3 s3 t3 ⟨w.heap.size,2,none⟩).trans g2
  have e3:=(set4_frozen w3 w.heap.size i3 n3 s3 t3 ⟨w.heap.size,3,none⟩).trans g3
  have HB4:Hid (Below w.heap.size w (set4 w3 w.heap.size i3 n3 s3 t3)):=set4_below _ _ _ _ _ _ _ _ ((uh HB1).trans ((uh HB3).mono (uh HB1).size)) (Nat.le_refl _)
  have HOF4:=zh (set4_off ((uh hi3).off r1) i3 n3 s3 t3)
  clear hi3
  generalize set4 w3 w.heap.size i3 n3 s3 t3=W4 at c0 c1 c2 c3 e0 e1 e2 e3 HB4 HOF4 |-
  clear r0 r1 r2 r3 g0 g1 g2 g3 q0 q1 q2 q3 f0 f1 f2 f3 HB3
  refine rcl 11 (h:=fun K hK=>?_)
  go_simp
  refine hK.out _ _ trivial (fun hHeld=>?_)
  clear hK K
  refine rcl 12 (h:=fun K hK=>?_)
  go_simp
  refine hK.out _ _ trivial (fun hHeld=>?_)
  clear hK K
  refine wpAnyH_done (by kernel_rfl) ?_ _
  refine NoPanic.normal ?_
  clear HD2 HG
  go_wp2
  (try simp only[Exit.inBlock,Exit.then])
  refine bodyPost_ret (res_p (B:=w.heap.size) (v0:=.int .i64 (0)) (v1:=.int .i64 (0)) (v2:=.string ⟨#[]⟩) (v3:=.string ⟨#[]⟩) rfl rfl ?c0 ?c1 ?c2 ?c3) rfl ?_
  case c0=>simp (maxDischargeDepth:=12) [cell_set,c0]
  case c1=>simp (maxDischargeDepth:=12) [cell_set,c1]
  case c2=>simp (maxDischargeDepth:=12) [cell_set,c2]
  case c3=>simp (maxDischargeDepth:=12) [cell_set,c3]
  refine⟨_,_,_,_,_,_,_,m3,rfl,InnOff.inn (B:=w.heap.size) ?_,?_⟩
  ·refine InnOff.set ?_ rfl;refine InnOff.set ?_ rfl;refine InnOff.set ?_ rfl;refine InnOff.set ?_ rfl;exact uh HOF4
  ·have:=uh HB4;go_grown
 ·go_enter Tryz.func144,Tryz.ntmps144
  go_wp2_with fail
  refine (vget_good _ l _ ((uh HV).below (by go_grown)) id Q (uh Hhv)).mono ?_
  rintro e w1 ⟨rfl,hb1⟩
  have HB1:=bal1 hb1
  have HD:Hid (Byt w1 (.slice (some ⟨b,off+Q,none⟩) (n - Q) (cap - Q)) (l.drop Q)):=by
   show Byt _ _ _
   have:=((uh HV).below (uh HB1)).drop' Q (by omega)
   rw[if_neg hcQ]at this;exact this
  have q0:w1.cell? ⟨w.heap.size,0,none⟩=some (.int .i64 0):=(hb1.cell (p:=⟨w.heap.size,0,none⟩) (by simp)).trans (by simp)
  have f0:w1.frozen? ⟨w.heap.size,0,none⟩=false:=(hb1.frozen (p:=⟨w.heap.size,0,none⟩) (by simp)).trans (by simp)
  have q1:w1.cell? ⟨w.heap.size,1,none⟩=some (.int .i64 0):=(hb1.cell (p:=⟨w.heap.size,1,none⟩) (by simp)).trans (by simp)
  have f1:w1.frozen? ⟨w.heap.size,1,none⟩=false:=(hb1.frozen (p:=⟨w.heap.size,1,none⟩) (by simp)).trans (by simp)
  have q2:w1.cell? ⟨w.heap.size,2,none⟩=some (.string ⟨#[]⟩):=(hb1.cell (p:=⟨w.heap.size,2,none⟩) (by simp)).trans (by simp)
  have f2:w1.frozen? ⟨w.heap.size,2,none⟩=false:=(hb1.frozen (p:=⟨w.heap.size,2,none⟩) (by simp)).trans (by simp)
  have q3:w1.cell? ⟨w.heap.size,3,none⟩=some (.string ⟨#[]⟩):=(hb1.cell (p:=⟨w.heap.size,3,none⟩) (by simp)).trans (by simp)
  have f3:w1.frozen? ⟨w.heap.size,3,none⟩=false:=(hb1.frozen (p:=⟨w.heap.size,3,none⟩) (by simp)).trans (by simp)
  have hl1:w.heap.size < w1.heap.size:=cell_lt q0
  have HC:Hid (Below w1.heap.size w1 w1):=Below.refl _ _
  clear hb1
  go_wp2_with fail
  refine wp_region_noPanic ?_
  refine wp_region_held_drew (S:=(fun _=>True)) (by kernel_rfl) trivial (fun hHeld=>?_)
  refine rtk 0 (h:=?_)
  refine rtk 1 (h:=?_)
  refine rtk 2 (h:=?_)
  refine rtk 3 (h:=?_)
  refine rcl 4 (h:=fun K hK=>?_)
  go_simp
  refine (shape_use id f wd lo hi (uh HSH) _).mono ?_
  rintro e w2 ⟨rfl,hb2⟩
  have hb2':=below_undrew1 hb2
  clear hb2
  have HD2:=zh ((uh HD).below hb2')
  refine hK.out _ _ trivial (fun hHeld=>?_)
  clear hK K
  refine rcl 5 (h:=fun K hK=>?_)
  go_simp
  refine ((uh HG) _ _ (uh HD2)).mono ?_
  rintro e w3 ⟨i3,n3,s3,t3,k3,ty3,x3,m3,rfl,hi3,hb3⟩
  have HB3:Hid (Below w1.heap.size w1 w3):=hb2'.trans (hb3.mono hb2'.size)
  have r0:=((uh HB3).cell (cell_lt q0)).trans q0
  have g0:=((uh HB3).frozen (p:=⟨w.heap.size,0,none⟩) (cell_lt q0)).trans f0
  have r1:=((uh HB3).cell (cell_lt q1)).trans q1
  have g1:=((uh HB3).frozen (p:=⟨w.heap.size,1,none⟩) (cell_lt q1)).trans f1
  have r2:=((uh HB3).cell (cell_lt q2)).trans q2
  have g2:=((uh HB3).frozen (p:=⟨w.heap.size,2,none⟩) (cell_lt q2)).trans f2
  have r3:=((uh HB3).cell (cell_lt q3)).trans q3
  have g3:=((uh HB3).frozen (p:=⟨w.heap.size,3,none⟩) (cell_lt q3)).trans f3
  clear hb2' hb3
  refine hK.out _ _ trivial (fun hHeld=>?_)
  clear hK K
  refine rtk 6 (h:=?_)
  refine rtk 7 (h:=?_)
  refine rtk 8 (h:=?_)
  refine rtk 9 (h:=?_)
  refine rcl 10 (h:=fun K hK=>?_)
  go_simp
  refine hK.out _ _ trivial (fun hHeld=>?_)
  clear hK K
  show wpAnyH _ _ _ _ _ _ _ _ (set4 w3 w.heap.size i3 n3 s3 t3)
  have c0:=set4_c0 w3 w.heap.size i3 n3 s3 t3 r0
  have c1:=set4_c1 w3 w.heap.size i3 n3 s3 t3 r1
  have c2:=set4_c2 w3 w.heap.size i3 n3 s3 t3 r2
  have c3:=set4_c3 w3 w.heap.size i3 n3 s3 t3 r3
  have e0:=(set4_frozen w3 w.heap.size i3 n3 s3 t3 ⟨w.heap.size,0,none⟩).trans g0
  have e1:=(set4_frozen w3 w.heap.size i3 n3 s3 t3 ⟨w.heap.size,1,none⟩).trans g1
  have e2:=(set4_frozen w3 w.heap.size i3 n3 s3 t3 ⟨w.heap.size,2,none⟩).trans g2
  have e3:=(set4_frozen w3 w.heap.size i3 n3 s3 t3 ⟨w.heap.size,3,none⟩).trans g3
  have HB4:Hid (Below w.heap.size w (set4 w3 w.heap.size i3 n3 s3 t3)):=set4_below _ _ _ _ _ _ _ _ ((uh HB1).trans ((uh HB3).mono (uh HB1).size)) (Nat.le_refl _)
  have HOF4:=zh (set4_off ((uh hi3).off r1) i3 n3 s3 t3)
  clear hi3
  generalize set4 w3 w.heap.size i3 n3 s3 t3=W4 at c0 c1 c2 c3 e0 e1 e2 e3 HB4 HOF4 |-
  clear r0 r1 r2 r3 g0 g1 g2 g3 q0 q1 q2 q3 f0 f1 f2 f3 HB3
  refine rcl 11 (h:=fun K hK=>?_)
  go_simp
  refine hK.out _ _ trivial (fun hHeld=>?_)
  clear hK K
  refine rcl 12 (h:=fun K hK=>?_)
  go_simp
  refine hK.out _ _ trivial (fun hHeld=>?_)
  clear hK K
  refine wpAnyH_done (by kernel_rfl) ?_ _
  refine NoPanic.normal ?_
  clear HD2 HG
  go_wp2
  (try simp only[Exit.inBlock,Exit.then])
  refine bodyPost_ret (res_p (B:=w.heap.size) (v0:=.int .i64 (0)) (v1:=.int .i64 (0)) (v2:=.string ⟨#[]⟩) (v3:=.string ⟨#[]⟩) rfl rfl ?c0 ?c1 ?c2 ?c3) rfl ?_
  case c0=>simp (maxDischargeDepth:=12) [cell_set,c0]
  case c1=>simp (maxDischargeDepth:=12) [cell_set,c1]
  case c2=>simp (maxDischargeDepth:=12) [cell_set,c2]
  case c3=>simp (maxDischargeDepth:=12) [cell_set,c3]
  refine⟨_,_,_,_,_,_,_,m3,rfl,InnOff.inn (B:=w.heap.size) ?_,?_⟩
  ·refine InnOff.set ?_ rfl;refine InnOff.set ?_ rfl;refine InnOff.set ?_ rfl;refine InnOff.set ?_ rfl;exact uh HOF4
  ·have:=uh HB4;go_grown
end Go.Proofs.YtpheelbbpiieiaaGreatDoor
