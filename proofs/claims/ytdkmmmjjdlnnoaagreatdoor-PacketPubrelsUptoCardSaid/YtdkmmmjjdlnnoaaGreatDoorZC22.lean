/- Proved here: helpers, one text behind the other. -/
import Derived.Lib.SliceRun
import Derived.Test.YtdkmmmjjdlnnoaaGreatDoorZC21
import Derived.Test.YtdkmmmjjdlnnoaaGreatDoorZC14
import Derived.Test.YtdkmmmjjdlnnoaaGreatDoorZC16
import Derived.Test.YtdkmmmjjdlnnoaaGreatDoorZC12
import Derived.Test.YtdkmmmjjdlnnoaaGreatDoorZC3
import Derived.Test.YtdkmmmjjdlnnoaaGreatDoorZC9
set_option maxHeartbeats 20000000
namespace Go.Proofs.YtdkmmmjjdlnnoaaGreatDoor.K.W
open Go.RowKit
open Go.Proofs.YtdkmmmjjdlnnoaaGreatDoor.K
set_option maxRecDepth 100000
theorem copyp_own (v:Value) (l:List Pr) (w:World) (h:Prp w v l) (hmx:l.length<=1000000):Calls Tryz.prog 28 #[v] w fun e w'=>∃ v,e=.returned v/\Hid (w'.ownsRow w.heap.size 88 4 v l.length (pcs l))/\Below w.heap.size w w':=by
 obtain⟨ao,cap,rfl,hc⟩:=h
 rcases hc with rfl | ⟨b,off,rfl,hc⟩
 ·refine (copyp_nil ao cap w).mono ?_
  rintro e w' ⟨rfl,rfl⟩
  exact⟨_,rfl,World.ownsRow_nil _ _ _ _,Below.refl _ _⟩
 ·exact copyp_core b off cap l _ w rfl hmx hc
theorem cell_set (w:World) (p q:Addr) (v:Value) (h:(w.cell? q).isSome=true):(w.setCell p v).cell? q=if p=q then some v else w.cell? q:=by
 by_cases e:p=q
 ·subst e
  rw[if_pos rfl]
  exact World.cell?_setCell_same' w p v h
 ·rw[if_neg e]
  exact World.cell?_setCell_other _ _ _ _ e
theorem cell_new (w:World) (cs:Array Value) (t:TypeId) (k j:Nat) (v:Value) (h:cs[j]?=some v) (e:k=w.heap.size):(w.alloc (.cells cs t)).cell? ⟨k,j,none⟩=some v:=by
 subst e
 simp[h]
theorem frz_new (w:World) (cs:Array Value) (t:TypeId) (k j:Nat) (e:k=w.heap.size):(w.alloc (.cells cs t)).frozen? ⟨k,j,none⟩=false:=by
 subst e
 simp
theorem frz_old (w:World) (o:Obj) (k j:Nat) (e:k < w.heap.size) (h:w.frozen? ⟨k,j,none⟩=false):(w.alloc o).frozen? ⟨k,j,none⟩=false:=(World.frozen?_alloc_old _ _ _ (Nat.ne_of_lt e)).trans h
theorem owns_slice {w:World} {B:Nat} {e:TypeId} {s:Nat} {v:Value} {n:Nat} {xs:List Value} (h:w.ownsRow B e s v n xs):∃ ao cap,v=.slice ao n cap:=by
 rcases h.2 with⟨h1,h2⟩ | ⟨g,cap,cur,hv,rest⟩
 ·exact⟨none,0,by rw[h1,h2]⟩
 ·exact⟨_,cap,hv⟩
theorem owns_low {w:World} {B:Nat} {e:TypeId} {s:Nat} {v u:Value} {n:Nat} {xs:List Value} {p:Addr} (h:w.ownsRow B e s v n xs) (hp:p.block < B):(w.setCell p u).ownsRow B e s v n xs:=by
 refine⟨h.1,?_⟩
 rcases h.2 with h1 | ⟨g,cap,cur,hv,hB,hg,rest⟩
 ·exact .inl h1
 ·exact .inr ⟨g,cap,cur,hv,hB,(Below.heap_setCell _ _ _ _ (by omega)).trans hg,rest⟩
theorem res_w {fn:Func} {a:Tmp} (h:fn.results=#[.cell a 90]) {tmps:Array Value} {w:World} {B:Nat} {v0 v1 v2 v3 v4:Value} (ha:tmps[a]?.getD undef=.pointer (some ⟨B,0,none⟩)) (c0:w.cell? ⟨B,0,none⟩=some v0) (c1:w.cell? ⟨B,1,none⟩=some v1) (c2:w.cell? ⟨B,2,none⟩=some v2) (c3:w.cell? ⟨B,3,none⟩=some v3) (c4:w.cell? ⟨B,4,none⟩=some v4) :
  (results fn tmps).run Tryz.prog w=.ok (.agg #[v0,v1,v2,v3,v4]) w:=by
 simp[results,h,ha,go_sem,c0,c1,c2,c3,c4]
theorem bnxw {w a b:World} (h:Below w.heap.size w a) (h2:Below a.heap.size a b):Below w.heap.size w b:=h.trans (h2.mono h.size)
theorem cpw_any (t p:ByteArray) (q:Int) (r:Bool) (l:List Pr) (ao:Option Addr) (cap:Nat) (w:World) (h:Prp w (.slice ao l.length cap) l) (hmx:l.length<=1000000) :
  Calls Tryz.prog 54 #[.agg #[.string t,.string p,.int .i64 q,.bool r,.slice ao l.length cap]] w fun e w'=>∃ so sc,e=.returned (.agg #[.string t,.string p,.int .i64 q,.bool r,.slice so l.length sc])/\Hid (w'.ownsRow w.heap.size 88 4 (.slice so l.length sc) l.length (pcs l))/\Below w.heap.size w w':=by
 have HA:=zh h
 clear h
 go_enter Tryz.func54,Tryz.ntmps54
 go_wp2_with fail
 refine (copyp_own _ l _ ((uh HA).below (by go_grown)) hmx).mono ?_
 rintro e w1 ⟨sv,rfl,HS,hb1⟩
 have HB1:Hid (Below w.heap.size w w1):=bnxw (by go_grown) hb1
 have q0:w1.cell? ⟨w.heap.size+1+1,0,none⟩=some (.string t):=(hb1.cell (p:=⟨w.heap.size+1+1,0,none⟩) (by simp <;> omega)).trans (cell_new _ _ _ _ _ _ rfl (by simp))
 have q1:w1.cell? ⟨w.heap.size+1+1,1,none⟩=some (.string p):=(hb1.cell (p:=⟨w.heap.size+1+1,1,none⟩) (by simp <;> omega)).trans (cell_new _ _ _ _ _ _ rfl (by simp))
 have q2:w1.cell? ⟨w.heap.size+1+1,2,none⟩=some (.int .i64 q):=(hb1.cell (p:=⟨w.heap.size+1+1,2,none⟩) (by simp <;> omega)).trans (cell_new _ _ _ _ _ _ rfl (by simp))
 have q3:w1.cell? ⟨w.heap.size+1+1,3,none⟩=some (.bool r):=(hb1.cell (p:=⟨w.heap.size+1+1,3,none⟩) (by simp <;> omega)).trans (cell_new _ _ _ _ _ _ rfl (by simp))
 have q4:w1.cell? ⟨w.heap.size+1+1,4,none⟩=some (.slice ao l.length cap):=(hb1.cell (p:=⟨w.heap.size+1+1,4,none⟩) (by simp <;> omega)).trans (cell_new _ _ _ _ _ _ rfl (by simp))
 have z0:w1.cell? ⟨w.heap.size+1,0,none⟩=some (.string ⟨#[]⟩):=(hb1.cell (p:=⟨w.heap.size+1,0,none⟩) (by simp <;> omega)).trans (Lib.cell?_alloc_some _ (cell_new _ _ _ _ _ _ rfl (by simp)))
 have f0:w1.frozen? ⟨w.heap.size+1,0,none⟩=false:=(hb1.frozen (p:=⟨w.heap.size+1,0,none⟩) (by simp <;> omega)).trans (frz_old _ _ _ _ (by simp <;> omega) (frz_new _ _ _ _ _ (by simp)))
 have z1:w1.cell? ⟨w.heap.size+1,1,none⟩=some (.string ⟨#[]⟩):=(hb1.cell (p:=⟨w.heap.size+1,1,none⟩) (by simp <;> omega)).trans (Lib.cell?_alloc_some _ (cell_new _ _ _ _ _ _ rfl (by simp)))
 have f1:w1.frozen? ⟨w.heap.size+1,1,none⟩=false:=(hb1.frozen (p:=⟨w.heap.size+1,1,none⟩) (by simp <;> omega)).trans (frz_old _ _ _ _ (by simp <;> omega) (frz_new _ _ _ _ _ (by simp)))
 have z2:w1.cell? ⟨w.heap.size+1,2,none⟩=some (.int .i64 0):=(hb1.cell (p:=⟨w.heap.size+1,2,none⟩) (by simp <;> omega)).trans (Lib.cell?_alloc_some _ (cell_new _ _ _ _ _ _ rfl (by simp)))
 have f2:w1.frozen? ⟨w.heap.size+1,2,none⟩=false:=(hb1.frozen (p:=⟨w.heap.size+1,2,none⟩) (by simp <;> omega)).trans (frz_old _ _ _ _ (by simp <;> omega) (frz_new _ _ _ _ _ (by simp)))
 have z3:w1.cell? ⟨w.heap.size+1,3,none⟩=some (.bool false):=(hb1.cell (p:=⟨w.heap.size+1,3,none⟩) (by simp <;> omega)).trans (Lib.cell?_alloc_some _ (cell_new _ _ _ _ _ _ rfl (by simp)))
 have f3:w1.frozen? ⟨w.heap.size+1,3,none⟩=false:=(hb1.frozen (p:=⟨w.heap.size+1,3,none⟩) (by simp <;> omega)).trans (frz_old _ _ _ _ (by simp <;> omega) (frz_new _ _ _ _ _ (by simp)))
 have z4:w1.cell? ⟨w.heap.size+1,4,none⟩=some (.slice none 0 0):=(hb1.cell (p:=⟨w.heap.size+1,4,none⟩) (by simp <;> omega)).trans (Lib.cell?_alloc_some _ (cell_new _ _ _ _ _ _ rfl (by simp)))
 have f4:w1.frozen? ⟨w.heap.size+1,4,none⟩=false:=(hb1.frozen (p:=⟨w.heap.size+1,4,none⟩) (by simp <;> omega)).trans (frz_old _ _ _ _ (by simp <;> omega) (frz_new _ _ _ _ _ (by simp)))
 have g4:w1.frozen? ⟨w.heap.size+1+1,4,none⟩=false:=(hb1.frozen (p:=⟨w.heap.size+1+1,4,none⟩) (by simp <;> omega)).trans (frz_new _ _ _ _ _ (by simp))
 have HS2:Hid (w1.ownsRow (w.heap.size+3) 88 4 sv l.length (pcs l)):=by have:=uh HS;show World.ownsRow _ _ _ _ _ _ _;simpa [Nat.add_assoc] using this
 clear hb1 HS
 obtain⟨so,sc,rfl⟩:=owns_slice (uh HS2)
 go_wp2
 (try simp only[Exit.inBlock,Exit.then])
 refine bodyPost_ret (res_w (B:=w.heap.size+1) (v0:=.string t) (v1:=.string p) (v2:=.int .i64 q) (v3:=.bool r) (v4:=.slice so l.length sc) rfl rfl ?c0 ?c1 ?c2 ?c3 ?c4) rfl ?_
 case c0=>simp (maxDischargeDepth:=16) [cell_set,z0]
 case c1=>simp (maxDischargeDepth:=16) [cell_set,z1]
 case c2=>simp (maxDischargeDepth:=16) [cell_set,z2]
 case c3=>simp (maxDischargeDepth:=16) [cell_set,z3]
 case c4=>simp (maxDischargeDepth:=16) [cell_set,z4]
 exact⟨_,_,rfl,owns_mono (owns_low (owns_low (owns_low (owns_low (owns_low (owns_low (uh HS2) (by simp <;> omega)) (by simp <;> omega)) (by simp <;> omega)) (by simp <;> omega)) (by simp <;> omega)) (by simp <;> omega)) (by omega),by have:=uh HB1;go_grown⟩
end Go.Proofs.YtdkmmmjjdlnnoaaGreatDoor.K.W
namespace Go.Proofs.YtdkmmmjjdlnnoaaGreatDoor.K.W
open Go.RowKit
open Go.Proofs.YtdkmmmjjdlnnoaaGreatDoor.K
set_option maxRecDepth 100000
abbrev wcl (u:Wl) (s:Value):List Value:=[.string u.topic,.string u.payload,.int .i64 u.qos,.bool u.retain,s]
theorem infoW:(Tryz.prog.info? 90).map (fun i=>(i.zero,i.size,i.bytes))=some (some (.agg #[.string ⟨#[]⟩,.string ⟨#[]⟩,.int .i64 0,.bool false,.slice none 0 0]),5,72):=by kernel_rfl
theorem w_one (m:Wl) (ao:Option Addr) (n c:Nat):∀ u ∈ wcl m (.slice ao n c),u.oneCell'=true:=by
 intro u hu;simp at hu;rcases hu with rfl | rfl | rfl | rfl | rfl <;> rfl
theorem prp_lenw {w:World} {a:Option Addr} {n c:Nat} {l:List Pr} (h:Prp w (.slice a n c) l):l.length=n:=by
 obtain⟨ao,cap,h1,_⟩:=h
 cases h1
 rfl
abbrev Wq:=Wl×Value
def wrow (qs:List Wq):List Value:=qs.flatMap fun q=>wcl q.1 q.2
structure OwnWs (w:World) (B:Nat) (v:Value) (qs:List Wq):Prop where
 row:w.ownsRow B 90 5 v qs.length (wrow qs)
 prp:∀ q ∈ qs,w.ownsRow B 88 4 q.2 q.1.props.length (pcs q.1.props)/\q.1.props.length<=1000000
theorem OwnWs.nil (w:World) (B:Nat):OwnWs w B (.slice none 0 0) []:=⟨World.ownsRow_nil _ _ _ _,fun q h=>by simp at h⟩
theorem OwnWs.below {w w':World} {B:Nat} {v:Value} {qs:List Wq} (h:OwnWs w B v qs) (hb:Below w.heap.size w w'):OwnWs w' B v qs:=⟨owns_below h.row hb,fun q hq=>⟨owns_below (h.prp q hq).1 hb,(h.prp q hq).2⟩⟩
theorem OwnWs.mono {w:World} {B B':Nat} {v:Value} {qs:List Wq} (h:OwnWs w B v qs) (hB:B'<=B):OwnWs w B' v qs:=⟨owns_mono h.row hB,fun q hq=>⟨owns_mono (h.prp q hq).1 hB,(h.prp q hq).2⟩⟩
theorem OwnWs.blk {w:World} {B:Nat} {v:Value} {qs:List Wq} (h:OwnWs w B v qs):∀ g,v.ownBlock=some g->B<=g/\∃ cur fz,w.heap[g]?=some (.cells cur 90 fz):=by
 intro g hg
 rcases h.row.2 with⟨rfl,_⟩ | ⟨g',cap,cur,rfl,hB,hgg,_⟩
 ·cases hg
 ·cases hg
  exact⟨hB,cur,_,hgg⟩
theorem owns_ty {w w':World} {B:Nat} {e t:TypeId} {s:Nat} {v:Value} {n:Nat} {xs:List Value} {row:Option Nat} (h:w.ownsRow B e s v n xs) (hg:w.grownBy w' row) (ht:∀ g,row=some g->∃ cur fz,w.heap[g]?=some (.cells cur t fz)) (hne:e≠t):w'.ownsRow B e s v n xs:=by
 refine⟨h.1,?_⟩
 rcases h.2 with h1 | ⟨g,cap,cur,hv,hB,hgg,rest⟩
 ·exact .inl h1
 ·refine .inr ⟨g,cap,cur,hv,hB,?_,rest⟩
  rw[hg.block g (Array.getElem?_eq_some_iff.1 hgg).1 (fun er=>by
   obtain⟨cur',fz,k⟩:=ht g er.symm
   rw[hgg]at k
   simp only[Option.some.injEq,Obj.cells.injEq]at k
   exact hne k.2.1)]
  exact hgg
theorem wrow_app (a b:List Wq):wrow (a++b)=wrow a++wrow b:=by unfold wrow;rw[List.flatMap_append]
theorem OwnWs.app {w w':World} {B:Nat} {v v':Value} {qs ps:List Wq} (h:OwnWs w B v qs) (hp:∀ q ∈ ps,w.ownsRow B 88 4 q.2 q.1.props.length (pcs q.1.props)/\q.1.props.length<=1000000) (hg:w.grownBy w' v.ownBlock) (ho:w'.ownsRow B 90 5 v' (qs.length+ps.length) (wrow qs++wrow ps)):OwnWs w' B v' (qs++ps):=by
 have ht:∀ g,v.ownBlock=some g->∃ cur fz,w.heap[g]?=some (.cells cur 90 fz):=fun g e=>(h.blk g e).2
 refine⟨?_,fun q hq=>?_⟩
 ·rw[List.length_append,wrow_app]
  exact ho
 ·rcases List.mem_append.1 hq with hq | hq
  ·exact⟨owns_ty (h.prp q hq).1 hg ht (by decide),(h.prp q hq).2⟩
  ·exact⟨owns_ty (hp q hq).1 hg ht (by decide),(hp q hq).2⟩
theorem wrow_get (qs:List Wq):∀ k q,qs[k]?=some q->∀ j,j < 5->(wrow qs)[k * 5+j]?=(wcl q.1 q.2)[j]?:=by
 induction qs with
 | nil=>intro k q hk;simp at hk
 | cons p l ih =>
  intro k q hk j hj
  have e:wrow (p :: l)=wcl p.1 p.2++wrow l:=rfl
  rw[e]
  rcases k with _ | k
  ·simp at hk
   subst hk
   rw[List.getElem?_append_left (by simp;omega)]
   simp
  ·have hl:(wcl p.1 p.2).length=5:=rfl
   rw[List.getElem?_append_right (by omega),hl,show (k+1) * 5+j - 5=k * 5+j from by omega]
   exact ih k q (by simpa using hk) j hj
theorem take_snoc (l:List Wl) (k:Nat) (h:k < l.length):l.take (k+1)=l.take k++[l.getD k wl0]:=by
 rw[List.take_add_one,List.getD_eq_getElem?_getD,List.getElem?_eq_getElem h];rfl
theorem cpws_core (b off cap:Nat) (l:List Wl) (len:Nat) (w:World) (hlen:l.length=len) (hmx:len<=1000000000) (hl:WlAt w b off l) (hpl:∀ k,k < l.length->(l.getD k wl0).props.length<=1000000) :
  Calls Tryz.prog 29 #[.slice (some ⟨b,off,none⟩) len cap] w fun e w'=>∃ v qs,e=.returned v/\Hid (OwnWs w' w.heap.size v qs/\qs.map (·.1)=l)/\Below w.heap.size w w':=by
 obtain⟨i0,hi,hz0,hz1,hz2⟩:=info_parts infoW
 have HL:=zh hl
 have HPL:=zh hpl
 have HLEN:=zh hlen
 clear hl hlen hpl
 go_enter Tryz.func29,Tryz.ntmps29
 go_wp2
 go_loopw [3,4] (fun v i wr=>∃ (k:Nat) (qs:List Wq),k<=len/\i=.int .i64 k/\Hid (OwnWs wr w.heap.size v qs/\qs.map (·.1)=l.take k/\qs.length=k)/\Hid (Below w.heap.size w wr)) (fun _ i _=>len - (intOf i).toNat)
 case atStart=>exact⟨0,[],Nat.zero_le _,rfl,⟨OwnWs.nil _ _,rfl,rfl⟩,Below.refl _ _⟩
 case round =>
  obtain⟨k,qs,hk,rfl,HOWN,HBEL⟩:=hrel
  by_cases hlt:k < len
  ·have HLTk:Hid (k < l.length):=by show _ < _;rw[uh HLEN];exact hlt
   obtain⟨ao,n0,c,⟨h0,h1,h2,h3,h4⟩,hp1,-⟩:=((uh HL) k (uh HLTk)).below (uh HBEL)
   have hpk:=(uh HPL) k (uh HLTk)
   obtain rfl:=prp_lenw hp1
   have hp:=And.intro hp1 hpk
   have HTS:=zh (take_snoc l k (uh HLTk))
   generalize l.getD k wl0=u at h0 h1 h2 h3 h4 hp1 hpk hp HTS
   have HP:=zh hp
   clear hp hp1 hpk
   have hsz:=(uh HBEL).size
   have hql:qs.length=k:=(uh HOWN).2.2
   have HQL:=zh hql
   clear hql
   go_wp2_with (first
    | (go_at_call 54;refine (cpw_any u.topic u.payload u.qos u.retain u.props ao c _ (uh HP).1 (uh HP).2).mono ?_;rintro e w2 ⟨so,sc,rfl,HS,hb2⟩;have HO2:=zh ((uh HOWN).1.below hb2);have hsz2:=hb2.size;have HB2:=zh hb2;clear hb2)
    | (at_builtin;refine wpList_append_own _ rfl _ _ 26 rfl w.heap.size 90 i0 _ 5 72 Tryz.underlying26 hi hz0 hz1 hz2 rfl (by decide) _ _ _ rfl ((uh HO2).row.alloc _) ⟨w2.heap.size,0,none⟩ 1 1 (wcl u (.slice so u.props.length sc)) rfl rfl (cell5 _ _ _ _ _ _ _) (w_one _ _ _ _) (by rw[uh HQL];unfold maxLen;omega) (by rw[uh HQL];omega) (by simp;omega) ?_)
    | go_in)
   intro v' w1 hown' hgrow _
   have HB1:Hid (Below w.heap.size w w1):=(((uh HBEL).trans ((uh HB2).mono hsz)).alloc (by omega) _).grown hgrow (by simp;omega) (fun k hk=>((uh HO2).blk k hk).1)
   have HO1:Hid (OwnWs w1 w.heap.size v' (qs++[(u,Value.slice so u.props.length sc)])/\(qs++[(u,Value.slice so u.props.length sc)]).map (·.1)=l.take (k+1)/\(qs++[(u,Value.slice so u.props.length sc)]).length=k+1):=by
    refine⟨OwnWs.app ((uh HO2).below (bal _ _)) ?_ hgrow (by simpa [wrow] using hown'),?_,?_⟩
    ·intro q hq
     obtain rfl:=List.mem_singleton.1 hq
     exact⟨owns_mono ((uh HS).alloc _) (by omega),(uh HP).2⟩
    ·rw[uh HTS,List.map_append,(uh HOWN).2.1];rfl
    ·simp[uh HQL]
   clear hgrow hown'
   go_wp2
   go_roundw
   case rel=>exact⟨k+1,_,by omega,by go_num,HO1,HB1⟩
   case measure=>simp[intOf];omega
  ·obtain rfl:k=len:=by omega
   have HO1:Hid (OwnWs wr w.heap.size u3 qs/\qs.map (·.1)=l):=by
    refine⟨(uh HOWN).1,?_⟩
    rw[(uh HOWN).2.1,List.take_of_length_le (Nat.le_of_eq (uh HLEN))]
   go_wp2
   go_ret
   exact⟨_,_,rfl,HO1,uh HBEL⟩
theorem OwnWs.wls {w:World} {B:Nat} {v:Value} {qs:List Wq} (h:OwnWs w B v qs):Wls w v (qs.map (·.1)):=by
 rcases h.row.2 with⟨rfl,h1⟩ | ⟨g,cap,cur,rfl,hB,hg,hnc,hcm,hcs,htake⟩
 ·have:qs=[]:=List.length_eq_zero_iff.1 h1
  subst this
  exact⟨none,0,rfl,by simp,.inl rfl⟩
 ·refine⟨_,cap,by rw[List.length_map],⟨by rw[List.length_map];exact hnc,hcm⟩,.inr ⟨g,0,rfl,fun k hk=>?_⟩⟩
  rw[List.length_map]at hk
  obtain⟨q,hq⟩:∃ q,qs[k]?=some q:=⟨_,List.getElem?_eq_getElem hk⟩
  have e:(qs.map (·.1)).getD k wl0=q.1:=by rw[List.getD_eq_getElem?_getD,List.getElem?_map,hq];rfl
  rw[e]
  have hp:=h.prp q (List.mem_of_getElem? hq)
  obtain⟨ao,c,hs⟩:=owns_slice hp.1
  refine⟨ao,q.1.props.length,c,?_,by rw[<- hs];exact Go.Proofs.YtdkmmmjjdlnnoaaGreatDoor.prp_of_owns hp.1,by have:=hp.2;omega⟩
  have key:∀ j u,j < 5->(wcl q.1 q.2)[j]?=some u->w.cell? ⟨g,0+k * 5+j,none⟩=some u:=fun j u hj hu=>by
   rw[Nat.zero_add,h.row.cellAt (k * 5+j) (by omega),wrow_get qs k q hq j hj];exact hu
  refine⟨key 0 _ (by omega) rfl,key 1 _ (by omega) rfl,key 2 _ (by omega) rfl,key 3 _ (by omega) rfl,?_⟩
  rw[<- hs]
  exact key 4 _ (by omega) rfl
theorem cpws_nil (ao:Option Addr) (cap:Nat) (w:World):Calls Tryz.prog 29 #[.slice ao 0 cap] w fun e w'=>e=.returned (.slice none 0 0)/\w'=w:=by
 go_enter Tryz.func29,Tryz.ntmps29
 go_wp2
 refine wp_loop_rounds 1 ?_
 rw[rounds_succ]
 go_wp2
 go_ret
 exact⟨rfl,rfl⟩
end Go.Proofs.YtdkmmmjjdlnnoaaGreatDoor.K.W
namespace Go.Proofs.YtdkmmmjjdlnnoaaGreatDoor.K
open Go.RowKit
set_option maxRecDepth 100000
structure WS (w:World) (W:Nat) (bv:Value) (sz:Nat) (T:List Int) (E:Value):Prop where
 wt:Wtr w W bv sz E
 row:w.ownsRow (W+1) 5 1 bv T.length (T.map (Value.int .u8))
 rng:∀ j,0<=T.getD j 0/\T.getD j 0<=255
theorem WS.below {w w':World} {W:Nat} {bv:Value} {sz:Nat} {T:List Int} {E:Value} (h:WS w W bv sz T E) (hb:Below w.heap.size w w'):WS w' W bv sz T E:=by
 obtain⟨⟨a1,a2⟩,⟨b1,b2⟩,c1,c2⟩:=h.wt
 have hW:W < w.heap.size:=cell_lt a1
 exact⟨⟨⟨(hb.cell hW).trans a1,(hb.frozen hW).trans a2⟩,⟨(hb.cell hW).trans b1,(hb.frozen hW).trans b2⟩,(hb.cell hW).trans c1,(hb.frozen hW).trans c2⟩,owns_below h.row hb,h.rng⟩
theorem WS.bx {w w':World} {W:Nat} {bv:Value} {sz sz':Nat} {T:List Int} {E E':Value} {may:Nat->Prop} (h:WS w W bv sz T E) (hx:BX W may w w') (hw:Wtr w' W bv sz' E'):WS w' W bv sz' T E' :=
 ⟨hw,owns_bx h.row hx (Nat.lt_succ_self _),h.rng⟩
def EV (E:Value):Prop:=E=.nilIface\/∃ t x,E=.iface t x
def fst? (E e:Value):Value:=match E with
 | .nilIface=>e
 | _=>E
theorem wfail_gen (W:Nat) (bv E e:Value) (sz:Int) (w:World) (h:Wtr w W bv sz E) (hE:EV E) (he:EV e):Calls Tryz.prog 121 #[.pointer (some ⟨W,0,none⟩),e] w fun r w'=>r=.returned (.tuple #[])/\Wtr w' W bv sz (fst? E e)/\BX W is21 w w':=by
 rcases hE with rfl | ⟨t,x,rfl⟩
 ·rcases he with rfl | ⟨t,x,rfl⟩
  ·exact wfail_nil W bv sz w h
  ·exact wfail_new W bv sz t x w h
 ·refine (wfail_old W bv e sz t x w h).mono ?_
  rintro r w' ⟨rfl,rfl⟩
  exact⟨rfl,h,BX.refl _ _ _⟩
theorem fst_ev {E e:Value} (hE:EV E) (he:EV e):EV (fst? E e):=by
 rcases hE with rfl | ⟨t,x,rfl⟩
 ·exact he
 ·exact .inr ⟨t,x,rfl⟩
def AddPost (W:Nat) (bv:Value) (sz:Nat) (T ys:List Int) (E:Value) (w:World) (e:Ending) (w':World):Prop :=
 ∃ bv',e=.returned (.tuple #[])/\WS w' W bv' (sz+ys.length) (if sz+ys.length<=65536 then T++ys else T) E/\(bv'.ownBlock=bv.ownBlock\/∀ g,bv'.ownBlock=some g->w.heap.size<=g)/\FW W bv.ownBlock w w'/\(¬ sz+ys.length<=65536->bv'=bv)
theorem wadd_any (W:Nat) (bv E er:Value) (sz:Nat) (T ys:List Int) (vb:Value) (w:World) (h:WS w W bv sz T E) (hE:EV E) (he:EV er) (hy:∀ w',BX W isT w w'->Byt w' vb ys) (hs:sz<=4611686018427387904) (hl:ys.length<=140737488351232) (hT:T.length<=65536) :
  Calls Tryz.prog 114 #[.pointer (some ⟨W,0,none⟩),vb,er] w (AddPost W bv sz T ys (fst? E er) w):=by
 have hW:W < w.heap.size:=cell_lt h.wt.1.1
 obtain⟨ao,cap,rfl,-,-⟩:=(hy w (BX.refl _ _ _)).form
 have HS:=zh h
 have HY:=zh hy
 have HF:=zh (wfail_gen W bv E er sz w h.wt hE he)
 clear h hy
 go_enter Tryz.func114,Tryz.ntmps114
 go_wp2_with fail
 refine (uh HF).mono ?_
 rintro e w1 ⟨rfl,hw1,hx1⟩
 have HS1:=zh ((uh HS).bx hx1 hw1)
 have HX1:=zh hx1
 have hz1:=hx1.size
 have HR:=zh (room_any W bv (fst? E er) sz ys.length w1 hw1 (by omega) (by omega) (by omega) (by omega))
 clear hw1 hx1 HF HS
 go_wp2_with fail
 refine (uh HR).mono ?_
 rintro e w2 ⟨rfl,hw2,hx2⟩
 have HS2:Hid (WS w2 W bv (sz+ys.length) T (fst? E er)):=(uh HS1).bx hx2 (by have k:=hw2;rw[<- Int.natCast_add]at k;exact k)
 have HX2:Hid (BX W isT w w2):=((uh HX1).weak (fun j (e:j=21)=>by subst e;decide)).trans (hx2.weak (fun j (e:j=20)=>by subst e;decide))
 have hz2:=hx2.size
 have HY2:=zh ((uh HY) w2 (uh HX2))
 clear hw2 hx2 HR HS1 HX1 HY
 by_cases hr:sz+ys.length<=65536
 ·have hd:decide ((sz:Int)+(ys.length:Int)<=65536)=true:=decide_eq_true (by omega)
  obtain⟨⟨k1,kf1⟩,-,-⟩:=(uh HS2).wt
  have HBR:=zh (owns_blk (uh HS2).row)
  have hW2:W < w2.heap.size:=by omega
  go_wp2_with (first
   | (at_builtin;refine wpList_append_byt_at _ rfl _ _ rfl (W+1) bv T.length T rfl (uh HS2).row (.slice ao ys.length cap) ys rfl (uh HY2) (by omega) (by omega) ?_)
   | go_in)
  intro v3 w3 hown3 hg3 hv3
  have hne:some W≠bv.ownBlock:=fun e=>by have:=(uh HBR) W e.symm;omega
  have hb3:w3.heap[W]?=w2.heap[W]?:=hg3.block W hW2 hne
  have hc:∀ j,w3.cell? ⟨W,j,none⟩=w2.cell? ⟨W,j,none⟩:=fun j=>World.cell?_of_block hb3
  have hfz:∀ j,w3.frozen? ⟨W,j,none⟩=w2.frozen? ⟨W,j,none⟩:=fun j=>World.frozen?_of_block hb3
  have c3:w3.cell? ⟨W,19,none⟩=some bv:=(hc 19).trans k1
  have f3:w3.frozen? ⟨W,19,none⟩=false:=(hfz 19).trans kf1
  have HP:Hid (AddPost W bv sz T ys (fst? E er) w (.returned (.tuple #[])) (w3.setCell ⟨W,19,none⟩ v3)):=by
   obtain⟨-,⟨b1,b2⟩,d1,d2⟩:=(uh HS2).wt
   refine⟨v3,rfl,?_,?_,?_,fun k=>absurd hr k⟩
   ·rw[if_pos hr]
    refine⟨⟨⟨World.cell?_setCell_same _ _ _ c3,by rw[World.frozen?_setCell];exact f3⟩,⟨(World.cell?_setCell_other _ _ _ _ (fun e=>by simp at e)).trans ((hc 20).trans b1),by rw[World.frozen?_setCell];exact (hfz 20).trans b2⟩,(World.cell?_setCell_other _ _ _ _ (fun e=>by simp at e)).trans ((hc 21).trans d1),by rw[World.frozen?_setCell];exact (hfz 21).trans d2⟩,?_,?_⟩
    ·rw[List.length_append,List.map_append]
     exact owns_out (by rw[<- List.map_append]at hown3 |-;exact hown3) (Nat.lt_succ_self _)
    ·intro j
     have r1:=(uh HS2).rng j
     have r2:=(uh HY2).range (j - T.length)
     by_cases hj:j < T.length
     ·rw[List.getD_eq_getElem?_getD,List.getElem?_append_left hj,<- List.getD_eq_getElem?_getD];exact r1
     ·rw[List.getD_eq_getElem?_getD,List.getElem?_append_right (by omega),<- List.getD_eq_getElem?_getD];exact r2
   ·rcases hv3 with e | e
    ·exact .inl e
    ·exact .inr (fun g k=>by rw[e]at k;cases k;omega)
   ·exact ((FW.of_bx (uh HX2) (fun _ e=>e)).trans (FW.of_grown hg3 hW2 hne) (fun g e=>.inl e)).trans (row':=none) (FW.of_bx ((BX.refl W isT w3).set 19 v3 (Nat.le_refl _)) (fun _ e=>e)) (fun g e=>by cases e)
  obtain⟨a3,n3,p3,rfl⟩:∃ a n p,v3=.slice a n p:=by
   rcases hown3.2 with⟨rfl,_⟩ | ⟨g,cap,cur,rfl,_⟩
   ·exact⟨_,_,_,rfl⟩
   ·exact⟨_,_,_,rfl⟩
  clear hown3 hg3 hv3 hb3 hc hfz hne HS2 HY2 HBR HX2 k1 kf1
  go_wp2
  go_end0
  exact uh HP
 ·have hd:decide ((sz:Int)+(ys.length:Int)<=65536)=false:=decide_eq_false (by omega)
  have HP:Hid (AddPost W bv sz T ys (fst? E er) w (.returned (.tuple #[])) w2):=⟨bv,rfl,by rw[if_neg hr];exact uh HS2,.inl rfl,FW.of_bx (uh HX2) (fun _ e=>e),fun _=>rfl⟩
  go_wp2
  go_end0
  exact uh HP
theorem wpList_append_none (w:World) {ops:Array Oper} {rest:List Oper} {o:Oper} {a:Act} {Q:Exit->Act->World->Prop} (hgd:o.guard=none) (s x:Operand)
  (ho:o.op=.call { callee:=.builtin .append,args:=#[s,x],argTypes:=#[33,33] })
  (base:Nat) (v:Value) (n:Nat) (xs:List Value) (hs:a.eval s=v) (hown:w.ownsRow base 5 1 v n xs) (hx:a.eval x=.slice none 0 0)
  (h:wpList Tryz.prog ops Q rest (a.put o.dst v) w):wpList Tryz.prog ops Q (o :: rest) a w:=by
 refine wpList_plain hgd fun K hK=>?_
 obtain⟨i0,hi,hz0,hz1,hz2⟩:=info_parts Tryz.infoU8
 have hr:=run_append_owned_none (P:=Tryz.prog) (w:=w) base 33 o.type 5 i0 1 Tryz.underlying33 hi v n xs hown
 unfold Oper.wp execOp
 simp only[ho,resolve,invoke,builtin,Sem.run_bind,Sem.run_pure,Result.andThen_ok,List.map_toArray,List.map_cons,List.map_nil,hs,hx,hr]
 exact hK _ _ h
theorem wadd_bad (W:Nat) (bv E:Value) (t:TypeId) (x:Value) (sz:Nat) (T:List Int) (w:World) (h:WS w W bv sz T E) (hE:EV E) (hs:sz<=4611686018427387904) :
  Calls Tryz.prog 114 #[.pointer (some ⟨W,0,none⟩),.slice none 0 0,.iface t x] w fun e w'=>e=.returned (.tuple #[])/\WS w' W bv sz T (fst? E (.iface t x))/\BX W isT w w':=by
 have HS:=zh h
 have HF:=zh (wfail_gen W bv E (.iface t x) sz w h.wt hE (.inr ⟨_,_,rfl⟩))
 obtain⟨a3,n3,p3,rfl⟩:∃ a n p,bv=.slice a n p:=by
  rcases h.row.2 with⟨rfl,_⟩ | ⟨g,cap,cur,rfl,_⟩
  ·exact⟨_,_,_,rfl⟩
  ·exact⟨_,_,_,rfl⟩
 clear h
 go_enter Tryz.func114,Tryz.ntmps114
 go_wp2_with fail
 refine (uh HF).mono ?_
 rintro e w1 ⟨rfl,hw1,hx1⟩
 have HS1:=zh ((uh HS).bx hx1 hw1)
 have HX1:=zh hx1
 have HR:=zh (room_any W _ (fst? E (.iface t x)) sz 0 w1 hw1 (by omega) (by omega) (by omega) (by omega))
 clear hw1 hx1 HF HS
 go_wp2_with fail
 refine (uh HR).mono ?_
 rintro e w2 ⟨rfl,hw2,hx2⟩
 have HS2:Hid (WS w2 W (.slice a3 n3 p3) sz T (fst? E (.iface t x))):=(uh HS1).bx hx2 (by have k:=hw2;rw[Int.add_zero]at k;exact k)
 have HX2:Hid (BX W isT w w2):=((uh HX1).weak (fun j (e:j=21)=>by subst e;decide)).trans (hx2.weak (fun j (e:j=20)=>by subst e;decide))
 clear hw2 hx2 HR HS1 HX1
 by_cases hr:(sz:Int)+0<=65536
 ·have hd:decide ((sz:Int)+0<=65536)=true:=decide_eq_true hr
  obtain⟨⟨k1,kf1⟩,-,-⟩:=(uh HS2).wt
  have HP:Hid (WS (w2.setCell ⟨W,19,none⟩ (.slice a3 n3 p3)) W (.slice a3 n3 p3) sz T (fst? E (.iface t x))/\BX W isT w (w2.setCell ⟨W,19,none⟩ (.slice a3 n3 p3))):=by
   have hx:BX W isT w2 (w2.setCell ⟨W,19,none⟩ (.slice a3 n3 p3)):=(BX.refl W isT w2).set 19 _ (Nat.le_refl _)
   obtain⟨⟨a1,a2⟩,⟨b1,b2⟩,d1,d2⟩:=(uh HS2).wt
   exact⟨(uh HS2).bx hx ⟨⟨World.cell?_setCell_same _ _ _ a1,by rw[World.frozen?_setCell];exact a2⟩,⟨(World.cell?_setCell_other _ _ _ _ (fun e=>by simp at e)).trans b1,by rw[World.frozen?_setCell];exact b2⟩,(World.cell?_setCell_other _ _ _ _ (fun e=>by simp at e)).trans d1,by rw[World.frozen?_setCell];exact d2⟩,(uh HX2).trans hx⟩
  go_wp2_with (first
   | (at_builtin;refine wpList_append_none _ rfl _ _ rfl (W+1) (.slice a3 n3 p3) T.length _ rfl (uh HS2).row rfl ?_)
   | go_in)
  go_end0
  exact⟨rfl,uh HP⟩
 ·have hd:decide ((sz:Int)+0<=65536)=false:=decide_eq_false hr
  go_wp2
  go_end0
  exact⟨rfl,uh HS2,uh HX2⟩
def mst (c:Bool) (E:Value):Value:=if c then E else fst? E (.iface 61 (.int .i64 1))
theorem mst_ev {c:Bool} {E:Value} (hE:EV E):EV (mst c E):=by
 unfold mst
 split
 ·exact hE
 ·exact fst_ev hE (.inr ⟨_,_,rfl⟩)
theorem wmust_gen (W:Nat) (bv E:Value) (sz:Int) (c:Bool) (w:World) (h:Wtr w W bv sz E) (hE:EV E):Calls Tryz.prog 69 #[.pointer (some ⟨W,0,none⟩),.bool c] w fun r w'=>r=.returned (.tuple #[])/\Wtr w' W bv sz (mst c E)/\BX W is21 w w'/\EV (mst c E):=by
 have hev:=mst_ev (c:=c) hE
 cases c
 ·rcases hE with rfl | ⟨t,x,rfl⟩
  ·refine (wmust_new W bv sz w h).mono ?_
   rintro r w' ⟨rfl,h1,h2⟩
   exact⟨rfl,h1,h2,hev⟩
  ·refine (wmust_old W bv sz t x w h).mono ?_
   rintro r w' ⟨rfl,rfl⟩
   exact⟨rfl,h,BX.refl _ _ _,hev⟩
 ·refine (wmust_true W w).mono ?_
  rintro r w' ⟨rfl,rfl⟩
  exact⟨rfl,h,BX.refl _ _ _,hev⟩
theorem fst_nil {E:Value} (hE:EV E):fst? E .nilIface=E:=by
 rcases hE with rfl | ⟨t,x,rfl⟩ <;> rfl
theorem AddPost.ahead {W:Nat} {bv:Value} {sz:Nat} {T ys:List Int} {E:Value} {w w1 w2:World} {may:Nat->Prop} {e:Ending} {w':World} (h:AddPost W bv sz T ys E w2 e w') (hx:BX W may w w1) (hb:Below w1.heap.size w1 w2) (hm:∀ j,may j->19<=j) (hW:W < w1.heap.size):AddPost W bv sz T ys E w e w':=by
 obtain⟨bv',h1,h2,h3,h4,h5⟩:=h
 refine⟨bv',h1,h2,?_,((FW.of_bx hx hm).trans (row':=none) (FW.of_below hb hW) (fun g e=>by cases e)).trans h4 (fun g e=>.inl e),h5⟩
 rcases h3 with e | e
 ·exact .inl e
 ·exact .inr (fun g k=>Nat.le_trans (Nat.le_trans hx.size hb.size) (e g k))
theorem byt_bxw {w w':World} {W B:Nat} {may:Nat->Prop} {v:Value} {ys:List Int} (h:w.ownsRow B 5 1 v ys.length (ys.map (Value.int .u8))) (hr:∀ j,0<=ys.getD j 0/\ys.getD j 0<=255) (hx:BX W may w w') (hB:W < B):Byt w' v ys:=byt_of_owns (owns_bx h hx hB) hr
theorem rng1 {x:Int} (h:0<=x/\x<=255):∀ j,0<=([x]:List Int).getD j 0/\([x]:List Int).getD j 0<=255:=by
 intro j
 cases j with
 | zero=>exact h
 | succ j=>simp
def offX (W:Nat) (bv:Value) (b:Nat):Prop:=b=W\/bv.ownBlock=some b
def Sg (w:World) (W:Nat) (bv:Value) (sz:Nat) (T:List Int) (E:Value):Option (List Int)->Prop
 | some l=>E=.nilIface/\sz=l.length/\(l.length<=65536->T=l)/\(bv.ownBlock=none\/2<=T.length\/l.length=1)
 | none=>∃ d n,d<=2/\ErO w (offX W bv) d E n
def SgF (w:World) (W:Nat) (sz:Nat) (T:List Int) (E:Value):Option (List Int)->Prop
 | some l=>E=.nilIface/\sz=l.length/\(l.length<=65536->T=l)
 | none=>∃ d n,d<=2/\ErO w (fun b=>b=W) d E n
structure WQ (w0 w:World) (W:Nat) (p:Pkv) (st:Option (List Int)) (m:Nat):Prop where
 bel:Below w0.heap.size w0 w
 low:w0.heap.size<=W
 pk:Pk w W p
 ex:∃ bv sz T E,WS w W bv sz T E/\(T.length<=65536/\T.length<=sz)/\sz<=m/\Sg w W bv sz T E st
structure WF (w0 w:World) (W:Nat) (p:Pkv) (st:Option (List Int)) (m:Nat):Prop where
 bel:Below w0.heap.size w0 w
 low:w0.heap.size<=W
 pk:Pk w W p
 ex:∃ bv sz T E,WS w W bv sz T E/\(T.length<=65536/\T.length<=sz)/\sz<=m/\SgF w W sz T E st
theorem WQ.wf {w0 w:World} {W:Nat} {p:Pkv} {st:Option (List Int)} {m:Nat} (h:WQ w0 w W p st m):WF w0 w W p st m:=by
 obtain⟨h1,h2,h3,bv,sz,T,E,h4,h5,h6,h7⟩:=h
 refine⟨h1,h2,h3,bv,sz,T,E,h4,h5,h6,?_⟩
 cases st with
 | none=>obtain⟨d,n,hd,he⟩:=h7;exact⟨d,n,hd,he.weak (fun b e=>.inl e)⟩
 | some l=>exact⟨h7.1,h7.2.1,h7.2.2.1⟩
theorem Sg.ev {w:World} {W:Nat} {bv:Value} {sz:Nat} {T:List Int} {E:Value} {st:Option (List Int)} (h:Sg w W bv sz T E st):EV E:=by
 cases st with
 | none=>obtain⟨d,n,hd,he⟩:=h;exact .inr he.iface
 | some l=>exact .inl h.1
theorem WQ.lt {w0 w:World} {W:Nat} {p:Pkv} {st:Option (List Int)} {m:Nat} (h:WQ w0 w W p st m):W < w.heap.size:=cell_lt h.pk.kind
theorem FW.below {W:Nat} {row:Option Nat} {w0 w w':World} (h:FW W row w w') (hb:Below w0.heap.size w0 w) (hW:w0.heap.size<=W) (hr:∀ g,row=some g->w0.heap.size<=g):Below w0.heap.size w0 w' :=
 ⟨h.fb.os.trans hb.os,h.fb.tape.trans hb.tape,h.fb.output.trans hb.output,Nat.le_trans hb.size h.fb.size,fun k hk=>(h.fb.block k (Nat.lt_of_lt_of_le hk hb.size) (by omega) (fun e=>by have:=hr k e.symm;omega)).trans (hb.block k hk)⟩
theorem Pk.fw {W:Nat} {row:Option Nat} {w w':World} {p:Pkv} (hp:Pk w W p) (h:FW W row w w'):Pk w' W p:=fun j hj=>⟨(h.cell j hj).trans (hp j hj).1,(h.frozen j hj).trans (hp j hj).2⟩
theorem ErO.fw {W:Nat} {bv bv':Value} {w w':World} (h:FB W bv.ownBlock w w') (hv:bv'.ownBlock=bv.ownBlock\/∀ g,bv'.ownBlock=some g->w.heap.size<=g):∀ {d:Nat} {v:Value} {n:Int},ErO w (offX W bv) d v n->ErO w' (offX W bv') d v n
 | 0,_,_,h=>h
 | _+1,_,_,⟨b,u,h1,hR,h2,h3⟩=>⟨b,u,h1,fun e=>by
   rcases e with e | e
   ·exact hR (.inl e)
   ·rcases hv with k | k
    ·exact hR (.inr (k ▸ e))
    ·have:=k b e
     have:=cell_lt h2
     simp only at this
     omega,(World.cell?_of_block (w:=w) (h.block b (cell_lt h2) (fun e=>hR (.inl e)) (fun e=>hR (.inr e.symm)))).trans h2,ErO.fw h hv h3⟩
theorem ws_rows {w:World} {W:Nat} {bv:Value} {sz:Nat} {T:List Int} {E:Value} (h:WS w W bv sz T E):∀ g,bv.ownBlock=some g->W+1<=g:=owns_blk h.row
def sAdd (c:Bool) (ys:List Int) (l:List Int):Option (List Int):=if c then some (l++ys) else none
def sMust (c:Bool) (l:List Int):Option (List Int):=if c then some l else none
theorem fst_if (t:TypeId) (x e:Value):fst? (.iface t x) e=.iface t x:=rfl
theorem mst_if (c:Bool) (t:TypeId) (x:Value):mst c (.iface t x)=.iface t x:=by unfold mst;split <;> rfl
def FT (W:Nat) (w w':World):Prop:=w.heap.size<=w'.heap.size/\∀ k c t,k≠W->w.heap[k]?=some (.cells c t)->t≠5->w'.heap[k]?=w.heap[k]?
theorem FT.refl (W:Nat) (w:World):FT W w w:=⟨Nat.le_refl _,fun _ _ _ _ _ _=>rfl⟩
theorem FT.trans {W:Nat} {a b c:World} (h:FT W a b) (k:FT W b c):FT W a c:=⟨Nat.le_trans h.1 k.1,fun i x t hi hx ht=>by
 have e:=h.2 i x t hi hx ht
 exact (k.2 i x t hi (e.trans hx) ht).trans e⟩
theorem FT.of_below {W:Nat} {a b:World} (h:Below a.heap.size a b):FT W a b:=⟨h.size,fun i _ _ _ hx _=>h.block i (Array.getElem?_eq_some_iff.1 hx).1⟩
theorem FT.of_bx {W:Nat} {may:Nat->Prop} {a b:World} (h:BX W may a b):FT W a b:=⟨h.size,fun i _ _ hi hx _=>h.block i (Array.getElem?_eq_some_iff.1 hx).1 hi⟩
theorem FT.of_fw {w w':World} {W:Nat} {bv:Value} {sz:Nat} {T:List Int} {E:Value} (hW:WS w W bv sz T E) (h:FW W bv.ownBlock w w'):FT W w w':=⟨h.fb.size,fun i x t hi hx ht=>h.fb.block i (Array.getElem?_eq_some_iff.1 hx).1 hi (fun e=>by
 rcases hW.row.2 with⟨rfl,_⟩ | ⟨g,cap,cur,rfl,_,hg,_⟩
 ·cases e
 ·cases e
  rw[hg]at hx
  cases hx
  exact ht rfl)⟩
theorem FT.cell {W:Nat} {w w':World} (h:FT W w w') {b:Nat} {c:Array Value} {t:TypeId} (hb:w.heap[b]?=some (.cells c t)) (hW:b≠W) (ht:t≠5):w'.heap[b]?=some (.cells c t):=(h.2 b c t hW hb ht).trans hb
theorem wq_step {w0 w w':World} {W:Nat} {p:Pkv} {bv:Value} {sz:Nat} {T ys:List Int} {E:Value} {st:Option (List Int)} {m:Nat} {e:Ending} (c:Bool) (hW:WS w W bv sz T E) (hm:sz<=m) (hT:T.length<=65536/\T.length<=sz) (hS:Sg w W bv sz T E st)
  (hb:Below w0.heap.size w0 w) (hlow:w0.heap.size<=W) (hpk:Pk w W p) (hA:AddPost W bv sz T ys (mst c E) w e w') (hys:ys≠[]) (hl:∀ l,st=some l->l.length≠1\/ys.length<=60000) :
  e=.returned (.tuple #[])/\WQ w0 w' W p (st.bind (sAdd c ys)) (m+ys.length)/\FT W w w':=by
 obtain⟨bv',rfl,hW',hv,hF,hno⟩:=hA
 have hrow:=ws_rows hW
 refine⟨rfl,⟨hF.below hb hlow (fun g e=>by have:=hrow g e;omega),hlow,hpk.fw hF,bv',_,_,_,hW',?_,by omega,?_⟩,FT.of_fw hW hF⟩
 ·split
  ·rw[List.length_append]
   omega
  ·omega
 cases st with
 | none =>
  obtain⟨d,n,hd,he⟩:=hS
  obtain⟨t,x,rfl⟩:=he.iface
  rw[mst_if]
  exact⟨d,n,hd,he.fw hF.fb hv⟩
 | some l =>
  obtain⟨rfl,h2,h3,h4⟩:=hS
  cases c
  ·exact⟨0,1,by omega,rfl⟩
  ·refine⟨rfl,by rw[List.length_append];omega,?_,?_⟩
   ·intro hle
    rw[List.length_append]at hle
    rw[if_pos (by omega),h3 (by omega)]
   ·by_cases hr:sz+ys.length<=65536
    ·rw[if_pos hr,h3 (by omega),List.length_append]
     have:1<=ys.length:=List.length_pos_iff.2 hys
     omega
    ·rw[if_neg hr,hno hr]
     rcases h4 with h4 | h4 | h4
     ·exact .inl h4
     ·exact .inr (.inl h4)
     ·rcases hl l rfl with k | k
      ·exact absurd h4 k
      ·omega
theorem er_own {w:World} {W:Nat} {c:Bool} (hc:w.cell? ⟨W,1,none⟩=some (.bool c)) {d:Nat} {v:Value} {n:Int} (h:Er w d v n):ErO w (fun b=>b=W) d v n:=ErO.of hc h
def PackPost (w0:World) (R:Nat) (P:Pa) (st:Option (List Int)) (w:World) (e:Ending) (w':World):Prop :=
 e=.returned (.tuple #[])/\∃ (p':Pkv) (P':Pa) (st':Option (List Int)),Pk w' R p'/\Hid (Mean w' w.heap.size p' P')/\Stp (packet? P) st P' st'/\RS w0 w' R st'/\BX R isAny w w'
theorem Mean.bx {w w':World} {R B:Nat} {may:Nat->Prop} {p:Pkv} {P:Pa} (h:Mean w B p P) (hx:BX R may w w') (hR:R < B):Mean w' B p P :=
 ⟨h.sc,owns_bx h.props hx hR,by
  obtain⟨ws,h1,h2,h3⟩:=h.wills
  exact⟨ws,owns_bx h1 hx hR,h2,fun i a b ha hb=>by
   obtain⟨k1,k2,k3,k4,k5⟩:=h3 i a b ha hb
   exact⟨k1,k2,k3,k4,owns_bx k5 hx hR⟩⟩,owns_bx h.user hx hR,owns_bx h.pass hx hR,owns_bx h.subs hx hR,owns_bx h.filters hx hR,owns_bx h.codes hx hR⟩
theorem packet_stp {P P':Pa} {st st1 st2:Option (List Int)} (h:Stp (body? P) st P' st1) (h2:Stp endR st1 () st2):Stp (packet? P) st P' st2:=h.bind (h2.bind (Stp.pure _ _))
end Go.Proofs.YtdkmmmjjdlnnoaaGreatDoor.K
namespace Go.Proofs.YtdkmmmjjdlnnoaaGreatDoor
open Go.RowKit
set_option maxRecDepth 100000
theorem high_2 (n:Int) (w:World) (h0:0<=n) (h1:n<=65535):Calls Tryz.prog 159 #[.int .i64 n,.int .i64 2] w (NumPost 2 n w):=by
 unfold NumPost
 obtain⟨i0,hi,hz0,hz1,hz2⟩:=info_parts Tryz.infoU8
 have HO0:Hid (w.ownsRow w.heap.size 5 1 (.slice none 0 0) 0 (([]:List Int).map (Value.int .u8))):=World.ownsRow_nil _ _ _ _
 have HB0:Hid (Below w.heap.size w w):=Below.refl _ _
 go_enter Tryz.func159,Tryz.ntmps159
 go_wp2
 refine wp_loop_rounds 3 ?_
 rw[rounds_succ]
 go_wp2_with (first
  | (at_builtin;refine wpList_append_own _ rfl _ _ 33 rfl w.heap.size 5 i0 (.int .u8 0) 1 1 Tryz.underlying33 hi hz0 hz1 hz2 rfl (by decide) _ _ _ rfl ((uh HO0).alloc _) ⟨w.heap.size,0,none⟩ 1 1 [.int .u8 (n / 256)] rfl rfl (one_cell _ _ _) (one_one _ _) (by unfold maxLen;omega) (by omega) (by have:=(uh HB0).size;simp <;> omega) ?_)
  | go_in)
 intro v1 w1 hown1 hgrow1 _
 have HB1:Hid (Below w.heap.size w w1):=((uh HB0).alloc (uh HB0).size _).grown hgrow1 (by have:=(uh HB0).size;simp <;> omega) (fun k hk=>((uh HO0).lt k hk).1)
 have HO1:Hid (w1.ownsRow w.heap.size 5 1 v1 1 (([n / 256]:List Int).map (Value.int .u8))):=by show World.ownsRow _ _ _ _ _ _ _;simpa using hown1
 clear hgrow1 hown1
 go_wp2
 rw[rounds_succ]
 go_wp2_with (first
  | (at_builtin;refine wpList_append_own _ rfl _ _ 33 rfl w.heap.size 5 i0 (.int .u8 0) 1 1 Tryz.underlying33 hi hz0 hz1 hz2 rfl (by decide) _ _ _ rfl ((uh HO1).alloc _) ⟨w1.heap.size,0,none⟩ 1 1 [.int .u8 (n % 256)] rfl rfl (one_cell _ _ _) (one_one _ _) (by unfold maxLen;omega) (by omega) (by have:=(uh HB1).size;simp <;> omega) ?_)
  | go_in)
 intro v2 w2 hown2 hgrow2 _
 have HB2:Hid (Below w.heap.size w w2):=((uh HB1).alloc (uh HB1).size _).grown hgrow2 (by have:=(uh HB1).size;simp <;> omega) (fun k hk=>((uh HO1).lt k hk).1)
 have HO2:Hid (w2.ownsRow w.heap.size 5 1 v2 2 (([n / 256,n % 256]:List Int).map (Value.int .u8))):=by show World.ownsRow _ _ _ _ _ _ _;simpa using hown2
 clear hgrow2 hown2
 go_wp2
 rw[rounds_succ]
 go_wp2
 go_ret
 exact⟨_,rfl,by exact uh HO2,uh HB2⟩
theorem high_4 (n:Int) (w:World) (h0:0<=n) (h1:n<=4294967295):Calls Tryz.prog 159 #[.int .i64 n,.int .i64 4] w (NumPost 4 n w):=by
 unfold NumPost
 obtain⟨i0,hi,hz0,hz1,hz2⟩:=info_parts Tryz.infoU8
 have HO0:Hid (w.ownsRow w.heap.size 5 1 (.slice none 0 0) 0 (([]:List Int).map (Value.int .u8))):=World.ownsRow_nil _ _ _ _
 have HB0:Hid (Below w.heap.size w w):=Below.refl _ _
 go_enter Tryz.func159,Tryz.ntmps159
 go_wp2
 refine wp_loop_rounds 5 ?_
 rw[rounds_succ]
 go_wp2_with (first
  | (at_builtin;refine wpList_append_own _ rfl _ _ 33 rfl w.heap.size 5 i0 (.int .u8 0) 1 1 Tryz.underlying33 hi hz0 hz1 hz2 rfl (by decide) _ _ _ rfl ((uh HO0).alloc _) ⟨w.heap.size,0,none⟩ 1 1 [.int .u8 (n / 16777216)] rfl rfl (one_cell _ _ _) (one_one _ _) (by unfold maxLen;omega) (by omega) (by have:=(uh HB0).size;simp <;> omega) ?_)
  | go_in)
 intro v1 w1 hown1 hgrow1 _
 have HB1:Hid (Below w.heap.size w w1):=((uh HB0).alloc (uh HB0).size _).grown hgrow1 (by have:=(uh HB0).size;simp <;> omega) (fun k hk=>((uh HO0).lt k hk).1)
 have HO1:Hid (w1.ownsRow w.heap.size 5 1 v1 1 (([n / 16777216]:List Int).map (Value.int .u8))):=by show World.ownsRow _ _ _ _ _ _ _;simpa using hown1
 clear hgrow1 hown1
 go_wp2
 rw[rounds_succ]
 go_wp2_with (first
  | (at_builtin;refine wpList_append_own _ rfl _ _ 33 rfl w.heap.size 5 i0 (.int .u8 0) 1 1 Tryz.underlying33 hi hz0 hz1 hz2 rfl (by decide) _ _ _ rfl ((uh HO1).alloc _) ⟨w1.heap.size,0,none⟩ 1 1 [.int .u8 (n / 65536 % 256)] rfl rfl (one_cell _ _ _) (one_one _ _) (by unfold maxLen;omega) (by omega) (by have:=(uh HB1).size;simp <;> omega) ?_)
  | go_in)
 intro v2 w2 hown2 hgrow2 _
 have HB2:Hid (Below w.heap.size w w2):=((uh HB1).alloc (uh HB1).size _).grown hgrow2 (by have:=(uh HB1).size;simp <;> omega) (fun k hk=>((uh HO1).lt k hk).1)
 have HO2:Hid (w2.ownsRow w.heap.size 5 1 v2 2 (([n / 16777216,n / 65536 % 256]:List Int).map (Value.int .u8))):=by show World.ownsRow _ _ _ _ _ _ _;simpa using hown2
 clear hgrow2 hown2
 go_wp2
 rw[rounds_succ]
 go_wp2_with (first
  | (at_builtin;refine wpList_append_own _ rfl _ _ 33 rfl w.heap.size 5 i0 (.int .u8 0) 1 1 Tryz.underlying33 hi hz0 hz1 hz2 rfl (by decide) _ _ _ rfl ((uh HO2).alloc _) ⟨w2.heap.size,0,none⟩ 1 1 [.int .u8 (n / 256 % 256)] rfl rfl (one_cell _ _ _) (one_one _ _) (by unfold maxLen;omega) (by omega) (by have:=(uh HB2).size;simp <;> omega) ?_)
  | go_in)
 intro v3 w3 hown3 hgrow3 _
 have HB3:Hid (Below w.heap.size w w3):=((uh HB2).alloc (uh HB2).size _).grown hgrow3 (by have:=(uh HB2).size;simp <;> omega) (fun k hk=>((uh HO2).lt k hk).1)
 have HO3:Hid (w3.ownsRow w.heap.size 5 1 v3 3 (([n / 16777216,n / 65536 % 256,n / 256 % 256]:List Int).map (Value.int .u8))):=by show World.ownsRow _ _ _ _ _ _ _;simpa using hown3
 clear hgrow3 hown3
 go_wp2
 rw[rounds_succ]
 go_wp2_with (first
  | (at_builtin;refine wpList_append_own _ rfl _ _ 33 rfl w.heap.size 5 i0 (.int .u8 0) 1 1 Tryz.underlying33 hi hz0 hz1 hz2 rfl (by decide) _ _ _ rfl ((uh HO3).alloc _) ⟨w3.heap.size,0,none⟩ 1 1 [.int .u8 (n % 256)] rfl rfl (one_cell _ _ _) (one_one _ _) (by unfold maxLen;omega) (by omega) (by have:=(uh HB3).size;simp <;> omega) ?_)
  | go_in)
 intro v4 w4 hown4 hgrow4 _
 have HB4:Hid (Below w.heap.size w w4):=((uh HB3).alloc (uh HB3).size _).grown hgrow4 (by have:=(uh HB3).size;simp <;> omega) (fun k hk=>((uh HO3).lt k hk).1)
 have HO4:Hid (w4.ownsRow w.heap.size 5 1 v4 4 (([n / 16777216,n / 65536 % 256,n / 256 % 256,n % 256]:List Int).map (Value.int .u8))):=by show World.ownsRow _ _ _ _ _ _ _;simpa using hown4
 clear hgrow4 hown4
 go_wp2
 rw[rounds_succ]
 go_wp2
 go_ret
 exact⟨_,rfl,by exact uh HO4,uh HB4⟩
end Go.Proofs.YtdkmmmjjdlnnoaaGreatDoor
