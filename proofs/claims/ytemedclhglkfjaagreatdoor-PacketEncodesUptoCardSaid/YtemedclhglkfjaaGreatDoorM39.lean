/- Proved here: helpers, one text behind the other. -/
import Derived.Test.YtemedclhglkfjaaGreatDoorM38
import Derived.Test.YtemedclhglkfjaaGreatDoorM21
import Derived.Lib.SliceRun
set_option maxHeartbeats 20000000
namespace Go.Proofs.YtemedclhglkfjaaGreatDoor.K.W
open Go.RowKit
open Go.Proofs.YtemedclhglkfjaaGreatDoor.K
set_option maxRecDepth 100000
theorem copyp_own (v : Value) (l : List Pr) (w : World) (h : Prp w v l) (hmx : l.length <= 1000000) : Calls Tryz.prog 17 #[v] w fun e w' => ∃ v,e = .returned v /\ Hid (w'.ownsRow w.heap.size 83 4 v l.length (pcs l)) /\ Below w.heap.size w w' := by
 obtain ⟨ao,cap,rfl,hc⟩ := h
 rcases hc with rfl | ⟨b,off,rfl,hc⟩
 ·refine (copyp_nil ao cap w).mono ?_
  rintro e w' ⟨rfl,rfl⟩
  exact ⟨_,rfl,World.ownsRow_nil _ _ _ _,Below.refl _ _⟩
 ·exact copyp_core b off cap l _ w rfl hmx hc
theorem cell_set (w : World) (p q : Addr) (v : Value) (h : (w.cell? q).isSome = true) : (w.setCell p v).cell? q = if p = q then some v else w.cell? q := by
 by_cases e : p = q
 ·subst e
  rw [if_pos rfl]
  exact World.cell?_setCell_same' w p v h
 ·rw [if_neg e]
  exact World.cell?_setCell_other _ _ _ _ e
theorem cell_new (w : World) (cs : Array Value) (t : TypeId) (k j : Nat) (v : Value) (h : cs[j]? = some v) (e : k = w.heap.size) : (w.alloc (.cells cs t)).cell? ⟨k,j,none⟩ = some v := by
 subst e
 simp [h]
theorem frz_new (w : World) (cs : Array Value) (t : TypeId) (k j : Nat) (e : k = w.heap.size) : (w.alloc (.cells cs t)).frozen? ⟨k,j,none⟩ = false := by
 subst e
 simp
theorem frz_old (w : World) (o : Obj) (k j : Nat) (e : k < w.heap.size) (h : w.frozen? ⟨k,j,none⟩ = false) : (w.alloc o).frozen? ⟨k,j,none⟩ = false := (World.frozen?_alloc_old _ _ _ (Nat.ne_of_lt e)).trans h
theorem owns_slice {w : World} {B : Nat} {e : TypeId} {s : Nat} {v : Value} {n : Nat} {xs : List Value} (h : w.ownsRow B e s v n xs) : ∃ ao cap,v = .slice ao n cap := by
 rcases h.2 with ⟨h1,h2⟩ | ⟨g,cap,cur,hv,rest⟩
 ·exact ⟨none,0,by rw [h1,h2]⟩
 ·exact ⟨_,cap,hv⟩
theorem owns_low {w : World} {B : Nat} {e : TypeId} {s : Nat} {v u : Value} {n : Nat} {xs : List Value} {p : Addr} (h : w.ownsRow B e s v n xs) (hp : p.block < B) : (w.setCell p u).ownsRow B e s v n xs := by
 refine ⟨h.1,?_⟩
 rcases h.2 with h1 | ⟨g,cap,cur,hv,hB,hg,rest⟩
 ·exact .inl h1
 ·exact .inr ⟨g,cap,cur,hv,hB,(Below.heap_setCell _ _ _ _ (by omega)).trans hg,rest⟩
theorem res_w {fn : Func} {a : Tmp} (h : fn.results = #[.cell a 52]) {tmps : Array Value} {w : World} {B : Nat} {v0 v1 v2 v3 v4 : Value} (ha : tmps[a]?.getD undef = .pointer (some ⟨B,0,none⟩)) (c0 : w.cell? ⟨B,0,none⟩ = some v0) (c1 : w.cell? ⟨B,1,none⟩ = some v1) (c2 : w.cell? ⟨B,2,none⟩ = some v2) (c3 : w.cell? ⟨B,3,none⟩ = some v3) (c4 : w.cell? ⟨B,4,none⟩ = some v4) :
  (results fn tmps).run Tryz.prog w = .ok (.agg #[v0,v1,v2,v3,v4]) w := by
 simp [results,h,ha,go_sem,c0,c1,c2,c3,c4]
theorem bnxw {w a b : World} (h : Below w.heap.size w a) (h2 : Below a.heap.size a b) : Below w.heap.size w b := h.trans (h2.mono h.size)
theorem cpw_any (t p : ByteArray) (q : Int) (r : Bool) (l : List Pr) (ao : Option Addr) (cap : Nat) (w : World) (h : Prp w (.slice ao l.length cap) l) (hmx : l.length <= 1000000) :
  Calls Tryz.prog 40 #[.agg #[.string t,.string p,.int .i64 q,.bool r,.slice ao l.length cap]] w fun e w' => ∃ so sc,e = .returned (.agg #[.string t,.string p,.int .i64 q,.bool r,.slice so l.length sc]) /\ Hid (w'.ownsRow w.heap.size 83 4 (.slice so l.length sc) l.length (pcs l)) /\ Below w.heap.size w w' := by
 have HA := zh h
 clear h
 go_enter Tryz.func40,Tryz.ntmps40
 go_wp2_with fail
 refine (copyp_own _ l _ ((uh HA).below (by go_grown)) hmx).mono ?_
 rintro e w1 ⟨sv,rfl,HS,hb1⟩
 have HB1 : Hid (Below w.heap.size w w1) := bnxw (by go_grown) hb1
 have q0 : w1.cell? ⟨w.heap.size + 1 + 1,0,none⟩ = some (.string t) := (hb1.cell (p := ⟨w.heap.size + 1 + 1,0,none⟩) (by simp <;> omega)).trans (cell_new _ _ _ _ _ _ rfl (by simp))
 have q1 : w1.cell? ⟨w.heap.size + 1 + 1,1,none⟩ = some (.string p) := (hb1.cell (p := ⟨w.heap.size + 1 + 1,1,none⟩) (by simp <;> omega)).trans (cell_new _ _ _ _ _ _ rfl (by simp))
 have q2 : w1.cell? ⟨w.heap.size + 1 + 1,2,none⟩ = some (.int .i64 q) := (hb1.cell (p := ⟨w.heap.size + 1 + 1,2,none⟩) (by simp <;> omega)).trans (cell_new _ _ _ _ _ _ rfl (by simp))
 have q3 : w1.cell? ⟨w.heap.size + 1 + 1,3,none⟩ = some (.bool r) := (hb1.cell (p := ⟨w.heap.size + 1 + 1,3,none⟩) (by simp <;> omega)).trans (cell_new _ _ _ _ _ _ rfl (by simp))
 have q4 : w1.cell? ⟨w.heap.size + 1 + 1,4,none⟩ = some (.slice ao l.length cap) := (hb1.cell (p := ⟨w.heap.size + 1 + 1,4,none⟩) (by simp <;> omega)).trans (cell_new _ _ _ _ _ _ rfl (by simp))
 have z0 : w1.cell? ⟨w.heap.size + 1,0,none⟩ = some (.string ⟨#[]⟩) := (hb1.cell (p := ⟨w.heap.size + 1,0,none⟩) (by simp <;> omega)).trans (Lib.cell?_alloc_some _ (cell_new _ _ _ _ _ _ rfl (by simp)))
 have f0 : w1.frozen? ⟨w.heap.size + 1,0,none⟩ = false := (hb1.frozen (p := ⟨w.heap.size + 1,0,none⟩) (by simp <;> omega)).trans (frz_old _ _ _ _ (by simp <;> omega) (frz_new _ _ _ _ _ (by simp)))
 have z1 : w1.cell? ⟨w.heap.size + 1,1,none⟩ = some (.string ⟨#[]⟩) := (hb1.cell (p := ⟨w.heap.size + 1,1,none⟩) (by simp <;> omega)).trans (Lib.cell?_alloc_some _ (cell_new _ _ _ _ _ _ rfl (by simp)))
 have f1 : w1.frozen? ⟨w.heap.size + 1,1,none⟩ = false := (hb1.frozen (p := ⟨w.heap.size + 1,1,none⟩) (by simp <;> omega)).trans (frz_old _ _ _ _ (by simp <;> omega) (frz_new _ _ _ _ _ (by simp)))
 have z2 : w1.cell? ⟨w.heap.size + 1,2,none⟩ = some (.int .i64 0) := (hb1.cell (p := ⟨w.heap.size + 1,2,none⟩) (by simp <;> omega)).trans (Lib.cell?_alloc_some _ (cell_new _ _ _ _ _ _ rfl (by simp)))
 have f2 : w1.frozen? ⟨w.heap.size + 1,2,none⟩ = false := (hb1.frozen (p := ⟨w.heap.size + 1,2,none⟩) (by simp <;> omega)).trans (frz_old _ _ _ _ (by simp <;> omega) (frz_new _ _ _ _ _ (by simp)))
 have z3 : w1.cell? ⟨w.heap.size + 1,3,none⟩ = some (.bool false) := (hb1.cell (p := ⟨w.heap.size + 1,3,none⟩) (by simp <;> omega)).trans (Lib.cell?_alloc_some _ (cell_new _ _ _ _ _ _ rfl (by simp)))
 have f3 : w1.frozen? ⟨w.heap.size + 1,3,none⟩ = false := (hb1.frozen (p := ⟨w.heap.size + 1,3,none⟩) (by simp <;> omega)).trans (frz_old _ _ _ _ (by simp <;> omega) (frz_new _ _ _ _ _ (by simp)))
 have z4 : w1.cell? ⟨w.heap.size + 1,4,none⟩ = some (.slice none 0 0) := (hb1.cell (p := ⟨w.heap.size + 1,4,none⟩) (by simp <;> omega)).trans (Lib.cell?_alloc_some _ (cell_new _ _ _ _ _ _ rfl (by simp)))
 have f4 : w1.frozen? ⟨w.heap.size + 1,4,none⟩ = false := (hb1.frozen (p := ⟨w.heap.size + 1,4,none⟩) (by simp <;> omega)).trans (frz_old _ _ _ _ (by simp <;> omega) (frz_new _ _ _ _ _ (by simp)))
 have g4 : w1.frozen? ⟨w.heap.size + 1 + 1,4,none⟩ = false := (hb1.frozen (p := ⟨w.heap.size + 1 + 1,4,none⟩) (by simp <;> omega)).trans (frz_new _ _ _ _ _ (by simp))
 have HS2 : Hid (w1.ownsRow (w.heap.size + 3) 83 4 sv l.length (pcs l)) := by have := uh HS; show World.ownsRow _ _ _ _ _ _ _; simpa [Nat.add_assoc] using this
 clear hb1 HS
 obtain ⟨so,sc,rfl⟩ := owns_slice (uh HS2)
 go_wp2
 (try simp only [Exit.inBlock,Exit.then])
 refine bodyPost_ret (res_w (B := w.heap.size + 1) (v0 := .string t) (v1 := .string p) (v2 := .int .i64 q) (v3 := .bool r) (v4 := .slice so l.length sc) rfl rfl ?c0 ?c1 ?c2 ?c3 ?c4) rfl ?_
 case c0 => simp (maxDischargeDepth := 16) [cell_set,z0]
 case c1 => simp (maxDischargeDepth := 16) [cell_set,z1]
 case c2 => simp (maxDischargeDepth := 16) [cell_set,z2]
 case c3 => simp (maxDischargeDepth := 16) [cell_set,z3]
 case c4 => simp (maxDischargeDepth := 16) [cell_set,z4]
 exact ⟨_,_,rfl,owns_mono (owns_low (owns_low (owns_low (owns_low (owns_low (owns_low (uh HS2) (by simp <;> omega)) (by simp <;> omega)) (by simp <;> omega)) (by simp <;> omega)) (by simp <;> omega)) (by simp <;> omega)) (by omega),by have := uh HB1; go_grown⟩
end Go.Proofs.YtemedclhglkfjaaGreatDoor.K.W
namespace Go.Proofs.YtemedclhglkfjaaGreatDoor.K.W
open Go.RowKit
open Go.Proofs.YtemedclhglkfjaaGreatDoor.K
set_option maxRecDepth 100000
abbrev wcl (u : Wl) (s : Value) : List Value := [.string u.topic,.string u.payload,.int .i64 u.qos,.bool u.retain,s]
theorem infoW : (Tryz.prog.info? 52).map (fun i => (i.zero,i.size,i.bytes)) = some (some (.agg #[.string ⟨#[]⟩,.string ⟨#[]⟩,.int .i64 0,.bool false,.slice none 0 0]),5,72) := by kernel_rfl
theorem w_one (m : Wl) (ao : Option Addr) (n c : Nat) : ∀ u ∈ wcl m (.slice ao n c),u.oneCell' = true := by
 intro u hu; simp at hu; rcases hu with rfl | rfl | rfl | rfl | rfl <;> rfl
theorem prp_lenw {w : World} {a : Option Addr} {n c : Nat} {l : List Pr} (h : Prp w (.slice a n c) l) : l.length = n := by
 obtain ⟨ao,cap,h1,_⟩ := h
 cases h1
 rfl
abbrev Wq := Wl × Value
def wrow (qs : List Wq) : List Value := qs.flatMap fun q => wcl q.1 q.2
structure OwnWs (w : World) (B : Nat) (v : Value) (qs : List Wq) : Prop where
 row : w.ownsRow B 52 5 v qs.length (wrow qs)
 prp : ∀ q ∈ qs,w.ownsRow B 83 4 q.2 q.1.props.length (pcs q.1.props) /\ q.1.props.length <= 1000000
theorem OwnWs.nil (w : World) (B : Nat) : OwnWs w B (.slice none 0 0) [] := ⟨World.ownsRow_nil _ _ _ _,fun q h => by simp at h⟩
theorem OwnWs.below {w w' : World} {B : Nat} {v : Value} {qs : List Wq} (h : OwnWs w B v qs) (hb : Below w.heap.size w w') : OwnWs w' B v qs := ⟨owns_below h.row hb,fun q hq => ⟨owns_below (h.prp q hq).1 hb,(h.prp q hq).2⟩⟩
theorem OwnWs.mono {w : World} {B B' : Nat} {v : Value} {qs : List Wq} (h : OwnWs w B v qs) (hB : B' <= B) : OwnWs w B' v qs := ⟨owns_mono h.row hB,fun q hq => ⟨owns_mono (h.prp q hq).1 hB,(h.prp q hq).2⟩⟩
theorem OwnWs.blk {w : World} {B : Nat} {v : Value} {qs : List Wq} (h : OwnWs w B v qs) : ∀ g,v.ownBlock = some g -> B <= g /\ ∃ cur fz,w.heap[g]? = some (.cells cur 52 fz) := by
 intro g hg
 rcases h.row.2 with ⟨rfl,_⟩ | ⟨g',cap,cur,rfl,hB,hgg,_⟩
 ·cases hg
 ·cases hg
  exact ⟨hB,cur,_,hgg⟩
theorem owns_ty {w w' : World} {B : Nat} {e t : TypeId} {s : Nat} {v : Value} {n : Nat} {xs : List Value} {row : Option Nat} (h : w.ownsRow B e s v n xs) (hg : w.grownBy w' row) (ht : ∀ g,row = some g -> ∃ cur fz,w.heap[g]? = some (.cells cur t fz)) (hne : e ≠ t) : w'.ownsRow B e s v n xs := by
 refine ⟨h.1,?_⟩
 rcases h.2 with h1 | ⟨g,cap,cur,hv,hB,hgg,rest⟩
 ·exact .inl h1
 ·refine .inr ⟨g,cap,cur,hv,hB,?_,rest⟩
  rw [hg.block g (Array.getElem?_eq_some_iff.1 hgg).1 (fun er => by
   obtain ⟨cur',fz,k⟩ := ht g er.symm
   rw [hgg] at k
   simp only [Option.some.injEq,Obj.cells.injEq] at k
   exact hne k.2.1)]
  exact hgg
theorem wrow_app (a b : List Wq) : wrow (a ++ b) = wrow a ++ wrow b := by unfold wrow; rw [List.flatMap_append]
theorem OwnWs.app {w w' : World} {B : Nat} {v v' : Value} {qs ps : List Wq} (h : OwnWs w B v qs) (hp : ∀ q ∈ ps,w.ownsRow B 83 4 q.2 q.1.props.length (pcs q.1.props) /\ q.1.props.length <= 1000000) (hg : w.grownBy w' v.ownBlock) (ho : w'.ownsRow B 52 5 v' (qs.length + ps.length) (wrow qs ++ wrow ps)) : OwnWs w' B v' (qs ++ ps) := by
 have ht : ∀ g,v.ownBlock = some g -> ∃ cur fz,w.heap[g]? = some (.cells cur 52 fz) := fun g e => (h.blk g e).2
 refine ⟨?_,fun q hq => ?_⟩
 ·rw [List.length_append,wrow_app]
  exact ho
 ·rcases List.mem_append.1 hq with hq | hq
  ·exact ⟨owns_ty (h.prp q hq).1 hg ht (by decide),(h.prp q hq).2⟩
  ·exact ⟨owns_ty (hp q hq).1 hg ht (by decide),(hp q hq).2⟩
theorem wrow_get (qs : List Wq) : ∀ k q,qs[k]? = some q -> ∀ j,j < 5 -> (wrow qs)[k * 5 + j]? = (wcl q.1 q.2)[j]? := by
 induction qs with
 | nil => intro k q hk; simp at hk
 | cons p l ih =>
  intro k q hk j hj
  have e : wrow (p :: l) = wcl p.1 p.2 ++ wrow l := rfl
  rw [e]
  rcases k with _ | k
  ·simp at hk
   subst hk
   rw [List.getElem?_append_left (by simp; omega)]
   simp
  ·have hl : (wcl p.1 p.2).length = 5 := rfl
   rw [List.getElem?_append_right (by omega),hl,show (k + 1) * 5 + j - 5 = k * 5 + j from by omega]
   exact ih k q (by simpa using hk) j hj
theorem take_snoc (l : List Wl) (k : Nat) (h : k < l.length) : l.take (k + 1) = l.take k ++ [l.getD k wl0] := by
 rw [List.take_add_one,List.getD_eq_getElem?_getD,List.getElem?_eq_getElem h]; rfl
theorem cpws_core (b off cap : Nat) (l : List Wl) (len : Nat) (w : World) (hlen : l.length = len) (hmx : len <= 1000000000) (hl : WlAt w b off l) (hpl : ∀ k,k < l.length -> (l.getD k wl0).props.length <= 1000000) :
  Calls Tryz.prog 18 #[.slice (some ⟨b,off,none⟩) len cap] w fun e w' => ∃ v qs,e = .returned v /\ Hid (OwnWs w' w.heap.size v qs /\ qs.map (·.1) = l) /\ Below w.heap.size w w' := by
 obtain ⟨i0,hi,hz0,hz1,hz2⟩ := info_parts infoW
 have HL := zh hl
 have HPL := zh hpl
 have HLEN := zh hlen
 clear hl hlen hpl
 go_enter Tryz.func18,Tryz.ntmps18
 go_wp2
 go_loopw [3,4] (fun v i wr => ∃ (k : Nat) (qs : List Wq),k <= len /\ i = .int .i64 k /\ Hid (OwnWs wr w.heap.size v qs /\ qs.map (·.1) = l.take k /\ qs.length = k) /\ Hid (Below w.heap.size w wr)) (fun _ i _ => len - (intOf i).toNat)
 case atStart => exact ⟨0,[],Nat.zero_le _,rfl,⟨OwnWs.nil _ _,rfl,rfl⟩,Below.refl _ _⟩
 case round =>
  obtain ⟨k,qs,hk,rfl,HOWN,HBEL⟩ := hrel
  by_cases hlt : k < len
  ·have HLTk : Hid (k < l.length) := by show _ < _; rw [uh HLEN]; exact hlt
   obtain ⟨ao,n0,c,⟨h0,h1,h2,h3,h4⟩,hp1,-⟩ := ((uh HL) k (uh HLTk)).below (uh HBEL)
   have hpk := (uh HPL) k (uh HLTk)
   obtain rfl := prp_lenw hp1
   have hp := And.intro hp1 hpk
   have HTS := zh (take_snoc l k (uh HLTk))
   generalize l.getD k wl0 = u at h0 h1 h2 h3 h4 hp1 hpk hp HTS
   have HP := zh hp
   clear hp hp1 hpk
   have hsz := (uh HBEL).size
   have hql : qs.length = k := (uh HOWN).2.2
   have HQL := zh hql
   clear hql
   go_wp2_with (first
    | (go_at_call 40; refine (cpw_any u.topic u.payload u.qos u.retain u.props ao c _ (uh HP).1 (uh HP).2).mono ?_; rintro e w2 ⟨so,sc,rfl,HS,hb2⟩; have HO2 := zh ((uh HOWN).1.below hb2); have hsz2 := hb2.size; have HB2 := zh hb2; clear hb2)
    | (at_builtin; refine wpList_append_own _ rfl _ _ 25 rfl w.heap.size 52 i0 _ 5 72 Tryz.underlying25 hi hz0 hz1 hz2 rfl (by decide) _ _ _ rfl ((uh HO2).row.alloc _) ⟨w2.heap.size,0,none⟩ 1 1 (wcl u (.slice so u.props.length sc)) rfl rfl (cell5 _ _ _ _ _ _ _) (w_one _ _ _ _) (by rw [uh HQL]; unfold maxLen; omega) (by rw [uh HQL]; omega) (by simp; omega) ?_)
    | go_in)
   intro v' w1 hown' hgrow _
   have HB1 : Hid (Below w.heap.size w w1) := (((uh HBEL).trans ((uh HB2).mono hsz)).alloc (by omega) _).grown hgrow (by simp; omega) (fun k hk => ((uh HO2).blk k hk).1)
   have HO1 : Hid (OwnWs w1 w.heap.size v' (qs ++ [(u,Value.slice so u.props.length sc)]) /\ (qs ++ [(u,Value.slice so u.props.length sc)]).map (·.1) = l.take (k + 1) /\ (qs ++ [(u,Value.slice so u.props.length sc)]).length = k + 1) := by
    refine ⟨OwnWs.app ((uh HO2).below (bal _ _)) ?_ hgrow (by simpa [wrow] using hown'),?_,?_⟩
    ·intro q hq
     obtain rfl := List.mem_singleton.1 hq
     exact ⟨owns_mono ((uh HS).alloc _) (by omega),(uh HP).2⟩
    ·rw [uh HTS,List.map_append,(uh HOWN).2.1]; rfl
    ·simp [uh HQL]
   clear hgrow hown'
   go_wp2
   go_roundw
   case rel => exact ⟨k + 1,_,by omega,by go_num,HO1,HB1⟩
   case measure => simp [intOf]; omega
  ·obtain rfl : k = len := by omega
   have HO1 : Hid (OwnWs wr w.heap.size u3 qs /\ qs.map (·.1) = l) := by
    refine ⟨(uh HOWN).1,?_⟩
    rw [(uh HOWN).2.1,List.take_of_length_le (Nat.le_of_eq (uh HLEN))]
   go_wp2
   go_ret
   exact ⟨_,_,rfl,HO1,uh HBEL⟩
theorem OwnWs.wls {w : World} {B : Nat} {v : Value} {qs : List Wq} (h : OwnWs w B v qs) : Wls w v (qs.map (·.1)) := by
 rcases h.row.2 with ⟨rfl,h1⟩ | ⟨g,cap,cur,rfl,hB,hg,hnc,hcm,hcs,htake⟩
 ·have : qs = [] := List.length_eq_zero_iff.1 h1
  subst this
  exact ⟨none,0,rfl,by simp,.inl rfl⟩
 ·refine ⟨_,cap,by rw [List.length_map],⟨by rw [List.length_map]; exact hnc,hcm⟩,.inr ⟨g,0,rfl,fun k hk => ?_⟩⟩
  rw [List.length_map] at hk
  obtain ⟨q,hq⟩ : ∃ q,qs[k]? = some q := ⟨_,List.getElem?_eq_getElem hk⟩
  have e : (qs.map (·.1)).getD k wl0 = q.1 := by rw [List.getD_eq_getElem?_getD,List.getElem?_map,hq]; rfl
  rw [e]
  have hp := h.prp q (List.mem_of_getElem? hq)
  obtain ⟨ao,c,hs⟩ := owns_slice hp.1
  refine ⟨ao,q.1.props.length,c,?_,by rw [<- hs]; exact Go.Proofs.YtemedclhglkfjaaGreatDoor.prp_of_owns hp.1,by have := hp.2; omega⟩
  have key : ∀ j u,j < 5 -> (wcl q.1 q.2)[j]? = some u -> w.cell? ⟨g,0 + k * 5 + j,none⟩ = some u := fun j u hj hu => by
   rw [Nat.zero_add,h.row.cellAt (k * 5 + j) (by omega),wrow_get qs k q hq j hj]; exact hu
  refine ⟨key 0 _ (by omega) rfl,key 1 _ (by omega) rfl,key 2 _ (by omega) rfl,key 3 _ (by omega) rfl,?_⟩
  rw [<- hs]
  exact key 4 _ (by omega) rfl
theorem cpws_nil (ao : Option Addr) (cap : Nat) (w : World) : Calls Tryz.prog 18 #[.slice ao 0 cap] w fun e w' => e = .returned (.slice none 0 0) /\ w' = w := by
 go_enter Tryz.func18,Tryz.ntmps18
 go_wp2
 refine wp_loop_rounds 1 ?_
 rw [rounds_succ]
 go_wp2
 go_ret
 exact ⟨rfl,rfl⟩
end Go.Proofs.YtemedclhglkfjaaGreatDoor.K.W
