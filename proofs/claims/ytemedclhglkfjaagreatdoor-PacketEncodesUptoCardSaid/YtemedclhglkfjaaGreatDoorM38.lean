/- Proved here: helpers, one text behind the other. -/
import Derived.Test.YtemedclhglkfjaaGreatDoorE1
import Derived.Test.YtemedclhglkfjaaGreatDoorM37
import Derived.Test.YtemedclhglkfjaaGreatDoorM22
import Derived.Test.YtemedclhglkfjaaGreatDoorM36
import Derived.Test.YtemedclhglkfjaaGreatDoorE2
import Derived.Test.YtemedclhglkfjaaGreatDoorE3
set_option maxHeartbeats 20000000
namespace Go.Proofs.YtemedclhglkfjaaGreatDoor.K
open Go.RowKit
set_option maxRecDepth 100000
theorem Nms.below {w w' : World} {v : Value} {l : List Int} (h : Nms w v l) (hb : Below w.heap.size w w') : Nms w' v l := by
 obtain ⟨ao,cap,h1,h2,h3⟩ := h
 refine ⟨ao,cap,h1,h2,?_⟩
 rcases h3 with h3 | ⟨b,off,e,hc⟩
 ·exact .inl h3
 ·exact .inr ⟨b,off,e,fun j hj => (hb.cell (p := ⟨b,off + j,none⟩) (cell_lt (hc j hj))).trans (hc j hj)⟩
theorem Txs.below {w w' : World} {v : Value} {l : List ByteArray} (h : Txs w v l) (hb : Below w.heap.size w w') : Txs w' v l := by
 obtain ⟨ao,cap,h1,h2,h3⟩ := h
 refine ⟨ao,cap,h1,h2,?_⟩
 rcases h3 with h3 | ⟨b,off,e,hc⟩
 ·exact .inl h3
 ·exact .inr ⟨b,off,e,fun j hj => (hb.cell (p := ⟨b,off + j,none⟩) (cell_lt (hc j hj))).trans (hc j hj)⟩
theorem Sbs.below {w w' : World} {v : Value} {l : List Sb} (h : Sbs w v l) (hb : Below w.heap.size w w') : Sbs w' v l := by
 obtain ⟨ao,cap,h1,h2,h3⟩ := h
 refine ⟨ao,cap,h1,h2,?_⟩
 rcases h3 with h3 | ⟨b,off,e,hc⟩
 ·exact .inl h3
 ·refine .inr ⟨b,off,e,fun j hj => ?_⟩
  obtain ⟨x1,x2,x3,x4,x5⟩ := hc j hj
  have hl : b < w.heap.size := cell_lt x1
  exact ⟨(hb.cell hl).trans x1,(hb.cell hl).trans x2,(hb.cell hl).trans x3,(hb.cell hl).trans x4,(hb.cell hl).trans x5⟩
theorem Wls.below {w w' : World} {v : Value} {l : List Wl} (h : Wls w v l) (hb : Below w.heap.size w w') : Wls w' v l := by
 obtain ⟨ao,cap,h1,h2,h3⟩ := h
 refine ⟨ao,cap,h1,h2,?_⟩
 rcases h3 with h3 | ⟨b,off,e,hc⟩
 ·exact .inl h3
 ·exact .inr ⟨b,off,e,fun j hj => (hc j hj).below hb⟩
theorem tells_props {w : World} {va vb : Value} {l m : List Pr} (ha : Prp w va l) (hb : Prp w vb m) (hmx : l.length <= 1000000000) (c : Bool) (hc : c = true ↔ l = m) : Tells w 32 va vb c := fun W hW => by
 refine (eqp_any va vb l m W (ha.below hW) (hb.below hW) hmx).mono ?_
 rintro e w' ⟨⟨b,rfl,hbb⟩,k,rfl⟩
 obtain rfl : b = c := Bool.eq_iff_iff.2 (hbb.trans hc.symm)
 exact ⟨rfl,below_drewN (Below.refl _ _) k⟩
theorem tells_subs {w : World} {va vb : Value} {l m : List Sb} (ha : Sbs w va l) (hb : Sbs w vb m) (hmx : l.length <= 1000000000) (c : Bool) (hc : c = true ↔ l = m) : Tells w 35 va vb c := fun W hW => by
 refine (eqb_any va vb l m W (ha.below hW) (hb.below hW) hmx).mono ?_
 rintro e w' ⟨⟨b,rfl,hbb⟩,k,rfl⟩
 obtain rfl : b = c := Bool.eq_iff_iff.2 (hbb.trans hc.symm)
 exact ⟨rfl,below_drewN (Below.refl _ _) k⟩
theorem tells_wills {w : World} {va vb : Value} {l m : List Wl} (ha : Wls w va l) (hb : Wls w vb m) (hmx : l.length <= 1000000000) (c : Bool) (hc : c = true ↔ l = m) : Tells w 33 va vb c := fun W hW => by
 refine (eqws_any va vb l m W (ha.below hW) (hb.below hW) hmx).mono ?_
 rintro e w' ⟨⟨b,rfl,hbb⟩,hb'⟩
 obtain rfl : b = c := Bool.eq_iff_iff.2 (hbb.trans hc.symm)
 exact ⟨rfl,hb'⟩
theorem tells_strs {w : World} {va vb : Value} {l m : List ByteArray} (ha : Txs w va l) (hb : Txs w vb m) (c : Bool) (hc : c = true ↔ l = m) : Tells w 34 va vb c := fun W hW => by
 refine (eqs_any va vb l m W (ha.below hW) (hb.below hW)).mono ?_
 rintro e w' ⟨rfl,k,rfl⟩
 exact ⟨by rw [show c = decide (l = m) from Bool.eq_iff_iff.2 (hc.trans (decide_eq_true_iff).symm)],below_drewN (Below.refl _ _) k⟩
theorem tells_nums {w : World} {va vb : Value} {l m : List Int} (ha : Nms w va l) (hb : Nms w vb m) (c : Bool) (hc : c = true ↔ l = m) : Tells w 36 va vb c := fun W hW => by
 refine (eqn_any va vb l m W (ha.below hW) (hb.below hW)).mono ?_
 rintro e w' ⟨rfl,k,rfl⟩
 exact ⟨by rw [show c = decide (l = m) from Bool.eq_iff_iff.2 (hc.trans (decide_eq_true_iff).symm)],below_drewN (Below.refl _ _) k⟩
structure RPk (w : World) (p : Pkv) (P : Pa) : Prop where
 sc : p.kind = P.kind /\ p.dup = P.dup /\ p.qos = P.qos /\ p.retain = P.retain /\ p.topic = P.topic /\ p.id = P.id /\ p.payload = P.payload /\ p.client = P.client /\ p.clean = P.clean /\ p.keep = P.keep /\ p.code = P.code /\ p.session = P.session
 props : Prp w p.props.val P.props
 wills : Wls w p.wills.val P.wills
 user : Txs w p.user.val P.user
 pass : Txs w p.pass.val P.pass
 subs : Sbs w p.subs.val P.subs
 filters : Txs w p.filters.val P.filters
 codes : Nms w p.codes.val P.codes
theorem RPk.below {w w' : World} {p : Pkv} {P : Pa} (h : RPk w p P) (hb : Below w.heap.size w w') : RPk w' p P :=
 ⟨h.sc,h.props.below hb,h.wills.below hb,h.user.below hb,h.pass.below hb,h.subs.below hb,h.filters.below hb,h.codes.below hb⟩
structure Small (P : Pa) : Prop where
 props : P.props.length <= 1000000000
 wills : P.wills.length <= 1000000000
 subs : P.subs.length <= 1000000000
theorem eqpk_same (p q : Pkv) (P : Pa) (w : World) (hp : RPk w p P) (hq : RPk w q P) (hs : Small P) :
  Calls Tryz.prog 12 #[p.val,q.val] w fun e w' => e = .returned (.bool true) /\ Below w.heap.size w w' := by
 obtain ⟨x0,x1,x2,x3,x4,x5,x6,x7,x8,x9,x10,x11⟩ := hp.sc
 obtain ⟨y0,y1,y2,y3,y4,y5,y6,y7,y8,y9,y10,y11⟩ := hq.sc
 exact eqpk_yes _ _ _ _ _ _ _ _ _ _ _ _ _ _ _ _ _ _ _ _ _ _ _ _ _ _ _ _ _ _ _ _ _ _ _ _ _ _ w
  (by rw [x0,y0]; simp) (by rw [x1,y1]; simp) (by rw [x2,y2]; simp) (by rw [x3,y3]; simp) (by rw [x4,y4]; simp) (by rw [x5,y5]; simp) (by rw [x6,y6]; simp)
  (tells_props hp.props hq.props hs.props true (by simp)) (by rw [x7,y7]; simp) (by rw [x8,y8]; simp) (by rw [x9,y9]; simp) (tells_wills hp.wills hq.wills hs.wills true (by simp))
  (tells_strs hp.user hq.user true (by simp)) (tells_strs hp.pass hq.pass true (by simp)) (by rw [x10,y10]; simp) (by rw [x11,y11]; simp) (tells_subs hp.subs hq.subs hs.subs true (by simp)) (tells_strs hp.filters hq.filters true (by simp)) (tells_nums hp.codes hq.codes true (by simp))
theorem scs_get2 (d : List Sb) : ∀ (i : Nat) (u : Sb),d[i]? = some u -> ∀ j,j < 5 -> (scs d)[i * 5 + j]? = u.cells[j]? := by
 induction d with
 | nil => intro i u h; simp at h
 | cons v us ih =>
  intro i u h j hj
  cases i with
  | zero =>
   simp at h
   subst h
   unfold scs
   rw [List.flatMap_cons,Nat.zero_mul,Nat.zero_add,List.getElem?_append_left (by simp [Sb.cells]; omega)]
  | succ i =>
   simp at h
   have := ih i u h j hj
   unfold scs at *
   rw [List.flatMap_cons,List.getElem?_append_right (by simp [Sb.cells]; omega),<- this]
   congr 1
   simp [Sb.cells]
   omega
theorem row_form2 {w : World} {B : Nat} {e : TypeId} {s : Nat} {v : Value} {n : Nat} {xs : List Value} (h : w.ownsRow B e s v n xs) : ∃ ao cap,v = .slice ao n cap /\ (n <= cap /\ cap <= maxLen) /\ (n = 0 \/ ∃ b,ao = some ⟨b,0,none⟩ /\ ∀ j,j < n * s -> w.cell? ⟨b,j,none⟩ = xs[j]?) := by
 have hl := h.1
 rcases h.2 with ⟨rfl,rfl⟩ | ⟨g,cap,cur,rfl,hB,hg,h1,h2,h3,h4⟩
 ·exact ⟨none,0,rfl,⟨Nat.le_refl _,by simp⟩,.inl rfl⟩
 ·exact ⟨_,cap,rfl,⟨h1,h2⟩,.inr ⟨g,rfl,fun j hj => h.cellAt j hj⟩⟩
theorem sbs_own {w : World} {B : Nat} {e : TypeId} {v : Value} {l : List Sb} (h : w.ownsRow B e 5 v l.length (scs l)) : Sbs w v l := by
 obtain ⟨ao,cap,rfl,hc,h0 | ⟨b,rfl,hcell⟩⟩ := row_form2 h
 ·exact ⟨ao,cap,rfl,hc,.inl (List.length_eq_zero_iff.1 h0)⟩
 ·refine ⟨_,cap,rfl,hc,.inr ⟨b,0,rfl,fun k hk => ?_⟩⟩
  have hu : l[k]? = some (l.getD k sb0) := by rw [List.getD_eq_getElem?_getD,List.getElem?_eq_getElem hk]; rfl
  have key : ∀ j,j < 5 -> w.cell? ⟨b,k * 5 + j,none⟩ = (l.getD k sb0).cells[j]? := fun j hj => (hcell (k * 5 + j) (by omega)).trans (scs_get2 l k _ hu j hj)
  simp only [Nat.zero_add]
  exact ⟨key 0 (by omega),key 1 (by omega),key 2 (by omega),key 3 (by omega),key 4 (by omega)⟩
theorem take_snocD {α : Type} (l : List α) (d : α) (k : Nat) (h : k < l.length) : l.take (k + 1) = l.take k ++ [l.getD k d] := by
 rw [List.take_succ_eq_append_getElem h,List.getD_eq_getElem?_getD,List.getElem?_eq_getElem h]; rfl
theorem cell5 (w : World) (a b c d e : Value) (t : TypeId) : ∀ j u,[a,b,c,d,e][j]? = some u -> (w.alloc (.cells #[a,b,c,d,e] t)).cell? ((⟨w.heap.size,0,none⟩ : Addr).add j) = some u := by
 intro j u hj
 match j,hj with
 | 0,hj => simp at hj; subst hj; simp [Addr.add]
 | 1,hj => simp at hj; subst hj; simp [Addr.add]
 | 2,hj => simp at hj; subst hj; simp [Addr.add]
 | 3,hj => simp at hj; subst hj; simp [Addr.add]
 | 4,hj => simp at hj; subst hj; simp [Addr.add]
theorem one5 (f : ByteArray) (q : Int) (n a : Bool) (h : Int) : ∀ u ∈ [Value.string f,.int .i64 q,.bool n,.bool a,.int .i64 h],u.oneCell' = true := by
 intro u hu; simp at hu; rcases hu with rfl | rfl | rfl | rfl | rfl <;> rfl
theorem infoN : (Tryz.prog.info? 3).map (fun i => (i.zero,i.size,i.bytes)) = some (some (.int .i64 0),1,8) := by kernel_rfl
theorem infoS : (Tryz.prog.info? 9).map (fun i => (i.zero,i.size,i.bytes)) = some (some (.string ⟨#[]⟩),1,16) := by kernel_rfl
theorem infoB : (Tryz.prog.info? 54).map (fun i => (i.zero,i.size,i.bytes)) = some (some (.agg #[.string ⟨#[]⟩,.int .i64 0,.bool false,.bool false,.int .i64 0]),5,40) := by kernel_rfl
theorem cpn_core (b off cap : Nat) (l : List Int) (len : Nat) (w : World) (hlen : l.length = len) (hmx : len <= 2932031007317) (hl : ∀ j,j < l.length -> w.cell? ⟨b,off + j,none⟩ = some (.int .i64 (l.getD j 0))) :
  Calls Tryz.prog 21 #[.slice (some ⟨b,off,none⟩) len cap] w fun e w' => ∃ v,e = .returned v /\ Hid (w'.ownsRow w.heap.size 3 1 v len (l.map (Value.int .i64))) /\ Below w.heap.size w w' := by
 obtain ⟨i0,hi,hz0,hz1,hz2⟩ := info_parts infoN
 have HL := zh hl
 have HLEN := zh hlen
 clear hl hlen
 go_enter Tryz.func21,Tryz.ntmps21
 go_wp2
 go_loopw [3,4] (fun v i wr => ∃ k : Nat,k <= len /\ i = .int .i64 k /\ Hid (wr.ownsRow w.heap.size 3 1 v k ((l.take k).map (Value.int .i64))) /\ Below w.heap.size w wr) (fun _ i _ => len - (intOf i).toNat)
 case atStart => exact ⟨0,Nat.zero_le _,rfl,World.ownsRow_nil _ _ _ _,Below.refl _ _⟩
 case round =>
  obtain ⟨k,hk,rfl,HOWN,hbel⟩ := hrel
  by_cases hlt : k < len
  ·have HLTk : Hid (k < l.length) := by show _ < _; rw [uh HLEN]; exact hlt
   have hat := (uh HL) k (uh HLTk)
   have HPS : Hid ((l.take (k + 1)).map (Value.int .i64) = (l.take k).map (Value.int .i64) ++ [.int .i64 (l.getD k 0)]) := by show _ = _; rw [take_snocD l 0 k (uh HLTk)]; rw [List.map_append]; rfl
   have hc1 := (hbel.cell (p := ⟨b,off + k,none⟩) (cell_lt hat)).trans hat
   generalize l.getD k 0 = x at hc1 HPS hat
   have HBEL := zh hbel
   have hsz := hbel.size
   clear hat hbel
   go_wp2_with (first
    | (at_builtin; refine wpList_append_own _ rfl _ _ 28 rfl w.heap.size 3 i0 _ 1 8 Tryz.underlying28 hi hz0 hz1 hz2 rfl (by decide) _ _ _ rfl ((uh HOWN).alloc _) ⟨wr.heap.size,0,none⟩ 1 1 [.int .i64 x] rfl rfl (one_cell _ _ _) (fun u hu => by simp at hu; subst hu; rfl) (by unfold maxLen; omega) (by omega) (by simp; omega) ?_)
    | go_in)
   intro v' w1 hown' hgrow _
   have HB1 : Hid (Below w.heap.size w w1) := ((uh HBEL).alloc hsz _).grown hgrow (by simp; omega) (fun k hk => ((uh HOWN).lt k hk).1)
   have HO1 : Hid (w1.ownsRow w.heap.size 3 1 v' (k + 1) ((l.take (k + 1)).map (Value.int .i64))) := by show World.ownsRow _ _ _ _ _ _ _; rw [uh HPS]; first | exact hown' | (rw [List.map_take]; exact hown')
   clear hgrow hown'
   go_wp2
   go_roundw
   case rel => exact ⟨k + 1,by omega,by go_num,HO1,uh HB1⟩
   case measure => simp [intOf]; omega
  ·obtain rfl : k = len := by omega
   have HO1 : Hid (wr.ownsRow w.heap.size 3 1 u3 k (l.map (Value.int .i64))) := by
    show World.ownsRow _ _ _ _ _ _ _
    have := uh HOWN
    rw [List.take_of_length_le (Nat.le_of_eq (uh HLEN))] at this
    exact this
   go_wp2
   go_ret
   exact ⟨_,rfl,HO1,hbel⟩
theorem cpn_nil (ao : Option Addr) (cap : Nat) (w : World) : Calls Tryz.prog 21 #[.slice ao 0 cap] w fun e w' => e = .returned (.slice none 0 0) /\ w' = w := by
 go_enter Tryz.func21,Tryz.ntmps21
 go_wp2
 refine wp_loop_rounds 1 ?_
 rw [rounds_succ]
 go_wp2
 go_ret
 exact ⟨rfl,rfl⟩
theorem cps_core (b off cap : Nat) (l : List ByteArray) (len : Nat) (w : World) (hlen : l.length = len) (hmx : len <= 2932031007317) (hl : ∀ j,j < l.length -> w.cell? ⟨b,off + j,none⟩ = some (.string (l.getD j ⟨#[]⟩))) :
  Calls Tryz.prog 19 #[.slice (some ⟨b,off,none⟩) len cap] w fun e w' => ∃ v,e = .returned v /\ Hid (w'.ownsRow w.heap.size 9 1 v len (l.map Value.string)) /\ Below w.heap.size w w' := by
 obtain ⟨i0,hi,hz0,hz1,hz2⟩ := info_parts infoS
 have HL := zh hl
 have HLEN := zh hlen
 clear hl hlen
 go_enter Tryz.func19,Tryz.ntmps19
 go_wp2
 go_loopw [3,4] (fun v i wr => ∃ k : Nat,k <= len /\ i = .int .i64 k /\ Hid (wr.ownsRow w.heap.size 9 1 v k ((l.take k).map Value.string)) /\ Below w.heap.size w wr) (fun _ i _ => len - (intOf i).toNat)
 case atStart => exact ⟨0,Nat.zero_le _,rfl,World.ownsRow_nil _ _ _ _,Below.refl _ _⟩
 case round =>
  obtain ⟨k,hk,rfl,HOWN,hbel⟩ := hrel
  by_cases hlt : k < len
  ·have HLTk : Hid (k < l.length) := by show _ < _; rw [uh HLEN]; exact hlt
   have hat := (uh HL) k (uh HLTk)
   have HPS : Hid ((l.take (k + 1)).map Value.string = (l.take k).map Value.string ++ [.string (l.getD k ⟨#[]⟩)]) := by show _ = _; rw [take_snocD l ⟨#[]⟩ k (uh HLTk)]; rw [List.map_append]; rfl
   have hc1 := (hbel.cell (p := ⟨b,off + k,none⟩) (cell_lt hat)).trans hat
   generalize l.getD k ⟨#[]⟩ = x at hc1 HPS hat
   have HBEL := zh hbel
   have hsz := hbel.size
   clear hat hbel
   go_wp2_with (first
    | (at_builtin; refine wpList_append_own _ rfl _ _ 26 rfl w.heap.size 9 i0 _ 1 16 Tryz.underlying26 hi hz0 hz1 hz2 rfl (by decide) _ _ _ rfl ((uh HOWN).alloc _) ⟨wr.heap.size,0,none⟩ 1 1 [.string x] rfl rfl (one_cell _ _ _) (fun u hu => by simp at hu; subst hu; rfl) (by unfold maxLen; omega) (by omega) (by simp; omega) ?_)
    | go_in)
   intro v' w1 hown' hgrow _
   have HB1 : Hid (Below w.heap.size w w1) := ((uh HBEL).alloc hsz _).grown hgrow (by simp; omega) (fun k hk => ((uh HOWN).lt k hk).1)
   have HO1 : Hid (w1.ownsRow w.heap.size 9 1 v' (k + 1) ((l.take (k + 1)).map Value.string)) := by show World.ownsRow _ _ _ _ _ _ _; rw [uh HPS]; first | exact hown' | (rw [List.map_take]; exact hown')
   clear hgrow hown'
   go_wp2
   go_roundw
   case rel => exact ⟨k + 1,by omega,by go_num,HO1,uh HB1⟩
   case measure => simp [intOf]; omega
  ·obtain rfl : k = len := by omega
   have HO1 : Hid (wr.ownsRow w.heap.size 9 1 u3 k (l.map Value.string)) := by
    show World.ownsRow _ _ _ _ _ _ _
    have := uh HOWN
    rw [List.take_of_length_le (Nat.le_of_eq (uh HLEN))] at this
    exact this
   go_wp2
   go_ret
   exact ⟨_,rfl,HO1,hbel⟩
theorem cps_nil (ao : Option Addr) (cap : Nat) (w : World) : Calls Tryz.prog 19 #[.slice ao 0 cap] w fun e w' => e = .returned (.slice none 0 0) /\ w' = w := by
 go_enter Tryz.func19,Tryz.ntmps19
 go_wp2
 refine wp_loop_rounds 1 ?_
 rw [rounds_succ]
 go_wp2
 go_ret
 exact ⟨rfl,rfl⟩
theorem cpb_core (b off cap : Nat) (l : List Sb) (len : Nat) (w : World) (hlen : l.length = len) (hmx : len <= 2932031007317) (hl : SbAt w b off l) :
  Calls Tryz.prog 20 #[.slice (some ⟨b,off,none⟩) len cap] w fun e w' => ∃ v,e = .returned v /\ Hid (w'.ownsRow w.heap.size 54 5 v len (scs l)) /\ Below w.heap.size w w' := by
 obtain ⟨i0,hi,hz0,hz1,hz2⟩ := info_parts infoB
 have HL := zh hl
 have HLEN := zh hlen
 clear hl hlen
 go_enter Tryz.func20,Tryz.ntmps20
 go_wp2
 go_loopw [3,4] (fun v i wr => ∃ k : Nat,k <= len /\ i = .int .i64 k /\ Hid (wr.ownsRow w.heap.size 54 5 v k (scs (l.take k))) /\ Below w.heap.size w wr) (fun _ i _ => len - (intOf i).toNat)
 case atStart => exact ⟨0,Nat.zero_le _,rfl,World.ownsRow_nil _ _ _ _,Below.refl _ _⟩
 case round =>
  obtain ⟨k,hk,rfl,HOWN,hbel⟩ := hrel
  by_cases hlt : k < len
  ·have HLTk : Hid (k < l.length) := by show _ < _; rw [uh HLEN]; exact hlt
   have hat := (uh HL) k (uh HLTk)
   have HPS : Hid (scs (l.take (k + 1)) = scs (l.take k) ++ (l.getD k sb0).cells) := by show _ = _; rw [take_snocD l sb0 k (uh HLTk)]; unfold scs; rw [List.flatMap_append]; simp
   obtain ⟨d0,d1,d2,d3,d4⟩ := hat
   have hbl : b < w.heap.size := cell_lt d0
   have e0 := (hbel.cell hbl).trans d0
   have e1 := (hbel.cell hbl).trans d1
   have e2 := (hbel.cell hbl).trans d2
   have e3 := (hbel.cell hbl).trans d3
   have e4 := (hbel.cell hbl).trans d4
   clear d0 d1 d2 d3 d4
   obtain ⟨f,q,n,a,h,hp⟩ : ∃ f q n a h,l.getD k sb0 = ⟨f,q,n,a,h⟩ := ⟨_,_,_,_,_,rfl⟩
   rw [hp] at e0 e1 e2 e3 e4 HPS
   simp only at e0 e1 e2 e3 e4
   clear hp
   have HBEL := zh hbel
   have hsz := hbel.size
   clear hbel
   go_wp2_with (first
    | (at_builtin; refine wpList_append_own _ rfl _ _ 27 rfl w.heap.size 54 i0 _ 5 40 Tryz.underlying27 hi hz0 hz1 hz2 rfl (by decide) _ _ _ rfl ((uh HOWN).alloc _) ⟨wr.heap.size,0,none⟩ 1 1 [.string f,.int .i64 q,.bool n,.bool a,.int .i64 h] rfl rfl (cell5 _ _ _ _ _ _ _) (one5 _ _ _ _ _) (by unfold maxLen; omega) (by omega) (by simp; omega) ?_)
    | go_in)
   intro v' w1 hown' hgrow _
   have HB1 : Hid (Below w.heap.size w w1) := ((uh HBEL).alloc hsz _).grown hgrow (by simp; omega) (fun k hk => ((uh HOWN).lt k hk).1)
   have HO1 : Hid (w1.ownsRow w.heap.size 54 5 v' (k + 1) (scs (l.take (k + 1)))) := by show World.ownsRow _ _ _ _ _ _ _; rw [uh HPS]; first | exact hown' | (rw [List.map_take]; exact hown')
   clear hgrow hown'
   go_wp2
   go_roundw
   case rel => exact ⟨k + 1,by omega,by go_num,HO1,uh HB1⟩
   case measure => simp [intOf]; omega
  ·obtain rfl : k = len := by omega
   have HO1 : Hid (wr.ownsRow w.heap.size 54 5 u3 k (scs l)) := by
    show World.ownsRow _ _ _ _ _ _ _
    have := uh HOWN
    rw [List.take_of_length_le (Nat.le_of_eq (uh HLEN))] at this
    exact this
   go_wp2
   go_ret
   exact ⟨_,rfl,HO1,hbel⟩
theorem cpb_nil (ao : Option Addr) (cap : Nat) (w : World) : Calls Tryz.prog 20 #[.slice ao 0 cap] w fun e w' => e = .returned (.slice none 0 0) /\ w' = w := by
 go_enter Tryz.func20,Tryz.ntmps20
 go_wp2
 refine wp_loop_rounds 1 ?_
 rw [rounds_succ]
 go_wp2
 go_ret
 exact ⟨rfl,rfl⟩
theorem eqpk_any (p q : Pkv) (P Q : Pa) (w : World) (hp : RPk w p P) (hq : RPk w q Q) (hs : Small P) :
  Calls Tryz.prog 12 #[p.val,q.val] w fun e w' => (∃ b,e = .returned (.bool b) /\ (b = true ↔ P = Q)) /\ Below w.heap.size w w' := by
 obtain ⟨x0,x1,x2,x3,x4,x5,x6,x7,x8,x9,x10,x11⟩ := hp.sc
 obtain ⟨y0,y1,y2,y3,y4,y5,y6,y7,y8,y9,y10,y11⟩ := hq.sc
 rcases Classical.em (P.kind ≠ Q.kind) with e0 | e0
 ·exact (eqpk_no0 _ _ _ _ _ _ _ _ _ _ _ _ _ _ _ _ _ _ _ _ _ _ _ _ _ _ _ _ _ _ _ _ _ _ _ _ _ _ w (by rw [x0,y0]; exact beq_false_of_ne e0)).mono fun e w' ⟨he,hb⟩ => ⟨⟨false,he,⟨fun k => (by cases k),fun k => absurd (by rw [k]) e0⟩⟩,hb⟩
 have e0 := Classical.not_not.1 e0
 rcases Classical.em (P.dup ≠ Q.dup) with e1 | e1
 ·exact (eqpk_no1 _ _ _ _ _ _ _ _ _ _ _ _ _ _ _ _ _ _ _ _ _ _ _ _ _ _ _ _ _ _ _ _ _ _ _ _ _ _ w (by rw [x0,y0,e0]; simp) (by rw [x1,y1]; exact beq_false_of_ne e1)).mono fun e w' ⟨he,hb⟩ => ⟨⟨false,he,⟨fun k => (by cases k),fun k => absurd (by rw [k]) e1⟩⟩,hb⟩
 have e1 := Classical.not_not.1 e1
 rcases Classical.em (P.qos ≠ Q.qos) with e2 | e2
 ·exact (eqpk_no2 _ _ _ _ _ _ _ _ _ _ _ _ _ _ _ _ _ _ _ _ _ _ _ _ _ _ _ _ _ _ _ _ _ _ _ _ _ _ w (by rw [x0,y0,e0]; simp) (by rw [x1,y1,e1]; simp) (by rw [x2,y2]; exact beq_false_of_ne e2)).mono fun e w' ⟨he,hb⟩ => ⟨⟨false,he,⟨fun k => (by cases k),fun k => absurd (by rw [k]) e2⟩⟩,hb⟩
 have e2 := Classical.not_not.1 e2
 rcases Classical.em (P.retain ≠ Q.retain) with e3 | e3
 ·exact (eqpk_no3 _ _ _ _ _ _ _ _ _ _ _ _ _ _ _ _ _ _ _ _ _ _ _ _ _ _ _ _ _ _ _ _ _ _ _ _ _ _ w (by rw [x0,y0,e0]; simp) (by rw [x1,y1,e1]; simp) (by rw [x2,y2,e2]; simp) (by rw [x3,y3]; exact beq_false_of_ne e3)).mono fun e w' ⟨he,hb⟩ => ⟨⟨false,he,⟨fun k => (by cases k),fun k => absurd (by rw [k]) e3⟩⟩,hb⟩
 have e3 := Classical.not_not.1 e3
 rcases Classical.em (P.topic ≠ Q.topic) with e4 | e4
 ·exact (eqpk_no4 _ _ _ _ _ _ _ _ _ _ _ _ _ _ _ _ _ _ _ _ _ _ _ _ _ _ _ _ _ _ _ _ _ _ _ _ _ _ w (by rw [x0,y0,e0]; simp) (by rw [x1,y1,e1]; simp) (by rw [x2,y2,e2]; simp) (by rw [x3,y3,e3]; simp) (by rw [x4,y4]; exact beq_false_of_ne (fun k => e4 (text_ext k)))).mono fun e w' ⟨he,hb⟩ => ⟨⟨false,he,⟨fun k => (by cases k),fun k => absurd (by rw [k]) e4⟩⟩,hb⟩
 have e4 := Classical.not_not.1 e4
 rcases Classical.em (P.id ≠ Q.id) with e5 | e5
 ·exact (eqpk_no5 _ _ _ _ _ _ _ _ _ _ _ _ _ _ _ _ _ _ _ _ _ _ _ _ _ _ _ _ _ _ _ _ _ _ _ _ _ _ w (by rw [x0,y0,e0]; simp) (by rw [x1,y1,e1]; simp) (by rw [x2,y2,e2]; simp) (by rw [x3,y3,e3]; simp) (by rw [x4,y4,e4]; simp) (by rw [x5,y5]; exact beq_false_of_ne e5)).mono fun e w' ⟨he,hb⟩ => ⟨⟨false,he,⟨fun k => (by cases k),fun k => absurd (by rw [k]) e5⟩⟩,hb⟩
 have e5 := Classical.not_not.1 e5
 rcases Classical.em (P.payload ≠ Q.payload) with e6 | e6
 ·exact (eqpk_no6 _ _ _ _ _ _ _ _ _ _ _ _ _ _ _ _ _ _ _ _ _ _ _ _ _ _ _ _ _ _ _ _ _ _ _ _ _ _ w (by rw [x0,y0,e0]; simp) (by rw [x1,y1,e1]; simp) (by rw [x2,y2,e2]; simp) (by rw [x3,y3,e3]; simp) (by rw [x4,y4,e4]; simp) (by rw [x5,y5,e5]; simp) (by rw [x6,y6]; exact beq_false_of_ne (fun k => e6 (text_ext k)))).mono fun e w' ⟨he,hb⟩ => ⟨⟨false,he,⟨fun k => (by cases k),fun k => absurd (by rw [k]) e6⟩⟩,hb⟩
 have e6 := Classical.not_not.1 e6
 rcases Classical.em (P.props ≠ Q.props) with e7 | e7
 ·exact (eqpk_no7 _ _ _ _ _ _ _ _ _ _ _ _ _ _ _ _ _ _ _ _ _ _ _ _ _ _ _ _ _ _ _ _ _ _ _ _ _ _ w (by rw [x0,y0,e0]; simp) (by rw [x1,y1,e1]; simp) (by rw [x2,y2,e2]; simp) (by rw [x3,y3,e3]; simp) (by rw [x4,y4,e4]; simp) (by rw [x5,y5,e5]; simp) (by rw [x6,y6,e6]; simp) (tells_props hp.props hq.props hs.props false ⟨fun k => (by cases k),fun k => absurd k e7⟩)).mono fun e w' ⟨he,hb⟩ => ⟨⟨false,he,⟨fun k => (by cases k),fun k => absurd (by rw [k]) e7⟩⟩,hb⟩
 have e7 := Classical.not_not.1 e7
 rcases Classical.em (P.client ≠ Q.client) with e8 | e8
 ·exact (eqpk_no8 _ _ _ _ _ _ _ _ _ _ _ _ _ _ _ _ _ _ _ _ _ _ _ _ _ _ _ _ _ _ _ _ _ _ _ _ _ _ w (by rw [x0,y0,e0]; simp) (by rw [x1,y1,e1]; simp) (by rw [x2,y2,e2]; simp) (by rw [x3,y3,e3]; simp) (by rw [x4,y4,e4]; simp) (by rw [x5,y5,e5]; simp) (by rw [x6,y6,e6]; simp) (tells_props hp.props hq.props hs.props true ⟨fun _ => e7,fun _ => rfl⟩) (by rw [x7,y7]; exact beq_false_of_ne (fun k => e8 (text_ext k)))).mono fun e w' ⟨he,hb⟩ => ⟨⟨false,he,⟨fun k => (by cases k),fun k => absurd (by rw [k]) e8⟩⟩,hb⟩
 have e8 := Classical.not_not.1 e8
 rcases Classical.em (P.clean ≠ Q.clean) with e9 | e9
 ·exact (eqpk_no9 _ _ _ _ _ _ _ _ _ _ _ _ _ _ _ _ _ _ _ _ _ _ _ _ _ _ _ _ _ _ _ _ _ _ _ _ _ _ w (by rw [x0,y0,e0]; simp) (by rw [x1,y1,e1]; simp) (by rw [x2,y2,e2]; simp) (by rw [x3,y3,e3]; simp) (by rw [x4,y4,e4]; simp) (by rw [x5,y5,e5]; simp) (by rw [x6,y6,e6]; simp) (tells_props hp.props hq.props hs.props true ⟨fun _ => e7,fun _ => rfl⟩) (by rw [x7,y7,e8]; simp) (by rw [x8,y8]; exact beq_false_of_ne e9)).mono fun e w' ⟨he,hb⟩ => ⟨⟨false,he,⟨fun k => (by cases k),fun k => absurd (by rw [k]) e9⟩⟩,hb⟩
 have e9 := Classical.not_not.1 e9
 rcases Classical.em (P.keep ≠ Q.keep) with e10 | e10
 ·exact (eqpk_no10 _ _ _ _ _ _ _ _ _ _ _ _ _ _ _ _ _ _ _ _ _ _ _ _ _ _ _ _ _ _ _ _ _ _ _ _ _ _ w (by rw [x0,y0,e0]; simp) (by rw [x1,y1,e1]; simp) (by rw [x2,y2,e2]; simp) (by rw [x3,y3,e3]; simp) (by rw [x4,y4,e4]; simp) (by rw [x5,y5,e5]; simp) (by rw [x6,y6,e6]; simp) (tells_props hp.props hq.props hs.props true ⟨fun _ => e7,fun _ => rfl⟩) (by rw [x7,y7,e8]; simp) (by rw [x8,y8,e9]; simp) (by rw [x9,y9]; exact beq_false_of_ne e10)).mono fun e w' ⟨he,hb⟩ => ⟨⟨false,he,⟨fun k => (by cases k),fun k => absurd (by rw [k]) e10⟩⟩,hb⟩
 have e10 := Classical.not_not.1 e10
 rcases Classical.em (P.wills ≠ Q.wills) with e11 | e11
 ·exact (eqpk_no11 _ _ _ _ _ _ _ _ _ _ _ _ _ _ _ _ _ _ _ _ _ _ _ _ _ _ _ _ _ _ _ _ _ _ _ _ _ _ w (by rw [x0,y0,e0]; simp) (by rw [x1,y1,e1]; simp) (by rw [x2,y2,e2]; simp) (by rw [x3,y3,e3]; simp) (by rw [x4,y4,e4]; simp) (by rw [x5,y5,e5]; simp) (by rw [x6,y6,e6]; simp) (tells_props hp.props hq.props hs.props true ⟨fun _ => e7,fun _ => rfl⟩) (by rw [x7,y7,e8]; simp) (by rw [x8,y8,e9]; simp) (by rw [x9,y9,e10]; simp) (tells_wills hp.wills hq.wills hs.wills false ⟨fun k => (by cases k),fun k => absurd k e11⟩)).mono fun e w' ⟨he,hb⟩ => ⟨⟨false,he,⟨fun k => (by cases k),fun k => absurd (by rw [k]) e11⟩⟩,hb⟩
 have e11 := Classical.not_not.1 e11
 rcases Classical.em (P.user ≠ Q.user) with e12 | e12
 ·exact (eqpk_no12 _ _ _ _ _ _ _ _ _ _ _ _ _ _ _ _ _ _ _ _ _ _ _ _ _ _ _ _ _ _ _ _ _ _ _ _ _ _ w (by rw [x0,y0,e0]; simp) (by rw [x1,y1,e1]; simp) (by rw [x2,y2,e2]; simp) (by rw [x3,y3,e3]; simp) (by rw [x4,y4,e4]; simp) (by rw [x5,y5,e5]; simp) (by rw [x6,y6,e6]; simp) (tells_props hp.props hq.props hs.props true ⟨fun _ => e7,fun _ => rfl⟩) (by rw [x7,y7,e8]; simp) (by rw [x8,y8,e9]; simp) (by rw [x9,y9,e10]; simp) (tells_wills hp.wills hq.wills hs.wills true ⟨fun _ => e11,fun _ => rfl⟩) (tells_strs hp.user hq.user false ⟨fun k => (by cases k),fun k => absurd k e12⟩)).mono fun e w' ⟨he,hb⟩ => ⟨⟨false,he,⟨fun k => (by cases k),fun k => absurd (by rw [k]) e12⟩⟩,hb⟩
 have e12 := Classical.not_not.1 e12
 rcases Classical.em (P.pass ≠ Q.pass) with e13 | e13
 ·exact (eqpk_no13 _ _ _ _ _ _ _ _ _ _ _ _ _ _ _ _ _ _ _ _ _ _ _ _ _ _ _ _ _ _ _ _ _ _ _ _ _ _ w (by rw [x0,y0,e0]; simp) (by rw [x1,y1,e1]; simp) (by rw [x2,y2,e2]; simp) (by rw [x3,y3,e3]; simp) (by rw [x4,y4,e4]; simp) (by rw [x5,y5,e5]; simp) (by rw [x6,y6,e6]; simp) (tells_props hp.props hq.props hs.props true ⟨fun _ => e7,fun _ => rfl⟩) (by rw [x7,y7,e8]; simp) (by rw [x8,y8,e9]; simp) (by rw [x9,y9,e10]; simp) (tells_wills hp.wills hq.wills hs.wills true ⟨fun _ => e11,fun _ => rfl⟩) (tells_strs hp.user hq.user true ⟨fun _ => e12,fun _ => rfl⟩) (tells_strs hp.pass hq.pass false ⟨fun k => (by cases k),fun k => absurd k e13⟩)).mono fun e w' ⟨he,hb⟩ => ⟨⟨false,he,⟨fun k => (by cases k),fun k => absurd (by rw [k]) e13⟩⟩,hb⟩
 have e13 := Classical.not_not.1 e13
 rcases Classical.em (P.code ≠ Q.code) with e14 | e14
 ·exact (eqpk_no14 _ _ _ _ _ _ _ _ _ _ _ _ _ _ _ _ _ _ _ _ _ _ _ _ _ _ _ _ _ _ _ _ _ _ _ _ _ _ w (by rw [x0,y0,e0]; simp) (by rw [x1,y1,e1]; simp) (by rw [x2,y2,e2]; simp) (by rw [x3,y3,e3]; simp) (by rw [x4,y4,e4]; simp) (by rw [x5,y5,e5]; simp) (by rw [x6,y6,e6]; simp) (tells_props hp.props hq.props hs.props true ⟨fun _ => e7,fun _ => rfl⟩) (by rw [x7,y7,e8]; simp) (by rw [x8,y8,e9]; simp) (by rw [x9,y9,e10]; simp) (tells_wills hp.wills hq.wills hs.wills true ⟨fun _ => e11,fun _ => rfl⟩) (tells_strs hp.user hq.user true ⟨fun _ => e12,fun _ => rfl⟩) (tells_strs hp.pass hq.pass true ⟨fun _ => e13,fun _ => rfl⟩) (by rw [x10,y10]; exact beq_false_of_ne e14)).mono fun e w' ⟨he,hb⟩ => ⟨⟨false,he,⟨fun k => (by cases k),fun k => absurd (by rw [k]) e14⟩⟩,hb⟩
 have e14 := Classical.not_not.1 e14
 rcases Classical.em (P.session ≠ Q.session) with e15 | e15
 ·exact (eqpk_no15 _ _ _ _ _ _ _ _ _ _ _ _ _ _ _ _ _ _ _ _ _ _ _ _ _ _ _ _ _ _ _ _ _ _ _ _ _ _ w (by rw [x0,y0,e0]; simp) (by rw [x1,y1,e1]; simp) (by rw [x2,y2,e2]; simp) (by rw [x3,y3,e3]; simp) (by rw [x4,y4,e4]; simp) (by rw [x5,y5,e5]; simp) (by rw [x6,y6,e6]; simp) (tells_props hp.props hq.props hs.props true ⟨fun _ => e7,fun _ => rfl⟩) (by rw [x7,y7,e8]; simp) (by rw [x8,y8,e9]; simp) (by rw [x9,y9,e10]; simp) (tells_wills hp.wills hq.wills hs.wills true ⟨fun _ => e11,fun _ => rfl⟩) (tells_strs hp.user hq.user true ⟨fun _ => e12,fun _ => rfl⟩) (tells_strs hp.pass hq.pass true ⟨fun _ => e13,fun _ => rfl⟩) (by rw [x10,y10,e14]; simp) (by rw [x11,y11]; exact beq_false_of_ne e15)).mono fun e w' ⟨he,hb⟩ => ⟨⟨false,he,⟨fun k => (by cases k),fun k => absurd (by rw [k]) e15⟩⟩,hb⟩
 have e15 := Classical.not_not.1 e15
 rcases Classical.em (P.subs ≠ Q.subs) with e16 | e16
 ·exact (eqpk_no16 _ _ _ _ _ _ _ _ _ _ _ _ _ _ _ _ _ _ _ _ _ _ _ _ _ _ _ _ _ _ _ _ _ _ _ _ _ _ w (by rw [x0,y0,e0]; simp) (by rw [x1,y1,e1]; simp) (by rw [x2,y2,e2]; simp) (by rw [x3,y3,e3]; simp) (by rw [x4,y4,e4]; simp) (by rw [x5,y5,e5]; simp) (by rw [x6,y6,e6]; simp) (tells_props hp.props hq.props hs.props true ⟨fun _ => e7,fun _ => rfl⟩) (by rw [x7,y7,e8]; simp) (by rw [x8,y8,e9]; simp) (by rw [x9,y9,e10]; simp) (tells_wills hp.wills hq.wills hs.wills true ⟨fun _ => e11,fun _ => rfl⟩) (tells_strs hp.user hq.user true ⟨fun _ => e12,fun _ => rfl⟩) (tells_strs hp.pass hq.pass true ⟨fun _ => e13,fun _ => rfl⟩) (by rw [x10,y10,e14]; simp) (by rw [x11,y11,e15]; simp) (tells_subs hp.subs hq.subs hs.subs false ⟨fun k => (by cases k),fun k => absurd k e16⟩)).mono fun e w' ⟨he,hb⟩ => ⟨⟨false,he,⟨fun k => (by cases k),fun k => absurd (by rw [k]) e16⟩⟩,hb⟩
 have e16 := Classical.not_not.1 e16
 rcases Classical.em (P.filters ≠ Q.filters) with e17 | e17
 ·exact (eqpk_no17 _ _ _ _ _ _ _ _ _ _ _ _ _ _ _ _ _ _ _ _ _ _ _ _ _ _ _ _ _ _ _ _ _ _ _ _ _ _ w (by rw [x0,y0,e0]; simp) (by rw [x1,y1,e1]; simp) (by rw [x2,y2,e2]; simp) (by rw [x3,y3,e3]; simp) (by rw [x4,y4,e4]; simp) (by rw [x5,y5,e5]; simp) (by rw [x6,y6,e6]; simp) (tells_props hp.props hq.props hs.props true ⟨fun _ => e7,fun _ => rfl⟩) (by rw [x7,y7,e8]; simp) (by rw [x8,y8,e9]; simp) (by rw [x9,y9,e10]; simp) (tells_wills hp.wills hq.wills hs.wills true ⟨fun _ => e11,fun _ => rfl⟩) (tells_strs hp.user hq.user true ⟨fun _ => e12,fun _ => rfl⟩) (tells_strs hp.pass hq.pass true ⟨fun _ => e13,fun _ => rfl⟩) (by rw [x10,y10,e14]; simp) (by rw [x11,y11,e15]; simp) (tells_subs hp.subs hq.subs hs.subs true ⟨fun _ => e16,fun _ => rfl⟩) (tells_strs hp.filters hq.filters false ⟨fun k => (by cases k),fun k => absurd k e17⟩)).mono fun e w' ⟨he,hb⟩ => ⟨⟨false,he,⟨fun k => (by cases k),fun k => absurd (by rw [k]) e17⟩⟩,hb⟩
 have e17 := Classical.not_not.1 e17
 rcases Classical.em (P.codes ≠ Q.codes) with e18 | e18
 ·exact (eqpk_no18 _ _ _ _ _ _ _ _ _ _ _ _ _ _ _ _ _ _ _ _ _ _ _ _ _ _ _ _ _ _ _ _ _ _ _ _ _ _ w (by rw [x0,y0,e0]; simp) (by rw [x1,y1,e1]; simp) (by rw [x2,y2,e2]; simp) (by rw [x3,y3,e3]; simp) (by rw [x4,y4,e4]; simp) (by rw [x5,y5,e5]; simp) (by rw [x6,y6,e6]; simp) (tells_props hp.props hq.props hs.props true ⟨fun _ => e7,fun _ => rfl⟩) (by rw [x7,y7,e8]; simp) (by rw [x8,y8,e9]; simp) (by rw [x9,y9,e10]; simp) (tells_wills hp.wills hq.wills hs.wills true ⟨fun _ => e11,fun _ => rfl⟩) (tells_strs hp.user hq.user true ⟨fun _ => e12,fun _ => rfl⟩) (tells_strs hp.pass hq.pass true ⟨fun _ => e13,fun _ => rfl⟩) (by rw [x10,y10,e14]; simp) (by rw [x11,y11,e15]; simp) (tells_subs hp.subs hq.subs hs.subs true ⟨fun _ => e16,fun _ => rfl⟩) (tells_strs hp.filters hq.filters true ⟨fun _ => e17,fun _ => rfl⟩) (tells_nums hp.codes hq.codes false ⟨fun k => (by cases k),fun k => absurd k e18⟩)).mono fun e w' ⟨he,hb⟩ => ⟨⟨false,he,⟨fun k => (by cases k),fun k => absurd (by rw [k]) e18⟩⟩,hb⟩
 have e18 := Classical.not_not.1 e18
 exact (eqpk_yes _ _ _ _ _ _ _ _ _ _ _ _ _ _ _ _ _ _ _ _ _ _ _ _ _ _ _ _ _ _ _ _ _ _ _ _ _ _ w (by rw [x0,y0,e0]; simp) (by rw [x1,y1,e1]; simp) (by rw [x2,y2,e2]; simp) (by rw [x3,y3,e3]; simp) (by rw [x4,y4,e4]; simp) (by rw [x5,y5,e5]; simp) (by rw [x6,y6,e6]; simp) (tells_props hp.props hq.props hs.props true ⟨fun _ => e7,fun _ => rfl⟩) (by rw [x7,y7,e8]; simp) (by rw [x8,y8,e9]; simp) (by rw [x9,y9,e10]; simp) (tells_wills hp.wills hq.wills hs.wills true ⟨fun _ => e11,fun _ => rfl⟩) (tells_strs hp.user hq.user true ⟨fun _ => e12,fun _ => rfl⟩) (tells_strs hp.pass hq.pass true ⟨fun _ => e13,fun _ => rfl⟩) (by rw [x10,y10,e14]; simp) (by rw [x11,y11,e15]; simp) (tells_subs hp.subs hq.subs hs.subs true ⟨fun _ => e16,fun _ => rfl⟩) (tells_strs hp.filters hq.filters true ⟨fun _ => e17,fun _ => rfl⟩) (tells_nums hp.codes hq.codes true ⟨fun _ => e18,fun _ => rfl⟩)).mono fun e w' ⟨he,hb⟩ => ⟨⟨true,he,⟨fun _ => (by
  obtain ⟨p0,p1,p2,p3,p4,p5,p6,p7,p8,p9,p10,p11,p12,p13,p14,p15,p16,p17,p18⟩ := P
  obtain ⟨q0,q1,q2,q3,q4,q5,q6,q7,q8,q9,q10,q11,q12,q13,q14,q15,q16,q17,q18⟩ := Q
  exact Pa.mk.injEq .. ▸ ⟨e0,e1,e2,e3,e4,e5,e6,e7,e8,e9,e10,e11,e12,e13,e14,e15,e16,e17,e18⟩),fun _ => rfl⟩⟩,hb⟩
end Go.Proofs.YtemedclhglkfjaaGreatDoor.K
