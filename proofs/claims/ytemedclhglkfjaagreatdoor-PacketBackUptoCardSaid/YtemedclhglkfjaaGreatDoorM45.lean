/- Proved here: helpers, one text behind the other. -/
import Derived.Test.YtemedclhglkfjaaGreatDoorM43
import Derived.Test.YtemedclhglkfjaaGreatDoorA2
import Derived.Lib.AppendStr
import Derived.Test.YtemedclhglkfjaaGreatDoorM33
import Derived.Test.YtemedclhglkfjaaGreatDoorZKLoad
import Derived.Test.YtemedclhglkfjaaGreatDoorM26
set_option maxHeartbeats 20000000
namespace Go.Proofs.YtemedclhglkfjaaGreatDoor.K
open Go.RowKit
set_option maxRecDepth 100000
theorem wq_new (w : World) (q : Pkv) : WQ w (w.alloc (.cells (wrc q) 65)) w.heap.size q (some []) 0 := by
 have hfz : ∀ j,(w.alloc (.cells (wrc q) 65)).frozen? ⟨w.heap.size,j,none⟩ = false := fun j => by simp
 refine ⟨bal _ _,Nat.le_refl _,wrc_pk w q,.slice none 0 0,0,[],.nilIface,⟨⟨⟨wrc_cell 19 _ rfl,hfz 19⟩,⟨wrc_cell 20 _ rfl,hfz 20⟩,wrc_cell 21 _ rfl,hfz 21⟩,World.ownsRow_nil _ _ _ _,fun j => by simp⟩,⟨by simp,by simp⟩,Nat.le_refl _,rfl,rfl,fun _ => rfl,.inl rfl⟩
def fb (kind f : Int) : Int := bits .or .i64 (wrap64 (kind * 16)) f % 256
def ebytes (kind f : Int) (l : List Int) : List Int := ([fb kind f] ++ V.put (l.length : Int)) ++ l
theorem ebytes_len (kind f : Int) (l : List Int) : (ebytes kind f l).length = 1 + (V.put (l.length : Int)).length + l.length := by
 unfold ebytes
 rw [List.length_append,List.length_append]
 rfl
theorem byt_grown {w w' : World} {v : Value} {l : List Int} {row : Option Nat} (h : Byt w v l) (hg : w.grownBy w' row) (hr : ∀ b off n cap,v = .slice (some ⟨b,off,none⟩) n cap -> 1 <= n -> row ≠ some b) : Byt w' v l := by
 obtain ⟨ao,cap,h1,h2,h3,h4⟩ := h
 refine ⟨ao,cap,h1,h2,h3,?_⟩
 rcases h4 with h4 | ⟨b,off,e,hc⟩
 ·exact .inl h4
 ·refine .inr ⟨b,off,e,fun j hj => ?_⟩
  subst e
  exact hg.cell (hc j hj) (fun e => hr b off _ cap h1 (by omega) e.symm)
def EncQ (f : Int) (ok : Bool) (kind : Int) (st : Option (List Int)) (w : World) (e : Ending) (w' : World) : Prop := Below w.heap.size w w' /\
 (((ok = false \/ st = none) /\ ∃ x,e = .returned (.tuple #[.slice none 0 0,.iface 112 x]) /\ Hid (ErP w' (.iface 112 x) 1)) \/
  (ok = true /\ ∃ l,st = some l /\ 65536 < (ebytes kind f l).length /\ ∃ x,e = .returned (.tuple #[.slice none 0 0,.iface 112 x]) /\ Hid (ErP w' (.iface 112 x) 2)) \/
  (ok = true /\ ∃ l,st = some l /\ (ebytes kind f l).length <= 65536 /\ ∃ v,e = .returned (.tuple #[v,.nilIface]) /\ Hid (w'.ownsRow w.heap.size 5 1 v (ebytes kind f l).length ((ebytes kind f l).map (Value.int .u8))) /\ Hid (∀ j,0 <= (ebytes kind f l).getD j 0 /\ (ebytes kind f l).getD j 0 <= 255)))
theorem enc_core (q q' : Pkv) (f : Int) (ok : Bool) (st : Option (List Int)) (M : Nat) (w : World) (hM : M <= 4611686018427300000)
  (hfl : ∀ W : World,Calls Tryz.prog 22 #[.agg q.cells.toArray] W fun e w' => e = .returned (.tuple #[.int .i64 f,.bool ok]) /\ Below W.heap.size W w')
  (hpk : ∀ w0 w1 W,Below w.heap.size w w0 -> WQ w0 w1 W q (some []) 0 -> Calls Tryz.prog 24 #[.pointer (some ⟨W,0,none⟩)] w1 (GPost w0 W q' st M)) :
  Calls Tryz.prog 8 #[q.val] w (EncQ f ok q.kind st w) := by
 have HPN := zh (pk_new w q)
 have HBN : Hid (Below w.heap.size w (w.alloc (.cells q.cells.toArray 30))) := bal _ _
 have HFL := zh hfl
 have HPK := zh hpk
 clear hfl hpk
 go_enter Tryz.func8,Tryz.ntmps8
 go_upto_region 1 with fail
 change Code.wp _ _ _ _ (w.alloc (.cells q.cells.toArray 30))
 generalize w.alloc (.cells q.cells.toArray 30) = wa at HPN HBN |-
 go_step
 refine wpList_load_mid rfl 30 _ rfl w.heap.size 0 rfl q.cells _ (uh HPN).range Tryz.underlying30 rfl packet_size ?_
 simp only [Act.put,List.setIfInBounds_toArray,List.set_cons_zero,List.set_cons_succ]
 go_wp2_with fail
 refine ((uh HFL) _).mono ?_
 rintro e w1 ⟨rfl,hb1⟩
 have HP1 := zh ((uh HPN).below hb1)
 have HB1 : Hid (Below w.heap.size w w1) := (uh HBN).trans (hb1.mono (uh HBN).size)
 have hAl : w.heap.size < w1.heap.size := cell_lt (uh HP1).kind
 clear hb1 HPN HBN HFL
 cases ok
 ·go_wp2_with fail
  refine (pf_use 1 _).mono ?_
  rintro e w2 ⟨x,rfl,hE,hb2⟩
  have HB2 : Hid (Below w.heap.size w w2) := (uh HB1).trans (hb2.mono (uh HB1).size)
  clear hb2
  go_wp2
  go_ret2
  exact ⟨uh HB2,.inl ⟨.inl rfl,x,rfl,hE⟩⟩
 ·go_upto_region 4 with fail
  go_step
  refine wpList_load_mid rfl 30 _ rfl w.heap.size 0 rfl q.cells _ (uh HP1).range Tryz.underlying30 rfl packet_size ?_
  simp only [Act.put,List.setIfInBounds_toArray,List.set_cons_zero,List.set_cons_succ]
  refine Go.Proofs.YtemedclhglkfjaaGreatDoor.wpList_value rfl (writer_build _ _ _ _ _ _ q rfl _) ?_
  simp only [Act.put,List.setIfInBounds_toArray,List.set_cons_zero,List.set_cons_succ]
  refine Go.Proofs.YtemedclhglkfjaaGreatDoor.wpList_value rfl (writer_alloc _ _ _ _ _ _) ?_
  simp only [Act.put,List.setIfInBounds_toArray,List.set_cons_zero,List.set_cons_succ]
  refine Go.Proofs.YtemedclhglkfjaaGreatDoor.wpList_skip rfl (writer_store _ _ _ _ _ _ _ q w1 rfl rfl) ?_
  simp only [Act.put]
  have HC := zh ((uh HPK) w1 _ w1.heap.size (uh HB1) (wq_new w1 q))
  have hWl : w1.heap.size < (w1.alloc (.cells (wrc q) 65)).heap.size := by simp
  have HB2 : Hid (Below w.heap.size w (w1.alloc (.cells (wrc q) 65))) := (uh HB1).trans ((bal _ _).mono (uh HB1).size)
  generalize w1.alloc (.cells (wrc q) 65) = w2 at HC hWl HB2 |-
  clear HPK
  go_wp2_with fail
  refine (uh HC).mono ?_
  rintro e w3 ⟨rfl,h1,h2,h3,bv,sz,T,E,h4,h5,h6,h7⟩
  have HP3 : Hid (Pk w3 w.heap.size q) := (uh HP1).below h1
  have HB3 : Hid (Below w.heap.size w w3) := (uh HB1).trans (h1.mono (uh HB1).size)
  have hW3 : w1.heap.size < w3.heap.size := cell_lt h3.kind
  obtain ⟨⟨a1,a2⟩,⟨b1,b2⟩,c1,c2⟩ := h4.wt
  have HWS := zh h4
  clear h1 h2 h3 h4 a2 b2 c2 HC HB2 hWl HP1 HB1
  cases st with
  | none =>
   obtain ⟨d,n,hd,he⟩ := h7
   obtain ⟨t,x,rfl⟩ := he.iface
   have HER := zh he.er
   clear he
   go_wp2_with fail
   refine (pbroken d hd _ n _ (uh HER)).mono ?_
   rintro e w4 ⟨y,rfl,hE,hb4⟩
   have HB4 : Hid (Below w.heap.size w w4) := (uh HB3).trans (hb4.mono (uh HB3).size)
   clear hb4 HER HWS
   go_wp2
   go_ret2
   exact ⟨uh HB4,.inl ⟨.inr rfl,y,rfl,hE⟩⟩
  | some l =>
   obtain ⟨rfl,hsz,hTl⟩ := h7
   have HSZ := zh hsz
   have HTL := zh hTl
   have hsM : sz <= 4611686018427300000 := by omega
   clear hsz hTl h5 h6
   by_cases hv : sz <= 268435455
   ·go_wp2_with fail
    refine (vput_use sz w3 (by omega) (by omega)).mono ?_
    rintro e w4 ⟨v,rfl,hO4,hy4,hb4⟩
    have HB4 : Hid (Below w.heap.size w w4) := (uh HB3).trans (hb4.mono (uh HB3).size)
    have f19 := (hb4.cell (p := ⟨w1.heap.size,19,none⟩) hW3).trans a1
    have f20 := (hb4.cell (p := ⟨w1.heap.size,20,none⟩) hW3).trans b1
    have HP4 := zh ((uh HP3).below hb4)
    have f0 := (uh HP4).kind
    have hW4 : w1.heap.size < w4.heap.size := Nat.lt_of_lt_of_le hW3 hb4.size
    have HWS4 := zh ((uh HWS).below hb4)
    have hpl := V.put_len (sz : Int)
    obtain ⟨vo,vc,rfl,hvc,-⟩ := (uh hy4).form
    generalize hPL : (V.put (sz : Int)).length = pl at *
    have HPL := zh hPL
    clear hb4 HB3 HP3 HWS a1 b1 c1 hPL
    by_cases hbig : 1 + pl + sz <= 65536
    ·have HT : Hid (T = l) := (uh HTL) (by rw [<- uh HSZ]; omega)
     have HO5 : Hid ((w4.alloc (.cells #[.int .u8 (fb q.kind f)] 5)).ownsRow w4.heap.size 5 1 (.slice (some ⟨w4.heap.size,0,none⟩) 1 1) 1 (([fb q.kind f] : List Int).map (Value.int .u8))) :=
      ⟨rfl,.inr ⟨w4.heap.size,1,_,rfl,Nat.le_refl _,heap_alloc_new _ _,Nat.le_refl _,by unfold maxLen; simp,rfl,rfl⟩⟩
     have hfb : bits .or .i64 (wrap64 (q.kind * 16)) f % 256 = fb q.kind f := rfl
     have hfr : 0 <= fb q.kind f /\ fb q.kind f <= 255 := by unfold fb; omega
     generalize fb q.kind f = fz at HO5 hfb hfr
     have HY5 : Hid (Byt (w4.alloc (.cells #[.int .u8 fz] 5)) (.slice vo pl vc) (V.put (sz : Int))) := (uh hy4).below (bal _ _)
     have hR4 := (uh hy4).range
     have HR4 := zh hR4
     have HBR := zh (owns_blk (uh HWS4).row)
     clear hR4 hO4 hy4
     go_wp2_with (first
      | (at_builtin; refine wpList_append_byt _ rfl _ _ rfl w4.heap.size _ 1 [fz] rfl (uh HO5) (.slice vo pl vc) (V.put (sz : Int)) rfl (uh HY5) (by rw [uh HPL]; omega) (by simp) ?_)
      | go_in)
     intro v6 w6 hown6 hgrow6
     have hrow : ∀ g,(Value.slice (some ⟨w4.heap.size,0,none⟩) 1 1).ownBlock = some g -> g = w4.heap.size := fun g hg => by cases hg; rfl
     have g19 : w6.cell? ⟨w1.heap.size,19,none⟩ = some bv := hgrow6.cell ((World.cell?_alloc_lt _ _ ⟨w1.heap.size,19,none⟩ hW4).trans f19) (fun e => by have := hrow _ e.symm; simp at this; omega)
     have HO6 : Hid (w6.ownsRow w4.heap.size 5 1 v6 (1 + (V.put (sz : Int)).length) (([fz] ++ V.put (sz : Int)).map (Value.int .u8))) := by rw [List.map_append]; exact hown6
     have hs6 : w4.heap.size <= w6.heap.size := Nat.le_trans (by simp) hgrow6.size
     have HB6 : Hid (Below w.heap.size w w6) := ((uh HB4).trans ((bal _ _).mono (uh HB4).size)).grown hgrow6 (Nat.le_trans (uh HB4).size (by simp)) (fun g hg => by rw [hrow g hg]; exact (uh HB4).size)
     have HW6 : Hid (Byt w6 bv l) := by
      have k := byt_of_owns (uh HWS4).row (uh HWS4).rng
      rw [uh HT] at k
      have k2 := k.below ((Below.refl _ _).alloc (Nat.le_refl _) (.cells #[.int .u8 fz] 5))
      exact byt_grown k2 hgrow6 (fun b off n cap e _ => fun e2 => by
       have := hrow b e2
       rcases (uh HWS4).row.2 with ⟨e3,_⟩ | ⟨g,c3,cur,e3,_,hg,_⟩
       ·rw [e3] at e; cases e
       ·rw [e3] at e
        cases e
        have := (Array.getElem?_eq_some_iff.1 hg).1
        omega)
     obtain ⟨bo,bc,rfl,-⟩ := (uh HW6).form
     obtain ⟨v6o,v6n,v6c,rfl⟩ : ∃ a n p,v6 = .slice a n p := by
      rcases (uh HO6).2 with ⟨rfl,_⟩ | ⟨g,cap,cur,rfl,_⟩
      ·exact ⟨_,_,_,rfl⟩
      ·exact ⟨_,_,_,rfl⟩
     clear hown6 hgrow6 hrow f19 f20 f0 HO5 HY5
     go_wp2_with (first
      | (at_builtin; refine wpList_append_byt _ rfl _ _ rfl w4.heap.size _ (1 + (V.put (sz : Int)).length) ([fz] ++ V.put (sz : Int)) rfl (uh HO6) (.slice bo l.length bc) l rfl (uh HW6) (by have := uh HPL; have := uh HSZ; omega) hs6 ?_)
      | go_in)
     intro v7 w7 hown7 hgrow7
     have HB7 : Hid (Below w.heap.size w w7) := (uh HB6).grown hgrow7 (uh HB6).size (fun g hg => Nat.le_trans (uh HB4).size ((uh HO6).lt g hg).1)
     have HF : Hid (EncQ f true q.kind (some l) w (.returned (.tuple #[v7,.nilIface])) w7) := by
      have e : ebytes q.kind f l = ([fz] ++ V.put (sz : Int)) ++ l := by unfold ebytes; rw [uh HSZ,<- hfb]; rfl
      have el : (ebytes q.kind f l).length = 1 + (V.put (sz : Int)).length + l.length := by rw [ebytes_len,uh HSZ]
      refine ⟨uh HB7,.inr (.inr ⟨rfl,l,rfl,by rw [el,uh HPL,<- uh HSZ]; exact hbig,v7,rfl,?_,?_⟩)⟩
      ·rw [el,e,List.map_append]
       exact owns_mono hown7 (uh HB4).size
      ·rw [e]
       exact range_app (range_app (rng1 hfr) (uh HR4)) (uh HW6).range
     obtain ⟨v7o,v7n,v7c,rfl⟩ : ∃ a n p,v7 = .slice a n p := by
      rcases hown7.2 with ⟨rfl,_⟩ | ⟨g,cap,cur,rfl,_⟩
      ·exact ⟨_,_,_,rfl⟩
      ·exact ⟨_,_,_,rfl⟩
     clear hown7 hgrow7 g19
     go_wp2
     go_ret2
     exact uh HF
    ·go_wp2_with fail
     refine (pf_use 2 _).mono ?_
     rintro e w5 ⟨x,rfl,hE,hb5⟩
     have HF : Hid (EncQ f true q.kind (some l) w (.returned (.tuple #[.slice none 0 0,.iface 112 x])) w5) := ⟨(uh HB4).trans (hb5.mono (uh HB4).size),.inr (.inl ⟨rfl,l,rfl,by rw [ebytes_len,<- uh HSZ,uh HPL]; omega,x,rfl,hE⟩)⟩
     clear hb5
     go_wp2
     go_ret2
     exact uh HF
   ·go_wp2_with fail
    refine (V.put_bad sz _ (.inr (by omega))).mono ?_
    rintro e w4 ⟨rfl,hw4⟩
    have HB4 : Hid (Below w.heap.size w w4) := by rw [hw4]; exact (uh HB3).alloc (uh HB3).size _
    clear hw4
    go_wp2_with fail
    refine (pf_use 2 _).mono ?_
    rintro e w5 ⟨x,rfl,hE,hb5⟩
    have HF : Hid (EncQ f true q.kind (some l) w (.returned (.tuple #[.slice none 0 0,.iface 112 x])) w5) := ⟨(uh HB4).trans (hb5.mono (uh HB4).size),.inr (.inl ⟨rfl,l,rfl,by rw [ebytes_len,<- uh HSZ]; omega,x,rfl,hE⟩)⟩
    clear hb5
    go_wp2
    go_ret2
    exact uh HF
theorem strCells_sb (s : ByteArray) : Lib.strCells s = (sb s).map (Value.int .u8) := by
 unfold Lib.strCells sb
 rw [List.map_map]
 rfl
theorem pay_no {w0 w w2 : World} {W : Nat} {p : Pkv} {st : Option (List Int)} {m : Nat} {bv : Value} {sz : Nat} {T : List Int} {E : Value} (s : ByteArray) (h1 : Below w0.heap.size w0 w) (h2 : w0.heap.size <= W) (h3 : Pk w W p) (h4 : WS w W bv sz T E) (h5 : T.length <= 65536 /\ T.length <= sz) (h6 : sz <= m) (h7 : Sg w W bv sz T E st)
  (hw : Wtr w2 W bv ((sz : Int) + (s.size : Int)) E) (hx : BX W is20 w w2) (hr : ¬ sz + s.size <= 65536) : WF w0 w2 W p (st.bind (sAdd true (sb s))) (m + s.size) := by
 have hF : FW W bv.ownBlock w w2 := FW.of_bx hx (fun j (e : j = 20) => by subst e; decide)
 refine ⟨hF.below h1 h2 (fun g e => by have := ws_rows h4 g e; omega),h2,h3.fw hF,bv,sz + s.size,T,E,h4.bx hx (by rw [Int.natCast_add]; exact hw),⟨h5.1,by omega⟩,by omega,?_⟩
 cases st with
 | none => obtain ⟨d,n,hd,he⟩ := h7; exact ⟨d,n,hd,(he.fw hF.fb (.inl rfl)).weak (fun _ e => .inl e)⟩
 | some l =>
  obtain ⟨rfl,k2,k3,_⟩ := h7
  have hl : (l ++ sb s).length = sz + s.size := by rw [List.length_append,sb_length]; omega
  exact ⟨rfl,hl.symm,fun k => absurd k (by rw [hl]; exact hr)⟩
theorem pay_yes {w0 w w2 w3 : World} {W : Nat} {p : Pkv} {st : Option (List Int)} {m : Nat} {bv v3 : Value} {sz : Nat} {T : List Int} {E : Value} (s : ByteArray) (h1 : Below w0.heap.size w0 w) (h2 : w0.heap.size <= W) (h3 : Pk w W p) (h4 : WS w W bv sz T E) (h5 : T.length <= 65536 /\ T.length <= sz) (h6 : sz <= m) (h7 : Sg w W bv sz T E st)
  (hw : Wtr w2 W bv ((sz : Int) + (s.size : Int)) E) (hx : BX W is20 w w2) (hr : sz + s.size <= 65536)
  (ho : w3.ownsRow (W + 1) 5 1 v3 (T.length + s.size) ((T ++ sb s).map (Value.int .u8))) (hg : w2.grownBy w3 bv.ownBlock) : WF w0 (w3.setCell ⟨W,19,none⟩ v3) W p (st.bind (sAdd true (sb s))) (m + s.size) := by
 have hW : W < w.heap.size := cell_lt h3.kind
 have hrow := ws_rows h4
 have hne : some W ≠ bv.ownBlock := fun e => by have := hrow W e.symm; omega
 have hW2 : W < w2.heap.size := Nat.lt_of_lt_of_le hW hx.size
 have hF1 : FW W bv.ownBlock w w2 := FW.of_bx hx (fun j (e : j = 20) => by subst e; decide)
 have hF2 : FW W bv.ownBlock w2 w3 := FW.of_grown hg hW2 hne
 have hF3 : FW W none w3 (w3.setCell ⟨W,19,none⟩ v3) := FW.of_bx ((BX.refl W isT w3).set 19 v3 (Nat.le_refl _)) (fun _ e => e)
 have hF : FW W bv.ownBlock w (w3.setCell ⟨W,19,none⟩ v3) := (hF1.trans hF2 (fun g e => .inl e)).trans hF3 (fun g e => by cases e)
 have hb3 : w3.heap[W]? = w2.heap[W]? := hg.block W hW2 hne
 have hc : ∀ j,w3.cell? ⟨W,j,none⟩ = w2.cell? ⟨W,j,none⟩ := fun j => World.cell?_of_block hb3
 have hfz : ∀ j,w3.frozen? ⟨W,j,none⟩ = w2.frozen? ⟨W,j,none⟩ := fun j => World.frozen?_of_block hb3
 obtain ⟨⟨a1,a2⟩,⟨b1,b2⟩,d1,d2⟩ := hw
 have hTl : (T ++ sb s).length = T.length + s.size := by rw [List.length_append,sb_length]
 refine ⟨hF.below h1 h2 (fun g e => by have := hrow g e; omega),h2,h3.fw hF,v3,sz + s.size,T ++ sb s,E,⟨⟨⟨World.cell?_setCell_same _ _ _ ((hc 19).trans a1),by rw [World.frozen?_setCell]; exact (hfz 19).trans a2⟩,⟨(World.cell?_setCell_other _ _ _ _ (fun e => by simp at e)).trans ((hc 20).trans (by rw [Int.natCast_add]; exact b1)),by rw [World.frozen?_setCell]; exact (hfz 20).trans b2⟩,(World.cell?_setCell_other _ _ _ _ (fun e => by simp at e)).trans ((hc 21).trans d1),by rw [World.frozen?_setCell]; exact (hfz 21).trans d2⟩,?_,?_⟩,⟨by omega,by omega⟩,by omega,?_⟩
 ·rw [hTl]
  exact owns_out ho (Nat.lt_succ_self _)
 ·intro j
  have r1 := h4.rng j
  have r2 := sb_range s (j - T.length)
  by_cases hj : j < T.length
  ·rw [List.getD_eq_getElem?_getD,List.getElem?_append_left hj,<- List.getD_eq_getElem?_getD]; exact r1
  ·rw [List.getD_eq_getElem?_getD,List.getElem?_append_right (by omega),<- List.getD_eq_getElem?_getD]; exact r2
 cases st with
 | none => obtain ⟨d,n,hd,he⟩ := h7; exact ⟨d,n,hd,(he.fw hF.fb (.inl rfl)).weak (fun _ e => .inl e)⟩
 | some l =>
  obtain ⟨rfl,k2,k3,_⟩ := h7
  have hl : (l ++ sb s).length = sz + s.size := by rw [List.length_append,sb_length]; omega
  exact ⟨rfl,hl.symm,fun k => by rw [k3 (by rw [hl] at k; omega)]⟩
def sPub (topic : ByteArray) (qos id kind : Int) (l : List Pr) (payload : ByteArray) (t : List Int) : Option (List Int) :=
 (((sAdd (okT topic) (tx topic) t).bind (if 0 < qos then sAdd (in16 id && id != 0) (b2 id) else some)).bind (sAdd (okP kind l) (pbs l))).bind (sAdd true (sb payload))
theorem bind_some' (x : Option (List Int)) : x.bind some = x := by cases x <;> rfl
theorem ge2_tx (s : ByteArray) (c : Bool) : Ge2 ((some []).bind (sAdd c (tx s))) := fun l e => by
 cases c
 ·cases e
 ·cases e
  have := tx_length s
  simp
  omega
theorem pub_pos {w0 w : World} {W : Nat} {p : Pkv} (h : WQ w0 w W p (some []) 0) (l : List Pr) (hP : Prp w0 p.props.val l) (hmx : l.length <= 4398046511104) (hsm : Go.Proofs.YtemedclhglkfjaaGreatDoor.Small l) (hto : p.topic.size <= 4611686018427387904) (hpy : p.payload.size <= 1073741824) (hid : -9223372036854775808 <= p.id /\ p.id <= 9223372036854775807) (hq : 0 < p.qos) :
  Calls Tryz.prog 50 #[.pointer (some ⟨W,0,none⟩)] w (GPost w0 W p.no_dup.no_retain.no_topic.no_qos.no_id.no_props.no_payload (sPub p.topic p.qos p.id p.kind l p.payload []) 2000000000) := by
 have HP := zh hP
 have HSM := zh hsm
 have d1 := h.pk.dup
 have d2 := h.pk.dup_f
 have d3 : (w.setCell ⟨W,1,none⟩ (.bool false)).cell? ⟨W,3,none⟩ = some (.bool p.retain) := h.no_dup.pk.retain
 have d4 : (w.setCell ⟨W,1,none⟩ (.bool false)).frozen? ⟨W,3,none⟩ = false := h.no_dup.pk.retain_f
 have HQ := zh h.no_dup.no_retain
 have HPO : Hid (∀ W' : World,W' = (w.setCell ⟨W,1,none⟩ (.bool false)).setCell ⟨W,3,none⟩ (.bool false) -> WQ w0 W' W p.no_dup.no_retain (some []) 0) := fun W' e => by rw [e]; exact uh HQ
 clear h hP hsm HQ
 go_enter Tryz.func50,Tryz.ntmps50
 go_upto_region 2 with fail
 have HQ := zh ((uh HPO) _ rfl)
 generalize (w.setCell ⟨W,1,none⟩ (.bool false)).setCell ⟨W,3,none⟩ (.bool false) = w1 at HQ |-
 clear HPO d1 d2 d3 d4
 go_wp2_with fail
 refine (take_topic_q (uh HQ) p.topic rfl).mono ?_
 rintro e w2 ⟨rfl,hq2⟩
 have HQ2 := zh hq2
 clear hq2 HQ
 go_wp2_with fail
 refine (text_q (uh HQ2) p.topic hto (fun l e => by cases e; simp) (by omega)).mono ?_
 rintro e w3 ⟨rfl,hq3,-⟩
 have HQ3 := zh hq3
 have HG3 := zh (ge2_tx p.topic (okT p.topic))
 generalize hs3 : (some []).bind (sAdd (okT p.topic) (tx p.topic)) = s3 at HQ3 HG3
 have HS3 := zh hs3
 clear hq3 HQ2 hs3
 go_wp2_with fail
 refine (take_qos_q (uh HQ3) p.qos rfl).mono ?_
 rintro e w4 ⟨rfl,hq4⟩
 have HQ4 := zh hq4
 clear hq4 HQ3
 go_wp2_with fail
 refine (take_id_q (uh HQ4) p.id rfl).mono ?_
 rintro e w5 ⟨rfl,hq5⟩
 have HQ5 := zh hq5
 clear hq5 HQ4
 go_wp2_with fail
 refine (id_q (uh HQ5) p.id hid (by omega)).mono ?_
 rintro e w6 ⟨rfl,hq6,-⟩
 have HG6 := zh ((uh HG3).add (in16 p.id && p.id != 0) (b2 p.id))
 have HQ6 := zh hq6
 obtain ⟨s6,HS6⟩ : ∃ s6,Hid (s6 = s3.bind (sAdd (in16 p.id && p.id != 0) (b2 p.id))) := ⟨_,rfl⟩
 rw [<- uh HS6] at HG6 HQ6
 clear hq6 HQ5 HG3
 go_wp2_with fail
 have HQd := zh ((uh HQ6).below (below_drewN (Below.refl _ _) 1))
 clear HQ6
 refine wp_region_noPanic ?_
 refine wp_region_held_drew (S := fun w' => w'.cell? ⟨W,0,none⟩ = some (.int .i64 p.kind)) (by kernel_rfl) (uh HQd).pk.kind (fun hHeld => ?_)
 refine rtk 0 (h := ?_)
 refine rtk 1 (h := ?_)
 refine rtk 2 (h := ?_)
 refine rtk 3 (h := ?_)
 refine rtk 5 (h := ?_)
 refine rtk 6 (h := ?_)
 refine rtk 7 (h := ?_)
 refine rtk 8 (h := ?_)
 refine rcl 4 (h := fun K hK => ?_)
 go_simp
 refine (take_props_q (uh HQd) p.props rfl).mono ?_
 rintro e wp1 ⟨rfl,hqp⟩
 have HQp := zh hqp
 clear hqp HQd
 refine hK.out _ _ (uh HQp).pk.kind (fun hHeld => ?_)
 clear hK K
 refine rcl 9 (h := fun K hK => ?_)
 go_simp
 refine (props_q (uh HQp) p.props.val l p.kind ((uh HP).below (uh HQp).bel) hmx (uh HSM) (uh HG6).one (by omega)).mono ?_
 rintro e wp2 ⟨rfl,hqp,-⟩
 have HQ7 := zh hqp
 clear hqp HQp
 refine hK.out _ _ (uh HQ7).pk.kind (fun hHeld => ?_)
 clear hK K
 refine wpAnyH_done (by kernel_rfl) ?_ _
 refine NoPanic.normal ?_
 obtain ⟨s7,HS7⟩ : ∃ s7,Hid (s7 = s6.bind (sAdd (okP p.kind l) (pbs l))) := ⟨_,rfl⟩
 rw [<- uh HS7] at HQ7
 go_wp2_with fail
 refine (take_payload_q (uh HQ7) p.payload rfl).mono ?_
 rintro e w8 ⟨rfl,hq8⟩
 have HFIN : Hid (∀ W' m',WF w0 W' W p.no_dup.no_retain.no_topic.no_qos.no_id.no_props.no_payload (s7.bind (sAdd true (sb p.payload))) m' -> m' <= 2000000000 -> GPost w0 W p.no_dup.no_retain.no_topic.no_qos.no_id.no_props.no_payload (sPub p.topic p.qos p.id p.kind l p.payload []) 2000000000 (.returned (.tuple #[])) W') := fun W' m' k hm' => by
  refine ⟨rfl,?_⟩
  have e : sPub p.topic p.qos p.id p.kind l p.payload [] = s7.bind (sAdd true (sb p.payload)) := by
   unfold sPub
   rw [uh HS7,uh HS6,<- uh HS3,if_pos hq]
   first | rfl | (rw [bind_some']; rfl)
  rw [e]
  exact k.mono hm'
 obtain ⟨h1,h2,h3,bv,sz,T,E,h4,h5,h6,h7⟩ := hq8
 have hszz : (sz : Int) <= 6000000 := by omega
 have hW8 : W < w8.heap.size := cell_lt h3.kind
 have HR := zh (room_any W bv E sz p.payload.size w8 h4.wt (by omega) (by omega) (by omega) (by omega))
 have HNO : Hid (∀ W',Wtr W' W bv ((sz : Int) + (p.payload.size : Int)) E -> BX W is20 w8 W' -> ¬ sz + p.payload.size <= 65536 -> WF w0 W' W p.no_dup.no_retain.no_topic.no_qos.no_id.no_props.no_payload (s7.bind (sAdd true (sb p.payload))) (_ + p.payload.size)) := fun W' a b c => pay_no p.payload h1 h2 h3 h4 h5 h6 h7 a b c
 have HYES : Hid (∀ W2 W3 v3,Wtr W2 W bv ((sz : Int) + (p.payload.size : Int)) E -> BX W is20 w8 W2 -> sz + p.payload.size <= 65536 -> W3.ownsRow (W + 1) 5 1 v3 (T.length + p.payload.size) ((T ++ sb p.payload).map (Value.int .u8)) -> W2.grownBy W3 bv.ownBlock -> WF w0 (W3.setCell ⟨W,19,none⟩ v3) W p.no_dup.no_retain.no_topic.no_qos.no_id.no_props.no_payload (s7.bind (sAdd true (sb p.payload))) (_ + p.payload.size)) := fun W2 W3 v3 a b c d e => pay_yes p.payload h1 h2 h3 h4 h5 h6 h7 a b c d e
 have HWS := zh h4
 have hT1 := h5.1
 clear h1 h2 h3 h4 h5 h6 h7 HQ7 HP HSM HS7 HS6 HS3 HG6
 generalize hpl : p.payload = pay at *
 clear hpl
 go_wp2_with fail
 refine (uh HR).mono ?_
 rintro e w9 ⟨rfl,hw9,hx9⟩
 by_cases hr : sz + pay.size <= 65536
 ·have hd : decide ((sz : Int) + (pay.size : Int) <= 65536) = true := decide_eq_true (by omega)
  have HO9 := zh (owns_bx (uh HWS).row hx9 (Nat.lt_succ_self _))
  have hz9 := hx9.size
  have HY := zh ((uh HYES) w9)
  have HW9 := zh hw9
  have HX9 := zh hx9
  obtain ⟨a9,n9,c9,rfl⟩ : ∃ a n p,bv = .slice a n p := by
   rcases (uh HO9).2 with ⟨rfl,_⟩ | ⟨g,cap,cur,rfl,_⟩
   ·exact ⟨_,_,_,rfl⟩
   ·exact ⟨_,_,_,rfl⟩
  obtain ⟨⟨k1,kf1⟩,-,-⟩ := hw9
  clear hx9 HNO HYES HR
  obtain ⟨i0,hi,hz0,hz1,hz2⟩ := info_parts Tryz.infoU8
  go_wp2_with (first
   | (at_builtin; refine Lib.wpList_append_own_string _ rfl _ _ 31 9 rfl (W + 1) 5 i0 Tryz.underlying31 Tryz.underlying9 hi hz0 hz1 hz2 (.slice a9 n9 c9) T.length (T.map (Value.int .u8)) rfl (uh HO9) pay rfl (by unfold maxLen; omega) (by omega) (by omega) ?_)
   | go_in)
  intro v3 w10 hown3 hg3 _
  have hne : some W ≠ (Value.slice a9 n9 c9).ownBlock := fun e => by have := owns_blk (uh HO9) W e.symm; omega
  have hb3 : w10.heap[W]? = w9.heap[W]? := hg3.block W (by omega) hne
  have c3 : w10.cell? ⟨W,19,none⟩ = some (.slice a9 n9 c9) := (World.cell?_of_block hb3).trans k1
  have f3 : w10.frozen? ⟨W,19,none⟩ = false := (World.frozen?_of_block hb3).trans kf1
  have HF := zh ((uh HFIN) (w10.setCell ⟨W,19,none⟩ v3) _ ((uh HY) w10 v3 (uh HW9) (uh HX9) hr (by rw [List.map_append,<- strCells_sb]; exact hown3) hg3) (by omega))
  obtain ⟨a3,n3,p3,rfl⟩ : ∃ a n p,v3 = .slice a n p := by
   rcases hown3.2 with ⟨rfl,_⟩ | ⟨g,cap,cur,rfl,_⟩
   ·exact ⟨_,_,_,rfl⟩
   ·exact ⟨_,_,_,rfl⟩
  clear hown3 hg3 hb3 hne HY HFIN HO9 HWS k1 kf1 HW9 HX9
  go_wp2
  go_end0
  exact uh HF
 ·have hd : decide ((sz : Int) + (pay.size : Int) <= 65536) = false := decide_eq_false (by omega)
  have HF := zh ((uh HFIN) w9 _ ((uh HNO) w9 hw9 hx9 hr) (by omega))
  clear hw9 hx9 HR HNO HYES
  go_wp2
  go_end0
  exact uh HF
theorem pub_zero {w0 w : World} {W : Nat} {p : Pkv} (h : WQ w0 w W p (some []) 0) (l : List Pr) (hP : Prp w0 p.props.val l) (hmx : l.length <= 4398046511104) (hsm : Go.Proofs.YtemedclhglkfjaaGreatDoor.Small l) (hto : p.topic.size <= 4611686018427387904) (hpy : p.payload.size <= 1073741824) (hq : ¬ 0 < p.qos) :
  Calls Tryz.prog 50 #[.pointer (some ⟨W,0,none⟩)] w (GPost w0 W p.no_dup.no_retain.no_topic.no_qos.no_props.no_payload (sPub p.topic p.qos p.id p.kind l p.payload []) 2000000000) := by
 have HP := zh hP
 have HSM := zh hsm
 have d1 := h.pk.dup
 have d2 := h.pk.dup_f
 have d3 : (w.setCell ⟨W,1,none⟩ (.bool false)).cell? ⟨W,3,none⟩ = some (.bool p.retain) := h.no_dup.pk.retain
 have d4 : (w.setCell ⟨W,1,none⟩ (.bool false)).frozen? ⟨W,3,none⟩ = false := h.no_dup.pk.retain_f
 have HQ := zh h.no_dup.no_retain
 have HPO : Hid (∀ W' : World,W' = (w.setCell ⟨W,1,none⟩ (.bool false)).setCell ⟨W,3,none⟩ (.bool false) -> WQ w0 W' W p.no_dup.no_retain (some []) 0) := fun W' e => by rw [e]; exact uh HQ
 clear h hP hsm HQ
 go_enter Tryz.func50,Tryz.ntmps50
 go_upto_region 2 with fail
 have HQ := zh ((uh HPO) _ rfl)
 generalize (w.setCell ⟨W,1,none⟩ (.bool false)).setCell ⟨W,3,none⟩ (.bool false) = w1 at HQ |-
 clear HPO d1 d2 d3 d4
 go_wp2_with fail
 refine (take_topic_q (uh HQ) p.topic rfl).mono ?_
 rintro e w2 ⟨rfl,hq2⟩
 have HQ2 := zh hq2
 clear hq2 HQ
 go_wp2_with fail
 refine (text_q (uh HQ2) p.topic hto (fun l e => by cases e; simp) (by omega)).mono ?_
 rintro e w3 ⟨rfl,hq3,-⟩
 have HQ3 := zh hq3
 have HG3 := zh (ge2_tx p.topic (okT p.topic))
 generalize hs3 : (some []).bind (sAdd (okT p.topic) (tx p.topic)) = s3 at HQ3 HG3
 have HS3 := zh hs3
 clear hq3 HQ2 hs3
 go_wp2_with fail
 refine (take_qos_q (uh HQ3) p.qos rfl).mono ?_
 rintro e w4 ⟨rfl,hq4⟩
 have HQ4 := zh hq4
 clear hq4 HQ3
 have HQ6 : Hid (WQ w0 w4 W p.no_dup.no_retain.no_topic.no_qos s3 (0 + 70000 + 2)) := (uh HQ4).mono (by omega)
 have HG6 := HG3
 obtain ⟨s6,HS6⟩ : ∃ s6,Hid (s6 = s3) := ⟨_,rfl⟩
 rw [<- uh HS6] at HG6 HQ6
 clear HQ4 HG3
 go_wp2_with fail
 have HQd := zh ((uh HQ6).below (below_drewN (Below.refl _ _) 1))
 clear HQ6
 refine wp_region_noPanic ?_
 refine wp_region_held_drew (S := fun w' => w'.cell? ⟨W,0,none⟩ = some (.int .i64 p.kind)) (by kernel_rfl) (uh HQd).pk.kind (fun hHeld => ?_)
 refine rtk 0 (h := ?_)
 refine rtk 1 (h := ?_)
 refine rtk 2 (h := ?_)
 refine rtk 3 (h := ?_)
 refine rtk 5 (h := ?_)
 refine rtk 6 (h := ?_)
 refine rtk 7 (h := ?_)
 refine rtk 8 (h := ?_)
 refine rcl 4 (h := fun K hK => ?_)
 go_simp
 refine (take_props_q (uh HQd) p.props rfl).mono ?_
 rintro e wp1 ⟨rfl,hqp⟩
 have HQp := zh hqp
 clear hqp HQd
 refine hK.out _ _ (uh HQp).pk.kind (fun hHeld => ?_)
 clear hK K
 refine rcl 9 (h := fun K hK => ?_)
 go_simp
 refine (props_q (uh HQp) p.props.val l p.kind ((uh HP).below (uh HQp).bel) hmx (uh HSM) (uh HG6).one (by omega)).mono ?_
 rintro e wp2 ⟨rfl,hqp,-⟩
 have HQ7 := zh hqp
 clear hqp HQp
 refine hK.out _ _ (uh HQ7).pk.kind (fun hHeld => ?_)
 clear hK K
 refine wpAnyH_done (by kernel_rfl) ?_ _
 refine NoPanic.normal ?_
 obtain ⟨s7,HS7⟩ : ∃ s7,Hid (s7 = s6.bind (sAdd (okP p.kind l) (pbs l))) := ⟨_,rfl⟩
 rw [<- uh HS7] at HQ7
 go_wp2_with fail
 refine (take_payload_q (uh HQ7) p.payload rfl).mono ?_
 rintro e w8 ⟨rfl,hq8⟩
 have HFIN : Hid (∀ W' m',WF w0 W' W p.no_dup.no_retain.no_topic.no_qos.no_props.no_payload (s7.bind (sAdd true (sb p.payload))) m' -> m' <= 2000000000 -> GPost w0 W p.no_dup.no_retain.no_topic.no_qos.no_props.no_payload (sPub p.topic p.qos p.id p.kind l p.payload []) 2000000000 (.returned (.tuple #[])) W') := fun W' m' k hm' => by
  refine ⟨rfl,?_⟩
  have e : sPub p.topic p.qos p.id p.kind l p.payload [] = s7.bind (sAdd true (sb p.payload)) := by
   unfold sPub
   rw [uh HS7,uh HS6,<- uh HS3,if_neg (show ¬ 0 < p.qos from by omega)]
   first | rfl | (rw [bind_some']; rfl)
  rw [e]
  exact k.mono hm'
 obtain ⟨h1,h2,h3,bv,sz,T,E,h4,h5,h6,h7⟩ := hq8
 have hszz : (sz : Int) <= 6000000 := by omega
 have hW8 : W < w8.heap.size := cell_lt h3.kind
 have HR := zh (room_any W bv E sz p.payload.size w8 h4.wt (by omega) (by omega) (by omega) (by omega))
 have HNO : Hid (∀ W',Wtr W' W bv ((sz : Int) + (p.payload.size : Int)) E -> BX W is20 w8 W' -> ¬ sz + p.payload.size <= 65536 -> WF w0 W' W p.no_dup.no_retain.no_topic.no_qos.no_props.no_payload (s7.bind (sAdd true (sb p.payload))) (_ + p.payload.size)) := fun W' a b c => pay_no p.payload h1 h2 h3 h4 h5 h6 h7 a b c
 have HYES : Hid (∀ W2 W3 v3,Wtr W2 W bv ((sz : Int) + (p.payload.size : Int)) E -> BX W is20 w8 W2 -> sz + p.payload.size <= 65536 -> W3.ownsRow (W + 1) 5 1 v3 (T.length + p.payload.size) ((T ++ sb p.payload).map (Value.int .u8)) -> W2.grownBy W3 bv.ownBlock -> WF w0 (W3.setCell ⟨W,19,none⟩ v3) W p.no_dup.no_retain.no_topic.no_qos.no_props.no_payload (s7.bind (sAdd true (sb p.payload))) (_ + p.payload.size)) := fun W2 W3 v3 a b c d e => pay_yes p.payload h1 h2 h3 h4 h5 h6 h7 a b c d e
 have HWS := zh h4
 have hT1 := h5.1
 clear h1 h2 h3 h4 h5 h6 h7 HQ7 HP HSM HS7 HS6 HS3 HG6
 generalize hpl : p.payload = pay at *
 clear hpl
 go_wp2_with fail
 refine (uh HR).mono ?_
 rintro e w9 ⟨rfl,hw9,hx9⟩
 by_cases hr : sz + pay.size <= 65536
 ·have hd : decide ((sz : Int) + (pay.size : Int) <= 65536) = true := decide_eq_true (by omega)
  have HO9 := zh (owns_bx (uh HWS).row hx9 (Nat.lt_succ_self _))
  have hz9 := hx9.size
  have HY := zh ((uh HYES) w9)
  have HW9 := zh hw9
  have HX9 := zh hx9
  obtain ⟨a9,n9,c9,rfl⟩ : ∃ a n p,bv = .slice a n p := by
   rcases (uh HO9).2 with ⟨rfl,_⟩ | ⟨g,cap,cur,rfl,_⟩
   ·exact ⟨_,_,_,rfl⟩
   ·exact ⟨_,_,_,rfl⟩
  obtain ⟨⟨k1,kf1⟩,-,-⟩ := hw9
  clear hx9 HNO HYES HR
  obtain ⟨i0,hi,hz0,hz1,hz2⟩ := info_parts Tryz.infoU8
  go_wp2_with (first
   | (at_builtin; refine Lib.wpList_append_own_string _ rfl _ _ 31 9 rfl (W + 1) 5 i0 Tryz.underlying31 Tryz.underlying9 hi hz0 hz1 hz2 (.slice a9 n9 c9) T.length (T.map (Value.int .u8)) rfl (uh HO9) pay rfl (by unfold maxLen; omega) (by omega) (by omega) ?_)
   | go_in)
  intro v3 w10 hown3 hg3 _
  have hne : some W ≠ (Value.slice a9 n9 c9).ownBlock := fun e => by have := owns_blk (uh HO9) W e.symm; omega
  have hb3 : w10.heap[W]? = w9.heap[W]? := hg3.block W (by omega) hne
  have c3 : w10.cell? ⟨W,19,none⟩ = some (.slice a9 n9 c9) := (World.cell?_of_block hb3).trans k1
  have f3 : w10.frozen? ⟨W,19,none⟩ = false := (World.frozen?_of_block hb3).trans kf1
  have HF := zh ((uh HFIN) (w10.setCell ⟨W,19,none⟩ v3) _ ((uh HY) w10 v3 (uh HW9) (uh HX9) hr (by rw [List.map_append,<- strCells_sb]; exact hown3) hg3) (by omega))
  obtain ⟨a3,n3,p3,rfl⟩ : ∃ a n p,v3 = .slice a n p := by
   rcases hown3.2 with ⟨rfl,_⟩ | ⟨g,cap,cur,rfl,_⟩
   ·exact ⟨_,_,_,rfl⟩
   ·exact ⟨_,_,_,rfl⟩
  clear hown3 hg3 hb3 hne HY HFIN HO9 HWS k1 kf1 HW9 HX9
  go_wp2
  go_end0
  exact uh HF
 ·have hd : decide ((sz : Int) + (pay.size : Int) <= 65536) = false := decide_eq_false (by omega)
  have HF := zh ((uh HFIN) w9 _ ((uh HNO) w9 hw9 hx9 hr) (by omega))
  clear hw9 hx9 HR HNO HYES
  go_wp2
  go_end0
  exact uh HF
def sTx (s : ByteArray) : List Int -> Option (List Int) := sAdd (okT s) (tx s)
def sCode (n : Int) : List Int -> Option (List Int) := sAdd (in8 n) [n % 256]
theorem wl_subs_core {w0 w : World} {W : Nat} {p : Pkv} {st : Option (List Int)} {m : Nat} (h : WQ w0 w W p st m) (hk : p.kind = 8) (ss : List Sb) (len : Nat) (hln : ss.length = len) (ao : Option Addr) (cap : Nat) (hv : p.subs.val = .slice ao len cap) (hlc : len <= cap) (hS : ss = [] \/ ∃ b off,ao = some ⟨b,off,none⟩ /\ SbAt w0 b off ss) (hz : ∀ k,k < ss.length -> (ss.getD k sb0).filter.size <= 4611686018427387904) (hg : Ge2 st) (c : Nat) (hc : 70001 <= c) (hm : m + len * c <= 4611686018427300000) :
  Calls Tryz.prog 52 #[.pointer (some ⟨W,0,none⟩)] w fun e w' => e = .returned (.tuple #[]) /\ WQ w0 w' W p.no_subs ((st.bind (sMust (mc len))).bind (sEach sSub ss)) (m + len * c) := by
 have HG := zh hg
 have HZ := zh hz
 clear hz
 have hkc := h.pk.kind
 rw [hk] at hkc
 have HQ := zh h
 have HV := zh hv
 have HS := zh hS
 have HLN := zh hln
 have hlen : len <= 4611686018427300000 := Nat.le_trans (Nat.le_mul_of_pos_right _ (by omega)) (show len * c <= 4611686018427300000 from by omega)
 clear h hg hv hS hln
 go_enter Tryz.func52,Tryz.ntmps52
 go_wp2_with fail
 refine (take_subs_q (uh HQ) _ rfl).mono ?_
 rintro e w1 ⟨rfl,hq1⟩
 rw [uh HV]
 have HQ1 := zh hq1
 clear hq1 HQ HV hkc
 go_wp2_with fail
 refine (mayCount_any _ _).mono ?_
 rintro e w2 ⟨rfl,hw2⟩
 obtain rfl := hw2.symm
 clear hw2
 go_wp2_with fail
 refine (must_q (uh HQ1) (mc len)).mono ?_
 rintro e w3 ⟨rfl,hq3,-⟩
 have HQ3 := zh hq3
 have HG3 := zh ((uh HG).must (mc len))
 clear hq3 HQ1 HG
 obtain ⟨s1,HST⟩ : ∃ s1,Hid (s1 = st.bind (sMust (mc len))) := ⟨_,rfl⟩
 rw [<- uh HST] at HQ3 HG3
 go_wp2
 go_loopw [51] (fun i wr => ∃ k : Nat,k <= len /\ i = .int .i64 k /\ Hid (WQ w0 wr W p.no_subs (s1.bind (sEach sSub (ss.take k))) (m + k * c)) /\ Hid (Ge2 (s1.bind (sEach sSub (ss.take k))))) (fun i _ => len - (intOf i).toNat)
 case atStart => exact ⟨0,Nat.zero_le _,rfl,by rw [each_nil,Nat.zero_mul]; exact HQ3,by rw [each_nil]; exact HG3⟩
 case round =>
  obtain ⟨k,hk,rfl,HQK,HGK⟩ := hrel
  clear HQ3 HG3
  by_cases hlt : k < len
  ·have hkl : k < ss.length := by rw [uh HLN]; exact hlt
   have HE := zh (each_snoc sSub sb0 s1 ss k hkl)
   have hmk : m + k * c + c <= 4611686018427300000 := by
    have := Nat.mul_le_mul_right c (show k + 1 <= len from hlt)
    rw [Nat.succ_mul] at this
    omega
   have HMS : Hid (m + k * c + c = m + (k + 1) * c) := by show _ = _; rw [Nat.succ_mul]; omega
   obtain ⟨b,off,rfl,hcl⟩ : ∃ b off,ao = some ⟨b,off,none⟩ /\ SbAt w0 b off ss := by
    rcases uh HS with e | k
    ·rw [e] at hkl; simp at hkl
    ·exact k
   have hb := hcl k hkl
   have hB := (uh HQK).bel
   obtain ⟨d0,d1,d2,d3,d4⟩ := hb
   have hbl : b < w0.heap.size := cell_lt d0
   have e0 := (hB.cell hbl).trans d0
   have e1 := (hB.cell hbl).trans d1
   have e2 := (hB.cell hbl).trans d2
   have e3 := (hB.cell hbl).trans d3
   have e4 := (hB.cell hbl).trans d4
   have hzz := (uh HZ) k hkl
   clear d0 d1 d2 d3 d4
   generalize ss.getD k sb0 = sv at e0 e1 e2 e3 e4 hzz HE
   clear hcl hB
   generalize m + k * c = mk at HQK hmk HMS
   go_wp2_with fail
   refine (sub_q ((uh HQK).below (bal _ _)) sv hzz (uh HGK) (by omega)).mono ?_
   rintro e w5 ⟨rfl,hq5,-⟩
   have HQ5 := zh (hq5.mono (show _ <= mk + c from by omega))
   clear hq5 HQK e0 e1 e2 e3 e4
   go_wp2
   go_roundw
   case rel => exact ⟨k + 1,by omega,by go_num,by rw [uh HE,<- uh HMS]; exact HQ5,by rw [uh HE]; exact (uh HGK).sub _⟩
   case measure => simp [intOf]; omega
  ·obtain rfl : k = len := by omega
   have HF : Hid (WQ w0 wr W p.no_subs ((st.bind (sMust (mc k))).bind (sEach sSub ss)) (m + k * c)) := by
    have q := uh HQK
    rw [List.take_of_length_le (Nat.le_of_eq (uh HLN)),uh HST] at q
    exact q
   go_wp2
   go_end0
   exact ⟨rfl,uh HF⟩
theorem wl_subs {w0 w : World} {W : Nat} {p : Pkv} {st : Option (List Int)} {m : Nat} (h : WQ w0 w W p st m) (hk : p.kind = 8) (ss : List Sb) (hS : Sbs w0 p.subs.val ss) (hz : ∀ k,k < ss.length -> (ss.getD k sb0).filter.size <= 4611686018427387904) (hg : Ge2 st) (c : Nat) (hc : 70001 <= c) (hm : m + ss.length * c <= 4611686018427300000) :
  Calls Tryz.prog 52 #[.pointer (some ⟨W,0,none⟩)] w fun e w' => e = .returned (.tuple #[]) /\ WQ w0 w' W p.no_subs ((st.bind (sMust (mc ss.length))).bind (sEach sSub ss)) (m + ss.length * c) := by
 obtain ⟨ao,cap,hv,⟨hlc,_⟩,hS⟩ := hS
 exact wl_subs_core h hk ss _ rfl ao cap hv hlc hS hz hg c hc hm
theorem wl_filters_core {w0 w : World} {W : Nat} {p : Pkv} {st : Option (List Int)} {m : Nat} (h : WQ w0 w W p st m) (hk : p.kind = 10) (ss : List ByteArray) (len : Nat) (hln : ss.length = len) (ao : Option Addr) (cap : Nat) (hv : p.filters.val = .slice ao len cap) (hlc : len <= cap) (hS : ss = [] \/ ∃ b off,ao = some ⟨b,off,none⟩ /\ ∀ j,j < ss.length -> w0.cell? ⟨b,off + j,none⟩ = some (.string (ss.getD j ⟨#[]⟩))) (hz : ∀ k,k < ss.length -> (ss.getD k ⟨#[]⟩).size <= 4611686018427387904) (hg : Ge2 st) (c : Nat) (hc : 70001 <= c) (hm : m + len * c <= 4611686018427300000) :
  Calls Tryz.prog 52 #[.pointer (some ⟨W,0,none⟩)] w fun e w' => e = .returned (.tuple #[]) /\ WQ w0 w' W p.no_filters ((st.bind (sMust (mc len))).bind (sEach sTx ss)) (m + len * c) := by
 have HG := zh hg
 have HZ := zh hz
 clear hz
 have hkc := h.pk.kind
 rw [hk] at hkc
 have HQ := zh h
 have HV := zh hv
 have HS := zh hS
 have HLN := zh hln
 have hlen : len <= 4611686018427300000 := Nat.le_trans (Nat.le_mul_of_pos_right _ (by omega)) (show len * c <= 4611686018427300000 from by omega)
 clear h hg hv hS hln
 go_enter Tryz.func52,Tryz.ntmps52
 go_wp2_with fail
 refine (take_filters_q (uh HQ) _ rfl).mono ?_
 rintro e w1 ⟨rfl,hq1⟩
 rw [uh HV]
 have HQ1 := zh hq1
 clear hq1 HQ HV hkc
 go_wp2_with fail
 refine (mayCount_any _ _).mono ?_
 rintro e w2 ⟨rfl,hw2⟩
 obtain rfl := hw2.symm
 clear hw2
 go_wp2_with fail
 refine (must_q (uh HQ1) (mc len)).mono ?_
 rintro e w3 ⟨rfl,hq3,-⟩
 have HQ3 := zh hq3
 have HG3 := zh ((uh HG).must (mc len))
 clear hq3 HQ1 HG
 obtain ⟨s1,HST⟩ : ∃ s1,Hid (s1 = st.bind (sMust (mc len))) := ⟨_,rfl⟩
 rw [<- uh HST] at HQ3 HG3
 go_wp2
 go_loopw [72] (fun i wr => ∃ k : Nat,k <= len /\ i = .int .i64 k /\ Hid (WQ w0 wr W p.no_filters (s1.bind (sEach sTx (ss.take k))) (m + k * c)) /\ Hid (Ge2 (s1.bind (sEach sTx (ss.take k))))) (fun i _ => len - (intOf i).toNat)
 case atStart => exact ⟨0,Nat.zero_le _,rfl,by rw [each_nil,Nat.zero_mul]; exact HQ3,by rw [each_nil]; exact HG3⟩
 case round =>
  obtain ⟨k,hk,rfl,HQK,HGK⟩ := hrel
  clear HQ3 HG3
  by_cases hlt : k < len
  ·have hkl : k < ss.length := by rw [uh HLN]; exact hlt
   have HE := zh (each_snoc sTx ⟨#[]⟩ s1 ss k hkl)
   have hmk : m + k * c + c <= 4611686018427300000 := by
    have := Nat.mul_le_mul_right c (show k + 1 <= len from hlt)
    rw [Nat.succ_mul] at this
    omega
   have HMS : Hid (m + k * c + c = m + (k + 1) * c) := by show _ = _; rw [Nat.succ_mul]; omega
   obtain ⟨b,off,rfl,hcl⟩ : ∃ b off,ao = some ⟨b,off,none⟩ /\ ∀ j,j < ss.length -> w0.cell? ⟨b,off + j,none⟩ = some (.string (ss.getD j ⟨#[]⟩)) := by
    rcases uh HS with e | k
    ·rw [e] at hkl; simp at hkl
    ·exact k
   have hb := hcl k hkl
   have hB := (uh HQK).bel
   have e0 := (hB.cell (cell_lt hb)).trans hb
   have hzz := (uh HZ) k hkl
   generalize ss.getD k ⟨#[]⟩ = sv at e0 hzz HE hb
   clear hcl hb hB
   generalize m + k * c = mk at HQK hmk HMS
   go_wp2_with fail
   refine (text_q (uh HQK) sv hzz (uh HGK).one (by omega)).mono ?_
   rintro e w5 ⟨rfl,hq5,-⟩
   have HQ5 := zh (hq5.mono (show _ <= mk + c from by omega))
   clear hq5 HQK e0
   go_wp2
   go_roundw
   case rel => exact ⟨k + 1,by omega,by go_num,by rw [uh HE,<- uh HMS]; exact HQ5,by rw [uh HE]; exact (uh HGK).add _ _⟩
   case measure => simp [intOf]; omega
  ·obtain rfl : k = len := by omega
   have HF : Hid (WQ w0 wr W p.no_filters ((st.bind (sMust (mc k))).bind (sEach sTx ss)) (m + k * c)) := by
    have q := uh HQK
    rw [List.take_of_length_le (Nat.le_of_eq (uh HLN)),uh HST] at q
    exact q
   go_wp2
   go_end0
   exact ⟨rfl,uh HF⟩
theorem wl_filters {w0 w : World} {W : Nat} {p : Pkv} {st : Option (List Int)} {m : Nat} (h : WQ w0 w W p st m) (hk : p.kind = 10) (ss : List ByteArray) (hS : Txs w0 p.filters.val ss) (hz : ∀ k,k < ss.length -> (ss.getD k ⟨#[]⟩).size <= 4611686018427387904) (hg : Ge2 st) (c : Nat) (hc : 70001 <= c) (hm : m + ss.length * c <= 4611686018427300000) :
  Calls Tryz.prog 52 #[.pointer (some ⟨W,0,none⟩)] w fun e w' => e = .returned (.tuple #[]) /\ WQ w0 w' W p.no_filters ((st.bind (sMust (mc ss.length))).bind (sEach sTx ss)) (m + ss.length * c) := by
 obtain ⟨ao,cap,hv,⟨hlc,_⟩,hS⟩ := hS
 exact wl_filters_core h hk ss _ rfl ao cap hv hlc hS hz hg c hc hm
theorem wl_codes_core {w0 w : World} {W : Nat} {p : Pkv} {st : Option (List Int)} {m : Nat} (h : WQ w0 w W p st m) (hk : p.kind ≠ 8 /\ p.kind ≠ 10) (ss : List Int) (len : Nat) (hln : ss.length = len) (ao : Option Addr) (cap : Nat) (hv : p.codes.val = .slice ao len cap) (hlc : len <= cap) (hS : ss = [] \/ ∃ b off,ao = some ⟨b,off,none⟩ /\ ∀ j,j < ss.length -> w0.cell? ⟨b,off + j,none⟩ = some (.int .i64 (ss.getD j 0))) (hz : ∀ k,k < ss.length -> -9223372036854775808 <= ss.getD k 0 /\ ss.getD k 0 <= 9223372036854775807) (hg : Ge2 st) (c : Nat) (hc : 70001 <= c) (hm : m + len * c <= 4611686018427300000) :
  Calls Tryz.prog 52 #[.pointer (some ⟨W,0,none⟩)] w fun e w' => e = .returned (.tuple #[]) /\ WQ w0 w' W p.no_codes ((st.bind (sMust (mc len))).bind (sEach sCode ss)) (m + len * c) := by
 have HG := zh hg
 have HZ := zh hz
 clear hz
 have hkc := h.pk.kind
 have hk8 : (p.kind == 8) = false := beq_false_of_ne hk.1
 have hk10 : (p.kind == 10) = false := beq_false_of_ne hk.2
 have HQ := zh h
 have HV := zh hv
 have HS := zh hS
 have HLN := zh hln
 have hlen : len <= 4611686018427300000 := Nat.le_trans (Nat.le_mul_of_pos_right _ (by omega)) (show len * c <= 4611686018427300000 from by omega)
 clear h hg hv hS hln
 go_enter Tryz.func52,Tryz.ntmps52
 go_wp2_with fail
 refine (take_codes_q (uh HQ) _ rfl).mono ?_
 rintro e w1 ⟨rfl,hq1⟩
 rw [uh HV]
 have HQ1 := zh hq1
 clear hq1 HQ HV hkc
 go_wp2_with fail
 refine (mayCount_any _ _).mono ?_
 rintro e w2 ⟨rfl,hw2⟩
 obtain rfl := hw2.symm
 clear hw2
 go_wp2_with fail
 refine (must_q (uh HQ1) (mc len)).mono ?_
 rintro e w3 ⟨rfl,hq3,-⟩
 have HQ3 := zh hq3
 have HG3 := zh ((uh HG).must (mc len))
 clear hq3 HQ1 HG
 obtain ⟨s1,HST⟩ : ∃ s1,Hid (s1 = st.bind (sMust (mc len))) := ⟨_,rfl⟩
 rw [<- uh HST] at HQ3 HG3
 go_wp2
 go_loopw [30] (fun i wr => ∃ k : Nat,k <= len /\ i = .int .i64 k /\ Hid (WQ w0 wr W p.no_codes (s1.bind (sEach sCode (ss.take k))) (m + k * c)) /\ Hid (Ge2 (s1.bind (sEach sCode (ss.take k))))) (fun i _ => len - (intOf i).toNat)
 case atStart => exact ⟨0,Nat.zero_le _,rfl,by rw [each_nil,Nat.zero_mul]; exact HQ3,by rw [each_nil]; exact HG3⟩
 case round =>
  obtain ⟨k,hk,rfl,HQK,HGK⟩ := hrel
  clear HQ3 HG3
  by_cases hlt : k < len
  ·have hkl : k < ss.length := by rw [uh HLN]; exact hlt
   have HE := zh (each_snoc sCode 0 s1 ss k hkl)
   have hmk : m + k * c + c <= 4611686018427300000 := by
    have := Nat.mul_le_mul_right c (show k + 1 <= len from hlt)
    rw [Nat.succ_mul] at this
    omega
   have HMS : Hid (m + k * c + c = m + (k + 1) * c) := by show _ = _; rw [Nat.succ_mul]; omega
   obtain ⟨b,off,rfl,hcl⟩ : ∃ b off,ao = some ⟨b,off,none⟩ /\ ∀ j,j < ss.length -> w0.cell? ⟨b,off + j,none⟩ = some (.int .i64 (ss.getD j 0)) := by
    rcases uh HS with e | k
    ·rw [e] at hkl; simp at hkl
    ·exact k
   have hb := hcl k hkl
   have hB := (uh HQK).bel
   have e0 := (hB.cell (cell_lt hb)).trans hb
   have hzz := (uh HZ) k hkl
   generalize ss.getD k 0 = sv at e0 hzz HE hb
   clear hcl hb hB
   generalize m + k * c = mk at HQK hmk HMS
   go_wp2_with fail
   refine (one_q (uh HQK) sv hzz (by omega)).mono ?_
   rintro e w5 ⟨rfl,hq5,-⟩
   have HQ5 := zh (hq5.mono (show _ <= mk + c from by omega))
   clear hq5 HQK e0
   go_wp2
   go_roundw
   case rel => exact ⟨k + 1,by omega,by go_num,by rw [uh HE,<- uh HMS]; exact HQ5,by rw [uh HE]; exact (uh HGK).add _ _⟩
   case measure => simp [intOf]; omega
  ·obtain rfl : k = len := by omega
   have HF : Hid (WQ w0 wr W p.no_codes ((st.bind (sMust (mc k))).bind (sEach sCode ss)) (m + k * c)) := by
    have q := uh HQK
    rw [List.take_of_length_le (Nat.le_of_eq (uh HLN)),uh HST] at q
    exact q
   go_wp2
   go_end0
   exact ⟨rfl,uh HF⟩
theorem wl_codes {w0 w : World} {W : Nat} {p : Pkv} {st : Option (List Int)} {m : Nat} (h : WQ w0 w W p st m) (hk : p.kind ≠ 8 /\ p.kind ≠ 10) (ss : List Int) (hS : Nms w0 p.codes.val ss) (hz : ∀ k,k < ss.length -> -9223372036854775808 <= ss.getD k 0 /\ ss.getD k 0 <= 9223372036854775807) (hg : Ge2 st) (c : Nat) (hc : 70001 <= c) (hm : m + ss.length * c <= 4611686018427300000) :
  Calls Tryz.prog 52 #[.pointer (some ⟨W,0,none⟩)] w fun e w' => e = .returned (.tuple #[]) /\ WQ w0 w' W p.no_codes ((st.bind (sMust (mc ss.length))).bind (sEach sCode ss)) (m + ss.length * c) := by
 obtain ⟨ao,cap,hv,⟨hlc,_⟩,hS⟩ := hS
 exact wl_codes_core h hk ss _ rfl ao cap hv hlc hS hz hg c hc hm
def sWill (u : Wl) (t : List Int) : Option (List Int) := ((sAdd (okP 16 u.props) (pbs u.props) t).bind (sAdd (okT u.topic) (tx u.topic))).bind (sAdd (okB u.payload) (tx u.payload))
def sPass (s : ByteArray) : List Int -> Option (List Int) := sAdd (okB s) (tx s)
abbrev mqtt : ByteArray := ⟨#[77,81,84,84]⟩
def sCon0 (kind fl keep : Int) (ok : Bool) (l : List Pr) (client : ByteArray) (t : List Int) : Option (List Int) :=
 ((((((sMust ok t).bind (sAdd (okT mqtt) (tx mqtt))).bind (sAdd (in8 5) [5 % 256])).bind (sAdd (in8 fl) [fl % 256])).bind (sAdd (in16 keep) (b2 keep))).bind (sAdd (okP kind l) (pbs l))).bind (sAdd (okT client) (tx client))
def sConn (kind fl keep : Int) (ok : Bool) (l : List Pr) (client : ByteArray) (ws : List Wl) (us ps : List ByteArray) (t : List Int) : Option (List Int) :=
 (((sCon0 kind fl keep ok l client t).bind (sEach sWill ws)).bind (sEach sTx us)).bind (sEach sPass ps)
theorem Ge2.of_add (st : Option (List Int)) (c : Bool) {ys : List Int} (h : 2 <= ys.length) : Ge2 (st.bind (sAdd c ys)) := fun l e => by
 cases st with
 | none => cases e
 | some t =>
  cases c
  ·cases e
  ·cases e
   rw [List.length_append]
   omega
theorem Ge2.will {st : Option (List Int)} (h : Ge2 st) (u : Wl) : Ge2 (st.bind (sWill u)) := fun l e =>
 (((h.add (okP 16 u.props) (pbs u.props)).add (okT u.topic) (tx u.topic)).add (okB u.payload) (tx u.payload)) l (by rw [<- e]; cases st <;> rfl)
def WlOk (u : Wl) : Prop := u.topic.size <= 4611686018427387904 /\ u.props.length <= 4398046511104 /\ Go.Proofs.YtemedclhglkfjaaGreatDoor.Small u.props
theorem conn_any {w0 w : World} {W : Nat} {p : Pkv} (h : WQ w0 w W p (some []) 0) (vs : List Wv) (hW : Rw w0 p.wills 5 (wcs vs)) (l : List Pr) (hP : Prp w0 p.props.val l) (hmx : l.length <= 4398046511104) (hsm : Go.Proofs.YtemedclhglkfjaaGreatDoor.Small l) (hcl : p.client.size <= 4611686018427387904) (hkp : -9223372036854775808 <= p.keep /\ p.keep <= 9223372036854775807)
  (hun : p.user.n <= maxLen) (hpn : p.pass.n <= maxLen) (hfl : -9223372036854775808 <= cfl p.user.n p.pass.n p.clean vs /\ cfl p.user.n p.pass.n p.clean vs <= 9223372036854775807)
  (ws : List Wl) (wn : Nat) (hwn : ws.length = wn) (wo : Option Addr) (wc : Nat) (hwv : p.wills.val = .slice wo wn wc) (hWS : ws = [] \/ ∃ b off,wo = some ⟨b,off,none⟩ /\ WlAt w0 b off ws) (hWO : ∀ k,k < ws.length -> WlOk (ws.getD k wl0))
  (us : List ByteArray) (un : Nat) (hus : us.length = un) (uo : Option Addr) (uc : Nat) (huv : p.user.val = .slice uo un uc) (hUS : us = [] \/ ∃ b off,uo = some ⟨b,off,none⟩ /\ ∀ j,j < us.length -> w0.cell? ⟨b,off + j,none⟩ = some (.string (us.getD j ⟨#[]⟩))) (hUO : ∀ k,k < us.length -> (us.getD k ⟨#[]⟩).size <= 4611686018427387904)
  (ps : List ByteArray) (pn : Nat) (hps : ps.length = pn) (po : Option Addr) (pc : Nat) (hpv : p.pass.val = .slice po pn pc) (hPS : ps = [] \/ ∃ b off,po = some ⟨b,off,none⟩ /\ ∀ j,j < ps.length -> w0.cell? ⟨b,off + j,none⟩ = some (.string (ps.getD j ⟨#[]⟩)))
  (c : Nat) (hc : 6000000 <= c) (hm : 6000000 + wn * c + un * c + pn * c <= 4611686018427300000) :
  Calls Tryz.prog 44 #[.pointer (some ⟨W,0,none⟩)] w (GPost w0 W p.no_clean.no_keep.no_props.no_client.no_wills.no_user.no_pass (sConn p.kind (cfl p.user.n p.pass.n p.clean vs) p.keep (cok p.user.n p.pass.n vs) l p.client ws us ps []) (6000000 + wn * c + un * c + pn * c)) := by
 have HP := zh hP
 have HSM := zh hsm
 have HWS := zh hWS
 have HWO := zh hWO
 have HUS := zh hUS
 have HUO := zh hUO
 have HPS := zh hPS
 have HWN := zh hwn
 have HUN := zh hus
 have HPN := zh hps
 have HWV := zh hwv
 have HUV := zh huv
 have HPV := zh hpv
 have HFLR := zh hfl
 have HQ := zh h
 clear h hP hsm hWS hWO hUS hUO hPS hwn hus hps hwv huv hpv
 have HRW := zh hW
 clear hW
 go_enter Tryz.func44,Tryz.ntmps44
 go_upto_region 1 with fail
 iterate 7 go_step
 refine wpList_load_mid rfl 30 _ rfl W 0 rfl p.cells _ (uh HQ).pk.range Tryz.underlying30 rfl packet_size ?_
 simp only [Act.put,List.setIfInBounds_toArray,List.set_cons_zero,List.set_cons_succ]
 go_wp2_with fail
 refine (connectFlags_any p vs w ((uh HRW).below (uh HQ).bel) hun hpn).mono ?_
 rintro e w1 ⟨rfl,hb1⟩
 have HQ1 := zh ((uh HQ).below hb1)
 clear hb1 HQ HRW
 generalize hfe : cfl p.user.n p.pass.n p.clean vs = fl at HFLR |-
 generalize hoe : cok p.user.n p.pass.n vs = ok
 have HFE := zh hfe
 have HOE := zh hoe
 clear hfe hoe
 go_wp2_with fail
 refine (must_q (uh HQ1) ok).mono ?_
 rintro e w2 ⟨rfl,hq2,-⟩
 have d1 := hq2.pk.clean
 have d2 := hq2.pk.clean_f
 have HQ2 := zh hq2.no_clean
 clear hq2 HQ1
 go_upto_region 4 with fail
 generalize w2.setCell ⟨W,9,none⟩ (.bool false) = w3 at HQ2 |-
 clear d1 d2
 go_wp2_with fail
 refine (text_q (uh HQ2) mqtt (by decide) (fun l e => by cases ok <;> cases e; simp) (by omega)).mono ?_
 rintro e w4 ⟨rfl,hq4,-⟩
 have HG4 := zh (Ge2.of_add ((some []).bind (sMust ok)) (okT mqtt) (show 2 <= (tx mqtt).length from by rw [tx_length]; omega))
 have HQ4 := zh hq4
 obtain ⟨s4,HS4⟩ : ∃ s4,Hid (s4 = ((some []).bind (sMust ok)).bind (sAdd (okT mqtt) (tx mqtt))) := ⟨_,rfl⟩
 rw [<- uh HS4] at HG4 HQ4
 clear hq4 HQ2
 go_wp2_with fail
 refine (one_q (uh HQ4) 5 (by omega) (by omega)).mono ?_
 rintro e w5 ⟨rfl,hq5,-⟩
 have HG5 := zh ((uh HG4).add (in8 5) [5 % 256])
 have HQ5 := zh hq5
 clear hq5 HQ4 HG4
 go_wp2_with fail
 refine (one_q (uh HQ5) fl (uh HFLR) (by omega)).mono ?_
 rintro e w6 ⟨rfl,hq6,-⟩
 have HG6 := zh ((uh HG5).add (in8 fl) [fl % 256])
 have HQ6 := zh hq6
 clear hq6 HQ5 HG5
 go_wp2_with fail
 refine (take_keep_q (uh HQ6) p.keep rfl).mono ?_
 rintro e w7 ⟨rfl,hq7⟩
 have HQ7 := zh hq7
 clear hq7 HQ6
 go_wp2_with fail
 refine (two_q (uh HQ7) p.keep hkp (by omega)).mono ?_
 rintro e w8 ⟨rfl,hq8,-⟩
 have HG8 := zh ((uh HG6).add (in16 p.keep) (b2 p.keep))
 have HQ8 := zh hq8
 obtain ⟨s8,HS8⟩ : ∃ s8,Hid (s8 = ((s4.bind (sAdd (in8 5) [5 % 256])).bind (sAdd (in8 fl) [fl % 256])).bind (sAdd (in16 p.keep) (b2 p.keep))) := ⟨_,rfl⟩
 rw [<- uh HS8] at HG8 HQ8
 clear hq8 HQ7 HG6
 go_wp2_with fail
 have HQd := zh ((uh HQ8).below (below_drewN (Below.refl _ _) 1))
 clear HQ8
 refine wp_region_noPanic ?_
 refine wp_region_held_drew (S := fun w' => w'.cell? ⟨W,0,none⟩ = some (.int .i64 p.kind)) (by kernel_rfl) (uh HQd).pk.kind (fun hHeld => ?_)
 refine rtk 0 (h := ?_)
 refine rtk 1 (h := ?_)
 refine rtk 2 (h := ?_)
 refine rtk 3 (h := ?_)
 refine rtk 5 (h := ?_)
 refine rtk 6 (h := ?_)
 refine rtk 7 (h := ?_)
 refine rtk 8 (h := ?_)
 refine rcl 4 (h := fun K hK => ?_)
 go_simp
 refine (take_props_q (uh HQd) p.props rfl).mono ?_
 rintro e wp1 ⟨rfl,hqp⟩
 have HQp := zh hqp
 clear hqp HQd
 refine hK.out _ _ (uh HQp).pk.kind (fun hHeld => ?_)
 clear hK K
 refine rcl 9 (h := fun K hK => ?_)
 go_simp
 refine (props_q (uh HQp) p.props.val l p.kind ((uh HP).below (uh HQp).bel) hmx (uh HSM) (uh HG8).one (by omega)).mono ?_
 rintro e wp2 ⟨rfl,hqp,-⟩
 have HQ9 := zh hqp
 clear hqp HQp
 refine hK.out _ _ (uh HQ9).pk.kind (fun hHeld => ?_)
 clear hK K
 refine wpAnyH_done (by kernel_rfl) ?_ _
 refine NoPanic.normal ?_
 have HG9 := zh ((uh HG8).add (okP p.kind l) (pbs l))
 clear HG8
 go_wp2_with fail
 refine (take_client_q (uh HQ9) p.client rfl).mono ?_
 rintro e w10 ⟨rfl,hq10⟩
 have HQ10 := zh hq10
 clear hq10 HQ9
 go_wp2_with fail
 refine (text_q (uh HQ10) p.client hcl (uh HG9).one (by omega)).mono ?_
 rintro e w11 ⟨rfl,hq11,-⟩
 have HG11 := zh ((uh HG9).add (okT p.client) (tx p.client))
 have HQ11 := zh (hq11.mono (show _ <= 6000000 from by omega))
 obtain ⟨s11,HS11⟩ : ∃ s11,Hid (s11 = (s8.bind (sAdd (okP p.kind l) (pbs l))).bind (sAdd (okT p.client) (tx p.client))) := ⟨_,rfl⟩
 rw [<- uh HS11] at HG11 HQ11
 clear hq11 HQ10 HG9
 go_wp2_with fail
 refine (take_wills_q (uh HQ11) p.wills rfl).mono ?_
 rintro e w12 ⟨rfl,hq12⟩
 rw [uh HWV]
 have HQ12 := zh hq12
 clear hq12 HQ11 HWV
 have hwl : wn <= 4611686018427300000 := Nat.le_trans (Nat.le_mul_of_pos_right _ (by omega)) (show wn * c <= 4611686018427300000 from by omega)
 have hul : un <= 4611686018427300000 := Nat.le_trans (Nat.le_mul_of_pos_right _ (by omega)) (show un * c <= 4611686018427300000 from by omega)
 have hpl : pn <= 4611686018427300000 := Nat.le_trans (Nat.le_mul_of_pos_right _ (by omega)) (show pn * c <= 4611686018427300000 from by omega)
 go_wp2
 go_loopw [61] (fun i wr => ∃ k : Nat,k <= wn /\ i = .int .i64 k /\ Hid (WQ w0 wr W p.no_clean.no_keep.no_props.no_client.no_wills (s11.bind (sEach sWill (ws.take k))) (6000000 + k * c)) /\ Hid (Ge2 (s11.bind (sEach sWill (ws.take k))))) (fun i _ => wn - (intOf i).toNat)
 case atStart => exact ⟨0,Nat.zero_le _,rfl,by rw [each_nil,Nat.zero_mul]; exact HQ12,by rw [each_nil]; exact HG11⟩
 case round =>
  obtain ⟨k,hk,rfl,HQK,HGK⟩ := hrel
  clear HQ12 HG11
  by_cases hlt : k < wn
  ·have hkl : k < ws.length := by rw [uh HWN]; exact hlt
   have HE := zh (each_snoc sWill wl0 s11 ws k hkl)
   have hmk : 6000000 + k * c + c <= 4611686018427300000 := by
    have := Nat.mul_le_mul_right c (show k + 1 <= wn from hlt)
    rw [Nat.succ_mul] at this
    omega
   have HMS : Hid (6000000 + k * c + c = 6000000 + (k + 1) * c) := by show _ = _; rw [Nat.succ_mul]; omega
   obtain ⟨b,off,rfl,hcl⟩ : ∃ b off,wo = some ⟨b,off,none⟩ /\ WlAt w0 b off ws := by
    rcases uh HWS with e | k
    ·rw [e] at hkl; simp at hkl
    ·exact k
   have hb := hcl k hkl
   have hB := (uh HQK).bel
   obtain ⟨ao,n,cap,⟨d0,d1,d2,d3,d4⟩,hpr,-⟩ := hb
   have hbl : b < w0.heap.size := cell_lt d0
   have e0 := (hB.cell hbl).trans d0
   have e1 := (hB.cell hbl).trans d1
   have e2 := (hB.cell hbl).trans d2
   have e3 := (hB.cell hbl).trans d3
   have e4 := (hB.cell hbl).trans d4
   have hWk := (uh HWO) k hkl
   have HPR := zh hpr
   clear d0 d1 d2 d3 d4 hpr
   generalize ws.getD k wl0 = u at e0 e1 e2 e3 e4 hWk HE HPR
   obtain ⟨hz1,hz2,hz3⟩ := hWk
   have HZ3 := zh hz3
   have hWlt := (uh HQK).lt
   clear hz3
   clear hcl hB
   generalize 6000000 + k * c = mk at HQK hmk HMS
   go_wp2_with fail
   refine (props_q ((uh HQK).below (bal _ _)) (.slice ao n cap) u.props 16 ((uh HPR).below ((uh HQK).below (bal _ _)).bel) hz2 (uh HZ3) (uh HGK).one (by omega)).mono ?_
   rintro e x1 ⟨rfl,hq1,hf1⟩
   have HN1 := zh (hf1.cell (heap_alloc_new _ _) (by omega) (by decide))
   have HR1 := zh hq1
   have f0 : x1.cell? ⟨wr.heap.size,0,none⟩ = some (.string u.topic) := by unfold World.cell?; dsimp only; rw [uh HN1]; rfl
   clear hq1 hf1 HQK e0 e1 e2 e3 e4
   go_wp2_with fail
   refine (text_q (uh HR1) u.topic hz1 ((uh HGK).add _ _).one (by omega)).mono ?_
   rintro e x2 ⟨rfl,hq2,hf2⟩
   have HN2 := zh (hf2.cell (uh HN1) (by omega) (by decide))
   have HR2 := zh hq2
   have f1 : x2.cell? ⟨wr.heap.size,1,none⟩ = some (.string u.payload) := by unfold World.cell?; dsimp only; rw [uh HN2]; rfl
   clear hq2 hf2 HR1 HN1 f0
   go_wp2_with fail
   refine (bin_q (uh HR2) u.payload (((uh HGK).add _ _).add _ _).one (by omega)).mono ?_
   rintro e x3 ⟨rfl,hq3,-⟩
   have HQN : Hid (WQ w0 x3 W p.no_clean.no_keep.no_props.no_client.no_wills ((s11.bind (sEach sWill (ws.take k))).bind (sWill u)) (mk + c)) := by
    have q := hq3.mono (show _ <= mk + c from by omega)
    rw [show ((((s11.bind (sEach sWill (ws.take k))).bind (sAdd (okP 16 u.props) (pbs u.props))).bind (sAdd (okT u.topic) (tx u.topic))).bind (sAdd (okB u.payload) (tx u.payload))) = (s11.bind (sEach sWill (ws.take k))).bind (sWill u) from by cases s11.bind (sEach sWill (ws.take k)) <;> rfl] at q
    exact q
   clear hq3 HR2 HN2 f1
   go_wp2
   go_roundw
   case rel => exact ⟨k + 1,by omega,by go_num,by rw [uh HE,<- uh HMS]; exact HQN,by rw [uh HE]; exact (uh HGK).will _⟩
   case measure => simp [intOf]; omega
  ·obtain rfl : wn = k := by omega
   have HQ13 : Hid (WQ w0 wr W p.no_clean.no_keep.no_props.no_client.no_wills (s11.bind (sEach sWill ws)) (6000000 + wn * c)) := by
    have q := uh HQK
    rw [List.take_of_length_le (Nat.le_of_eq (uh HWN))] at q
    exact q
   have HG13 : Hid (Ge2 (s11.bind (sEach sWill ws))) := by
    have q := uh HGK
    rw [List.take_of_length_le (Nat.le_of_eq (uh HWN))] at q
    exact q
   clear HQK HGK
   obtain ⟨s13,HS13⟩ : ∃ s13,Hid (s13 = s11.bind (sEach sWill ws)) := ⟨_,rfl⟩
   rw [<- uh HS13] at HQ13 HG13
   go_wp2_with fail
   refine (take_user_q (uh HQ13) p.user rfl).mono ?_
   rintro e wq ⟨rfl,hqq⟩
   rw [uh HUV]
   clear HQ13 HUV
   have HQ13 := zh hqq
   clear hqq
   go_wp2
   go_loopw [83] (fun i wr => ∃ k : Nat,k <= un /\ i = .int .i64 k /\ Hid (WQ w0 wr W p.no_clean.no_keep.no_props.no_client.no_wills.no_user (s13.bind (sEach sTx (us.take k))) (6000000 + wn * c + k * c)) /\ Hid (Ge2 (s13.bind (sEach sTx (us.take k))))) (fun i _ => un - (intOf i).toNat)
   case atStart => exact ⟨0,Nat.zero_le _,rfl,by rw [each_nil,Nat.zero_mul]; exact HQ13,by rw [each_nil]; exact HG13⟩
   case round =>
    obtain ⟨k,hk,rfl,HQK,HGK⟩ := hrel
    clear HQ13 HG13
    by_cases hlt : k < un
    ·have hkl : k < us.length := by rw [uh HUN]; exact hlt
     have HE := zh (each_snoc sTx ⟨#[]⟩ s13 us k hkl)
     have hmk : 6000000 + wn * c + k * c + c <= 4611686018427300000 := by
      have := Nat.mul_le_mul_right c (show k + 1 <= un from hlt)
      rw [Nat.succ_mul] at this
      omega
     have HMS : Hid (6000000 + wn * c + k * c + c = 6000000 + wn * c + (k + 1) * c) := by show _ = _; rw [Nat.succ_mul]; omega
     obtain ⟨b,off,rfl,hcl⟩ : ∃ b off,uo = some ⟨b,off,none⟩ /\ ∀ j,j < us.length -> w0.cell? ⟨b,off + j,none⟩ = some (.string (us.getD j ⟨#[]⟩)) := by
      rcases uh HUS with e | k
      ·rw [e] at hkl; simp at hkl
      ·exact k
     have hb := hcl k hkl
     have hB := (uh HQK).bel
     have e0 := (hB.cell (cell_lt hb)).trans hb
     have hzz := (uh HUO) k hkl
     generalize us.getD k ⟨#[]⟩ = sv at e0 hzz HE hb
     clear hcl hB
     generalize 6000000 + wn * c + k * c = mk at HQK hmk HMS
     go_wp2_with fail
     refine (text_q (uh HQK) sv hzz (uh HGK).one (by omega)).mono ?_
     rintro e wn ⟨rfl,hqn,-⟩
     have HQN := zh (hqn.mono (show _ <= mk + c from by omega))
     clear hqn HQK e0 hb
     go_wp2
     go_roundw
     case rel => exact ⟨k + 1,by omega,by go_num,by rw [uh HE,<- uh HMS]; exact HQN,by rw [uh HE]; exact (uh HGK).add _ _⟩
     case measure => simp [intOf]; omega
    ·obtain rfl : un = k := by omega
     have HQ14 : Hid (WQ w0 wr W p.no_clean.no_keep.no_props.no_client.no_wills.no_user (s13.bind (sEach sTx us)) (6000000 + wn * c + un * c)) := by
      have q := uh HQK
      rw [List.take_of_length_le (Nat.le_of_eq (uh HUN))] at q
      exact q
     have HG14 : Hid (Ge2 (s13.bind (sEach sTx us))) := by
      have q := uh HGK
      rw [List.take_of_length_le (Nat.le_of_eq (uh HUN))] at q
      exact q
     clear HQK HGK
     obtain ⟨s14,HS14⟩ : ∃ s14,Hid (s14 = s13.bind (sEach sTx us)) := ⟨_,rfl⟩
     rw [<- uh HS14] at HQ14 HG14
     go_wp2_with fail
     refine (take_pass_q (uh HQ14) p.pass rfl).mono ?_
     rintro e wq ⟨rfl,hqq⟩
     rw [uh HPV]
     clear HQ14 HPV
     have HQ14 := zh hqq
     clear hqq
     go_wp2
     go_loopw [96] (fun i wr => ∃ k : Nat,k <= pn /\ i = .int .i64 k /\ Hid (WQ w0 wr W p.no_clean.no_keep.no_props.no_client.no_wills.no_user.no_pass (s14.bind (sEach sPass (ps.take k))) (6000000 + wn * c + un * c + k * c)) /\ Hid (Ge2 (s14.bind (sEach sPass (ps.take k))))) (fun i _ => pn - (intOf i).toNat)
     case atStart => exact ⟨0,Nat.zero_le _,rfl,by rw [each_nil,Nat.zero_mul]; exact HQ14,by rw [each_nil]; exact HG14⟩
     case round =>
      obtain ⟨k,hk,rfl,HQK,HGK⟩ := hrel
      clear HQ14 HG14
      by_cases hlt : k < pn
      ·have hkl : k < ps.length := by rw [uh HPN]; exact hlt
       have HE := zh (each_snoc sPass ⟨#[]⟩ s14 ps k hkl)
       have hmk : 6000000 + wn * c + un * c + k * c + c <= 4611686018427300000 := by
        have := Nat.mul_le_mul_right c (show k + 1 <= pn from hlt)
        rw [Nat.succ_mul] at this
        omega
       have HMS : Hid (6000000 + wn * c + un * c + k * c + c = 6000000 + wn * c + un * c + (k + 1) * c) := by show _ = _; rw [Nat.succ_mul]; omega
       obtain ⟨b,off,rfl,hcl⟩ : ∃ b off,po = some ⟨b,off,none⟩ /\ ∀ j,j < ps.length -> w0.cell? ⟨b,off + j,none⟩ = some (.string (ps.getD j ⟨#[]⟩)) := by
        rcases uh HPS with e | k
        ·rw [e] at hkl; simp at hkl
        ·exact k
       have hb := hcl k hkl
       have hB := (uh HQK).bel
       have e0 := (hB.cell (cell_lt hb)).trans hb
       generalize ps.getD k ⟨#[]⟩ = sv at e0 HE hb
       clear hcl hB
       generalize 6000000 + wn * c + un * c + k * c = mk at HQK hmk HMS
       go_wp2_with fail
       refine (bin_q (uh HQK) sv (uh HGK).one (by omega)).mono ?_
       rintro e wn ⟨rfl,hqn,-⟩
       have HQN := zh (hqn.mono (show _ <= mk + c from by omega))
       clear hqn HQK e0 hb
       go_wp2
       go_roundw
       case rel => exact ⟨k + 1,by omega,by go_num,by rw [uh HE,<- uh HMS]; exact HQN,by rw [uh HE]; exact (uh HGK).add _ _⟩
       case measure => simp [intOf]; omega
      ·obtain rfl : pn = k := by omega
       have HQ15 : Hid (WQ w0 wr W p.no_clean.no_keep.no_props.no_client.no_wills.no_user.no_pass (s14.bind (sEach sPass ps)) (6000000 + wn * c + un * c + pn * c)) := by
        have q := uh HQK
        rw [List.take_of_length_le (Nat.le_of_eq (uh HPN))] at q
        exact q
       have HG15 : Hid (Ge2 (s14.bind (sEach sPass ps))) := by
        have q := uh HGK
        rw [List.take_of_length_le (Nat.le_of_eq (uh HPN))] at q
        exact q
       clear HQK HGK
       have HF : Hid (GPost w0 W p.no_clean.no_keep.no_props.no_client.no_wills.no_user.no_pass (sConn p.kind fl p.keep ok l p.client ws us ps []) (6000000 + wn * c + un * c + pn * c) (.returned (.tuple #[])) wr) := by
        have e : sConn p.kind fl p.keep ok l p.client ws us ps [] = s14.bind (sEach sPass ps) := by
         rw [uh HS14,uh HS13,uh HS11,uh HS8,uh HS4]
         rfl
        rw [e]
        exact ⟨rfl,(uh HQ15).wf⟩
       go_wp2
       go_end0
       rw [uh HFE,uh HOE]
       exact uh HF
theorem pk_none {w0 w : World} {W : Nat} {p : Pkv} (h : WQ w0 w W p (some []) 0) (hf : Fit p)  (hk : p.kind ≠ 1 /\ p.kind ≠ 2 /\ p.kind ≠ 3 /\ p.kind ≠ 4 /\ p.kind ≠ 5 /\ p.kind ≠ 6 /\ p.kind ≠ 7 /\ p.kind ≠ 8 /\ p.kind ≠ 9 /\ p.kind ≠ 10 /\ p.kind ≠ 11 /\ p.kind ≠ 14 /\ p.kind ≠ 15) :
  Calls Tryz.prog 24 #[.pointer (some ⟨W,0,none⟩)] w (GPost w0 W p ((some []).bind (sMust (emp (p)))) (0)) := by
 have hkc := h.pk.kind
 obtain ⟨k1,k2,k3,k4,k5,k6,k7,k8,k9,k10,k11,k14,k15⟩ := hk
 have k1 := beq_false_of_ne k1
 have k2 := beq_false_of_ne k2
 have k3 := beq_false_of_ne k3
 have k4 := beq_false_of_ne k4
 have k5 := beq_false_of_ne k5
 have k6 := beq_false_of_ne k6
 have k7 := beq_false_of_ne k7
 have k8 := beq_false_of_ne k8
 have k9 := beq_false_of_ne k9
 have k10 := beq_false_of_ne k10
 have k11 := beq_false_of_ne k11
 have k14 := beq_false_of_ne k14
 have k15 := beq_false_of_ne k15
 have HQ := zh h
 clear h
 go_enter Tryz.func24,Tryz.ntmps24
 have HF := zh (uh HQ).wf
 clear HQ
 go_upto_region 25 with fail
 iterate 13 go_step
 refine wpList_load_mid rfl 30 _ rfl W 0 rfl (p).cells _ (uh HF).pk.range Tryz.underlying30 rfl packet_size ?_
 simp only [Act.put,List.setIfInBounds_toArray,List.set_cons_zero,List.set_cons_succ]
 go_wp2_with fail
 refine (empty_any (p) hf _).mono ?_
 rintro e x1 ⟨rfl,hx1⟩
 have HFa := zh ((uh HF).below hx1)
 clear hx1 HF
 go_wp2_with fail
 refine (must_f (uh HFa) (emp (p))).mono ?_
 rintro e x2 ⟨rfl,hx2⟩
 have HFb := zh hx2
 clear hx2 HFa
 go_wp2
 go_end0
 exact ⟨rfl,uh HFb⟩
theorem pk_reason {w0 w : World} {W : Nat} {p : Pkv} (h : WQ w0 w W p (some []) 0) (hf : Fit p) (l : List Pr) (hP : Prp w0 p.props.val l) (hmx : l.length <= 4398046511104) (hsm : Go.Proofs.YtemedclhglkfjaaGreatDoor.Small l) (hk : p.kind = 14 \/ p.kind = 15) :
  Calls Tryz.prog 24 #[.pointer (some ⟨W,0,none⟩)] w (GPost w0 W p.no_code.no_props (((some []).bind (sReason p.code p.kind l)).bind (sMust (emp (p.no_code.no_props)))) (0 + 5000001)) := by
 have hkc := h.pk.kind
 have HP := zh hP
 have HSM := zh hsm
 clear hP hsm
 have HQ := zh h
 have HKK := zh hk
 rcases hk with hk | hk <;> rw [hk] at hkc <;> clear hk h
 all_goals (
  go_enter Tryz.func24,Tryz.ntmps24
  go_wp2_with fail
  refine (reason_f (uh HQ) l (uh HP) hmx (uh HSM) p.code rfl hf.nums.2.2.2 (by omega)).mono ?_
  rintro e w1 ⟨rfl,hq1⟩
  have HF := zh hq1
  clear hq1 HQ hkc
  go_upto_region 25 with fail
  iterate 13 go_step
  refine wpList_load_mid rfl 30 _ rfl W 0 rfl (p.no_code.no_props).cells _ (uh HF).pk.range Tryz.underlying30 rfl packet_size ?_
  simp only [Act.put,List.setIfInBounds_toArray,List.set_cons_zero,List.set_cons_succ]
  go_wp2_with fail
  refine (empty_any (p.no_code.no_props) hf.no_code.no_props _).mono ?_
  rintro e x1 ⟨rfl,hx1⟩
  have HFa := zh ((uh HF).below hx1)
  clear hx1 HF
  go_wp2_with fail
  refine (must_f (uh HFa) (emp (p.no_code.no_props))).mono ?_
  rintro e x2 ⟨rfl,hx2⟩
  have HFb := zh hx2
  clear hx2 HFa
  go_wp2
  go_end0
  exact ⟨rfl,uh HFb⟩)
theorem pk_ack {w0 w : World} {W : Nat} {p : Pkv} (h : WQ w0 w W p (some []) 0) (hf : Fit p) (l : List Pr) (hP : Prp w0 p.props.val l) (hmx : l.length <= 4398046511104) (hsm : Go.Proofs.YtemedclhglkfjaaGreatDoor.Small l) (hk : p.kind = 4 \/ p.kind = 5 \/ p.kind = 6 \/ p.kind = 7) :
  Calls Tryz.prog 24 #[.pointer (some ⟨W,0,none⟩)] w (GPost w0 W p.no_id.no_code.no_props ((((some []).bind (sAdd (in16 p.id && p.id != 0) (b2 p.id))).bind (sReason p.code p.kind l)).bind (sMust (emp (p.no_id.no_code.no_props)))) (0 + 2 + 5000001)) := by
 have hkc := h.pk.kind
 have HP := zh hP
 have HSM := zh hsm
 clear hP hsm
 have HQ := zh h
 have HKK := zh hk
 rcases hk with hk | hk | hk | hk <;> rw [hk] at hkc <;> clear hk h
 all_goals (
  go_enter Tryz.func24,Tryz.ntmps24
  go_wp2_with fail
  refine (take_id_q (uh HQ) p.id rfl).mono ?_
  rintro e w1 ⟨rfl,hq1⟩
  have HQ1 := zh hq1
  clear hq1 HQ hkc
  go_wp2_with fail
  refine (id_q (uh HQ1) p.id hf.nums.2.1 (by omega)).mono ?_
  rintro e w2 ⟨rfl,hq2,-⟩
  have HQ2 := zh hq2
  have HG2 := zh (Ge2.of_add (some []) (in16 p.id && p.id != 0) (show 2 <= (b2 p.id).length from Nat.le_refl _))
  clear hq2 HQ1
  go_wp2_with fail
  refine (reason_f (uh HQ2) l (uh HP) hmx (uh HSM) p.code rfl hf.nums.2.2.2 (by omega)).mono ?_
  rintro e w3 ⟨rfl,hq3⟩
  have HF := zh hq3
  clear hq3 HQ2 HG2
  go_upto_region 25 with fail
  iterate 13 go_step
  refine wpList_load_mid rfl 30 _ rfl W 0 rfl (p.no_id.no_code.no_props).cells _ (uh HF).pk.range Tryz.underlying30 rfl packet_size ?_
  simp only [Act.put,List.setIfInBounds_toArray,List.set_cons_zero,List.set_cons_succ]
  go_wp2_with fail
  refine (empty_any (p.no_id.no_code.no_props) hf.no_id.no_code.no_props _).mono ?_
  rintro e x1 ⟨rfl,hx1⟩
  have HFa := zh ((uh HF).below hx1)
  clear hx1 HF
  go_wp2_with fail
  refine (must_f (uh HFa) (emp (p.no_id.no_code.no_props))).mono ?_
  rintro e x2 ⟨rfl,hx2⟩
  have HFb := zh hx2
  clear hx2 HFa
  go_wp2
  go_end0
  exact ⟨rfl,uh HFb⟩)
theorem ge2_ones (a b : Int) : Ge2 (((some []).bind (sAdd (in8 a) [a % 256])).bind (sAdd (in8 b) [b % 256])) := fun l e => by
 cases ha : in8 a
 ·rw [ha] at e; cases e
 ·cases hb : in8 b
  ·rw [ha,hb] at e; cases e
  ·rw [ha,hb] at e; cases e; simp
theorem pk_connack {w0 w : World} {W : Nat} {p : Pkv} (h : WQ w0 w W p (some []) 0) (hf : Fit p) (l : List Pr) (hP : Prp w0 p.props.val l) (hmx : l.length <= 4398046511104) (hsm : Go.Proofs.YtemedclhglkfjaaGreatDoor.Small l) (hk : p.kind = 2) :
  Calls Tryz.prog 24 #[.pointer (some ⟨W,0,none⟩)] w (GPost w0 W p.no_session.no_code.no_props (((((some []).bind (sAdd (in8 (fv p.session 1)) [fv p.session 1 % 256])).bind (sAdd (in8 p.code) [p.code % 256])).bind (sAdd (okP p.kind l) (pbs l))).bind (sMust (emp (p.no_session.no_code.no_props)))) (0 + 1 + 1 + 5000000)) := by
 have hkc := h.pk.kind
 have HP := zh hP
 have HSM := zh hsm
 clear hP hsm
 have HQ := zh h
 rw [hk] at hkc
 have HK8 := zh hk
 clear h hk
 go_enter Tryz.func24,Tryz.ntmps24
 go_wp2_with fail
 refine (take_session_q (uh HQ) p.session rfl).mono ?_
 rintro e w1 ⟨rfl,hq1⟩
 have HQ1 := zh hq1
 clear hq1 HQ hkc
 go_wp2_with fail
 refine (flag_is p.session 1 _).mono ?_
 rintro e w2 ⟨rfl,hw2⟩
 obtain rfl := hw2.symm
 clear hw2
 have hfv : -9223372036854775808 <= fv p.session 1 /\ fv p.session 1 <= 9223372036854775807 := by unfold fv; split <;> decide
 go_wp2_with fail
 refine (one_q (uh HQ1) (fv p.session 1) hfv (by omega)).mono ?_
 rintro e w3 ⟨rfl,hq3,-⟩
 have HQ3 := zh hq3
 clear hq3 HQ1
 go_wp2_with fail
 refine (take_code_q (uh HQ3) p.code rfl).mono ?_
 rintro e w4 ⟨rfl,hq4⟩
 have HQ4 := zh hq4
 clear hq4 HQ3
 go_wp2_with fail
 refine (one_q (uh HQ4) p.code hf.nums.2.2.2 (by omega)).mono ?_
 rintro e w5 ⟨rfl,hq5,-⟩
 have HQ5 := zh hq5
 have HG5 := zh (ge2_ones (fv p.session 1) p.code)
 clear hq5 HQ4
 go_wp2_with fail
 have HQd := zh ((uh HQ5).below (below_drewN (Below.refl _ _) 1))
 clear HQ5
 refine wp_region_noPanic ?_
 refine wp_region_held_drew (S := fun w' => w'.cell? ⟨W,0,none⟩ = some (.int .i64 p.kind)) (by kernel_rfl) (uh HQd).pk.kind (fun hHeld => ?_)
 refine rtk 0 (h := ?_)
 refine rtk 1 (h := ?_)
 refine rtk 2 (h := ?_)
 refine rtk 3 (h := ?_)
 refine rtk 5 (h := ?_)
 refine rtk 6 (h := ?_)
 refine rtk 7 (h := ?_)
 refine rtk 8 (h := ?_)
 refine rcl 4 (h := fun K hK => ?_)
 go_simp
 refine (take_props_q (uh HQd) p.props rfl).mono ?_
 rintro e wp1 ⟨rfl,hqp⟩
 have HQp := zh hqp
 clear hqp HQd
 refine hK.out _ _ (uh HQp).pk.kind (fun hHeld => ?_)
 clear hK K
 refine rcl 9 (h := fun K hK => ?_)
 go_simp
 refine (props_q (uh HQp) p.props.val l p.kind ((uh HP).below (uh HQp).bel) hmx (uh HSM) (uh HG5).one (by omega)).mono ?_
 rintro e wp2 ⟨rfl,hqp,-⟩
 have HQ6 := zh hqp
 clear hqp HQp
 refine hK.out _ _ (uh HQ6).pk.kind (fun hHeld => ?_)
 clear hK K
 refine wpAnyH_done (by kernel_rfl) ?_ _
 refine NoPanic.normal ?_
 have HF := zh (uh HQ6).wf
 clear HQ6
 go_upto_region 25 with fail
 iterate 13 go_step
 refine wpList_load_mid rfl 30 _ rfl W 0 rfl (p.no_session.no_code.no_props).cells _ (uh HF).pk.range Tryz.underlying30 rfl packet_size ?_
 simp only [Act.put,List.setIfInBounds_toArray,List.set_cons_zero,List.set_cons_succ]
 go_wp2_with fail
 refine (empty_any (p.no_session.no_code.no_props) hf.no_session.no_code.no_props _).mono ?_
 rintro e x1 ⟨rfl,hx1⟩
 have HFa := zh ((uh HF).below hx1)
 clear hx1 HF
 go_wp2_with fail
 refine (must_f (uh HFa) (emp (p.no_session.no_code.no_props))).mono ?_
 rintro e x2 ⟨rfl,hx2⟩
 have HFb := zh hx2
 clear hx2 HFa
 go_wp2
 go_end0
 exact ⟨rfl,uh HFb⟩
theorem pk_subs {w0 w : World} {W : Nat} {p : Pkv} (h : WQ w0 w W p (some []) 0) (hf : Fit p) (l : List Pr) (hP : Prp w0 p.props.val l) (hmx : l.length <= 4398046511104) (hsm : Go.Proofs.YtemedclhglkfjaaGreatDoor.Small l) (ss : List Sb) (hS : Sbs w0 p.subs.val ss) (hz : ∀ k,k < ss.length -> (ss.getD k sb0).filter.size <= 4611686018427387904) (c : Nat) (hc : 70001 <= c) (hm : 5000002 + ss.length * c <= 4611686018427300000) (hk : p.kind = 8) :
  Calls Tryz.prog 24 #[.pointer (some ⟨W,0,none⟩)] w (GPost w0 W p.no_id.no_props.no_subs ((((((some []).bind (sAdd (in16 p.id && p.id != 0) (b2 p.id))).bind (sAdd (okP p.kind l) (pbs l))).bind (sMust (mc ss.length))).bind (sEach sSub ss)).bind (sMust (emp (p.no_id.no_props.no_subs)))) (5000002 + ss.length * c)) := by
 have hkc := h.pk.kind
 have HP := zh hP
 have HSM := zh hsm
 clear hP hsm
 have HS := zh hS
 have HZ := zh hz
 clear hS hz
 have HQ := zh h
 rw [hk] at hkc
 have HK8 := zh hk
 clear h hk
 go_enter Tryz.func24,Tryz.ntmps24
 go_wp2_with fail
 refine (take_id_q (uh HQ) p.id rfl).mono ?_
 rintro e w1 ⟨rfl,hq1⟩
 have HQ1 := zh hq1
 clear hq1 HQ hkc
 go_wp2_with fail
 refine (id_q (uh HQ1) p.id hf.nums.2.1 (by omega)).mono ?_
 rintro e w2 ⟨rfl,hq2,-⟩
 have HQ2 := zh hq2
 have HG2 := zh (Ge2.of_add (some []) (in16 p.id && p.id != 0) (show 2 <= (b2 p.id).length from Nat.le_refl _))
 clear hq2 HQ1
 go_wp2_with fail
 have HQd := zh ((uh HQ2).below (below_drewN (Below.refl _ _) 1))
 clear HQ2
 refine wp_region_noPanic ?_
 refine wp_region_held_drew (S := fun w' => w'.cell? ⟨W,0,none⟩ = some (.int .i64 p.kind)) (by kernel_rfl) (uh HQd).pk.kind (fun hHeld => ?_)
 refine rtk 0 (h := ?_)
 refine rtk 1 (h := ?_)
 refine rtk 2 (h := ?_)
 refine rtk 3 (h := ?_)
 refine rtk 5 (h := ?_)
 refine rtk 6 (h := ?_)
 refine rtk 7 (h := ?_)
 refine rtk 8 (h := ?_)
 refine rcl 4 (h := fun K hK => ?_)
 go_simp
 refine (take_props_q (uh HQd) p.props rfl).mono ?_
 rintro e wp1 ⟨rfl,hqp⟩
 have HQp := zh hqp
 clear hqp HQd
 refine hK.out _ _ (uh HQp).pk.kind (fun hHeld => ?_)
 clear hK K
 refine rcl 9 (h := fun K hK => ?_)
 go_simp
 refine (props_q (uh HQp) p.props.val l p.kind ((uh HP).below (uh HQp).bel) hmx (uh HSM) (uh HG2).one (by omega)).mono ?_
 rintro e wp2 ⟨rfl,hqp,-⟩
 have HQ3 := zh hqp
 clear hqp HQp
 refine hK.out _ _ (uh HQ3).pk.kind (fun hHeld => ?_)
 clear hK K
 refine wpAnyH_done (by kernel_rfl) ?_ _
 refine NoPanic.normal ?_
 have HG3 := zh ((uh HG2).add (okP p.kind l) (pbs l))
 clear HG2
 go_wp2_with fail
 refine (wl_subs (uh HQ3) (uh HK8) ss (uh HS) (uh HZ) (uh HG3) c hc (by omega)).mono ?_
 rintro e w5 ⟨rfl,hq5⟩
 have HF := zh (hq5.wf.mono (show _ <= 5000002 + ss.length * c from by omega))
 clear hq5 HQ3 HG3
 go_upto_region 25 with fail
 iterate 13 go_step
 refine wpList_load_mid rfl 30 _ rfl W 0 rfl (p.no_id.no_props.no_subs).cells _ (uh HF).pk.range Tryz.underlying30 rfl packet_size ?_
 simp only [Act.put,List.setIfInBounds_toArray,List.set_cons_zero,List.set_cons_succ]
 go_wp2_with fail
 refine (empty_any (p.no_id.no_props.no_subs) hf.no_id.no_props.no_subs _).mono ?_
 rintro e x1 ⟨rfl,hx1⟩
 have HFa := zh ((uh HF).below hx1)
 clear hx1 HF
 go_wp2_with fail
 refine (must_f (uh HFa) (emp (p.no_id.no_props.no_subs))).mono ?_
 rintro e x2 ⟨rfl,hx2⟩
 have HFb := zh hx2
 clear hx2 HFa
 go_wp2
 go_end0
 exact ⟨rfl,uh HFb⟩
theorem pk_filters {w0 w : World} {W : Nat} {p : Pkv} (h : WQ w0 w W p (some []) 0) (hf : Fit p) (l : List Pr) (hP : Prp w0 p.props.val l) (hmx : l.length <= 4398046511104) (hsm : Go.Proofs.YtemedclhglkfjaaGreatDoor.Small l) (ss : List ByteArray) (hS : Txs w0 p.filters.val ss) (hz : ∀ k,k < ss.length -> (ss.getD k ⟨#[]⟩).size <= 4611686018427387904) (c : Nat) (hc : 70001 <= c) (hm : 5000002 + ss.length * c <= 4611686018427300000) (hk : p.kind = 10) :
  Calls Tryz.prog 24 #[.pointer (some ⟨W,0,none⟩)] w (GPost w0 W p.no_id.no_props.no_filters ((((((some []).bind (sAdd (in16 p.id && p.id != 0) (b2 p.id))).bind (sAdd (okP p.kind l) (pbs l))).bind (sMust (mc ss.length))).bind (sEach sTx ss)).bind (sMust (emp (p.no_id.no_props.no_filters)))) (5000002 + ss.length * c)) := by
 have hkc := h.pk.kind
 have HP := zh hP
 have HSM := zh hsm
 clear hP hsm
 have HS := zh hS
 have HZ := zh hz
 clear hS hz
 have HQ := zh h
 rw [hk] at hkc
 have HK8 := zh hk
 clear h hk
 go_enter Tryz.func24,Tryz.ntmps24
 go_wp2_with fail
 refine (take_id_q (uh HQ) p.id rfl).mono ?_
 rintro e w1 ⟨rfl,hq1⟩
 have HQ1 := zh hq1
 clear hq1 HQ hkc
 go_wp2_with fail
 refine (id_q (uh HQ1) p.id hf.nums.2.1 (by omega)).mono ?_
 rintro e w2 ⟨rfl,hq2,-⟩
 have HQ2 := zh hq2
 have HG2 := zh (Ge2.of_add (some []) (in16 p.id && p.id != 0) (show 2 <= (b2 p.id).length from Nat.le_refl _))
 clear hq2 HQ1
 go_wp2_with fail
 have HQd := zh ((uh HQ2).below (below_drewN (Below.refl _ _) 1))
 clear HQ2
 refine wp_region_noPanic ?_
 refine wp_region_held_drew (S := fun w' => w'.cell? ⟨W,0,none⟩ = some (.int .i64 p.kind)) (by kernel_rfl) (uh HQd).pk.kind (fun hHeld => ?_)
 refine rtk 0 (h := ?_)
 refine rtk 1 (h := ?_)
 refine rtk 2 (h := ?_)
 refine rtk 3 (h := ?_)
 refine rtk 5 (h := ?_)
 refine rtk 6 (h := ?_)
 refine rtk 7 (h := ?_)
 refine rtk 8 (h := ?_)
 refine rcl 4 (h := fun K hK => ?_)
 go_simp
 refine (take_props_q (uh HQd) p.props rfl).mono ?_
 rintro e wp1 ⟨rfl,hqp⟩
 have HQp := zh hqp
 clear hqp HQd
 refine hK.out _ _ (uh HQp).pk.kind (fun hHeld => ?_)
 clear hK K
 refine rcl 9 (h := fun K hK => ?_)
 go_simp
 refine (props_q (uh HQp) p.props.val l p.kind ((uh HP).below (uh HQp).bel) hmx (uh HSM) (uh HG2).one (by omega)).mono ?_
 rintro e wp2 ⟨rfl,hqp,-⟩
 have HQ3 := zh hqp
 clear hqp HQp
 refine hK.out _ _ (uh HQ3).pk.kind (fun hHeld => ?_)
 clear hK K
 refine wpAnyH_done (by kernel_rfl) ?_ _
 refine NoPanic.normal ?_
 have HG3 := zh ((uh HG2).add (okP p.kind l) (pbs l))
 clear HG2
 go_wp2_with fail
 refine (wl_filters (uh HQ3) (uh HK8) ss (uh HS) (uh HZ) (uh HG3) c hc (by omega)).mono ?_
 rintro e w5 ⟨rfl,hq5⟩
 have HF := zh (hq5.wf.mono (show _ <= 5000002 + ss.length * c from by omega))
 clear hq5 HQ3 HG3
 go_upto_region 25 with fail
 iterate 13 go_step
 refine wpList_load_mid rfl 30 _ rfl W 0 rfl (p.no_id.no_props.no_filters).cells _ (uh HF).pk.range Tryz.underlying30 rfl packet_size ?_
 simp only [Act.put,List.setIfInBounds_toArray,List.set_cons_zero,List.set_cons_succ]
 go_wp2_with fail
 refine (empty_any (p.no_id.no_props.no_filters) hf.no_id.no_props.no_filters _).mono ?_
 rintro e x1 ⟨rfl,hx1⟩
 have HFa := zh ((uh HF).below hx1)
 clear hx1 HF
 go_wp2_with fail
 refine (must_f (uh HFa) (emp (p.no_id.no_props.no_filters))).mono ?_
 rintro e x2 ⟨rfl,hx2⟩
 have HFb := zh hx2
 clear hx2 HFa
 go_wp2
 go_end0
 exact ⟨rfl,uh HFb⟩
theorem pk_codes {w0 w : World} {W : Nat} {p : Pkv} (h : WQ w0 w W p (some []) 0) (hf : Fit p) (l : List Pr) (hP : Prp w0 p.props.val l) (hmx : l.length <= 4398046511104) (hsm : Go.Proofs.YtemedclhglkfjaaGreatDoor.Small l) (ss : List Int) (hS : Nms w0 p.codes.val ss) (hz : ∀ k,k < ss.length -> -9223372036854775808 <= ss.getD k 0 /\ ss.getD k 0 <= 9223372036854775807) (c : Nat) (hc : 70001 <= c) (hm : 5000002 + ss.length * c <= 4611686018427300000) (hk : p.kind = 9 \/ p.kind = 11) :
  Calls Tryz.prog 24 #[.pointer (some ⟨W,0,none⟩)] w (GPost w0 W p.no_id.no_props.no_codes ((((((some []).bind (sAdd (in16 p.id && p.id != 0) (b2 p.id))).bind (sAdd (okP p.kind l) (pbs l))).bind (sMust (mc ss.length))).bind (sEach sCode ss)).bind (sMust (emp (p.no_id.no_props.no_codes)))) (5000002 + ss.length * c)) := by
 have hkc := h.pk.kind
 have HP := zh hP
 have HSM := zh hsm
 clear hP hsm
 have HS := zh hS
 have HZ := zh hz
 clear hS hz
 have HQ := zh h
 have HKK := zh hk
 rcases hk with hk | hk <;> rw [hk] at hkc <;> clear hk h
 all_goals (
  go_enter Tryz.func24,Tryz.ntmps24
  go_wp2_with fail
  refine (take_id_q (uh HQ) p.id rfl).mono ?_
  rintro e w1 ⟨rfl,hq1⟩
  have HQ1 := zh hq1
  clear hq1 HQ hkc
  go_wp2_with fail
  refine (id_q (uh HQ1) p.id hf.nums.2.1 (by omega)).mono ?_
  rintro e w2 ⟨rfl,hq2,-⟩
  have HQ2 := zh hq2
  have HG2 := zh (Ge2.of_add (some []) (in16 p.id && p.id != 0) (show 2 <= (b2 p.id).length from Nat.le_refl _))
  clear hq2 HQ1
  go_wp2_with fail
  have HQd := zh ((uh HQ2).below (below_drewN (Below.refl _ _) 1))
  clear HQ2
  refine wp_region_noPanic ?_
  refine wp_region_held_drew (S := fun w' => w'.cell? ⟨W,0,none⟩ = some (.int .i64 p.kind)) (by kernel_rfl) (uh HQd).pk.kind (fun hHeld => ?_)
  refine rtk 0 (h := ?_)
  refine rtk 1 (h := ?_)
  refine rtk 2 (h := ?_)
  refine rtk 3 (h := ?_)
  refine rtk 5 (h := ?_)
  refine rtk 6 (h := ?_)
  refine rtk 7 (h := ?_)
  refine rtk 8 (h := ?_)
  refine rcl 4 (h := fun K hK => ?_)
  go_simp
  refine (take_props_q (uh HQd) p.props rfl).mono ?_
  rintro e wp1 ⟨rfl,hqp⟩
  have HQp := zh hqp
  clear hqp HQd
  refine hK.out _ _ (uh HQp).pk.kind (fun hHeld => ?_)
  clear hK K
  refine rcl 9 (h := fun K hK => ?_)
  go_simp
  refine (props_q (uh HQp) p.props.val l p.kind ((uh HP).below (uh HQp).bel) hmx (uh HSM) (uh HG2).one (by omega)).mono ?_
  rintro e wp2 ⟨rfl,hqp,-⟩
  have HQ3 := zh hqp
  clear hqp HQp
  refine hK.out _ _ (uh HQ3).pk.kind (fun hHeld => ?_)
  clear hK K
  refine wpAnyH_done (by kernel_rfl) ?_ _
  refine NoPanic.normal ?_
  have HG3 := zh ((uh HG2).add (okP p.kind l) (pbs l))
  clear HG2
  go_wp2_with fail
  refine (wl_codes (uh HQ3) (show p.kind ≠ 8 /\ p.kind ≠ 10 from by have := uh HKK; omega) ss (uh HS) (uh HZ) (uh HG3) c hc (by omega)).mono ?_
  rintro e w5 ⟨rfl,hq5⟩
  have HF := zh (hq5.wf.mono (show _ <= 5000002 + ss.length * c from by omega))
  clear hq5 HQ3 HG3
  go_upto_region 25 with fail
  iterate 13 go_step
  refine wpList_load_mid rfl 30 _ rfl W 0 rfl (p.no_id.no_props.no_codes).cells _ (uh HF).pk.range Tryz.underlying30 rfl packet_size ?_
  simp only [Act.put,List.setIfInBounds_toArray,List.set_cons_zero,List.set_cons_succ]
  go_wp2_with fail
  refine (empty_any (p.no_id.no_props.no_codes) hf.no_id.no_props.no_codes _).mono ?_
  rintro e x1 ⟨rfl,hx1⟩
  have HFa := zh ((uh HF).below hx1)
  clear hx1 HF
  go_wp2_with fail
  refine (must_f (uh HFa) (emp (p.no_id.no_props.no_codes))).mono ?_
  rintro e x2 ⟨rfl,hx2⟩
  have HFb := zh hx2
  clear hx2 HFa
  go_wp2
  go_end0
  exact ⟨rfl,uh HFb⟩)
theorem pk_pub_pos {w0 w : World} {W : Nat} {p : Pkv} (h : WQ w0 w W p (some []) 0) (hf : Fit p) (l : List Pr) (hP : Prp w0 p.props.val l) (hmx : l.length <= 4398046511104) (hsm : Go.Proofs.YtemedclhglkfjaaGreatDoor.Small l) (hto : p.topic.size <= 4611686018427387904) (hpy : p.payload.size <= 1073741824) (hq : 0 < p.qos) (hk : p.kind = 3) :
  Calls Tryz.prog 24 #[.pointer (some ⟨W,0,none⟩)] w (GPost w0 W p.no_dup.no_retain.no_topic.no_qos.no_id.no_props.no_payload ((sPub p.topic p.qos p.id p.kind l p.payload []).bind (sMust (emp (p.no_dup.no_retain.no_topic.no_qos.no_id.no_props.no_payload)))) (2000000000)) := by
 have hkc := h.pk.kind
 have HP := zh hP
 have HSM := zh hsm
 clear hP hsm
 have HHQ := zh hq
 clear hq
 have HQ := zh h
 rw [hk] at hkc
 have HK8 := zh hk
 clear h hk
 go_enter Tryz.func24,Tryz.ntmps24
 go_wp2_with fail
 refine (pub_pos (uh HQ) l (uh HP) hmx (uh HSM) hto hpy hf.nums.2.1 (uh HHQ)).mono ?_
 rintro e w1 ⟨rfl,hq1⟩
 have HF := zh hq1
 clear hq1 HQ hkc
 go_upto_region 25 with fail
 iterate 13 go_step
 refine wpList_load_mid rfl 30 _ rfl W 0 rfl (p.no_dup.no_retain.no_topic.no_qos.no_id.no_props.no_payload).cells _ (uh HF).pk.range Tryz.underlying30 rfl packet_size ?_
 simp only [Act.put,List.setIfInBounds_toArray,List.set_cons_zero,List.set_cons_succ]
 go_wp2_with fail
 refine (empty_any (p.no_dup.no_retain.no_topic.no_qos.no_id.no_props.no_payload) hf.no_dup.no_retain.no_topic.no_qos.no_id.no_props.no_payload _).mono ?_
 rintro e x1 ⟨rfl,hx1⟩
 have HFa := zh ((uh HF).below hx1)
 clear hx1 HF
 go_wp2_with fail
 refine (must_f (uh HFa) (emp (p.no_dup.no_retain.no_topic.no_qos.no_id.no_props.no_payload))).mono ?_
 rintro e x2 ⟨rfl,hx2⟩
 have HFb := zh hx2
 clear hx2 HFa
 go_wp2
 go_end0
 exact ⟨rfl,uh HFb⟩
theorem pk_pub_zero {w0 w : World} {W : Nat} {p : Pkv} (h : WQ w0 w W p (some []) 0) (hf : Fit p) (l : List Pr) (hP : Prp w0 p.props.val l) (hmx : l.length <= 4398046511104) (hsm : Go.Proofs.YtemedclhglkfjaaGreatDoor.Small l) (hto : p.topic.size <= 4611686018427387904) (hpy : p.payload.size <= 1073741824) (hq : ¬ 0 < p.qos) (hk : p.kind = 3) :
  Calls Tryz.prog 24 #[.pointer (some ⟨W,0,none⟩)] w (GPost w0 W p.no_dup.no_retain.no_topic.no_qos.no_props.no_payload ((sPub p.topic p.qos p.id p.kind l p.payload []).bind (sMust (emp (p.no_dup.no_retain.no_topic.no_qos.no_props.no_payload)))) (2000000000)) := by
 have hkc := h.pk.kind
 have HP := zh hP
 have HSM := zh hsm
 clear hP hsm
 have HHQ := zh hq
 clear hq
 have HQ := zh h
 rw [hk] at hkc
 have HK8 := zh hk
 clear h hk
 go_enter Tryz.func24,Tryz.ntmps24
 go_wp2_with fail
 refine (pub_zero (uh HQ) l (uh HP) hmx (uh HSM) hto hpy (show ¬ 0 < p.qos from by have := uh HHQ; omega)).mono ?_
 rintro e w1 ⟨rfl,hq1⟩
 have HF := zh hq1
 clear hq1 HQ hkc
 go_upto_region 25 with fail
 iterate 13 go_step
 refine wpList_load_mid rfl 30 _ rfl W 0 rfl (p.no_dup.no_retain.no_topic.no_qos.no_props.no_payload).cells _ (uh HF).pk.range Tryz.underlying30 rfl packet_size ?_
 simp only [Act.put,List.setIfInBounds_toArray,List.set_cons_zero,List.set_cons_succ]
 go_wp2_with fail
 refine (empty_any (p.no_dup.no_retain.no_topic.no_qos.no_props.no_payload) hf.no_dup.no_retain.no_topic.no_qos.no_props.no_payload _).mono ?_
 rintro e x1 ⟨rfl,hx1⟩
 have HFa := zh ((uh HF).below hx1)
 clear hx1 HF
 go_wp2_with fail
 refine (must_f (uh HFa) (emp (p.no_dup.no_retain.no_topic.no_qos.no_props.no_payload))).mono ?_
 rintro e x2 ⟨rfl,hx2⟩
 have HFb := zh hx2
 clear hx2 HFa
 go_wp2
 go_end0
 exact ⟨rfl,uh HFb⟩
theorem pk_conn {w0 w : World} {W : Nat} {p : Pkv} (h : WQ w0 w W p (some []) 0) (hf : Fit p) (vs : List Wv) (hW : Rw w0 p.wills 5 (wcs vs)) (l : List Pr) (hP : Prp w0 p.props.val l) (hmx : l.length <= 4398046511104) (hsm : Go.Proofs.YtemedclhglkfjaaGreatDoor.Small l) (hcl : p.client.size <= 4611686018427387904) (hkp : -9223372036854775808 <= p.keep /\ p.keep <= 9223372036854775807)
  (hun : p.user.n <= maxLen) (hpn : p.pass.n <= maxLen) (hfl : -9223372036854775808 <= cfl p.user.n p.pass.n p.clean vs /\ cfl p.user.n p.pass.n p.clean vs <= 9223372036854775807)
  (ws : List Wl) (wn : Nat) (hwn : ws.length = wn) (wo : Option Addr) (wc : Nat) (hwv : p.wills.val = .slice wo wn wc) (hWS : ws = [] \/ ∃ b off,wo = some ⟨b,off,none⟩ /\ WlAt w0 b off ws) (hWO : ∀ k,k < ws.length -> WlOk (ws.getD k wl0))
  (us : List ByteArray) (un : Nat) (hus : us.length = un) (uo : Option Addr) (uc : Nat) (huv : p.user.val = .slice uo un uc) (hUS : us = [] \/ ∃ b off,uo = some ⟨b,off,none⟩ /\ ∀ j,j < us.length -> w0.cell? ⟨b,off + j,none⟩ = some (.string (us.getD j ⟨#[]⟩))) (hUO : ∀ k,k < us.length -> (us.getD k ⟨#[]⟩).size <= 4611686018427387904)
  (ps : List ByteArray) (pn : Nat) (hps : ps.length = pn) (po : Option Addr) (pc : Nat) (hpv : p.pass.val = .slice po pn pc) (hPS : ps = [] \/ ∃ b off,po = some ⟨b,off,none⟩ /\ ∀ j,j < ps.length -> w0.cell? ⟨b,off + j,none⟩ = some (.string (ps.getD j ⟨#[]⟩)))
  (c : Nat) (hc : 6000000 <= c) (hm : 6000000 + wn * c + un * c + pn * c <= 4611686018427300000) (hk : p.kind = 1) :
  Calls Tryz.prog 24 #[.pointer (some ⟨W,0,none⟩)] w (GPost w0 W p.no_clean.no_keep.no_props.no_client.no_wills.no_user.no_pass ((sConn p.kind (cfl p.user.n p.pass.n p.clean vs) p.keep (cok p.user.n p.pass.n vs) l p.client ws us ps []).bind (sMust (emp (p.no_clean.no_keep.no_props.no_client.no_wills.no_user.no_pass)))) (6000000 + wn * c + un * c + pn * c)) := by
 have hkc := h.pk.kind
 have HC := zh (conn_any h vs hW l hP hmx hsm hcl hkp hun hpn hfl ws wn hwn wo wc hwv hWS hWO us un hus uo uc huv hUS hUO ps pn hps po pc hpv hPS c hc hm)
 clear hW hP hmx hsm hcl hkp hun hpn hfl hwn hwv hWS hWO hus huv hUS hUO hps hpv hPS hc hm
 have HQ := zh h
 rw [hk] at hkc
 have HK8 := zh hk
 clear h hk
 go_enter Tryz.func24,Tryz.ntmps24
 go_wp2_with fail
 refine (uh HC).mono ?_
 rintro e w1 ⟨rfl,hq1⟩
 have HF := zh hq1
 clear hq1 HQ hkc HC
 go_upto_region 25 with fail
 iterate 13 go_step
 refine wpList_load_mid rfl 30 _ rfl W 0 rfl (p.no_clean.no_keep.no_props.no_client.no_wills.no_user.no_pass).cells _ (uh HF).pk.range Tryz.underlying30 rfl packet_size ?_
 simp only [Act.put,List.setIfInBounds_toArray,List.set_cons_zero,List.set_cons_succ]
 go_wp2_with fail
 refine (empty_any (p.no_clean.no_keep.no_props.no_client.no_wills.no_user.no_pass) hf.no_clean.no_keep.no_props.no_client.no_wills.no_user.no_pass _).mono ?_
 rintro e x1 ⟨rfl,hx1⟩
 have HFa := zh ((uh HF).below hx1)
 clear hx1 HF
 go_wp2_with fail
 refine (must_f (uh HFa) (emp (p.no_clean.no_keep.no_props.no_client.no_wills.no_user.no_pass))).mono ?_
 rintro e x2 ⟨rfl,hx2⟩
 have HFb := zh hx2
 clear hx2 HFa
 go_wp2
 go_end0
 exact ⟨rfl,uh HFb⟩
def Pa.no_dup (P : Pa) : Pa := { P with dup := false }
def Pa.no_qos (P : Pa) : Pa := { P with qos := 0 }
def Pa.no_retain (P : Pa) : Pa := { P with retain := false }
def Pa.no_topic (P : Pa) : Pa := { P with topic := ⟨#[]⟩ }
def Pa.no_id (P : Pa) : Pa := { P with id := 0 }
def Pa.no_payload (P : Pa) : Pa := { P with payload := ⟨#[]⟩ }
def Pa.no_props (P : Pa) : Pa := { P with props := [] }
def Pa.no_client (P : Pa) : Pa := { P with client := ⟨#[]⟩ }
def Pa.no_clean (P : Pa) : Pa := { P with clean := false }
def Pa.no_keep (P : Pa) : Pa := { P with keep := 0 }
def Pa.no_wills (P : Pa) : Pa := { P with wills := [] }
def Pa.no_user (P : Pa) : Pa := { P with user := [] }
def Pa.no_pass (P : Pa) : Pa := { P with pass := [] }
def Pa.no_code (P : Pa) : Pa := { P with code := 0 }
def Pa.no_session (P : Pa) : Pa := { P with session := false }
def Pa.no_subs (P : Pa) : Pa := { P with subs := [] }
def Pa.no_filters (P : Pa) : Pa := { P with filters := [] }
def Pa.no_codes (P : Pa) : Pa := { P with codes := [] }
def EmpA (P : Pa) : Prop := (P.dup = false /\ P.retain = false /\ P.clean = false /\ P.session = false) /\ (P.qos = 0 /\ P.id = 0 /\ P.keep = 0 /\ P.code = 0) /\ (P.topic.size = 0 /\ P.payload.size = 0 /\ P.client.size = 0) /\ (P.props.length = 0 /\ P.wills.length = 0 /\ P.user.length = 0 /\ P.pass.length = 0 /\ P.subs.length = 0 /\ P.filters.length = 0 /\ P.codes.length = 0)
instance (P : Pa) : Decidable (EmpA P) := by unfold EmpA; exact inferInstance
def empA (P : Pa) : Bool := decide (EmpA P)
structure Cnt (q : Pkv) (P : Pa) : Prop where
 sc : q.kind = P.kind /\ q.dup = P.dup /\ q.qos = P.qos /\ q.retain = P.retain /\ q.topic = P.topic /\ q.id = P.id /\ q.payload = P.payload /\ q.client = P.client /\ q.clean = P.clean /\ q.keep = P.keep /\ q.code = P.code /\ q.session = P.session
 ns : q.props.n = P.props.length /\ q.wills.n = P.wills.length /\ q.user.n = P.user.length /\ q.pass.n = P.pass.length /\ q.subs.n = P.subs.length /\ q.filters.n = P.filters.length /\ q.codes.n = P.codes.length
theorem Cnt.emp {q : Pkv} {P : Pa} (h : Cnt q P) : emp q = empA P := by
 obtain ⟨⟨h0,h1,h2,h3,h4,h5,h6,h7,h8,h9,h10,h11⟩,k0,k1,k2,k3,k4,k5,k6⟩ := h
 unfold K.emp empA
 rw [decide_eq_decide]
 unfold Emp EmpA
 rw [h1,h2,h3,h4,h5,h6,h7,h8,h9,h10,h11,k0,k1,k2,k3,k4,k5,k6]
theorem Cnt.no_dup {q : Pkv} {P : Pa} (h : Cnt q P) : Cnt q.no_dup P.no_dup := by
 obtain ⟨⟨h0,h1,h2,h3,h4,h5,h6,h7,h8,h9,h10,h11⟩,k0,k1,k2,k3,k4,k5,k6⟩ := h
 exact ⟨⟨h0,rfl,h2,h3,h4,h5,h6,h7,h8,h9,h10,h11⟩,k0,k1,k2,k3,k4,k5,k6⟩
theorem Cnt.no_qos {q : Pkv} {P : Pa} (h : Cnt q P) : Cnt q.no_qos P.no_qos := by
 obtain ⟨⟨h0,h1,h2,h3,h4,h5,h6,h7,h8,h9,h10,h11⟩,k0,k1,k2,k3,k4,k5,k6⟩ := h
 exact ⟨⟨h0,h1,rfl,h3,h4,h5,h6,h7,h8,h9,h10,h11⟩,k0,k1,k2,k3,k4,k5,k6⟩
theorem Cnt.no_retain {q : Pkv} {P : Pa} (h : Cnt q P) : Cnt q.no_retain P.no_retain := by
 obtain ⟨⟨h0,h1,h2,h3,h4,h5,h6,h7,h8,h9,h10,h11⟩,k0,k1,k2,k3,k4,k5,k6⟩ := h
 exact ⟨⟨h0,h1,h2,rfl,h4,h5,h6,h7,h8,h9,h10,h11⟩,k0,k1,k2,k3,k4,k5,k6⟩
theorem Cnt.no_topic {q : Pkv} {P : Pa} (h : Cnt q P) : Cnt q.no_topic P.no_topic := by
 obtain ⟨⟨h0,h1,h2,h3,h4,h5,h6,h7,h8,h9,h10,h11⟩,k0,k1,k2,k3,k4,k5,k6⟩ := h
 exact ⟨⟨h0,h1,h2,h3,rfl,h5,h6,h7,h8,h9,h10,h11⟩,k0,k1,k2,k3,k4,k5,k6⟩
theorem Cnt.no_id {q : Pkv} {P : Pa} (h : Cnt q P) : Cnt q.no_id P.no_id := by
 obtain ⟨⟨h0,h1,h2,h3,h4,h5,h6,h7,h8,h9,h10,h11⟩,k0,k1,k2,k3,k4,k5,k6⟩ := h
 exact ⟨⟨h0,h1,h2,h3,h4,rfl,h6,h7,h8,h9,h10,h11⟩,k0,k1,k2,k3,k4,k5,k6⟩
theorem Cnt.no_payload {q : Pkv} {P : Pa} (h : Cnt q P) : Cnt q.no_payload P.no_payload := by
 obtain ⟨⟨h0,h1,h2,h3,h4,h5,h6,h7,h8,h9,h10,h11⟩,k0,k1,k2,k3,k4,k5,k6⟩ := h
 exact ⟨⟨h0,h1,h2,h3,h4,h5,rfl,h7,h8,h9,h10,h11⟩,k0,k1,k2,k3,k4,k5,k6⟩
theorem Cnt.no_props {q : Pkv} {P : Pa} (h : Cnt q P) : Cnt q.no_props P.no_props := by
 obtain ⟨⟨h0,h1,h2,h3,h4,h5,h6,h7,h8,h9,h10,h11⟩,k0,k1,k2,k3,k4,k5,k6⟩ := h
 exact ⟨⟨h0,h1,h2,h3,h4,h5,h6,h7,h8,h9,h10,h11⟩,rfl,k1,k2,k3,k4,k5,k6⟩
theorem Cnt.no_client {q : Pkv} {P : Pa} (h : Cnt q P) : Cnt q.no_client P.no_client := by
 obtain ⟨⟨h0,h1,h2,h3,h4,h5,h6,h7,h8,h9,h10,h11⟩,k0,k1,k2,k3,k4,k5,k6⟩ := h
 exact ⟨⟨h0,h1,h2,h3,h4,h5,h6,rfl,h8,h9,h10,h11⟩,k0,k1,k2,k3,k4,k5,k6⟩
theorem Cnt.no_clean {q : Pkv} {P : Pa} (h : Cnt q P) : Cnt q.no_clean P.no_clean := by
 obtain ⟨⟨h0,h1,h2,h3,h4,h5,h6,h7,h8,h9,h10,h11⟩,k0,k1,k2,k3,k4,k5,k6⟩ := h
 exact ⟨⟨h0,h1,h2,h3,h4,h5,h6,h7,rfl,h9,h10,h11⟩,k0,k1,k2,k3,k4,k5,k6⟩
theorem Cnt.no_keep {q : Pkv} {P : Pa} (h : Cnt q P) : Cnt q.no_keep P.no_keep := by
 obtain ⟨⟨h0,h1,h2,h3,h4,h5,h6,h7,h8,h9,h10,h11⟩,k0,k1,k2,k3,k4,k5,k6⟩ := h
 exact ⟨⟨h0,h1,h2,h3,h4,h5,h6,h7,h8,rfl,h10,h11⟩,k0,k1,k2,k3,k4,k5,k6⟩
theorem Cnt.no_wills {q : Pkv} {P : Pa} (h : Cnt q P) : Cnt q.no_wills P.no_wills := by
 obtain ⟨⟨h0,h1,h2,h3,h4,h5,h6,h7,h8,h9,h10,h11⟩,k0,k1,k2,k3,k4,k5,k6⟩ := h
 exact ⟨⟨h0,h1,h2,h3,h4,h5,h6,h7,h8,h9,h10,h11⟩,k0,rfl,k2,k3,k4,k5,k6⟩
theorem Cnt.no_user {q : Pkv} {P : Pa} (h : Cnt q P) : Cnt q.no_user P.no_user := by
 obtain ⟨⟨h0,h1,h2,h3,h4,h5,h6,h7,h8,h9,h10,h11⟩,k0,k1,k2,k3,k4,k5,k6⟩ := h
 exact ⟨⟨h0,h1,h2,h3,h4,h5,h6,h7,h8,h9,h10,h11⟩,k0,k1,rfl,k3,k4,k5,k6⟩
theorem Cnt.no_pass {q : Pkv} {P : Pa} (h : Cnt q P) : Cnt q.no_pass P.no_pass := by
 obtain ⟨⟨h0,h1,h2,h3,h4,h5,h6,h7,h8,h9,h10,h11⟩,k0,k1,k2,k3,k4,k5,k6⟩ := h
 exact ⟨⟨h0,h1,h2,h3,h4,h5,h6,h7,h8,h9,h10,h11⟩,k0,k1,k2,rfl,k4,k5,k6⟩
theorem Cnt.no_code {q : Pkv} {P : Pa} (h : Cnt q P) : Cnt q.no_code P.no_code := by
 obtain ⟨⟨h0,h1,h2,h3,h4,h5,h6,h7,h8,h9,h10,h11⟩,k0,k1,k2,k3,k4,k5,k6⟩ := h
 exact ⟨⟨h0,h1,h2,h3,h4,h5,h6,h7,h8,h9,rfl,h11⟩,k0,k1,k2,k3,k4,k5,k6⟩
theorem Cnt.no_session {q : Pkv} {P : Pa} (h : Cnt q P) : Cnt q.no_session P.no_session := by
 obtain ⟨⟨h0,h1,h2,h3,h4,h5,h6,h7,h8,h9,h10,h11⟩,k0,k1,k2,k3,k4,k5,k6⟩ := h
 exact ⟨⟨h0,h1,h2,h3,h4,h5,h6,h7,h8,h9,h10,rfl⟩,k0,k1,k2,k3,k4,k5,k6⟩
theorem Cnt.no_subs {q : Pkv} {P : Pa} (h : Cnt q P) : Cnt q.no_subs P.no_subs := by
 obtain ⟨⟨h0,h1,h2,h3,h4,h5,h6,h7,h8,h9,h10,h11⟩,k0,k1,k2,k3,k4,k5,k6⟩ := h
 exact ⟨⟨h0,h1,h2,h3,h4,h5,h6,h7,h8,h9,h10,h11⟩,k0,k1,k2,k3,rfl,k5,k6⟩
theorem Cnt.no_filters {q : Pkv} {P : Pa} (h : Cnt q P) : Cnt q.no_filters P.no_filters := by
 obtain ⟨⟨h0,h1,h2,h3,h4,h5,h6,h7,h8,h9,h10,h11⟩,k0,k1,k2,k3,k4,k5,k6⟩ := h
 exact ⟨⟨h0,h1,h2,h3,h4,h5,h6,h7,h8,h9,h10,h11⟩,k0,k1,k2,k3,k4,rfl,k6⟩
theorem Cnt.no_codes {q : Pkv} {P : Pa} (h : Cnt q P) : Cnt q.no_codes P.no_codes := by
 obtain ⟨⟨h0,h1,h2,h3,h4,h5,h6,h7,h8,h9,h10,h11⟩,k0,k1,k2,k3,k4,k5,k6⟩ := h
 exact ⟨⟨h0,h1,h2,h3,h4,h5,h6,h7,h8,h9,h10,h11⟩,k0,k1,k2,k3,k4,k5,rfl⟩
theorem sl_n {v : Value} {s : Sl} (hs : s.val = v) {a : Option Addr} {n c : Nat} (h : v = .slice a n c) : s.n = n := by
 subst hs
 simp only [Sl.val,Value.slice.injEq] at h
 exact h.2.1
theorem RPk.cnt {w : World} {q : Pkv} {P : Pa} (h : RPk w q P) : Cnt q P := by
 obtain ⟨h0,⟨_,_,h1,_⟩,⟨_,_,h2,_⟩,⟨_,_,h3,_⟩,⟨_,_,h4,_⟩,⟨_,_,h5,_⟩,⟨_,_,h6,_⟩,⟨_,_,h7,_⟩⟩ := h
 exact ⟨h0,sl_n rfl h1,sl_n rfl h2,sl_n rfl h3,sl_n rfl h4,sl_n rfl h5,sl_n rfl h6,sl_n rfl h7⟩
def cstepA (f : Int) (u : Wl) : Int := bits .or .i64 f (bits .or .i64 (bits .or .i64 4 (fv u.retain 32)) (IntKind.i64.wrap (u.qos * 8)))
def cflA (P : Pa) : Int := P.wills.foldl cstepA (cfl0 P.user.length P.pass.length P.clean)
def cokA (P : Pa) : Bool := cok0 P.wills.length P.user.length P.pass.length && P.wills.all fun u => mq u.qos
def fkA (P : Pa) : Int × Bool := if P.kind = 3 then (pfl P.dup P.qos P.retain,pok P.dup P.qos) else if P.kind = 6 \/ P.kind = 8 \/ P.kind = 10 then (2,true) else (0,decide (1 <= P.kind) && decide (P.kind <= 15))
def sIdA (P : Pa) : Option (List Int) := (some []).bind (sAdd (in16 P.id && P.id != 0) (b2 P.id))
def sIpA (P : Pa) : Option (List Int) := (sIdA P).bind (sAdd (okP P.kind P.props) (pbs P.props))
def eb (P : Pa) : Option (List Int) :=
 if P.kind = 1 then (sConn P.kind (cflA P) P.keep (cokA P) P.props P.client P.wills P.user P.pass []).bind (sMust (empA P.no_clean.no_keep.no_props.no_client.no_wills.no_user.no_pass))
 else if P.kind = 2 then ((((some []).bind (sAdd (in8 (fv P.session 1)) [fv P.session 1 % 256])).bind (sAdd (in8 P.code) [P.code % 256])).bind (sAdd (okP P.kind P.props) (pbs P.props))).bind (sMust (empA P.no_session.no_code.no_props))
 else if P.kind = 3 then (sPub P.topic P.qos P.id P.kind P.props P.payload []).bind (sMust (if 0 < P.qos then empA P.no_dup.no_retain.no_topic.no_qos.no_id.no_props.no_payload else empA P.no_dup.no_retain.no_topic.no_qos.no_props.no_payload))
 else if P.kind = 4 \/ P.kind = 5 \/ P.kind = 6 \/ P.kind = 7 then ((sIdA P).bind (sReason P.code P.kind P.props)).bind (sMust (empA P.no_id.no_code.no_props))
 else if P.kind = 8 then (((sIpA P).bind (sMust (mc P.subs.length))).bind (sEach sSub P.subs)).bind (sMust (empA P.no_id.no_props.no_subs))
 else if P.kind = 10 then (((sIpA P).bind (sMust (mc P.filters.length))).bind (sEach sTx P.filters)).bind (sMust (empA P.no_id.no_props.no_filters))
 else if P.kind = 9 \/ P.kind = 11 then (((sIpA P).bind (sMust (mc P.codes.length))).bind (sEach sCode P.codes)).bind (sMust (empA P.no_id.no_props.no_codes))
 else if P.kind = 14 \/ P.kind = 15 then ((some []).bind (sReason P.code P.kind P.props)).bind (sMust (empA P.no_code.no_props))
 else (some []).bind (sMust (empA P))
structure Big (P : Pa) : Prop where
 nums : (-9223372036854775808 <= P.qos /\ P.qos <= 9223372036854775807) /\ (-9223372036854775808 <= P.id /\ P.id <= 9223372036854775807) /\ (-9223372036854775808 <= P.keep /\ P.keep <= 9223372036854775807) /\ (-9223372036854775808 <= P.code /\ P.code <= 9223372036854775807)
 texts : P.topic.size <= 1000000000000000000 /\ P.payload.size <= 1073741824 /\ P.client.size <= 1000000000000000000
 lists : P.props.length <= 4398046511104 /\ P.wills.length <= 1000000 /\ P.user.length <= 1000000 /\ P.pass.length <= 1000000 /\ P.subs.length <= 1000000 /\ P.filters.length <= 1000000 /\ P.codes.length <= 1000000
 props : Go.Proofs.YtemedclhglkfjaaGreatDoor.Small P.props
 wills : ∀ k,k < P.wills.length -> WlOk (P.wills.getD k wl0)
 user : ∀ k,k < P.user.length -> (P.user.getD k ⟨#[]⟩).size <= 4611686018427387904
 subs : ∀ k,k < P.subs.length -> (P.subs.getD k sb0).filter.size <= 4611686018427387904
 filters : ∀ k,k < P.filters.length -> (P.filters.getD k ⟨#[]⟩).size <= 4611686018427387904
 codes : ∀ k,k < P.codes.length -> -9223372036854775808 <= P.codes.getD k 0 /\ P.codes.getD k 0 <= 9223372036854775807
theorem Big.fit {q : Pkv} {P : Pa} (h : Big P) (hc : Cnt q P) : Fit q := by
 obtain ⟨⟨h0,h1,h2,h3,h4,h5,h6,h7,h8,h9,h10,h11⟩,k0,k1,k2,k3,k4,k5,k6⟩ := hc
 have n := h.nums
 have t := h.texts
 have l := h.lists
 rw [<- h2,<- h5,<- h9,<- h10] at n
 rw [<- h4,<- h6,<- h7] at t
 rw [<- k0,<- k1,<- k2,<- k3,<- k4,<- k5,<- k6] at l
 exact ⟨n,⟨by omega,by omega,by omega⟩,by omega,by omega,by omega,by omega,by omega,by omega,by omega⟩
theorem fk_any (q : Pkv) (P : Pa) (hc : Cnt q P) (w : World) : Calls Tryz.prog 22 #[.agg q.cells.toArray] w fun e w' => e = .returned (.tuple #[.int .i64 (fkA P).1,.bool (fkA P).2]) /\ Below w.heap.size w w' := by
 obtain ⟨h0,h1,h2,h3,-⟩ := hc.sc
 show Calls Tryz.prog 22 #[q.val] w _
 unfold fkA
 rw [<- h0,<- h1,<- h2,<- h3]
 by_cases k3 : q.kind = 3
 ·rw [if_pos k3]
  exact flagsOf_pub q w k3
 ·rw [if_neg k3]
  by_cases k : q.kind = 6 \/ q.kind = 8 \/ q.kind = 10
  ·rw [if_pos k]
   exact flagsOf_fixed q w k
  ·rw [if_neg k]
   exact flagsOf_other q w k3 (fun e => k (.inl e)) (fun e => k (.inr (.inl e))) (fun e => k (.inr (.inr e)))
end Go.Proofs.YtemedclhglkfjaaGreatDoor.K
