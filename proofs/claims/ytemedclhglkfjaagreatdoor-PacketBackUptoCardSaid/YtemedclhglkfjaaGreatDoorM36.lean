/- Proved here: helpers, one text behind the other. -/
import Derived.Test.YtemedclhglkfjaaGreatDoorM33
import Derived.Test.YtemedclhglkfjaaGreatDoorZKTk
import Derived.Laws.AppendOwn
import Derived.Test.YtemedclhglkfjaaGreatDoorM22
set_option maxHeartbeats 20000000
namespace Go.Proofs.YtemedclhglkfjaaGreatDoor.K
open Go.RowKit
set_option maxRecDepth 100000
theorem infoSub : (Tryz.prog.info? 54).map (fun i => (i.zero,i.size,i.bytes)) = some (some (.agg #[.string ⟨#[]⟩,.int .i64 0,.bool false,.bool false,.int .i64 0]),5,40) := by kernel_rfl
theorem infoInt : (Tryz.prog.info? 3).map (fun i => (i.zero,i.size,i.bytes)) = some (some (.int .i64 0),1,8) := by kernel_rfl
theorem infoStr : (Tryz.prog.info? 9).map (fun i => (i.zero,i.size,i.bytes)) = some (some (.string ⟨#[]⟩),1,16) := by kernel_rfl
def Sb.cells (s : Sb) : List Value := [.string s.filter,.int .i64 s.qos,.bool s.nolocal,.bool s.aspub,.int .i64 s.handling]
def scs (d : List Sb) : List Value := d.flatMap Sb.cells
theorem scs_app (d : List Sb) (s : Sb) : scs (d ++ [s]) = scs d ++ s.cells := by unfold scs; simp
theorem five_cell (w : World) (a b c d e : Value) (t : TypeId) : ∀ j u,[a,b,c,d,e][j]? = some u -> (w.alloc (.cells #[a,b,c,d,e] t)).cell? ((⟨w.heap.size,0,none⟩ : Addr).add j) = some u := by
 intro j u hj
 match j,hj with
 | 0,hj => simp at hj; subst hj; simp [Addr.add]
 | 1,hj => simp at hj; subst hj; simp [Addr.add]
 | 2,hj => simp at hj; subst hj; simp [Addr.add]
 | 3,hj => simp at hj; subst hj; simp [Addr.add]
 | 4,hj => simp at hj; subst hj; simp [Addr.add]
theorem one_str (s : ByteArray) : ∀ u ∈ [Value.string s],u.oneCell' = true := by
 intro u hu; simp at hu; subst hu; rfl
theorem five_one (s : Sb) : ∀ u ∈ s.cells,u.oneCell' = true := by
 intro u hu
 simp only [Sb.cells,List.mem_cons,List.not_mem_nil,or_false] at hu
 rcases hu with rfl | rfl | rfl | rfl | rfl <;> rfl
def Listcodes (w0 : World) (R : Nat) (p : Pkv) (st : Option (List Int)) (w : World) (e : Ending) (w' : World) : Prop :=
 e = .returned (.tuple #[]) /\ ∃ (t : Sl) (d : List Int) (st' : Option (List Int)),Pk w' R { p with codes := t } /\ Hid (w'.ownsRow w.heap.size 3 1 t.val d.length (d.map (Value.int .i64))) /\ Stp (list? one?) st d st' /\ RS w0 w' R st' /\ BX R isAny w w'
theorem list_codes (R : Nat) (p : Pkv) (st : Option (List Int)) (w0 w : World) (h : RS w0 w R st) (hp : Pk w R p) (hF : p.codes = ⟨none,0,0⟩) (hl : ∀ l,st = some l -> l.length <= 65536) (h8 : p.kind ≠ 8) (h10 : p.kind ≠ 10) : Calls Tryz.prog 81 #[.pointer (some ⟨R,0,none⟩)] w (Listcodes w0 R p st w) := by
 obtain ⟨i0,hi,hz0,hz1,hz2⟩ := info_parts infoInt
 have hlt := h.lt
 have HW0 := h.keep
 have HP := zh hp
 have HS := zh h
 have HL := zh hl
 have HF := zh hF
 clear hp h hl hF
 go_enter Tryz.func81,Tryz.ntmps81
 go_wp2
 go_loopw [3] (fun c0 wr => ∃ (d : List Int) (st1 : Option (List Int)) (t : Sl) (k : Nat),c0 = .int .i64 k /\ k <= 65536 /\ Hid (d.length = k) /\ Hid (∀ l,st1 = some l -> k + l.length <= 65536) /\ Hid (Pk wr R { p with codes := t }) /\ Hid (wr.ownsRow w.heap.size 3 1 t.val k (d.map (Value.int .i64))) /\ Hid (Acc one? st d st1) /\ Hid (RS w0 wr R st1) /\ Hid (BX R isAny w wr)) (fun _ wr => mlen R wr)
 case atStart =>
  refine ⟨[],st,⟨none,0,0⟩,0,rfl,Nat.zero_le _,rfl,fun l hl => by have := (uh HL) l hl; omega,?_,World.ownsRow_nil _ _ _ _,Acc.start _ _,uh HS,BX.refl _ _ _⟩
  show Pk _ _ _
  have e : { p with codes := ⟨none,0,0⟩ } = p := by rw [<- uh HF]
  rw [e]
  exact uh HP
 case round =>
  obtain ⟨d,st1,⟨ta,tn,tc⟩,k,rfl,hk,HD,HB,HPk,HOwn,HAcc,HRS,HBX⟩ := hrel
  obtain ⟨ao,m,cap,c19,⟨g1,g2⟩,gl⟩ := (uh HRS).rest
  unfold maxLen at g2
  have c0 := (uh HPk).kind
  simp only at c0
  have cF : wr.cell? ⟨R,18,none⟩ = some (.slice ta tn tc) := (uh HPk).codes
  skip
  rcases (uh HRS).err with ⟨l,rfl,c20⟩ | ⟨rfl,ty,x,c20⟩
  ·have hm := gl l rfl
   clear gl
   by_cases hm0 : m = 0
   ·subst hm0
    obtain rfl : l = [] := List.length_eq_zero_iff.1 hm
    go_wp2_with fail
    refine (mayCount_any k _).mono ?_
    rintro e wa ⟨rfl,hwa⟩
    obtain rfl := hwa.symm
    clear hwa
    go_wp2_with fail
    refine (must_any R _ (some []) w0 wr (uh HRS)).mono ?_
    rintro e wb ⟨rfl,h2,hx2⟩
    have H2 := zh h2
    have HX2 := zh hx2
    clear h2 hx2
    go_wp2
    go_end0
    refine ⟨rfl,⟨ta,tn,tc⟩,d,_,(uh HPk).bx (uh HX2),?_,?_,uh H2,(uh HBX).trans (uh HX2).any⟩
    ·show World.ownsRow _ _ _ _ _ _ _
     rw [uh HD]
     exact owns_bx (uh HOwn) (uh HX2) hlt
    ·refine ((uh HAcc).done (.inr rfl)).bind ((?_ : Stp (mustR (mc d.length)) (some []) () (if mc k then (some []) else none)).bind (Stp.pure _ _))
     rw [uh HD]
     exact Stp.must _ _
   ·have hl0 : l ≠ [] := fun e => hm0 (by rw [<- hm,e]; rfl)
    have hbd := bel_drew wr
    obtain ⟨X,hXd⟩ : ∃ X : Nat -> Prop,X = fun g => g = R \/ some g = (Value.slice ta tn tc).ownBlock := ⟨_,rfl⟩
    have HRSd : Hid (RSX w0 wr.drew R X (some l)) := by
     subst hXd
     exact ((uh HRS).below hbd).good _ ⟨.inl rfl,fun g hg => by
      rcases hg with rfl | hg
      ·exact Nat.lt_of_lt_of_le hlt (uh HBX).size
      ·exact ((uh HOwn).lt g hg.symm).2⟩
    have HPd := zh ((uh HPk).below hbd)
    have HBXd : Hid (BX R isAny w wr.drew) := (uh HBX).trans (BX.of_below hbd (uh HRS).lt)
    have HOd : Hid (wr.drew.ownsRow w.heap.size 3 1 (.slice ta tn tc) k (d.map (Value.int .i64))) := owns_below (uh HOwn) hbd
    clear hbd
    go_wp2_with fail
    refine wp_region_noPanic ?_
    refine wp_region_held_drew (S := fun _ => True) (by kernel_rfl) trivial (fun hHeld => ?_)
    refine rtk 0 (h := ?_)
    refine rtk 1 (h := ?_)
    refine rtk 2 (h := ?_)
    refine rtk 3 (h := ?_)
    refine rtk 5 (h := ?_)
    refine wpAnyH_ready (rs := [4,6]) (by kernel_rfl) (by simp) ?_
    refine rac (h := fun K hK => ?ra) (hs := (rac (h := fun K hK => ?rb) (hs := AllReadyH.nil)))
    case' ra =>
     go_simp
     refine hK.out _ _ trivial (fun hHeld => ?_)
     clear hK K
     refine rcl 6 (h := fun K hK => ?_)
     go_simp
     refine (one_anyX R X (some l) w0 _ (uh HRSd)).mono ?_
     rintro e w2 ⟨x,st2,rfl,-,hs2,h2,hx2⟩
     have cF2 : w2.cell? ⟨R,18,none⟩ = some (.slice ta tn tc) := (hx2.cell 18 (by unfold isRE; omega)).trans cF
     have hs2l : w.heap.size <= w2.heap.size := Nat.le_trans (uh HBX).size hx2.size
     have HP2 := zh ((uh HPd).bx hx2)
     have HRS2 := zh h2
     have HST2 := zh hs2
     have HBX2 : Hid (BX R isAny w w2) := (uh HBXd).trans hx2.any
     have HO2 : Hid (w2.ownsRow w.heap.size 3 1 (.slice ta tn tc) k (d.map (Value.int .i64))) := owns_bx (uh HOd) hx2 hlt
     have hR2 : R < w2.heap.size := Nat.lt_of_lt_of_le hlt hs2l
     have cF3 : (w2.alloc (.cells #[.int .i64 x] 3)).cell? ⟨R,18,none⟩ = some (.slice ta tn tc) := (World.cell?_alloc_lt _ _ ⟨R,18,none⟩ hR2).trans cF2
     clear hx2 h2 hs2
     refine hK.out _ _ trivial (fun hHeld => ?_)
     clear hK K
     refine rcl 7 (h := fun K hK => ?_)
     go_simp
     refine hK.out _ _ trivial (fun hHeld => ?_)
     clear hK K
    case' rb =>
     go_simp
     refine (one_anyX R X (some l) w0 _ (uh HRSd)).mono ?_
     rintro e w2 ⟨x,st2,rfl,-,hs2,h2,hx2⟩
     have cF2 : w2.cell? ⟨R,18,none⟩ = some (.slice ta tn tc) := (hx2.cell 18 (by unfold isRE; omega)).trans cF
     have hs2l : w.heap.size <= w2.heap.size := Nat.le_trans (uh HBX).size hx2.size
     have HP2 := zh ((uh HPd).bx hx2)
     have HRS2 := zh h2
     have HST2 := zh hs2
     have HBX2 : Hid (BX R isAny w w2) := (uh HBXd).trans hx2.any
     have HO2 : Hid (w2.ownsRow w.heap.size 3 1 (.slice ta tn tc) k (d.map (Value.int .i64))) := owns_bx (uh HOd) hx2 hlt
     have hR2 : R < w2.heap.size := Nat.lt_of_lt_of_le hlt hs2l
     have cF3 : (w2.alloc (.cells #[.int .i64 x] 3)).cell? ⟨R,18,none⟩ = some (.slice ta tn tc) := (World.cell?_alloc_lt _ _ ⟨R,18,none⟩ hR2).trans cF2
     clear hx2 h2 hs2
     refine hK.out _ _ trivial (fun hHeld => ?_)
     clear hK K
     refine wpAnyH_ready (rs := [4,7]) (by kernel_rfl) (by simp) ?_
     refine rac (h := fun K hK => ?rc) (hs := (rac (h := fun K hK => ?rd) (hs := AllReadyH.nil)))
     case' rc =>
      go_simp
      refine hK.out _ _ trivial (fun hHeld => ?_)
      clear hK K
      refine rcl 7 (h := fun K hK => ?_)
      go_simp
      refine hK.out _ _ trivial (fun hHeld => ?_)
      clear hK K
     case' rd =>
      go_simp
      refine hK.out _ _ trivial (fun hHeld => ?_)
      clear hK K
      refine rcl 4 (h := fun K hK => ?_)
      go_simp
      refine hK.out _ _ trivial (fun hHeld => ?_)
      clear hK K
    all_goals (
     refine rcl 8 (h := fun K hK => ?_)
     refine step_append_run (Z := fun v' w' => w'.ownsRow w.heap.size 3 1 v' (k + 1) ((d.map (Value.int .i64)) ++ [.int .i64 x]) /\ (w2.alloc (.cells #[.int .i64 x] 3)).grownBy w' (Value.slice ta tn tc).ownBlock) rfl _ _ 28 rfl (.slice ta tn tc) (.slice (some ⟨w2.heap.size,0,none⟩) 1 1) rfl rfl ?hr ?_
     case hr =>
      obtain ⟨v4,w4,h1,h2,h3,_⟩ := run_append_own (P := Tryz.prog) (w := (w2.alloc (.cells #[.int .i64 x] 3))) w.heap.size 28 28 3 i0 _ 1 8 Tryz.underlying28 hi hz0 hz1 hz2 rfl (by decide) (.slice ta tn tc) k _ ((uh HO2).alloc _) ⟨w2.heap.size,0,none⟩ 1 1 [.int .i64 x] rfl (one_cell _ _ _) (one_one _ _) (by unfold maxLen; omega) (by omega) (by simp; omega)
      exact ⟨v4,w4,h1,h2,h3⟩
     rintro v4 w4 ⟨hO4,hg4⟩
     have hrow : ∀ g,(Value.slice ta tn tc).ownBlock = some g -> w.heap.size <= g /\ g < wr.heap.size := fun g hg => (uh HOwn).lt g hg
     have hrR : (Value.slice ta tn tc).ownBlock ≠ some R := fun e => by have := (hrow R e).1; omega
     have HP4 : Hid (Pk w4 R { p with codes := ⟨ta,tn,tc⟩ }) := ((uh HP2).below (bal _ _)).grown hg4 hrR
     have h0w : w0.heap.size <= w.heap.size := HW0.size
     have HRS4 : Hid (RSX w0 w4 R X st2) := ((uh HRS2).below (bal _ _)).grown hg4 (fun g hg => by rw [hXd]; exact .inr hg.symm) hrR (fun g hg => Nat.le_trans h0w (hrow g hg).1)
     have HBX4 : Hid (BX R isAny w w4) := ((uh HBX2).trans (BX.of_below (bal _ _) hR2)).grown hg4 (fun g hg => (hrow g hg).1) hlt
     obtain ⟨⟨sa,sn,sc⟩,hv4,_⟩ := owns_sl hO4
     have hv4 : v4 = .slice sa sn sc := hv4
     subst hv4
     have HO4 := zh hO4
     have cF4 : w4.cell? ⟨R,18,none⟩ = some (.slice ta tn tc) := (uh HP4).codes
     have fF4 : w4.frozen? ⟨R,18,none⟩ = false := (uh HP4).codes_f
     clear hO4 hg4 hrow cF2 cF3 HP2 HRS2 HBX2
     refine hK.out _ _ trivial (fun hHeld => ?_)
     clear hK K
     simp only [Act.put,List.setIfInBounds_toArray,List.set_cons_zero,List.set_cons_succ]
     refine rtk 9 (h := ?_)
     refine rtk 10 (h := ?_)
     refine rcl 11 (h := fun K hK => ?_)
     go_simp
     refine hK.out _ _ trivial (fun hHeld => ?_)
     clear hK K
     refine wpAnyH_done (by kernel_rfl) ?_ _
     refine NoPanic.normal ?_
     have HRS5 : Hid (RS w0 (w4.setCell ⟨R,18,none⟩ (.slice sa sn sc)) R st2) := ((uh HRS4).less (fun g => g = R) rfl (fun g hg => by rw [hXd]; exact .inl hg)).set 18 _ (by decide)
     have HP5 : Hid (Pk (w4.setCell ⟨R,18,none⟩ (.slice sa sn sc)) R { p with codes := ⟨sa,sn,sc⟩ }) := (uh HP4).set_codes ⟨sa,sn,sc⟩
     have HBX5 : Hid (BX R isAny w (w4.setCell ⟨R,18,none⟩ (.slice sa sn sc))) := (uh HBX4).set 18 _ trivial
     have HO5 : Hid ((w4.setCell ⟨R,18,none⟩ (.slice sa sn sc)).ownsRow w.heap.size 3 1 (.slice sa sn sc) (k + 1) ((d ++ [x]).map (Value.int .i64))) := by
      show World.ownsRow _ _ _ _ _ _ _
      rw [show ((d ++ [x]).map (Value.int .i64)) = (d.map (Value.int .i64)) ++ [.int .i64 x] from by simp]
      exact owns_bx (uh HO4) ((BX.refl R isAny w4).set 18 _ trivial) hlt
     have HA5 : Hid (Acc one? st (d ++ [x]) st2) := (uh HAcc).step one?_shr (uh HST2) hl0
     have HB5 : Hid (∀ l',st2 = some l' -> (k + 1) + l'.length <= 65536) := by
      intro l' hl'
      subst hl'
      have h2 := stp_len one?_shr (uh HST2)
      have h3 := (uh HB) l rfl
      omega
     have hM : mlen R (w4.setCell ⟨R,18,none⟩ (.slice sa sn sc)) < mlen R wr := by
      rw [mlen_some (uh HRS)]
      cases st2 with
      | none => rw [mlen_none (uh HRS5)]; omega
      | some l' =>
       rw [mlen_some (uh HRS5)]
       have := stp_len one?_shr (uh HST2)
       omega
     have hk1 : k + 1 <= 65536 := by
      have h3 := (uh HB) l rfl
      have := List.length_pos_iff.2 hl0
      omega
     have HD5 : Hid ((d ++ [x]).length = k + 1) := by show _ = _; rw [List.length_append,uh HD]; rfl
     clear HRS4 HP4 HBX4 HO4 cF4 fF4
     go_wp2
     go_roundw
     case rel => exact ⟨d ++ [x],st2,⟨sa,sn,sc⟩,k + 1,by go_num,hk1,HD5,HB5,HP5,HO5,HA5,HRS5,HBX5⟩
     case measure => exact hM)
  ·clear gl
   go_wp2_with fail
   refine (mayCount_any k _).mono ?_
   rintro e wa ⟨rfl,hwa⟩
   obtain rfl := hwa.symm
   clear hwa
   go_wp2_with fail
   refine (must_any R _ none w0 wr (uh HRS)).mono ?_
   rintro e wb ⟨rfl,h2,hx2⟩
   have H2 := zh h2
   have HX2 := zh hx2
   clear h2 hx2
   go_wp2
   go_end0
   refine ⟨rfl,⟨ta,tn,tc⟩,d,_,(uh HPk).bx (uh HX2),?_,?_,uh H2,(uh HBX).trans (uh HX2).any⟩
   ·show World.ownsRow _ _ _ _ _ _ _
    rw [uh HD]
    exact owns_bx (uh HOwn) (uh HX2) hlt
   ·refine ((uh HAcc).done (.inl rfl)).bind ((?_ : Stp (mustR (mc d.length)) none () (if mc k then none else none)).bind (Stp.pure _ _))
    rw [uh HD]
    exact Stp.must _ _
def Listfilters (w0 : World) (R : Nat) (p : Pkv) (st : Option (List Int)) (w : World) (e : Ending) (w' : World) : Prop :=
 e = .returned (.tuple #[]) /\ ∃ (t : Sl) (d : List ByteArray) (st' : Option (List Int)),Pk w' R { p with filters := t } /\ Hid (w'.ownsRow w.heap.size 9 1 t.val d.length (d.map Value.string)) /\ Stp (list? text?) st d st' /\ RS w0 w' R st' /\ BX R isAny w w'
theorem list_filters (R : Nat) (p : Pkv) (st : Option (List Int)) (w0 w : World) (h : RS w0 w R st) (hp : Pk w R p) (hF : p.filters = ⟨none,0,0⟩) (hl : ∀ l,st = some l -> l.length <= 65536) (h10 : p.kind = 10) : Calls Tryz.prog 81 #[.pointer (some ⟨R,0,none⟩)] w (Listfilters w0 R p st w) := by
 obtain ⟨i0,hi,hz0,hz1,hz2⟩ := info_parts infoStr
 have hlt := h.lt
 have HW0 := h.keep
 have HP := zh hp
 have HS := zh h
 have HL := zh hl
 have HF := zh hF
 clear hp h hl hF
 go_enter Tryz.func81,Tryz.ntmps81
 go_wp2
 go_loopw [3] (fun c0 wr => ∃ (d : List ByteArray) (st1 : Option (List Int)) (t : Sl) (k : Nat),c0 = .int .i64 k /\ k <= 65536 /\ Hid (d.length = k) /\ Hid (∀ l,st1 = some l -> k + l.length <= 65536) /\ Hid (Pk wr R { p with filters := t }) /\ Hid (wr.ownsRow w.heap.size 9 1 t.val k (d.map Value.string)) /\ Hid (Acc text? st d st1) /\ Hid (RS w0 wr R st1) /\ Hid (BX R isAny w wr)) (fun _ wr => mlen R wr)
 case atStart =>
  refine ⟨[],st,⟨none,0,0⟩,0,rfl,Nat.zero_le _,rfl,fun l hl => by have := (uh HL) l hl; omega,?_,World.ownsRow_nil _ _ _ _,Acc.start _ _,uh HS,BX.refl _ _ _⟩
  show Pk _ _ _
  have e : { p with filters := ⟨none,0,0⟩ } = p := by rw [<- uh HF]
  rw [e]
  exact uh HP
 case round =>
  obtain ⟨d,st1,⟨ta,tn,tc⟩,k,rfl,hk,HD,HB,HPk,HOwn,HAcc,HRS,HBX⟩ := hrel
  obtain ⟨ao,m,cap,c19,⟨g1,g2⟩,gl⟩ := (uh HRS).rest
  unfold maxLen at g2
  have c0 := (uh HPk).kind
  simp only at c0
  have cF : wr.cell? ⟨R,17,none⟩ = some (.slice ta tn tc) := (uh HPk).filters
  rw [h10] at c0
  rcases (uh HRS).err with ⟨l,rfl,c20⟩ | ⟨rfl,ty,x,c20⟩
  ·have hm := gl l rfl
   clear gl
   by_cases hm0 : m = 0
   ·subst hm0
    obtain rfl : l = [] := List.length_eq_zero_iff.1 hm
    go_wp2_with fail
    refine (mayCount_any k _).mono ?_
    rintro e wa ⟨rfl,hwa⟩
    obtain rfl := hwa.symm
    clear hwa
    go_wp2_with fail
    refine (must_any R _ (some []) w0 wr (uh HRS)).mono ?_
    rintro e wb ⟨rfl,h2,hx2⟩
    have H2 := zh h2
    have HX2 := zh hx2
    clear h2 hx2
    go_wp2
    go_end0
    refine ⟨rfl,⟨ta,tn,tc⟩,d,_,(uh HPk).bx (uh HX2),?_,?_,uh H2,(uh HBX).trans (uh HX2).any⟩
    ·show World.ownsRow _ _ _ _ _ _ _
     rw [uh HD]
     exact owns_bx (uh HOwn) (uh HX2) hlt
    ·refine ((uh HAcc).done (.inr rfl)).bind ((?_ : Stp (mustR (mc d.length)) (some []) () (if mc k then (some []) else none)).bind (Stp.pure _ _))
     rw [uh HD]
     exact Stp.must _ _
   ·have hl0 : l ≠ [] := fun e => hm0 (by rw [<- hm,e]; rfl)
    have hbd := bel_drew wr
    obtain ⟨X,hXd⟩ : ∃ X : Nat -> Prop,X = fun g => g = R \/ some g = (Value.slice ta tn tc).ownBlock := ⟨_,rfl⟩
    have HRSd : Hid (RSX w0 wr.drew R X (some l)) := by
     subst hXd
     exact ((uh HRS).below hbd).good _ ⟨.inl rfl,fun g hg => by
      rcases hg with rfl | hg
      ·exact Nat.lt_of_lt_of_le hlt (uh HBX).size
      ·exact ((uh HOwn).lt g hg.symm).2⟩
    have HPd := zh ((uh HPk).below hbd)
    have HBXd : Hid (BX R isAny w wr.drew) := (uh HBX).trans (BX.of_below hbd (uh HRS).lt)
    have HOd : Hid (wr.drew.ownsRow w.heap.size 9 1 (.slice ta tn tc) k (d.map Value.string)) := owns_below (uh HOwn) hbd
    clear hbd
    go_wp2_with fail
    refine wp_region_noPanic ?_
    refine wp_region_held_drew (S := fun _ => True) (by kernel_rfl) trivial (fun hHeld => ?_)
    refine rtk 0 (h := ?_)
    refine rtk 1 (h := ?_)
    refine rtk 2 (h := ?_)
    refine rtk 3 (h := ?_)
    refine rtk 5 (h := ?_)
    refine wpAnyH_ready (rs := [4,6]) (by kernel_rfl) (by simp) ?_
    refine rac (h := fun K hK => ?ra) (hs := (rac (h := fun K hK => ?rb) (hs := AllReadyH.nil)))
    case' ra =>
     go_simp
     refine hK.out _ _ trivial (fun hHeld => ?_)
     clear hK K
     refine rcl 6 (h := fun K hK => ?_)
     go_simp
     refine (text_anyX R X (some l) w0 _ (uh HRSd)).mono ?_
     rintro e w2 ⟨x,st2,rfl,-,hs2,h2,hx2⟩
     have cF2 : w2.cell? ⟨R,17,none⟩ = some (.slice ta tn tc) := (hx2.cell 17 (by unfold isRE; omega)).trans cF
     have hs2l : w.heap.size <= w2.heap.size := Nat.le_trans (uh HBX).size hx2.size
     have HP2 := zh ((uh HPd).bx hx2)
     have HRS2 := zh h2
     have HST2 := zh hs2
     have HBX2 : Hid (BX R isAny w w2) := (uh HBXd).trans hx2.any
     have HO2 : Hid (w2.ownsRow w.heap.size 9 1 (.slice ta tn tc) k (d.map Value.string)) := owns_bx (uh HOd) hx2 hlt
     have hR2 : R < w2.heap.size := Nat.lt_of_lt_of_le hlt hs2l
     have cF3 : (w2.alloc (.cells #[.string x] 9)).cell? ⟨R,17,none⟩ = some (.slice ta tn tc) := (World.cell?_alloc_lt _ _ ⟨R,17,none⟩ hR2).trans cF2
     clear hx2 h2 hs2
     refine hK.out _ _ trivial (fun hHeld => ?_)
     clear hK K
     refine rcl 7 (h := fun K hK => ?_)
     go_simp
     refine hK.out _ _ trivial (fun hHeld => ?_)
     clear hK K
    case' rb =>
     go_simp
     refine (text_anyX R X (some l) w0 _ (uh HRSd)).mono ?_
     rintro e w2 ⟨x,st2,rfl,-,hs2,h2,hx2⟩
     have cF2 : w2.cell? ⟨R,17,none⟩ = some (.slice ta tn tc) := (hx2.cell 17 (by unfold isRE; omega)).trans cF
     have hs2l : w.heap.size <= w2.heap.size := Nat.le_trans (uh HBX).size hx2.size
     have HP2 := zh ((uh HPd).bx hx2)
     have HRS2 := zh h2
     have HST2 := zh hs2
     have HBX2 : Hid (BX R isAny w w2) := (uh HBXd).trans hx2.any
     have HO2 : Hid (w2.ownsRow w.heap.size 9 1 (.slice ta tn tc) k (d.map Value.string)) := owns_bx (uh HOd) hx2 hlt
     have hR2 : R < w2.heap.size := Nat.lt_of_lt_of_le hlt hs2l
     have cF3 : (w2.alloc (.cells #[.string x] 9)).cell? ⟨R,17,none⟩ = some (.slice ta tn tc) := (World.cell?_alloc_lt _ _ ⟨R,17,none⟩ hR2).trans cF2
     clear hx2 h2 hs2
     refine hK.out _ _ trivial (fun hHeld => ?_)
     clear hK K
     refine wpAnyH_ready (rs := [4,7]) (by kernel_rfl) (by simp) ?_
     refine rac (h := fun K hK => ?rc) (hs := (rac (h := fun K hK => ?rd) (hs := AllReadyH.nil)))
     case' rc =>
      go_simp
      refine hK.out _ _ trivial (fun hHeld => ?_)
      clear hK K
      refine rcl 7 (h := fun K hK => ?_)
      go_simp
      refine hK.out _ _ trivial (fun hHeld => ?_)
      clear hK K
     case' rd =>
      go_simp
      refine hK.out _ _ trivial (fun hHeld => ?_)
      clear hK K
      refine rcl 4 (h := fun K hK => ?_)
      go_simp
      refine hK.out _ _ trivial (fun hHeld => ?_)
      clear hK K
    all_goals (
     refine rcl 8 (h := fun K hK => ?_)
     refine step_append_run (Z := fun v' w' => w'.ownsRow w.heap.size 9 1 v' (k + 1) ((d.map Value.string) ++ [.string x]) /\ (w2.alloc (.cells #[.string x] 9)).grownBy w' (Value.slice ta tn tc).ownBlock) rfl _ _ 26 rfl (.slice ta tn tc) (.slice (some ⟨w2.heap.size,0,none⟩) 1 1) rfl rfl ?hr ?_
     case hr =>
      obtain ⟨v4,w4,h1,h2,h3,_⟩ := run_append_own (P := Tryz.prog) (w := (w2.alloc (.cells #[.string x] 9))) w.heap.size 26 26 9 i0 _ 1 16 Tryz.underlying26 hi hz0 hz1 hz2 rfl (by decide) (.slice ta tn tc) k _ ((uh HO2).alloc _) ⟨w2.heap.size,0,none⟩ 1 1 [.string x] rfl (one_cell _ _ _) (one_str _) (by unfold maxLen; omega) (by omega) (by simp; omega)
      exact ⟨v4,w4,h1,h2,h3⟩
     rintro v4 w4 ⟨hO4,hg4⟩
     have hrow : ∀ g,(Value.slice ta tn tc).ownBlock = some g -> w.heap.size <= g /\ g < wr.heap.size := fun g hg => (uh HOwn).lt g hg
     have hrR : (Value.slice ta tn tc).ownBlock ≠ some R := fun e => by have := (hrow R e).1; omega
     have HP4 : Hid (Pk w4 R { p with filters := ⟨ta,tn,tc⟩ }) := ((uh HP2).below (bal _ _)).grown hg4 hrR
     have h0w : w0.heap.size <= w.heap.size := HW0.size
     have HRS4 : Hid (RSX w0 w4 R X st2) := ((uh HRS2).below (bal _ _)).grown hg4 (fun g hg => by rw [hXd]; exact .inr hg.symm) hrR (fun g hg => Nat.le_trans h0w (hrow g hg).1)
     have HBX4 : Hid (BX R isAny w w4) := ((uh HBX2).trans (BX.of_below (bal _ _) hR2)).grown hg4 (fun g hg => (hrow g hg).1) hlt
     obtain ⟨⟨sa,sn,sc⟩,hv4,_⟩ := owns_sl hO4
     have hv4 : v4 = .slice sa sn sc := hv4
     subst hv4
     have HO4 := zh hO4
     have cF4 : w4.cell? ⟨R,17,none⟩ = some (.slice ta tn tc) := (uh HP4).filters
     have fF4 : w4.frozen? ⟨R,17,none⟩ = false := (uh HP4).filters_f
     clear hO4 hg4 hrow cF2 cF3 HP2 HRS2 HBX2
     refine hK.out _ _ trivial (fun hHeld => ?_)
     clear hK K
     simp only [Act.put,List.setIfInBounds_toArray,List.set_cons_zero,List.set_cons_succ]
     refine rtk 9 (h := ?_)
     refine rtk 10 (h := ?_)
     refine rcl 11 (h := fun K hK => ?_)
     go_simp
     refine hK.out _ _ trivial (fun hHeld => ?_)
     clear hK K
     refine wpAnyH_done (by kernel_rfl) ?_ _
     refine NoPanic.normal ?_
     have HRS5 : Hid (RS w0 (w4.setCell ⟨R,17,none⟩ (.slice sa sn sc)) R st2) := ((uh HRS4).less (fun g => g = R) rfl (fun g hg => by rw [hXd]; exact .inl hg)).set 17 _ (by decide)
     have HP5 : Hid (Pk (w4.setCell ⟨R,17,none⟩ (.slice sa sn sc)) R { p with filters := ⟨sa,sn,sc⟩ }) := (uh HP4).set_filters ⟨sa,sn,sc⟩
     have HBX5 : Hid (BX R isAny w (w4.setCell ⟨R,17,none⟩ (.slice sa sn sc))) := (uh HBX4).set 17 _ trivial
     have HO5 : Hid ((w4.setCell ⟨R,17,none⟩ (.slice sa sn sc)).ownsRow w.heap.size 9 1 (.slice sa sn sc) (k + 1) ((d ++ [x]).map Value.string)) := by
      show World.ownsRow _ _ _ _ _ _ _
      rw [show ((d ++ [x]).map Value.string) = (d.map Value.string) ++ [.string x] from by simp]
      exact owns_bx (uh HO4) ((BX.refl R isAny w4).set 17 _ trivial) hlt
     have HA5 : Hid (Acc text? st (d ++ [x]) st2) := (uh HAcc).step text?_shr (uh HST2) hl0
     have HB5 : Hid (∀ l',st2 = some l' -> (k + 1) + l'.length <= 65536) := by
      intro l' hl'
      subst hl'
      have h2 := stp_len text?_shr (uh HST2)
      have h3 := (uh HB) l rfl
      omega
     have hM : mlen R (w4.setCell ⟨R,17,none⟩ (.slice sa sn sc)) < mlen R wr := by
      rw [mlen_some (uh HRS)]
      cases st2 with
      | none => rw [mlen_none (uh HRS5)]; omega
      | some l' =>
       rw [mlen_some (uh HRS5)]
       have := stp_len text?_shr (uh HST2)
       omega
     have hk1 : k + 1 <= 65536 := by
      have h3 := (uh HB) l rfl
      have := List.length_pos_iff.2 hl0
      omega
     have HD5 : Hid ((d ++ [x]).length = k + 1) := by show _ = _; rw [List.length_append,uh HD]; rfl
     clear HRS4 HP4 HBX4 HO4 cF4 fF4
     go_wp2
     go_roundw
     case rel => exact ⟨d ++ [x],st2,⟨sa,sn,sc⟩,k + 1,by go_num,hk1,HD5,HB5,HP5,HO5,HA5,HRS5,HBX5⟩
     case measure => exact hM)
  ·clear gl
   go_wp2_with fail
   refine (mayCount_any k _).mono ?_
   rintro e wa ⟨rfl,hwa⟩
   obtain rfl := hwa.symm
   clear hwa
   go_wp2_with fail
   refine (must_any R _ none w0 wr (uh HRS)).mono ?_
   rintro e wb ⟨rfl,h2,hx2⟩
   have H2 := zh h2
   have HX2 := zh hx2
   clear h2 hx2
   go_wp2
   go_end0
   refine ⟨rfl,⟨ta,tn,tc⟩,d,_,(uh HPk).bx (uh HX2),?_,?_,uh H2,(uh HBX).trans (uh HX2).any⟩
   ·show World.ownsRow _ _ _ _ _ _ _
    rw [uh HD]
    exact owns_bx (uh HOwn) (uh HX2) hlt
   ·refine ((uh HAcc).done (.inl rfl)).bind ((?_ : Stp (mustR (mc d.length)) none () (if mc k then none else none)).bind (Stp.pure _ _))
    rw [uh HD]
    exact Stp.must _ _
def Listsubs (w0 : World) (R : Nat) (p : Pkv) (st : Option (List Int)) (w : World) (e : Ending) (w' : World) : Prop :=
 e = .returned (.tuple #[]) /\ ∃ (t : Sl) (d : List Sb) (st' : Option (List Int)),Pk w' R { p with subs := t } /\ Hid (w'.ownsRow w.heap.size 54 5 t.val d.length (scs d)) /\ Stp (list? sub?) st d st' /\ RS w0 w' R st' /\ BX R isAny w w'
theorem list_subs (R : Nat) (p : Pkv) (st : Option (List Int)) (w0 w : World) (h : RS w0 w R st) (hp : Pk w R p) (hF : p.subs = ⟨none,0,0⟩) (hl : ∀ l,st = some l -> l.length <= 65536) (h8 : p.kind = 8) : Calls Tryz.prog 81 #[.pointer (some ⟨R,0,none⟩)] w (Listsubs w0 R p st w) := by
 obtain ⟨i0,hi,hz0,hz1,hz2⟩ := info_parts infoSub
 have hlt := h.lt
 have HW0 := h.keep
 have HP := zh hp
 have HS := zh h
 have HL := zh hl
 have HF := zh hF
 clear hp h hl hF
 go_enter Tryz.func81,Tryz.ntmps81
 go_wp2
 go_loopw [3] (fun c0 wr => ∃ (d : List Sb) (st1 : Option (List Int)) (t : Sl) (k : Nat),c0 = .int .i64 k /\ k <= 65536 /\ Hid (d.length = k) /\ Hid (∀ l,st1 = some l -> k + l.length <= 65536) /\ Hid (Pk wr R { p with subs := t }) /\ Hid (wr.ownsRow w.heap.size 54 5 t.val k (scs d)) /\ Hid (Acc sub? st d st1) /\ Hid (RS w0 wr R st1) /\ Hid (BX R isAny w wr)) (fun _ wr => mlen R wr)
 case atStart =>
  refine ⟨[],st,⟨none,0,0⟩,0,rfl,Nat.zero_le _,rfl,fun l hl => by have := (uh HL) l hl; omega,?_,World.ownsRow_nil _ _ _ _,Acc.start _ _,uh HS,BX.refl _ _ _⟩
  show Pk _ _ _
  have e : { p with subs := ⟨none,0,0⟩ } = p := by rw [<- uh HF]
  rw [e]
  exact uh HP
 case round =>
  obtain ⟨d,st1,⟨ta,tn,tc⟩,k,rfl,hk,HD,HB,HPk,HOwn,HAcc,HRS,HBX⟩ := hrel
  obtain ⟨ao,m,cap,c19,⟨g1,g2⟩,gl⟩ := (uh HRS).rest
  unfold maxLen at g2
  have c0 := (uh HPk).kind
  simp only at c0
  have cF : wr.cell? ⟨R,16,none⟩ = some (.slice ta tn tc) := (uh HPk).subs
  rw [h8] at c0
  rcases (uh HRS).err with ⟨l,rfl,c20⟩ | ⟨rfl,ty,x,c20⟩
  ·have hm := gl l rfl
   clear gl
   by_cases hm0 : m = 0
   ·subst hm0
    obtain rfl : l = [] := List.length_eq_zero_iff.1 hm
    go_wp2_with fail
    refine (mayCount_any k _).mono ?_
    rintro e wa ⟨rfl,hwa⟩
    obtain rfl := hwa.symm
    clear hwa
    go_wp2_with fail
    refine (must_any R _ (some []) w0 wr (uh HRS)).mono ?_
    rintro e wb ⟨rfl,h2,hx2⟩
    have H2 := zh h2
    have HX2 := zh hx2
    clear h2 hx2
    go_wp2
    go_end0
    refine ⟨rfl,⟨ta,tn,tc⟩,d,_,(uh HPk).bx (uh HX2),?_,?_,uh H2,(uh HBX).trans (uh HX2).any⟩
    ·show World.ownsRow _ _ _ _ _ _ _
     rw [uh HD]
     exact owns_bx (uh HOwn) (uh HX2) hlt
    ·refine ((uh HAcc).done (.inr rfl)).bind ((?_ : Stp (mustR (mc d.length)) (some []) () (if mc k then (some []) else none)).bind (Stp.pure _ _))
     rw [uh HD]
     exact Stp.must _ _
   ·have hl0 : l ≠ [] := fun e => hm0 (by rw [<- hm,e]; rfl)
    have hbd := bel_drew wr
    obtain ⟨X,hXd⟩ : ∃ X : Nat -> Prop,X = fun g => g = R \/ some g = (Value.slice ta tn tc).ownBlock := ⟨_,rfl⟩
    have HRSd : Hid (RSX w0 wr.drew R X (some l)) := by
     subst hXd
     exact ((uh HRS).below hbd).good _ ⟨.inl rfl,fun g hg => by
      rcases hg with rfl | hg
      ·exact Nat.lt_of_lt_of_le hlt (uh HBX).size
      ·exact ((uh HOwn).lt g hg.symm).2⟩
    have HPd := zh ((uh HPk).below hbd)
    have HBXd : Hid (BX R isAny w wr.drew) := (uh HBX).trans (BX.of_below hbd (uh HRS).lt)
    have HOd : Hid (wr.drew.ownsRow w.heap.size 54 5 (.slice ta tn tc) k (scs d)) := owns_below (uh HOwn) hbd
    clear hbd
    go_wp2_with fail
    refine wp_region_noPanic ?_
    refine wp_region_held_drew (S := fun _ => True) (by kernel_rfl) trivial (fun hHeld => ?_)
    refine rtk 0 (h := ?_)
    refine rtk 1 (h := ?_)
    refine rtk 2 (h := ?_)
    refine rtk 3 (h := ?_)
    refine rtk 5 (h := ?_)
    refine wpAnyH_ready (rs := [4,6]) (by kernel_rfl) (by simp) ?_
    refine rac (h := fun K hK => ?ra) (hs := (rac (h := fun K hK => ?rb) (hs := AllReadyH.nil)))
    case' ra =>
     go_simp
     refine hK.out _ _ trivial (fun hHeld => ?_)
     clear hK K
     refine rcl 6 (h := fun K hK => ?_)
     go_simp
     refine (sub_anyX R X (some l) w0 _ (uh HRSd)).mono ?_
     rintro e w2 ⟨x,st2,rfl,hs2,h2,hx2⟩
     have cF2 : w2.cell? ⟨R,16,none⟩ = some (.slice ta tn tc) := (hx2.cell 16 (by unfold isRE; omega)).trans cF
     have hs2l : w.heap.size <= w2.heap.size := Nat.le_trans (uh HBX).size hx2.size
     have HP2 := zh ((uh HPd).bx hx2)
     have HRS2 := zh h2
     have HST2 := zh hs2
     have HBX2 : Hid (BX R isAny w w2) := (uh HBXd).trans hx2.any
     have HO2 : Hid (w2.ownsRow w.heap.size 54 5 (.slice ta tn tc) k (scs d)) := owns_bx (uh HOd) hx2 hlt
     have hR2 : R < w2.heap.size := Nat.lt_of_lt_of_le hlt hs2l
     have cF3 : (w2.alloc (.cells #[.string x.filter,.int .i64 x.qos,.bool x.nolocal,.bool x.aspub,.int .i64 x.handling] 54)).cell? ⟨R,16,none⟩ = some (.slice ta tn tc) := (World.cell?_alloc_lt _ _ ⟨R,16,none⟩ hR2).trans cF2
     clear hx2 h2 hs2
     refine hK.out _ _ trivial (fun hHeld => ?_)
     clear hK K
     refine rcl 7 (h := fun K hK => ?_)
     go_simp
     refine hK.out _ _ trivial (fun hHeld => ?_)
     clear hK K
    case' rb =>
     go_simp
     refine (sub_anyX R X (some l) w0 _ (uh HRSd)).mono ?_
     rintro e w2 ⟨x,st2,rfl,hs2,h2,hx2⟩
     have cF2 : w2.cell? ⟨R,16,none⟩ = some (.slice ta tn tc) := (hx2.cell 16 (by unfold isRE; omega)).trans cF
     have hs2l : w.heap.size <= w2.heap.size := Nat.le_trans (uh HBX).size hx2.size
     have HP2 := zh ((uh HPd).bx hx2)
     have HRS2 := zh h2
     have HST2 := zh hs2
     have HBX2 : Hid (BX R isAny w w2) := (uh HBXd).trans hx2.any
     have HO2 : Hid (w2.ownsRow w.heap.size 54 5 (.slice ta tn tc) k (scs d)) := owns_bx (uh HOd) hx2 hlt
     have hR2 : R < w2.heap.size := Nat.lt_of_lt_of_le hlt hs2l
     have cF3 : (w2.alloc (.cells #[.string x.filter,.int .i64 x.qos,.bool x.nolocal,.bool x.aspub,.int .i64 x.handling] 54)).cell? ⟨R,16,none⟩ = some (.slice ta tn tc) := (World.cell?_alloc_lt _ _ ⟨R,16,none⟩ hR2).trans cF2
     clear hx2 h2 hs2
     refine hK.out _ _ trivial (fun hHeld => ?_)
     clear hK K
     refine wpAnyH_ready (rs := [4,7]) (by kernel_rfl) (by simp) ?_
     refine rac (h := fun K hK => ?rc) (hs := (rac (h := fun K hK => ?rd) (hs := AllReadyH.nil)))
     case' rc =>
      go_simp
      refine hK.out _ _ trivial (fun hHeld => ?_)
      clear hK K
      refine rcl 7 (h := fun K hK => ?_)
      go_simp
      refine hK.out _ _ trivial (fun hHeld => ?_)
      clear hK K
     case' rd =>
      go_simp
      refine hK.out _ _ trivial (fun hHeld => ?_)
      clear hK K
      refine rcl 4 (h := fun K hK => ?_)
      go_simp
      refine hK.out _ _ trivial (fun hHeld => ?_)
      clear hK K
    all_goals (
     refine rcl 8 (h := fun K hK => ?_)
     refine step_append_run (Z := fun v' w' => w'.ownsRow w.heap.size 54 5 v' (k + 1) ((scs d) ++ x.cells) /\ (w2.alloc (.cells #[.string x.filter,.int .i64 x.qos,.bool x.nolocal,.bool x.aspub,.int .i64 x.handling] 54)).grownBy w' (Value.slice ta tn tc).ownBlock) rfl _ _ 27 rfl (.slice ta tn tc) (.slice (some ⟨w2.heap.size,0,none⟩) 1 1) rfl rfl ?hr ?_
     case hr =>
      obtain ⟨v4,w4,h1,h2,h3,_⟩ := run_append_own (P := Tryz.prog) (w := (w2.alloc (.cells #[.string x.filter,.int .i64 x.qos,.bool x.nolocal,.bool x.aspub,.int .i64 x.handling] 54))) w.heap.size 27 27 54 i0 _ 5 40 Tryz.underlying27 hi hz0 hz1 hz2 rfl (by decide) (.slice ta tn tc) k _ ((uh HO2).alloc _) ⟨w2.heap.size,0,none⟩ 1 1 x.cells rfl (five_cell _ _ _ _ _ _ _) (five_one _) (by unfold maxLen; omega) (by omega) (by simp; omega)
      exact ⟨v4,w4,h1,h2,h3⟩
     rintro v4 w4 ⟨hO4,hg4⟩
     have hrow : ∀ g,(Value.slice ta tn tc).ownBlock = some g -> w.heap.size <= g /\ g < wr.heap.size := fun g hg => (uh HOwn).lt g hg
     have hrR : (Value.slice ta tn tc).ownBlock ≠ some R := fun e => by have := (hrow R e).1; omega
     have HP4 : Hid (Pk w4 R { p with subs := ⟨ta,tn,tc⟩ }) := ((uh HP2).below (bal _ _)).grown hg4 hrR
     have h0w : w0.heap.size <= w.heap.size := HW0.size
     have HRS4 : Hid (RSX w0 w4 R X st2) := ((uh HRS2).below (bal _ _)).grown hg4 (fun g hg => by rw [hXd]; exact .inr hg.symm) hrR (fun g hg => Nat.le_trans h0w (hrow g hg).1)
     have HBX4 : Hid (BX R isAny w w4) := ((uh HBX2).trans (BX.of_below (bal _ _) hR2)).grown hg4 (fun g hg => (hrow g hg).1) hlt
     obtain ⟨⟨sa,sn,sc⟩,hv4,_⟩ := owns_sl hO4
     have hv4 : v4 = .slice sa sn sc := hv4
     subst hv4
     have HO4 := zh hO4
     have cF4 : w4.cell? ⟨R,16,none⟩ = some (.slice ta tn tc) := (uh HP4).subs
     have fF4 : w4.frozen? ⟨R,16,none⟩ = false := (uh HP4).subs_f
     clear hO4 hg4 hrow cF2 cF3 HP2 HRS2 HBX2
     refine hK.out _ _ trivial (fun hHeld => ?_)
     clear hK K
     simp only [Act.put,List.setIfInBounds_toArray,List.set_cons_zero,List.set_cons_succ]
     refine rtk 9 (h := ?_)
     refine rtk 10 (h := ?_)
     refine rcl 11 (h := fun K hK => ?_)
     go_simp
     refine hK.out _ _ trivial (fun hHeld => ?_)
     clear hK K
     refine wpAnyH_done (by kernel_rfl) ?_ _
     refine NoPanic.normal ?_
     have HRS5 : Hid (RS w0 (w4.setCell ⟨R,16,none⟩ (.slice sa sn sc)) R st2) := ((uh HRS4).less (fun g => g = R) rfl (fun g hg => by rw [hXd]; exact .inl hg)).set 16 _ (by decide)
     have HP5 : Hid (Pk (w4.setCell ⟨R,16,none⟩ (.slice sa sn sc)) R { p with subs := ⟨sa,sn,sc⟩ }) := (uh HP4).set_subs ⟨sa,sn,sc⟩
     have HBX5 : Hid (BX R isAny w (w4.setCell ⟨R,16,none⟩ (.slice sa sn sc))) := (uh HBX4).set 16 _ trivial
     have HO5 : Hid ((w4.setCell ⟨R,16,none⟩ (.slice sa sn sc)).ownsRow w.heap.size 54 5 (.slice sa sn sc) (k + 1) (scs (d ++ [x]))) := by
      show World.ownsRow _ _ _ _ _ _ _
      rw [show (scs (d ++ [x])) = (scs d) ++ x.cells from by rw [scs_app]]
      exact owns_bx (uh HO4) ((BX.refl R isAny w4).set 16 _ trivial) hlt
     have HA5 : Hid (Acc sub? st (d ++ [x]) st2) := (uh HAcc).step sub?_shr (uh HST2) hl0
     have HB5 : Hid (∀ l',st2 = some l' -> (k + 1) + l'.length <= 65536) := by
      intro l' hl'
      subst hl'
      have h2 := stp_len sub?_shr (uh HST2)
      have h3 := (uh HB) l rfl
      omega
     have hM : mlen R (w4.setCell ⟨R,16,none⟩ (.slice sa sn sc)) < mlen R wr := by
      rw [mlen_some (uh HRS)]
      cases st2 with
      | none => rw [mlen_none (uh HRS5)]; omega
      | some l' =>
       rw [mlen_some (uh HRS5)]
       have := stp_len sub?_shr (uh HST2)
       omega
     have hk1 : k + 1 <= 65536 := by
      have h3 := (uh HB) l rfl
      have := List.length_pos_iff.2 hl0
      omega
     have HD5 : Hid ((d ++ [x]).length = k + 1) := by show _ = _; rw [List.length_append,uh HD]; rfl
     clear HRS4 HP4 HBX4 HO4 cF4 fF4
     go_wp2
     go_roundw
     case rel => exact ⟨d ++ [x],st2,⟨sa,sn,sc⟩,k + 1,by go_num,hk1,HD5,HB5,HP5,HO5,HA5,HRS5,HBX5⟩
     case measure => exact hM)
  ·clear gl
   go_wp2_with fail
   refine (mayCount_any k _).mono ?_
   rintro e wa ⟨rfl,hwa⟩
   obtain rfl := hwa.symm
   clear hwa
   go_wp2_with fail
   refine (must_any R _ none w0 wr (uh HRS)).mono ?_
   rintro e wb ⟨rfl,h2,hx2⟩
   have H2 := zh h2
   have HX2 := zh hx2
   clear h2 hx2
   go_wp2
   go_end0
   refine ⟨rfl,⟨ta,tn,tc⟩,d,_,(uh HPk).bx (uh HX2),?_,?_,uh H2,(uh HBX).trans (uh HX2).any⟩
   ·show World.ownsRow _ _ _ _ _ _ _
    rw [uh HD]
    exact owns_bx (uh HOwn) (uh HX2) hlt
   ·refine ((uh HAcc).done (.inl rfl)).bind ((?_ : Stp (mustR (mc d.length)) none () (if mc k then none else none)).bind (Stp.pure _ _))
    rw [uh HD]
    exact Stp.must _ _
abbrev sb0 : Sb := ⟨⟨#[]⟩,0,false,false,0⟩
def SbAt (w : World) (b off : Nat) (l : List Sb) : Prop := ∀ k,k < l.length -> w.cell? ⟨b,off + k * 5,none⟩ = some (.string (l.getD k sb0).filter) /\ w.cell? ⟨b,off + k * 5 + 1,none⟩ = some (.int .i64 (l.getD k sb0).qos) /\ w.cell? ⟨b,off + k * 5 + 2,none⟩ = some (.bool (l.getD k sb0).nolocal) /\ w.cell? ⟨b,off + k * 5 + 3,none⟩ = some (.bool (l.getD k sb0).aspub) /\ w.cell? ⟨b,off + k * 5 + 4,none⟩ = some (.int .i64 (l.getD k sb0).handling)
def Sbs (w : World) (v : Value) (l : List Sb) : Prop := ∃ ao cap,v = .slice ao l.length cap /\ (l.length <= cap /\ cap <= maxLen) /\ (l = [] \/ ∃ b off,ao = some ⟨b,off,none⟩ /\ SbAt w b off l)
theorem Tryz.eqgB : Tryz.prog.eqGuardType Tryz.prog.depth 54 = false := by kernel_rfl
theorem Tryz.stoodB : Tryz.prog.stoodInHeld 54 = false := by kernel_rfl
theorem Tryz.undB : Tryz.prog.underlying 54 = some (.struct (Tryz.prog.fieldsOf 54)) := by kernel_rfl
def sameB (p q : Sb) : Bool := (p.filter.toList == q.filter.toList && p.qos == q.qos && p.nolocal == q.nolocal && p.aspub == q.aspub && p.handling == q.handling)
theorem neqB (f f' : ByteArray) (q q' h h' : Int) (n n' a a' : Bool) (w : World) : (binOp .neq 54 (.agg #[.string f,.int .i64 q,.bool n,.bool a,.int .i64 h]) (.agg #[.string f',.int .i64 q',.bool n',.bool a',.int .i64 h'])).run Tryz.prog w = .ok (.bool (!(sameB ⟨f,q,n,a,h⟩ ⟨f',q',n',a',h'⟩))) w := by
 rw [run_neq_struct,run_equalIn_struct w 9999 54 _ _ Tryz.undB Tryz.stoodB]
 rw [show Tryz.prog.fieldsOf 54 = _ from rfl]
 simp [Program.fieldsOf,Tryz.underlying54,Op.eqFields,go_sem]
 unfold sameB
 by_cases h1 : f.toList = f'.toList
 ·by_cases h2 : q = q'
  ·by_cases h3 : n = n'
   ·by_cases h4 : a = a'
    ·by_cases h5 : h = h'
     ·simp [h1,h2,h3,h4,h5]
     ·simp [h1,h2,h3,h4,h5]
    ·simp [h1,h2,h3,h4]
   ·simp [h1,h2,h3]
  ·simp [h1,h2]
 ·simp [h1]
theorem sameB_iff (p q : Sb) : sameB p q = true ↔ p = q := by
 obtain ⟨a,b,c,d,e⟩ := p
 obtain ⟨a',b',c',d',e'⟩ := q
 unfold sameB
 constructor
 ·intro h
  simp only [Bool.and_eq_true,beq_iff_eq] at h
  obtain ⟨⟨⟨⟨h1,h2⟩,h3⟩,h4⟩,h5⟩ := h
  rw [text_ext h1,h2,h3,h4,h5]
 ·rintro h
  cases h
  simp
theorem eqb_core (ba oa bb ob ca cb : Nat) (l m : List Sb) (len : Nat) (w : World) (hl : l.length = len) (hm : m.length = len) (hmx : len <= 1000000000) (ha : SbAt w ba oa l) (hb : SbAt w bb ob m) :
  Calls Tryz.prog 35 #[.slice (some ⟨ba,oa,none⟩) len ca,.slice (some ⟨bb,ob,none⟩) len cb] w fun e w' => (∃ b,e = .returned (.bool b) /\ (b = true ↔ ∀ j,j < len -> l.getD j sb0 = m.getD j sb0)) /\ ∃ k,w' = w.drewN k := by
 have HL := zh hl
 have HM := zh hm
 have HA := zh ha
 have HB := zh hb
 clear hl hm ha hb
 go_enter Tryz.func35,Tryz.ntmps35
 go_wp2
 go_loopw [5] (fun i wr => ∃ k q : Nat,k <= len /\ i = .int .i64 k /\ wr = w.drewN q /\ Hid (∀ j,j < k -> l.getD j sb0 = m.getD j sb0)) (fun i _ => len - (intOf i).toNat)
 case atStart => exact ⟨0,0,Nat.zero_le _,rfl,rfl,fun j hj => absurd hj (Nat.not_lt_zero j)⟩
 case round =>
  obtain ⟨k,q,hk,rfl,rfl,HALL⟩ := hrel
  by_cases hlt : k < len
  ·obtain ⟨h0,h1,h2,h3,h4⟩ := (uh HA) k (by rw [uh HL]; exact hlt)
   obtain ⟨g0,g1,g2,g3,g4⟩ := (uh HB) k (by rw [uh HM]; exact hlt)
   obtain ⟨x1,x2,x3,x4,x5,hp⟩ : ∃ a b c d e,l.getD k sb0 = ⟨a,b,c,d,e⟩ := ⟨_,_,_,_,_,rfl⟩
   obtain ⟨y1,y2,y3,y4,y5,hp'⟩ : ∃ a b c d e,m.getD k sb0 = ⟨a,b,c,d,e⟩ := ⟨_,_,_,_,_,rfl⟩
   rw [hp] at h0 h1 h2 h3 h4
   rw [hp'] at g0 g1 g2 g3 g4
   simp only at h0 h1 h2 h3 h4 g0 g1 g2 g3 g4
   have HP := zh hp
   have HP' := zh hp'
   clear hp hp'
   have qg := Tryz.eqgB
   have qn := fun W => neqB x1 y1 x2 y2 x5 y5 x3 y3 x4 y4 W
   generalize hsb : sameB ⟨x1,x2,x3,x4,x5⟩ ⟨y1,y2,y3,y4,y5⟩ = sb at qn
   have HSB := zh hsb
   clear hsb
   cases sb
   ·have HNE : Hid (l.getD k sb0 ≠ m.getD k sb0) := fun e => by
     rw [uh HP,uh HP'] at e
     have := (sameB_iff _ _).2 e
     rw [uh HSB] at this
     cases this
    go_wp2
    go_quiet (fail)
    go_wp2
    go_ret
    refine ⟨⟨_,rfl,?_⟩,q + nq,drewN_drewN _ _ _⟩
    constructor
    ·intro h; cases h
    ·intro h; exact absurd (h k hlt) (uh HNE)
   ·have HE : Hid (l.getD k sb0 = m.getD k sb0) := by
     show _ = _
     rw [uh HP,uh HP']
     exact (sameB_iff _ _).1 (uh HSB)
    go_wp2
    go_quiet (fail)
    go_wp2
    go_roundw
    case rel => exact ⟨k + 1,_,by omega,by go_num,rfl,fun j hj => by
     rcases Nat.lt_succ_iff_lt_or_eq.1 hj with h | h
     ·exact (uh HALL) j h
     ·rw [h]; exact uh HE⟩
    case measure => simp [intOf]; omega
  ·go_wp2
   go_ret
   exact ⟨⟨_,rfl,fun _ j hj => (uh HALL) j (by omega),fun _ => rfl⟩,_,rfl⟩
theorem eqb_len (ao bo : Option Addr) (n m ca cb : Nat) (w : World) (h : n ≠ m) :
  Calls Tryz.prog 35 #[.slice ao n ca,.slice bo m cb] w fun e w' => e = .returned (.bool false) /\ w' = w := by
 have h1 : ((n : Int) == (m : Int)) = false := beq_eq_false_iff_ne.2 (by omega)
 go_enter Tryz.func35,Tryz.ntmps35
 go_wp2
 go_ret
 exact ⟨rfl,rfl⟩
theorem eqb_nil (ao bo : Option Addr) (ca cb : Nat) (w : World) :
  Calls Tryz.prog 35 #[.slice ao 0 ca,.slice bo 0 cb] w fun e w' => e = .returned (.bool true) /\ w' = w := by
 go_enter Tryz.func35,Tryz.ntmps35
 go_wp2
 refine wp_loop_rounds 1 ?_
 rw [rounds_succ]
 go_wp2
 go_ret
 exact ⟨rfl,rfl⟩
theorem sb_ext {l m : List Sb} (hl : l.length = m.length) (h : ∀ j,j < l.length -> l.getD j sb0 = m.getD j sb0) : l = m := by
 apply List.ext_getElem hl
 intro i h1 h2
 have := h i h1
 rw [List.getD_eq_getElem?_getD,List.getD_eq_getElem?_getD,List.getElem?_eq_getElem h1,List.getElem?_eq_getElem h2] at this
 exact this
theorem eqb_any (va vb : Value) (l m : List Sb) (w : World) (ha : Sbs w va l) (hb : Sbs w vb m) (hmx : l.length <= 1000000000) :
  Calls Tryz.prog 35 #[va,vb] w fun e w' => (∃ b,e = .returned (.bool b) /\ (b = true ↔ l = m)) /\ ∃ k,w' = w.drewN k := by
 obtain ⟨ao,ca,rfl,_,ha⟩ := ha
 obtain ⟨bo,cb,rfl,_,hb⟩ := hb
 by_cases hl : l.length = m.length
 ·rcases ha with rfl | ⟨ba,oa,rfl,hca⟩
  ·obtain rfl : m = [] := List.length_eq_zero_iff.1 hl.symm
   refine (eqb_nil _ _ _ _ _).mono ?_
   rintro e w' ⟨rfl,rfl⟩
   exact ⟨⟨true,rfl,by simp⟩,0,rfl⟩
  ·rcases hb with rfl | ⟨bb,ob,rfl,hcb⟩
   ·obtain rfl : l = [] := List.length_eq_zero_iff.1 hl
    refine (eqb_nil _ _ _ _ _).mono ?_
    rintro e w' ⟨rfl,rfl⟩
    exact ⟨⟨true,rfl,by simp⟩,0,rfl⟩
   ·rw [<- hl]
    refine (eqb_core ba oa bb ob ca cb l m l.length w rfl hl.symm hmx hca hcb).mono ?_
    rintro e w' ⟨⟨b,rfl,hbb⟩,k,rfl⟩
    exact ⟨⟨b,rfl,hbb.trans ⟨fun h => sb_ext hl h,fun h j _ => by rw [h]⟩⟩,k,rfl⟩
 ·refine (eqb_len ao bo l.length m.length ca cb w hl).mono ?_
  rintro e w' ⟨rfl,rfl⟩
  exact ⟨⟨false,rfl,by constructor; (intro h; cases h); (intro h; exact absurd (by rw [h]) hl)⟩,0,rfl⟩
end Go.Proofs.YtemedclhglkfjaaGreatDoor.K
