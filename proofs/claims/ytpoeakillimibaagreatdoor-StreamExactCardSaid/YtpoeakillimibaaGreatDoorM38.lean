/- Proved here: helpers, one text behind the other. -/
import Derived.Test.YtpoeakillimibaaGreatDoorM37
import Derived.Laws.AppendOwn
import Derived.Deep.CutRange
set_option maxHeartbeats 20000000
namespace Go.Proofs.YtpoeakillimibaaGreatDoor.K
open Go.RowKit
set_option maxRecDepth 100000
def Listscodes (w0 : GW) (R A : Nat) (p : Pkv) (st : Option (List Int)) (w : World) (e : Ending) (w' : World) : Prop :=
 e = .returned (.tuple #[]) /\ ∃ (i : Int) (s : Sl) (x : List Pr) (t : Sl) (d : List Int) (st' : Option (List Int)),Pk w' A { p with id := i,props := s,codes := t } /\ Hid (w'.ownsRow w.heap.size 120 4 s.val x.length (pcs x)) /\ Hid (w'.ownsRow w.heap.size 3 1 t.val d.length (d.map (Value.int .i64))) /\ Stp (pglist? p.kind one?) st (i,x,d) st' /\ RP w0 w' R st' /\ B2 R A w w'
theorem lists_codes (R A : Nat) (p : Pkv) (st : Option (List Int)) (w0 : GW) (w : World) (h : RP w0 w R st) (hp : Pk w A p) (hA : A ≠ R) (hA0 : w0.heap.size <= A) (hF : p.codes = ⟨none,0,0⟩) (hl : ∀ l,st = some l -> l.length <= 65536) (h8 : p.kind ≠ 8) (h10 : p.kind ≠ 10) : Calls Tryz.prog 133 #[.pointer (some ⟨R,0,none⟩),.pointer (some ⟨A,0,none⟩)] w (Listscodes w0 R A p st w) := by
 obtain ⟨i0,hi0,hz0,hz1,hz2⟩ := info_parts infoInt
 have hRw := h.lt
 have hAw := hp.lt
 have hw0 := h.keep.size
 have HP := zh hp
 have HS := zh h
 have HL := zh hl
 have HF := zh hF
 skip
 clear hp h hl hF
 go_enter Tryz.func133,Tryz.ntmps133
 go_wp2_with fail
 refine (pair_pg R st w0 w (uh HS)).mono ?_
 rintro e w1 ⟨i,st1,rfl,hir,hs1,h1,hx1⟩
 have hp1 := (uh HP).oth hx1 hA
 have c5 := hp1.id
 have f5 := hp1.id_f
 have c0 := hp1.kind
 have HP1 := zh (hp1.set_id i)
 have HS1 := zh (h1.set A 5 (.int .i64 i) hA hA0)
 have HB1 : Hid (B2 R A w (w1.setCell ⟨A,5,none⟩ (.int .i64 i))) := (B2.bx hx1).set 5 _
 have HST1 := zh hs1
 have HL1 := zh (stp_leq two?_shw hs1 (uh HL))
 clear hp1 h1 hx1 hs1 hir
 go_wp2_with fail
 refine (props_pg R _ st1 w0 _ (uh HS1)).mono ?_
 rintro e w2 ⟨s,x1,st2,rfl,hO2,hs2,h2,hx2⟩
 have hp2 := (uh HP1).oth hx2 hA
 have c7 := hp2.props
 have f7 := hp2.props_f
 have HP2 := zh (hp2.set_props s)
 have HS2 := zh (h2.set A 7 s.val hA hA0)
 have HB2 : Hid (B2 R A w (w2.setCell ⟨A,7,none⟩ s.val)) := ((uh HB1).trans (B2.bx hx2)).set 7 _
 have HST2 := zh hs2
 have HL2 := zh (stp_leq (props?_shw p.kind) hs2 (uh HL1))
 have HO2 : Hid ((w2.setCell ⟨A,7,none⟩ s.val).ownsRow w.heap.size 120 4 s.val x1.length (pcs x1)) := owns_mono (owns_b2 (R := R) (uh hO2) ((B2.refl R A w2).set 7 _) (Nat.lt_of_lt_of_le hRw (uh HB1).size) (Nat.lt_of_lt_of_le hAw (uh HB1).size)) (uh HB1).size
 clear hp2 h2 hx2 hs2 c5 f5 c0 hO2 HP1 HS1
 go_wp2
 generalize w2.setCell ⟨A,7,none⟩ s.val = wl at HP2 HS2 HB2 HO2 |-
 have hwl : w.heap.size <= wl.heap.size := (uh HB2).size
 have hlt : R < wl.heap.size := Nat.lt_of_lt_of_le hRw hwl
 have hla : A < wl.heap.size := Nat.lt_of_lt_of_le hAw hwl
 have h0w : w0.heap.size <= wl.heap.size := Nat.le_trans hw0 hwl
 clear c7 f7
 go_loopw [4] (fun n0 wr => ∃ (d : List Int) (st3 : Option (List Int)) (t : Sl) (k : Nat),n0 = .int .i64 k /\ k <= 65536 /\ Hid (d.length = k) /\ Hid (∀ l,st3 = some l -> k + l.length <= 65536) /\ Hid (Pk wr A { p with id := i,props := s,codes := t }) /\ Hid (wr.ownsRow wl.heap.size 3 1 t.val k (d.map (Value.int .i64))) /\ Hid (Acc one? st2 d st3) /\ Hid (RP w0 wr R st3) /\ Hid (B2 R A wl wr)) (fun _ wr => mlp R wr)
 case atStart =>
  refine ⟨[],st2,⟨none,0,0⟩,0,rfl,Nat.zero_le _,rfl,fun l hl => by have := (uh HL2) l hl; omega,?_,World.ownsRow_nil _ _ _ _,Acc.start _ _,uh HS2,B2.refl _ _ _⟩
  show Pk _ _ _
  have e : { p with id := i,props := s,codes := ⟨none,0,0⟩ } = { p with id := i,props := s } := by rw [<- uh HF]
  rw [e]
  exact uh HP2
 case round =>
  obtain ⟨d,st3,⟨ta,tn,tc⟩,k,rfl,hk,HD,HLN,HPk,HOwn,HAcc,HRP,HBB⟩ := hrel
  go_wp2_with fail
  refine (more_pg R st3 w0 wr (uh HRP)).mono ?_
  rintro e wm ⟨rfl,hbm⟩
  cases hm : moreB st3
  ·have hwlR : R < w.heap.size := hRw
   have hwlA : A < w.heap.size := hAw
   have HEND : Hid (∀ b : Bool,(!(i == 0) && mc (k : Nat)) = b -> ∀ W,(if b then W = wm else W = wm.setCell ⟨R,2,none⟩ (.bool true)) -> Listscodes w0 R A p st w (.returned (.tuple #[])) W) := by
    intro b hb W hW
    have hO : wm.ownsRow wl.heap.size 3 1 (Sl.val ⟨ta,tn,tc⟩) d.length (d.map (Value.int .i64)) := by rw [uh HD]; exact owns_below (uh HOwn) hbm
    have hst : Stp (pglist? p.kind one?) st (i,x1,d) (if b then st3 else none) := (uh HST1).bind ((uh HST2).bind (((uh HAcc).done (moreB_no hm)).bind ((?_ : Stp (mustR (!(i == 0) && mc d.length)) st3 () (if b then st3 else none)).bind (Stp.pure _ _))))
    ·have hBB := (uh HBB).trans (B2.bel hbm)
     cases b
     ·obtain rfl : W = wm.setCell ⟨R,2,none⟩ (.bool true) := hW
      exact ⟨rfl,i,s,x1,⟨ta,tn,tc⟩,d,none,((uh HPk).below hbm).blk (Below.heap_setCell _ _ _ _ hA),owns_b2 (uh HO2) (hBB.setR 2 _) hwlR hwlA,owns_mono (owns_b2 (A := A) hO ((B2.refl R A wm).setR 2 _) hlt hla) hwl,hst,((uh HRP).below hbm).bad,(uh HB2).trans (hBB.setR 2 _)⟩
     ·obtain rfl : W = wm := hW
      exact ⟨rfl,i,s,x1,⟨ta,tn,tc⟩,d,st3,(uh HPk).below hbm,owns_b2 (uh HO2) hBB hwlR hwlA,owns_mono hO hwl,hst,(uh HRP).below hbm,(uh HB2).trans hBB⟩
    ·rw [uh HD,hb]
     exact Stp.must b st3
   obtain ⟨bb,c2m,f2m,_⟩ := ((uh HRP).below hbm).c2
   have c5m := ((uh HPk).below hbm).id
   simp only at c5m
   clear hm hbm HD HLN HPk HOwn HAcc HRP HBB
   by_cases hi0 : i = 0
   ·subst hi0
    go_wp2
    go_end0
    exact uh HEND false rfl _ rfl
   ·have hib : (i == 0) = false := by simpa using hi0
    by_cases hk0 : k = 0
    ·subst hk0
     go_wp2
     go_end0
     exact uh HEND false (by rw [hib]; rfl) _ rfl
    ·have hkb : ((k : Int) == 0) = false := by simp; omega
     by_cases hk16 : 16 < k
     ·go_wp2
      go_end0
      exact uh HEND false (by rw [hib]; unfold mc; rw [decide_eq_false (show ¬ (k : Int) <= 16 by omega)]; simp) _ rfl
     ·go_wp2
      go_end0
      exact uh HEND true (by rw [hib]; unfold mc; rw [decide_eq_true (show (1 : Int) <= k by omega),decide_eq_true (show (k : Int) <= 16 by omega)]; rfl) _ rfl
  ·obtain ⟨l,rfl,hl0⟩ := moreB_yes hm
   have hbd := bel_drew wm
   have hbm' : Below wr.heap.size wr wm.drew := hbm.trans (hbd.mono hbm.size)
   have HPm := zh ((uh HPk).below hbm)
   have HRPm := zh ((uh HRP).below hbm)
   have HBBm : Hid (B2 R A wl wm) := (uh HBB).trans (B2.bel hbm)
   have HOm : Hid (wm.ownsRow wl.heap.size 3 1 (.slice ta tn tc) k (d.map (Value.int .i64))) := owns_below (uh HOwn) hbm
   have HPd := zh ((uh HPk).below hbm')
   have HRPd := zh ((uh HRP).below hbm')
   have HBBd : Hid (B2 R A wl wm.drew) := (uh HBB).trans (B2.bel hbm')
   have HOd : Hid (wm.drew.ownsRow wl.heap.size 3 1 (.slice ta tn tc) k (d.map (Value.int .i64))) := owns_below (uh HOwn) hbm'
   have c0 := (uh HPm).kind
   simp only at c0
   have cF : wm.cell? ⟨A,18,none⟩ = some (.slice ta tn tc) := (uh HPm).codes
   skip
   clear hbd hbm hbm' hm HPk HOwn HBB
   go_wp2_with fail
   refine wp_region_noPanic ?_
   refine wp_region_held_drew (S := fun _ => True) (by kernel_rfl) trivial (fun hHeld => ?_)
   refine rtk 0 (h := ?_)
   refine rtk 1 (h := ?_)
   refine rtk 2 (h := ?_)
   refine rtk 3 (h := ?_)
   refine rtk 5 (h := ?_)
   refine wpAnyH_ready (rs := [4,6]) (by kernel_rfl) (by simp) ?_
   refine rac (h := fun K hK => ?ra) (hs := (rac (h := fun K hK => ?rb) (hs := AllReadyH.nil)))
   case' ra =>
    go_simp
    refine hK.out _ _ trivial (fun hHeld => ?_)
    clear hK K
    refine rcl 6 (h := fun K hK => ?_)
    go_simp
    refine (byte_pg R (some l) w0 _ (uh HRPd)).mono ?_
    rintro e w4 ⟨x,st4,rfl,-,hs4,h4,hx4⟩
    have hp4 := (uh HPd).oth hx4 hA
    have cF4 : w4.cell? ⟨A,18,none⟩ = some (.slice ta tn tc) := hp4.codes
    have cF5 : (w4.alloc (.cells #[.int .i64 x] 3)).cell? ⟨A,18,none⟩ = some (.slice ta tn tc) := (World.cell?_alloc_lt _ _ ⟨A,18,none⟩ hp4.lt).trans cF4
    have HP4 := zh hp4
    have HRP4 := zh h4
    have HST4 := zh hs4
    have HBB4 : Hid (B2 R A wl w4) := (uh HBBd).trans (B2.bx hx4)
    have HO4 : Hid (w4.ownsRow wl.heap.size 3 1 (.slice ta tn tc) k (d.map (Value.int .i64))) := owns_b2 (A := A) (uh HOd) (B2.bx hx4) hlt hla
    clear hx4 h4 hs4 hp4 HPd HRPd HBBd HOd
    refine hK.out _ _ trivial (fun hHeld => ?_)
    clear hK K
    refine rcl 7 (h := fun K hK => ?_)
    go_simp
    refine hK.out _ _ trivial (fun hHeld => ?_)
    clear hK K
   case' rb =>
    go_simp
    refine (byte_pg R (some l) w0 _ (uh HRPd)).mono ?_
    rintro e w4 ⟨x,st4,rfl,-,hs4,h4,hx4⟩
    have hp4 := (uh HPd).oth hx4 hA
    have cF4 : w4.cell? ⟨A,18,none⟩ = some (.slice ta tn tc) := hp4.codes
    have cF5 : (w4.alloc (.cells #[.int .i64 x] 3)).cell? ⟨A,18,none⟩ = some (.slice ta tn tc) := (World.cell?_alloc_lt _ _ ⟨A,18,none⟩ hp4.lt).trans cF4
    have HP4 := zh hp4
    have HRP4 := zh h4
    have HST4 := zh hs4
    have HBB4 : Hid (B2 R A wl w4) := (uh HBBd).trans (B2.bx hx4)
    have HO4 : Hid (w4.ownsRow wl.heap.size 3 1 (.slice ta tn tc) k (d.map (Value.int .i64))) := owns_b2 (A := A) (uh HOd) (B2.bx hx4) hlt hla
    clear hx4 h4 hs4 hp4 HPd HRPd HBBd HOd
    refine hK.out _ _ trivial (fun hHeld => ?_)
    clear hK K
    refine wpAnyH_ready (rs := [4,7]) (by kernel_rfl) (by simp) ?_
    refine rac (h := fun K hK => ?rc) (hs := (rac (h := fun K hK => ?rd) (hs := AllReadyH.nil)))
    case' rc =>
     go_simp
     refine hK.out _ _ trivial (fun hHeld => ?_)
     clear hK K
     refine rcl 7 (h := fun K hK => ?_)
     go_simp
     refine hK.out _ _ trivial (fun hHeld => ?_)
     clear hK K
    case' rd =>
     go_simp
     refine hK.out _ _ trivial (fun hHeld => ?_)
     clear hK K
     refine rcl 4 (h := fun K hK => ?_)
     go_simp
     refine hK.out _ _ trivial (fun hHeld => ?_)
     clear hK K
   all_goals (
    have hsz4 : wl.heap.size <= w4.heap.size := (uh HBB4).size
    refine rcl 8 (h := fun K hK => ?_)
    refine step_append_run (Z := fun v' w' => w'.ownsRow wl.heap.size 3 1 v' (k + 1) ((d.map (Value.int .i64)) ++ [.int .i64 x]) /\ (w4.alloc (.cells #[.int .i64 x] 3)).grownBy w' (Value.slice ta tn tc).ownBlock) rfl _ _ 28 rfl (.slice ta tn tc) (.slice (some ⟨w4.heap.size,0,none⟩) 1 1) rfl rfl ?hr ?_
    case hr =>
     obtain ⟨v6,w6,h1,h2,h3,_⟩ := run_append_own (P := Tryz.prog) (w := (w4.alloc (.cells #[.int .i64 x] 3))) wl.heap.size 28 28 3 i0 _ 1 8 Tryz.underlying28 hi0 hz0 hz1 hz2 rfl (by decide) (.slice ta tn tc) k _ ((uh HO4).alloc _) ⟨w4.heap.size,0,none⟩ 1 1 [.int .i64 x] rfl (one_cell _ _ _) (one_one _ _) (by unfold maxLen; omega) (by omega) (by simp; omega)
     exact ⟨v6,w6,h1,h2,h3⟩
    rintro v6 w6 ⟨hO6,hg6⟩
    have hrow : ∀ g,(Value.slice ta tn tc).ownBlock = some g -> wl.heap.size <= g /\ g < w4.heap.size := fun g hg => (uh HO4).lt g hg
    have hrR : (Value.slice ta tn tc).ownBlock ≠ some R := fun e => by have := (hrow R e).1; omega
    have hrA : (Value.slice ta tn tc).ownBlock ≠ some A := fun e => by have := (hrow A e).1; omega
    have HP6 : Hid (Pk w6 A { p with id := i,props := s,codes := ⟨ta,tn,tc⟩ }) := ((uh HP4).below (bal _ _)).grown hg6 hrA
    have HRP6 : Hid (RP w0 w6 R st4) := ((uh HRP4).below (bal _ _)).grown hg6 hrR (fun g hg => Nat.le_trans h0w (hrow g hg).1)
    have HBB6 : Hid (B2 R A wl w6) := ((uh HBB4).trans (B2.bel (bal _ _))).grown hg6 (fun g hg => (hrow g hg).1)
    obtain ⟨⟨sa,sn,sc⟩,hv6,_⟩ := owns_sl hO6
    have hv6 : v6 = .slice sa sn sc := hv6
    subst hv6
    have HO6 := zh hO6
    have cF6 : w6.cell? ⟨A,18,none⟩ = some (.slice ta tn tc) := (uh HP6).codes
    have fF6 : w6.frozen? ⟨A,18,none⟩ = false := (uh HP6).codes_f
    clear hO6 hg6 hrow cF4 cF5 HP4 HRP4 HBB4
    refine hK.out _ _ trivial (fun hHeld => ?_)
    clear hK K
    simp only [Act.put,List.setIfInBounds_toArray,List.set_cons_zero,List.set_cons_succ]
    refine rtk 9 (h := ?_)
    refine rtk 10 (h := ?_)
    refine rcl 11 (h := fun K hK => ?_)
    go_simp
    refine hK.out _ _ trivial (fun hHeld => ?_)
    clear hK K
    refine wpAnyH_done (by kernel_rfl) ?_ _
    refine NoPanic.normal ?_
    have HRP7 : Hid (RP w0 (w6.setCell ⟨A,18,none⟩ (.slice sa sn sc)) R st4) := (uh HRP6).set A 18 _ hA hA0
    have HP7 : Hid (Pk (w6.setCell ⟨A,18,none⟩ (.slice sa sn sc)) A { p with id := i,props := s,codes := ⟨sa,sn,sc⟩ }) := (uh HP6).set_codes ⟨sa,sn,sc⟩
    have HBB7 : Hid (B2 R A wl (w6.setCell ⟨A,18,none⟩ (.slice sa sn sc))) := (uh HBB6).set 18 _
    have HO7 : Hid ((w6.setCell ⟨A,18,none⟩ (.slice sa sn sc)).ownsRow wl.heap.size 3 1 (.slice sa sn sc) (k + 1) ((d ++ [x]).map (Value.int .i64))) := by
     show World.ownsRow _ _ _ _ _ _ _
     rw [show ((d ++ [x]).map (Value.int .i64)) = (d.map (Value.int .i64)) ++ [.int .i64 x] from by simp]
     exact owns_b2 (R := R) (uh HO6) ((B2.refl R A w6).set 18 _) hlt hla
    have HA7 : Hid (Acc one? st2 (d ++ [x]) st4) := (uh HAcc).step one?_shr (uh HST4) hl0
    have HB7 : Hid (∀ l',st4 = some l' -> (k + 1) + l'.length <= 65536) := by
     intro l' hl'
     subst hl'
     have h2 := stp_len one?_shr (uh HST4)
     have h3 := (uh HLN) l rfl
     omega
    have hM : mlp R (w6.setCell ⟨A,18,none⟩ (.slice sa sn sc)) < mlp R wr := by
     rw [mlp_some (uh HRP)]
     cases st4 with
     | none => rw [mlp_none (uh HRP7)]; omega
     | some l' =>
      rw [mlp_some (uh HRP7)]
      have := stp_len one?_shr (uh HST4)
      omega
    have hk1 : k + 1 <= 65536 := by
     have h3 := (uh HLN) l rfl
     have := List.length_pos_iff.2 hl0
     omega
    have HD7 : Hid ((d ++ [x]).length = k + 1) := by show _ = _; rw [List.length_append,uh HD]; rfl
    clear HRP6 HP6 HBB6 HO6 cF6 fF6
    go_wp2
    go_roundw
    case rel => exact ⟨d ++ [x],st4,⟨sa,sn,sc⟩,k + 1,by go_num,hk1,HD7,HB7,HP7,HO7,HA7,HRP7,HBB7⟩
    case measure => exact hM)
def Listsfilters (w0 : GW) (R A : Nat) (p : Pkv) (st : Option (List Int)) (w : World) (e : Ending) (w' : World) : Prop :=
 e = .returned (.tuple #[]) /\ ∃ (i : Int) (s : Sl) (x : List Pr) (t : Sl) (d : List ByteArray) (st' : Option (List Int)),Pk w' A { p with id := i,props := s,filters := t } /\ Hid (w'.ownsRow w.heap.size 120 4 s.val x.length (pcs x)) /\ Hid (w'.ownsRow w.heap.size 9 1 t.val d.length (d.map Value.string)) /\ Stp (pglist? p.kind text?) st (i,x,d) st' /\ RP w0 w' R st' /\ B2 R A w w'
theorem lists_filters (R A : Nat) (p : Pkv) (st : Option (List Int)) (w0 : GW) (w : World) (h : RP w0 w R st) (hp : Pk w A p) (hA : A ≠ R) (hA0 : w0.heap.size <= A) (hF : p.filters = ⟨none,0,0⟩) (hl : ∀ l,st = some l -> l.length <= 65536) (h10 : p.kind = 10) : Calls Tryz.prog 133 #[.pointer (some ⟨R,0,none⟩),.pointer (some ⟨A,0,none⟩)] w (Listsfilters w0 R A p st w) := by
 obtain ⟨i0,hi0,hz0,hz1,hz2⟩ := info_parts infoStr
 have hRw := h.lt
 have hAw := hp.lt
 have hw0 := h.keep.size
 have HP := zh hp
 have HS := zh h
 have HL := zh hl
 have HF := zh hF
 have HK := zh h10; clear h10
 clear hp h hl hF
 go_enter Tryz.func133,Tryz.ntmps133
 go_wp2_with fail
 refine (pair_pg R st w0 w (uh HS)).mono ?_
 rintro e w1 ⟨i,st1,rfl,hir,hs1,h1,hx1⟩
 have hp1 := (uh HP).oth hx1 hA
 have c5 := hp1.id
 have f5 := hp1.id_f
 have c0 := hp1.kind
 have HP1 := zh (hp1.set_id i)
 have HS1 := zh (h1.set A 5 (.int .i64 i) hA hA0)
 have HB1 : Hid (B2 R A w (w1.setCell ⟨A,5,none⟩ (.int .i64 i))) := (B2.bx hx1).set 5 _
 have HST1 := zh hs1
 have HL1 := zh (stp_leq two?_shw hs1 (uh HL))
 clear hp1 h1 hx1 hs1 hir
 go_wp2_with fail
 refine (props_pg R _ st1 w0 _ (uh HS1)).mono ?_
 rintro e w2 ⟨s,x1,st2,rfl,hO2,hs2,h2,hx2⟩
 have hp2 := (uh HP1).oth hx2 hA
 have c7 := hp2.props
 have f7 := hp2.props_f
 have HP2 := zh (hp2.set_props s)
 have HS2 := zh (h2.set A 7 s.val hA hA0)
 have HB2 : Hid (B2 R A w (w2.setCell ⟨A,7,none⟩ s.val)) := ((uh HB1).trans (B2.bx hx2)).set 7 _
 have HST2 := zh hs2
 have HL2 := zh (stp_leq (props?_shw p.kind) hs2 (uh HL1))
 have HO2 : Hid ((w2.setCell ⟨A,7,none⟩ s.val).ownsRow w.heap.size 120 4 s.val x1.length (pcs x1)) := owns_mono (owns_b2 (R := R) (uh hO2) ((B2.refl R A w2).set 7 _) (Nat.lt_of_lt_of_le hRw (uh HB1).size) (Nat.lt_of_lt_of_le hAw (uh HB1).size)) (uh HB1).size
 clear hp2 h2 hx2 hs2 c5 f5 c0 hO2 HP1 HS1
 go_wp2
 generalize w2.setCell ⟨A,7,none⟩ s.val = wl at HP2 HS2 HB2 HO2 |-
 have hwl : w.heap.size <= wl.heap.size := (uh HB2).size
 have hlt : R < wl.heap.size := Nat.lt_of_lt_of_le hRw hwl
 have hla : A < wl.heap.size := Nat.lt_of_lt_of_le hAw hwl
 have h0w : w0.heap.size <= wl.heap.size := Nat.le_trans hw0 hwl
 clear c7 f7
 go_loopw [4] (fun n0 wr => ∃ (d : List ByteArray) (st3 : Option (List Int)) (t : Sl) (k : Nat),n0 = .int .i64 k /\ k <= 65536 /\ Hid (d.length = k) /\ Hid (∀ l,st3 = some l -> k + l.length <= 65536) /\ Hid (Pk wr A { p with id := i,props := s,filters := t }) /\ Hid (wr.ownsRow wl.heap.size 9 1 t.val k (d.map Value.string)) /\ Hid (Acc text? st2 d st3) /\ Hid (RP w0 wr R st3) /\ Hid (B2 R A wl wr)) (fun _ wr => mlp R wr)
 case atStart =>
  refine ⟨[],st2,⟨none,0,0⟩,0,rfl,Nat.zero_le _,rfl,fun l hl => by have := (uh HL2) l hl; omega,?_,World.ownsRow_nil _ _ _ _,Acc.start _ _,uh HS2,B2.refl _ _ _⟩
  show Pk _ _ _
  have e : { p with id := i,props := s,filters := ⟨none,0,0⟩ } = { p with id := i,props := s } := by rw [<- uh HF]
  rw [e]
  exact uh HP2
 case round =>
  obtain ⟨d,st3,⟨ta,tn,tc⟩,k,rfl,hk,HD,HLN,HPk,HOwn,HAcc,HRP,HBB⟩ := hrel
  go_wp2_with fail
  refine (more_pg R st3 w0 wr (uh HRP)).mono ?_
  rintro e wm ⟨rfl,hbm⟩
  cases hm : moreB st3
  ·have hwlR : R < w.heap.size := hRw
   have hwlA : A < w.heap.size := hAw
   have HEND : Hid (∀ b : Bool,(!(i == 0) && mc (k : Nat)) = b -> ∀ W,(if b then W = wm else W = wm.setCell ⟨R,2,none⟩ (.bool true)) -> Listsfilters w0 R A p st w (.returned (.tuple #[])) W) := by
    intro b hb W hW
    have hO : wm.ownsRow wl.heap.size 9 1 (Sl.val ⟨ta,tn,tc⟩) d.length (d.map Value.string) := by rw [uh HD]; exact owns_below (uh HOwn) hbm
    have hst : Stp (pglist? p.kind text?) st (i,x1,d) (if b then st3 else none) := (uh HST1).bind ((uh HST2).bind (((uh HAcc).done (moreB_no hm)).bind ((?_ : Stp (mustR (!(i == 0) && mc d.length)) st3 () (if b then st3 else none)).bind (Stp.pure _ _))))
    ·have hBB := (uh HBB).trans (B2.bel hbm)
     cases b
     ·obtain rfl : W = wm.setCell ⟨R,2,none⟩ (.bool true) := hW
      exact ⟨rfl,i,s,x1,⟨ta,tn,tc⟩,d,none,((uh HPk).below hbm).blk (Below.heap_setCell _ _ _ _ hA),owns_b2 (uh HO2) (hBB.setR 2 _) hwlR hwlA,owns_mono (owns_b2 (A := A) hO ((B2.refl R A wm).setR 2 _) hlt hla) hwl,hst,((uh HRP).below hbm).bad,(uh HB2).trans (hBB.setR 2 _)⟩
     ·obtain rfl : W = wm := hW
      exact ⟨rfl,i,s,x1,⟨ta,tn,tc⟩,d,st3,(uh HPk).below hbm,owns_b2 (uh HO2) hBB hwlR hwlA,owns_mono hO hwl,hst,(uh HRP).below hbm,(uh HB2).trans hBB⟩
    ·rw [uh HD,hb]
     exact Stp.must b st3
   obtain ⟨bb,c2m,f2m,_⟩ := ((uh HRP).below hbm).c2
   have c5m := ((uh HPk).below hbm).id
   simp only at c5m
   clear hm hbm HD HLN HPk HOwn HAcc HRP HBB
   by_cases hi0 : i = 0
   ·subst hi0
    go_wp2
    go_end0
    exact uh HEND false rfl _ rfl
   ·have hib : (i == 0) = false := by simpa using hi0
    by_cases hk0 : k = 0
    ·subst hk0
     go_wp2
     go_end0
     exact uh HEND false (by rw [hib]; rfl) _ rfl
    ·have hkb : ((k : Int) == 0) = false := by simp; omega
     by_cases hk16 : 16 < k
     ·go_wp2
      go_end0
      exact uh HEND false (by rw [hib]; unfold mc; rw [decide_eq_false (show ¬ (k : Int) <= 16 by omega)]; simp) _ rfl
     ·go_wp2
      go_end0
      exact uh HEND true (by rw [hib]; unfold mc; rw [decide_eq_true (show (1 : Int) <= k by omega),decide_eq_true (show (k : Int) <= 16 by omega)]; rfl) _ rfl
  ·obtain ⟨l,rfl,hl0⟩ := moreB_yes hm
   have hbd := bel_drew wm
   have hbm' : Below wr.heap.size wr wm.drew := hbm.trans (hbd.mono hbm.size)
   have HPm := zh ((uh HPk).below hbm)
   have HRPm := zh ((uh HRP).below hbm)
   have HBBm : Hid (B2 R A wl wm) := (uh HBB).trans (B2.bel hbm)
   have HOm : Hid (wm.ownsRow wl.heap.size 9 1 (.slice ta tn tc) k (d.map Value.string)) := owns_below (uh HOwn) hbm
   have HPd := zh ((uh HPk).below hbm')
   have HRPd := zh ((uh HRP).below hbm')
   have HBBd : Hid (B2 R A wl wm.drew) := (uh HBB).trans (B2.bel hbm')
   have HOd : Hid (wm.drew.ownsRow wl.heap.size 9 1 (.slice ta tn tc) k (d.map Value.string)) := owns_below (uh HOwn) hbm'
   have c0 := (uh HPm).kind
   simp only at c0
   have cF : wm.cell? ⟨A,17,none⟩ = some (.slice ta tn tc) := (uh HPm).filters
   rw [uh HK] at c0
   clear hbd hbm hbm' hm HPk HOwn HBB
   go_wp2_with fail
   refine wp_region_noPanic ?_
   refine wp_region_held_drew (S := fun _ => True) (by kernel_rfl) trivial (fun hHeld => ?_)
   refine rtk 0 (h := ?_)
   refine rtk 1 (h := ?_)
   refine rtk 2 (h := ?_)
   refine rtk 3 (h := ?_)
   refine rtk 5 (h := ?_)
   refine wpAnyH_ready (rs := [4,6]) (by kernel_rfl) (by simp) ?_
   refine rac (h := fun K hK => ?ra) (hs := (rac (h := fun K hK => ?rb) (hs := AllReadyH.nil)))
   case' ra =>
    go_simp
    refine hK.out _ _ trivial (fun hHeld => ?_)
    clear hK K
    refine rcl 6 (h := fun K hK => ?_)
    go_simp
    refine (text_pg R (some l) w0 _ (uh HRPd)).mono ?_
    rintro e w4 ⟨x,st4,rfl,hs4,h4,hx4⟩
    have hp4 := (uh HPd).oth hx4 hA
    have cF4 : w4.cell? ⟨A,17,none⟩ = some (.slice ta tn tc) := hp4.filters
    have cF5 : (w4.alloc (.cells #[.string x] 9)).cell? ⟨A,17,none⟩ = some (.slice ta tn tc) := (World.cell?_alloc_lt _ _ ⟨A,17,none⟩ hp4.lt).trans cF4
    have HP4 := zh hp4
    have HRP4 := zh h4
    have HST4 := zh hs4
    have HBB4 : Hid (B2 R A wl w4) := (uh HBBd).trans (B2.bx hx4)
    have HO4 : Hid (w4.ownsRow wl.heap.size 9 1 (.slice ta tn tc) k (d.map Value.string)) := owns_b2 (A := A) (uh HOd) (B2.bx hx4) hlt hla
    clear hx4 h4 hs4 hp4 HPd HRPd HBBd HOd
    refine hK.out _ _ trivial (fun hHeld => ?_)
    clear hK K
    refine rcl 7 (h := fun K hK => ?_)
    go_simp
    refine hK.out _ _ trivial (fun hHeld => ?_)
    clear hK K
   case' rb =>
    go_simp
    refine (text_pg R (some l) w0 _ (uh HRPd)).mono ?_
    rintro e w4 ⟨x,st4,rfl,hs4,h4,hx4⟩
    have hp4 := (uh HPd).oth hx4 hA
    have cF4 : w4.cell? ⟨A,17,none⟩ = some (.slice ta tn tc) := hp4.filters
    have cF5 : (w4.alloc (.cells #[.string x] 9)).cell? ⟨A,17,none⟩ = some (.slice ta tn tc) := (World.cell?_alloc_lt _ _ ⟨A,17,none⟩ hp4.lt).trans cF4
    have HP4 := zh hp4
    have HRP4 := zh h4
    have HST4 := zh hs4
    have HBB4 : Hid (B2 R A wl w4) := (uh HBBd).trans (B2.bx hx4)
    have HO4 : Hid (w4.ownsRow wl.heap.size 9 1 (.slice ta tn tc) k (d.map Value.string)) := owns_b2 (A := A) (uh HOd) (B2.bx hx4) hlt hla
    clear hx4 h4 hs4 hp4 HPd HRPd HBBd HOd
    refine hK.out _ _ trivial (fun hHeld => ?_)
    clear hK K
    refine wpAnyH_ready (rs := [4,7]) (by kernel_rfl) (by simp) ?_
    refine rac (h := fun K hK => ?rc) (hs := (rac (h := fun K hK => ?rd) (hs := AllReadyH.nil)))
    case' rc =>
     go_simp
     refine hK.out _ _ trivial (fun hHeld => ?_)
     clear hK K
     refine rcl 7 (h := fun K hK => ?_)
     go_simp
     refine hK.out _ _ trivial (fun hHeld => ?_)
     clear hK K
    case' rd =>
     go_simp
     refine hK.out _ _ trivial (fun hHeld => ?_)
     clear hK K
     refine rcl 4 (h := fun K hK => ?_)
     go_simp
     refine hK.out _ _ trivial (fun hHeld => ?_)
     clear hK K
   all_goals (
    have hsz4 : wl.heap.size <= w4.heap.size := (uh HBB4).size
    refine rcl 8 (h := fun K hK => ?_)
    refine step_append_run (Z := fun v' w' => w'.ownsRow wl.heap.size 9 1 v' (k + 1) ((d.map Value.string) ++ [.string x]) /\ (w4.alloc (.cells #[.string x] 9)).grownBy w' (Value.slice ta tn tc).ownBlock) rfl _ _ 26 rfl (.slice ta tn tc) (.slice (some ⟨w4.heap.size,0,none⟩) 1 1) rfl rfl ?hr ?_
    case hr =>
     obtain ⟨v6,w6,h1,h2,h3,_⟩ := run_append_own (P := Tryz.prog) (w := (w4.alloc (.cells #[.string x] 9))) wl.heap.size 26 26 9 i0 _ 1 16 Tryz.underlying26 hi0 hz0 hz1 hz2 rfl (by decide) (.slice ta tn tc) k _ ((uh HO4).alloc _) ⟨w4.heap.size,0,none⟩ 1 1 [.string x] rfl (one_cell _ _ _) (one_str _) (by unfold maxLen; omega) (by omega) (by simp; omega)
     exact ⟨v6,w6,h1,h2,h3⟩
    rintro v6 w6 ⟨hO6,hg6⟩
    have hrow : ∀ g,(Value.slice ta tn tc).ownBlock = some g -> wl.heap.size <= g /\ g < w4.heap.size := fun g hg => (uh HO4).lt g hg
    have hrR : (Value.slice ta tn tc).ownBlock ≠ some R := fun e => by have := (hrow R e).1; omega
    have hrA : (Value.slice ta tn tc).ownBlock ≠ some A := fun e => by have := (hrow A e).1; omega
    have HP6 : Hid (Pk w6 A { p with id := i,props := s,filters := ⟨ta,tn,tc⟩ }) := ((uh HP4).below (bal _ _)).grown hg6 hrA
    have HRP6 : Hid (RP w0 w6 R st4) := ((uh HRP4).below (bal _ _)).grown hg6 hrR (fun g hg => Nat.le_trans h0w (hrow g hg).1)
    have HBB6 : Hid (B2 R A wl w6) := ((uh HBB4).trans (B2.bel (bal _ _))).grown hg6 (fun g hg => (hrow g hg).1)
    obtain ⟨⟨sa,sn,sc⟩,hv6,_⟩ := owns_sl hO6
    have hv6 : v6 = .slice sa sn sc := hv6
    subst hv6
    have HO6 := zh hO6
    have cF6 : w6.cell? ⟨A,17,none⟩ = some (.slice ta tn tc) := (uh HP6).filters
    have fF6 : w6.frozen? ⟨A,17,none⟩ = false := (uh HP6).filters_f
    clear hO6 hg6 hrow cF4 cF5 HP4 HRP4 HBB4
    refine hK.out _ _ trivial (fun hHeld => ?_)
    clear hK K
    simp only [Act.put,List.setIfInBounds_toArray,List.set_cons_zero,List.set_cons_succ]
    refine rtk 9 (h := ?_)
    refine rtk 10 (h := ?_)
    refine rcl 11 (h := fun K hK => ?_)
    go_simp
    refine hK.out _ _ trivial (fun hHeld => ?_)
    clear hK K
    refine wpAnyH_done (by kernel_rfl) ?_ _
    refine NoPanic.normal ?_
    have HRP7 : Hid (RP w0 (w6.setCell ⟨A,17,none⟩ (.slice sa sn sc)) R st4) := (uh HRP6).set A 17 _ hA hA0
    have HP7 : Hid (Pk (w6.setCell ⟨A,17,none⟩ (.slice sa sn sc)) A { p with id := i,props := s,filters := ⟨sa,sn,sc⟩ }) := (uh HP6).set_filters ⟨sa,sn,sc⟩
    have HBB7 : Hid (B2 R A wl (w6.setCell ⟨A,17,none⟩ (.slice sa sn sc))) := (uh HBB6).set 17 _
    have HO7 : Hid ((w6.setCell ⟨A,17,none⟩ (.slice sa sn sc)).ownsRow wl.heap.size 9 1 (.slice sa sn sc) (k + 1) ((d ++ [x]).map Value.string)) := by
     show World.ownsRow _ _ _ _ _ _ _
     rw [show ((d ++ [x]).map Value.string) = (d.map Value.string) ++ [.string x] from by simp]
     exact owns_b2 (R := R) (uh HO6) ((B2.refl R A w6).set 17 _) hlt hla
    have HA7 : Hid (Acc text? st2 (d ++ [x]) st4) := (uh HAcc).step text?_shr (uh HST4) hl0
    have HB7 : Hid (∀ l',st4 = some l' -> (k + 1) + l'.length <= 65536) := by
     intro l' hl'
     subst hl'
     have h2 := stp_len text?_shr (uh HST4)
     have h3 := (uh HLN) l rfl
     omega
    have hM : mlp R (w6.setCell ⟨A,17,none⟩ (.slice sa sn sc)) < mlp R wr := by
     rw [mlp_some (uh HRP)]
     cases st4 with
     | none => rw [mlp_none (uh HRP7)]; omega
     | some l' =>
      rw [mlp_some (uh HRP7)]
      have := stp_len text?_shr (uh HST4)
      omega
    have hk1 : k + 1 <= 65536 := by
     have h3 := (uh HLN) l rfl
     have := List.length_pos_iff.2 hl0
     omega
    have HD7 : Hid ((d ++ [x]).length = k + 1) := by show _ = _; rw [List.length_append,uh HD]; rfl
    clear HRP6 HP6 HBB6 HO6 cF6 fF6
    go_wp2
    go_roundw
    case rel => exact ⟨d ++ [x],st4,⟨sa,sn,sc⟩,k + 1,by go_num,hk1,HD7,HB7,HP7,HO7,HA7,HRP7,HBB7⟩
    case measure => exact hM)
def Listssubs (w0 : GW) (R A : Nat) (p : Pkv) (st : Option (List Int)) (w : World) (e : Ending) (w' : World) : Prop :=
 e = .returned (.tuple #[]) /\ ∃ (i : Int) (s : Sl) (x : List Pr) (t : Sl) (d : List Sb) (st' : Option (List Int)),Pk w' A { p with id := i,props := s,subs := t } /\ Hid (w'.ownsRow w.heap.size 120 4 s.val x.length (pcs x)) /\ Hid (w'.ownsRow w.heap.size 75 5 t.val d.length (scs d)) /\ Stp (pglist? p.kind sub?) st (i,x,d) st' /\ RP w0 w' R st' /\ B2 R A w w'
theorem lists_subs (R A : Nat) (p : Pkv) (st : Option (List Int)) (w0 : GW) (w : World) (h : RP w0 w R st) (hp : Pk w A p) (hA : A ≠ R) (hA0 : w0.heap.size <= A) (hF : p.subs = ⟨none,0,0⟩) (hl : ∀ l,st = some l -> l.length <= 65536) (h8 : p.kind = 8) : Calls Tryz.prog 133 #[.pointer (some ⟨R,0,none⟩),.pointer (some ⟨A,0,none⟩)] w (Listssubs w0 R A p st w) := by
 obtain ⟨i0,hi0,hz0,hz1,hz2⟩ := info_parts infoSub
 have hRw := h.lt
 have hAw := hp.lt
 have hw0 := h.keep.size
 have HP := zh hp
 have HS := zh h
 have HL := zh hl
 have HF := zh hF
 have HK := zh h8; clear h8
 clear hp h hl hF
 go_enter Tryz.func133,Tryz.ntmps133
 go_wp2_with fail
 refine (pair_pg R st w0 w (uh HS)).mono ?_
 rintro e w1 ⟨i,st1,rfl,hir,hs1,h1,hx1⟩
 have hp1 := (uh HP).oth hx1 hA
 have c5 := hp1.id
 have f5 := hp1.id_f
 have c0 := hp1.kind
 have HP1 := zh (hp1.set_id i)
 have HS1 := zh (h1.set A 5 (.int .i64 i) hA hA0)
 have HB1 : Hid (B2 R A w (w1.setCell ⟨A,5,none⟩ (.int .i64 i))) := (B2.bx hx1).set 5 _
 have HST1 := zh hs1
 have HL1 := zh (stp_leq two?_shw hs1 (uh HL))
 clear hp1 h1 hx1 hs1 hir
 go_wp2_with fail
 refine (props_pg R _ st1 w0 _ (uh HS1)).mono ?_
 rintro e w2 ⟨s,x1,st2,rfl,hO2,hs2,h2,hx2⟩
 have hp2 := (uh HP1).oth hx2 hA
 have c7 := hp2.props
 have f7 := hp2.props_f
 have HP2 := zh (hp2.set_props s)
 have HS2 := zh (h2.set A 7 s.val hA hA0)
 have HB2 : Hid (B2 R A w (w2.setCell ⟨A,7,none⟩ s.val)) := ((uh HB1).trans (B2.bx hx2)).set 7 _
 have HST2 := zh hs2
 have HL2 := zh (stp_leq (props?_shw p.kind) hs2 (uh HL1))
 have HO2 : Hid ((w2.setCell ⟨A,7,none⟩ s.val).ownsRow w.heap.size 120 4 s.val x1.length (pcs x1)) := owns_mono (owns_b2 (R := R) (uh hO2) ((B2.refl R A w2).set 7 _) (Nat.lt_of_lt_of_le hRw (uh HB1).size) (Nat.lt_of_lt_of_le hAw (uh HB1).size)) (uh HB1).size
 clear hp2 h2 hx2 hs2 c5 f5 c0 hO2 HP1 HS1
 go_wp2
 generalize w2.setCell ⟨A,7,none⟩ s.val = wl at HP2 HS2 HB2 HO2 |-
 have hwl : w.heap.size <= wl.heap.size := (uh HB2).size
 have hlt : R < wl.heap.size := Nat.lt_of_lt_of_le hRw hwl
 have hla : A < wl.heap.size := Nat.lt_of_lt_of_le hAw hwl
 have h0w : w0.heap.size <= wl.heap.size := Nat.le_trans hw0 hwl
 clear c7 f7
 go_loopw [4] (fun n0 wr => ∃ (d : List Sb) (st3 : Option (List Int)) (t : Sl) (k : Nat),n0 = .int .i64 k /\ k <= 65536 /\ Hid (d.length = k) /\ Hid (∀ l,st3 = some l -> k + l.length <= 65536) /\ Hid (Pk wr A { p with id := i,props := s,subs := t }) /\ Hid (wr.ownsRow wl.heap.size 75 5 t.val k (scs d)) /\ Hid (Acc sub? st2 d st3) /\ Hid (RP w0 wr R st3) /\ Hid (B2 R A wl wr)) (fun _ wr => mlp R wr)
 case atStart =>
  refine ⟨[],st2,⟨none,0,0⟩,0,rfl,Nat.zero_le _,rfl,fun l hl => by have := (uh HL2) l hl; omega,?_,World.ownsRow_nil _ _ _ _,Acc.start _ _,uh HS2,B2.refl _ _ _⟩
  show Pk _ _ _
  have e : { p with id := i,props := s,subs := ⟨none,0,0⟩ } = { p with id := i,props := s } := by rw [<- uh HF]
  rw [e]
  exact uh HP2
 case round =>
  obtain ⟨d,st3,⟨ta,tn,tc⟩,k,rfl,hk,HD,HLN,HPk,HOwn,HAcc,HRP,HBB⟩ := hrel
  go_wp2_with fail
  refine (more_pg R st3 w0 wr (uh HRP)).mono ?_
  rintro e wm ⟨rfl,hbm⟩
  cases hm : moreB st3
  ·have hwlR : R < w.heap.size := hRw
   have hwlA : A < w.heap.size := hAw
   have HEND : Hid (∀ b : Bool,(!(i == 0) && mc (k : Nat)) = b -> ∀ W,(if b then W = wm else W = wm.setCell ⟨R,2,none⟩ (.bool true)) -> Listssubs w0 R A p st w (.returned (.tuple #[])) W) := by
    intro b hb W hW
    have hO : wm.ownsRow wl.heap.size 75 5 (Sl.val ⟨ta,tn,tc⟩) d.length (scs d) := by rw [uh HD]; exact owns_below (uh HOwn) hbm
    have hst : Stp (pglist? p.kind sub?) st (i,x1,d) (if b then st3 else none) := (uh HST1).bind ((uh HST2).bind (((uh HAcc).done (moreB_no hm)).bind ((?_ : Stp (mustR (!(i == 0) && mc d.length)) st3 () (if b then st3 else none)).bind (Stp.pure _ _))))
    ·have hBB := (uh HBB).trans (B2.bel hbm)
     cases b
     ·obtain rfl : W = wm.setCell ⟨R,2,none⟩ (.bool true) := hW
      exact ⟨rfl,i,s,x1,⟨ta,tn,tc⟩,d,none,((uh HPk).below hbm).blk (Below.heap_setCell _ _ _ _ hA),owns_b2 (uh HO2) (hBB.setR 2 _) hwlR hwlA,owns_mono (owns_b2 (A := A) hO ((B2.refl R A wm).setR 2 _) hlt hla) hwl,hst,((uh HRP).below hbm).bad,(uh HB2).trans (hBB.setR 2 _)⟩
     ·obtain rfl : W = wm := hW
      exact ⟨rfl,i,s,x1,⟨ta,tn,tc⟩,d,st3,(uh HPk).below hbm,owns_b2 (uh HO2) hBB hwlR hwlA,owns_mono hO hwl,hst,(uh HRP).below hbm,(uh HB2).trans hBB⟩
    ·rw [uh HD,hb]
     exact Stp.must b st3
   obtain ⟨bb,c2m,f2m,_⟩ := ((uh HRP).below hbm).c2
   have c5m := ((uh HPk).below hbm).id
   simp only at c5m
   clear hm hbm HD HLN HPk HOwn HAcc HRP HBB
   by_cases hi0 : i = 0
   ·subst hi0
    go_wp2
    go_end0
    exact uh HEND false rfl _ rfl
   ·have hib : (i == 0) = false := by simpa using hi0
    by_cases hk0 : k = 0
    ·subst hk0
     go_wp2
     go_end0
     exact uh HEND false (by rw [hib]; rfl) _ rfl
    ·have hkb : ((k : Int) == 0) = false := by simp; omega
     by_cases hk16 : 16 < k
     ·go_wp2
      go_end0
      exact uh HEND false (by rw [hib]; unfold mc; rw [decide_eq_false (show ¬ (k : Int) <= 16 by omega)]; simp) _ rfl
     ·go_wp2
      go_end0
      exact uh HEND true (by rw [hib]; unfold mc; rw [decide_eq_true (show (1 : Int) <= k by omega),decide_eq_true (show (k : Int) <= 16 by omega)]; rfl) _ rfl
  ·obtain ⟨l,rfl,hl0⟩ := moreB_yes hm
   have hbd := bel_drew wm
   have hbm' : Below wr.heap.size wr wm.drew := hbm.trans (hbd.mono hbm.size)
   have HPm := zh ((uh HPk).below hbm)
   have HRPm := zh ((uh HRP).below hbm)
   have HBBm : Hid (B2 R A wl wm) := (uh HBB).trans (B2.bel hbm)
   have HOm : Hid (wm.ownsRow wl.heap.size 75 5 (.slice ta tn tc) k (scs d)) := owns_below (uh HOwn) hbm
   have HPd := zh ((uh HPk).below hbm')
   have HRPd := zh ((uh HRP).below hbm')
   have HBBd : Hid (B2 R A wl wm.drew) := (uh HBB).trans (B2.bel hbm')
   have HOd : Hid (wm.drew.ownsRow wl.heap.size 75 5 (.slice ta tn tc) k (scs d)) := owns_below (uh HOwn) hbm'
   have c0 := (uh HPm).kind
   simp only at c0
   have cF : wm.cell? ⟨A,16,none⟩ = some (.slice ta tn tc) := (uh HPm).subs
   rw [uh HK] at c0
   clear hbd hbm hbm' hm HPk HOwn HBB
   go_wp2_with fail
   refine (text_pg R (some l) w0 _ (uh HRPm)).mono ?_
   rintro e wa ⟨f,sta,rfl,hsa,ha,hxa⟩
   have hpa := (uh HPm).oth hxa hA
   have HPa := zh hpa
   have HRPa := zh ha
   have HSTa := zh hsa
   have HBBa : Hid (B2 R A wl wa) := (uh HBBm).trans (B2.bx hxa)
   have HOa : Hid (wa.ownsRow wl.heap.size 75 5 (.slice ta tn tc) k (scs d)) := owns_b2 (A := A) (uh HOm) (B2.bx hxa) hlt hla
   clear hxa ha hsa hpa HPm HRPm HBBm HOm
   go_wp2_with fail
   refine (byte_pg R sta w0 _ ((uh HRPa).below (bal _ _))).mono ?_
   rintro e wb ⟨o,stb,rfl,ho,hsb,hb,hxb⟩
   have hV : wa.heap.size < wb.heap.size := by have := hxb.size; simp at this; omega
   have hRV : R < wa.heap.size := (uh HRPa).lt
   have hAV : A < wa.heap.size := (uh HPa).lt
   have v0 := hxb.far (p := ⟨wa.heap.size,0,none⟩) (v := .string f) (by simp) (by simp; omega)
   have v1 := hxb.far (p := ⟨wa.heap.size,1,none⟩) (v := .int .i64 0) (by simp) (by simp; omega)
   have v2 := hxb.far (p := ⟨wa.heap.size,2,none⟩) (v := .bool false) (by simp) (by simp; omega)
   have v3 := hxb.far (p := ⟨wa.heap.size,3,none⟩) (v := .bool false) (by simp) (by simp; omega)
   have v4 := hxb.far (p := ⟨wa.heap.size,4,none⟩) (v := .int .i64 0) (by simp) (by simp; omega)
   have g : ∀ j,wb.frozen? ⟨wa.heap.size,j,none⟩ = false := fun j => (hxb.frz (p := ⟨wa.heap.size,j,none⟩) (by simp) (by simp; omega)).trans (by simp)
   have g1 := g 1
   have g2 := g 2
   have g3 := g 3
   have g4 := g 4
   clear g
   have e3 := and3 o ho.1 ho.2
   have e4 := and4 o ho.1 ho.2
   have e8 := and8 o ho.1 ho.2
   have es := sh4 o ho.1 ho.2
   have hpb := ((uh HPa).below (bal _ _)).oth hxb hA
   have HPb := zh hpb
   have HRPb := zh hb
   have HSTb := zh hsb
   have HBBb : Hid (B2 R A wl wb) := ((uh HBBa).trans (B2.bel (bal _ _))).trans (B2.bx hxb)
   have hVl : wl.heap.size <= wa.heap.size := (uh HBBa).size
   have hVrow : ∀ g,(Value.slice ta tn tc).ownBlock = some g -> g ≠ wa.heap.size := fun g hg => by have := ((uh HOa).lt g hg).2; omega
   have HOb : Hid (wb.ownsRow wl.heap.size 75 5 (.slice ta tn tc) k (scs d)) := owns_b2 (A := A) ((uh HOa).alloc _) (B2.bx hxb) hlt hla
   clear hxb hb hsb hpb HPa HRPa HBBa HOa HPd HRPd HBBd HOd
   have hV0 : w0.heap.size <= wa.heap.size := Nat.le_trans h0w hVl
   generalize wa.heap.size = V at hV hRV hAV v0 v1 v2 v3 v4 g1 g2 g3 g4 hVl hVrow hV0 |-
   go_upto_region 14 with fail
   have hVR : V ≠ R := by omega
   have hVA : V ≠ A := by omega
   have x0 : ((((wb.setCell ⟨V,1,none⟩ (.int .i64 (o % 4))).setCell ⟨V,2,none⟩ (.bool (btest o 4))).setCell ⟨V,3,none⟩ (.bool (btest o 8))).setCell ⟨V,4,none⟩ (.int .i64 (o / 16))).cell? ⟨V,0,none⟩ = some (.string f) := by simp (maxDischargeDepth := 12) [cell_set,v0]
   have x1c : ((((wb.setCell ⟨V,1,none⟩ (.int .i64 (o % 4))).setCell ⟨V,2,none⟩ (.bool (btest o 4))).setCell ⟨V,3,none⟩ (.bool (btest o 8))).setCell ⟨V,4,none⟩ (.int .i64 (o / 16))).cell? ⟨V,1,none⟩ = some (.int .i64 (o % 4)) := by simp (maxDischargeDepth := 12) [cell_set,v1]
   have x2 : ((((wb.setCell ⟨V,1,none⟩ (.int .i64 (o % 4))).setCell ⟨V,2,none⟩ (.bool (btest o 4))).setCell ⟨V,3,none⟩ (.bool (btest o 8))).setCell ⟨V,4,none⟩ (.int .i64 (o / 16))).cell? ⟨V,2,none⟩ = some (.bool (btest o 4)) := by simp (maxDischargeDepth := 12) [cell_set,v2]
   have x3 : ((((wb.setCell ⟨V,1,none⟩ (.int .i64 (o % 4))).setCell ⟨V,2,none⟩ (.bool (btest o 4))).setCell ⟨V,3,none⟩ (.bool (btest o 8))).setCell ⟨V,4,none⟩ (.int .i64 (o / 16))).cell? ⟨V,3,none⟩ = some (.bool (btest o 8)) := by simp (maxDischargeDepth := 12) [cell_set,v3]
   have x4 : ((((wb.setCell ⟨V,1,none⟩ (.int .i64 (o % 4))).setCell ⟨V,2,none⟩ (.bool (btest o 4))).setCell ⟨V,3,none⟩ (.bool (btest o 8))).setCell ⟨V,4,none⟩ (.int .i64 (o / 16))).cell? ⟨V,4,none⟩ = some (.int .i64 (o / 16)) := by simp (maxDischargeDepth := 12) [cell_set,v4]
   have HRPc : Hid (RP w0 ((((wb.setCell ⟨V,1,none⟩ (.int .i64 (o % 4))).setCell ⟨V,2,none⟩ (.bool (btest o 4))).setCell ⟨V,3,none⟩ (.bool (btest o 8))).setCell ⟨V,4,none⟩ (.int .i64 (o / 16))) R stb) := ((((uh HRPb).set V 1 _ hVR hV0).set V 2 _ hVR hV0).set V 3 _ hVR hV0).set V 4 _ hVR hV0
   have HPc : Hid (Pk ((((wb.setCell ⟨V,1,none⟩ (.int .i64 (o % 4))).setCell ⟨V,2,none⟩ (.bool (btest o 4))).setCell ⟨V,3,none⟩ (.bool (btest o 8))).setCell ⟨V,4,none⟩ (.int .i64 (o / 16))) A { p with id := i,props := s,subs := ⟨ta,tn,tc⟩ }) := ((((uh HPb).blk (Below.heap_setCell _ _ _ _ (fun e => hVA e.symm))).blk (Below.heap_setCell _ _ _ _ (fun e => hVA e.symm))).blk (Below.heap_setCell _ _ _ _ (fun e => hVA e.symm))).blk (Below.heap_setCell _ _ _ _ (fun e => hVA e.symm))
   have HBBc : Hid (B2 R A wl ((((wb.setCell ⟨V,1,none⟩ (.int .i64 (o % 4))).setCell ⟨V,2,none⟩ (.bool (btest o 4))).setCell ⟨V,3,none⟩ (.bool (btest o 8))).setCell ⟨V,4,none⟩ (.int .i64 (o / 16)))) := ((((uh HBBb).setOut V 1 _ hVl).setOut V 2 _ hVl).setOut V 3 _ hVl).setOut V 4 _ hVl
   have HOc : Hid (((((wb.setCell ⟨V,1,none⟩ (.int .i64 (o % 4))).setCell ⟨V,2,none⟩ (.bool (btest o 4))).setCell ⟨V,3,none⟩ (.bool (btest o 8))).setCell ⟨V,4,none⟩ (.int .i64 (o / 16))).ownsRow wl.heap.size 75 5 (.slice ta tn tc) k (scs d)) := owns_ne (owns_ne (owns_ne (owns_ne (uh HOb) hVrow) hVrow) hVrow) hVrow
   clear v0 v1 v2 v3 v4 g1 g2 g3 g4 e3 e4 e8 es HRPb HPb HBBb HOb
   generalize ((((wb.setCell ⟨V,1,none⟩ (.int .i64 (o % 4))).setCell ⟨V,2,none⟩ (.bool (btest o 4))).setCell ⟨V,3,none⟩ (.bool (btest o 8))).setCell ⟨V,4,none⟩ (.int .i64 (o / 16))) = wz at x0 x1c x2 x3 x4 HRPc HPc HBBc HOc |-
   have HOK : Hid (opk (o % 4) (o / 16) = !((o % 4 == 3) || decide (2 < o / 16))) := byte_cases (P := fun o => opk (o % 4) (o / 16) = !((o % 4 == 3) || decide (2 < o / 16))) (by decide +kernel) o ho.1 ho.2
   go_cut [68] from 21 to 94 (fun s68 wx => s68 = .bool (!opk (o % 4) (o / 16)) /\ wx = wz)
   case first =>
    cases hq3 : (o % 4 == 3)
    ·cases hq4 : decide (2 < o / 16)
     ·have hq5 : ¬ 2 < o / 16 := of_decide_eq_false hq4
      go_wp2
      go_meet
      case rel => exact ⟨by rw [uh HOK,hq3,hq4]; rfl,rfl⟩
     ·have hq5 : 2 < o / 16 := of_decide_eq_true hq4
      go_wp2
      go_meet
      case rel => exact ⟨by rw [uh HOK,hq3,hq4]; rfl,rfl⟩
    ·go_wp2
     go_meet
     case rel => exact ⟨by rw [uh HOK,hq3]; rfl,rfl⟩
   case rest =>
   obtain ⟨rfl,hwz⟩ := hcut
   obtain rfl : wc = wz := hwz
   have HSTs : ∀ b,opk (o % 4) (o / 16) = b -> Hid (Stp sub? (some l) (sbOf f o) (if b then stb else none)) := fun b hb => (uh HSTa).bind ((uh HSTb).bind ((show Stp (mustR (opk (o % 4) (o / 16))) stb () (if b then stb else none) from by rw [hb]; exact Stp.must b stb).bind (Stp.pure _ _)))
   obtain ⟨bb,c2m,f2m,_⟩ := (uh HRPc).c2
   go_upto_if 68 with fail
   go_cut [] from 21 to 94 (fun wx => ∃ st4,Hid (Stp sub? (some l) (sbOf f o) st4) /\ Hid (RP w0 wx R st4) /\ Hid (Pk wx A { p with id := i,props := s,subs := ⟨ta,tn,tc⟩ }) /\ Hid (B2 R A wl wx) /\ Hid (wx.ownsRow wl.heap.size 75 5 (.slice ta tn tc) k (scs d)) /\ Hid (wx.cell? ⟨V,0,none⟩ = some (.string f) /\ wx.cell? ⟨V,1,none⟩ = some (.int .i64 (o % 4)) /\ wx.cell? ⟨V,2,none⟩ = some (.bool (btest o 4)) /\ wx.cell? ⟨V,3,none⟩ = some (.bool (btest o 8)) /\ wx.cell? ⟨V,4,none⟩ = some (.int .i64 (o / 16))))
   case first =>
    cases hb : opk (o % 4) (o / 16)
    ·have HSTe := HSTs false hb
     go_wp2
     go_meet
     case rel => exact ⟨none,HSTe,(uh HRPc).bad,(uh HPc).blk (Below.heap_setCell _ _ _ _ hA),(uh HBBc).setR 2 _,owns_b2 (A := A) (uh HOc) ((B2.refl R A wc).setR 2 _) hlt hla,(World.cell?_setCell_other _ _ _ _ (by intro e; injection e with e1; exact hVR e1.symm)).trans x0,(World.cell?_setCell_other _ _ _ _ (by intro e; injection e with e1; exact hVR e1.symm)).trans x1c,(World.cell?_setCell_other _ _ _ _ (by intro e; injection e with e1; exact hVR e1.symm)).trans x2,(World.cell?_setCell_other _ _ _ _ (by intro e; injection e with e1; exact hVR e1.symm)).trans x3,(World.cell?_setCell_other _ _ _ _ (by intro e; injection e with e1; exact hVR e1.symm)).trans x4⟩
    ·have HSTe := HSTs true hb
     go_wp2
     go_meet
     case rel => exact ⟨stb,HSTe,HRPc,HPc,HBBc,HOc,x0,x1c,x2,x3,x4⟩
   case rest =>
   obtain ⟨st4,HST4,HRP4,HP4,HBB4,HO4,HVv⟩ := hcut
   obtain ⟨y0,y1,y2,y3,y4⟩ := uh HVv
   have cF4 : wc.cell? ⟨A,16,none⟩ = some (.slice ta tn tc) := (uh HP4).subs
   have cF5 : (wc.alloc (.cells #[.string f,.int .i64 (o % 4),.bool (btest o 4),.bool (btest o 8),.int .i64 (o / 16)] 75)).cell? ⟨A,16,none⟩ = some (.slice ta tn tc) := (World.cell?_alloc_lt _ _ ⟨A,16,none⟩ (uh HP4).lt).trans cF4
   clear HVv x0 x1c x2 x3 x4 HRPc HPc HBBc HOc c2m f2m HSTs HSTa HSTb cF c0
   go_wp2_with fail
   refine wp_region_noPanic ?_
   refine wp_region_held_drew (S := fun _ => True) (by kernel_rfl) trivial (fun hHeld => ?_)
   refine rtk 0 (h := ?_)
   refine rtk 1 (h := ?_)
   refine rtk 2 (h := ?_)
   refine rtk 3 (h := ?_)
   refine wpAnyH_ready (rs := [4,5]) (by kernel_rfl) (by simp) ?_
   refine rac (h := fun K hK => ?ra) (hs := (rac (h := fun K hK => ?rb) (hs := AllReadyH.nil)))
   case' ra =>
    go_simp
    refine hK.out _ _ trivial (fun hHeld => ?_)
    clear hK K
    refine rcl 5 (h := fun K hK => ?_)
    go_simp
    refine hK.out _ _ trivial (fun hHeld => ?_)
    clear hK K
    refine rcl 6 (h := fun K hK => ?_)
    go_simp
    refine hK.out _ _ trivial (fun hHeld => ?_)
    clear hK K
   case' rb =>
    go_simp
    refine hK.out _ _ trivial (fun hHeld => ?_)
    clear hK K
    refine wpAnyH_ready (rs := [4,6]) (by kernel_rfl) (by simp) ?_
    refine rac (h := fun K hK => ?rc) (hs := (rac (h := fun K hK => ?rd) (hs := AllReadyH.nil)))
    case' rc =>
     go_simp
     refine hK.out _ _ trivial (fun hHeld => ?_)
     clear hK K
     refine rcl 6 (h := fun K hK => ?_)
     go_simp
     refine hK.out _ _ trivial (fun hHeld => ?_)
     clear hK K
    case' rd =>
     go_simp
     refine hK.out _ _ trivial (fun hHeld => ?_)
     clear hK K
     refine rcl 4 (h := fun K hK => ?_)
     go_simp
     refine hK.out _ _ trivial (fun hHeld => ?_)
     clear hK K
   all_goals (
    have hsz4 : wl.heap.size <= wc.heap.size := (uh HBB4).size
    refine rcl 7 (h := fun K hK => ?_)
    refine step_append_run (Z := fun v' w' => w'.ownsRow wl.heap.size 75 5 v' (k + 1) ((scs d) ++ (sbOf f o).cells) /\ (wc.alloc (.cells #[.string f,.int .i64 (o % 4),.bool (btest o 4),.bool (btest o 8),.int .i64 (o / 16)] 75)).drew.grownBy w' (Value.slice ta tn tc).ownBlock) rfl _ _ 27 rfl (.slice ta tn tc) (.slice (some ⟨wc.heap.size,0,none⟩) 1 1) rfl rfl ?hr ?_
    case hr =>
     obtain ⟨v6,w6,h1,h2,h3,_⟩ := run_append_own (P := Tryz.prog) (w := (wc.alloc (.cells #[.string f,.int .i64 (o % 4),.bool (btest o 4),.bool (btest o 8),.int .i64 (o / 16)] 75)).drew) wl.heap.size 27 27 75 i0 _ 5 40 Tryz.underlying27 hi0 hz0 hz1 hz2 rfl (by decide) (.slice ta tn tc) k _ (owns_below ((uh HO4).alloc _) (bel_drew _)) ⟨wc.heap.size,0,none⟩ 1 1 (sbOf f o).cells rfl (five_cell _ _ _ _ _ _ _) (five_one _) (by unfold maxLen; omega) (by omega) (by simp; omega)
     exact ⟨v6,w6,h1,h2,h3⟩
    rintro v6 w6 ⟨hO6,hg6⟩
    have hrow : ∀ g,(Value.slice ta tn tc).ownBlock = some g -> wl.heap.size <= g /\ g < wc.heap.size := fun g hg => (uh HO4).lt g hg
    have hrR : (Value.slice ta tn tc).ownBlock ≠ some R := fun e => by have := (hrow R e).1; omega
    have hrA : (Value.slice ta tn tc).ownBlock ≠ some A := fun e => by have := (hrow A e).1; omega
    have HP6 : Hid (Pk w6 A { p with id := i,props := s,subs := ⟨ta,tn,tc⟩ }) := ((uh HP4).below ((bal _ _).trans ((bel_drew _).mono (by simp)))).grown hg6 hrA
    have HRP6 : Hid (RP w0 w6 R st4) := ((uh HRP4).below ((bal _ _).trans ((bel_drew _).mono (by simp)))).grown hg6 hrR (fun g hg => Nat.le_trans h0w (hrow g hg).1)
    have HBB6 : Hid (B2 R A wl w6) := ((uh HBB4).trans (B2.bel ((bal _ _).trans ((bel_drew _).mono (by simp))))).grown hg6 (fun g hg => (hrow g hg).1)
    obtain ⟨⟨sa,sn,sc⟩,hv6,_⟩ := owns_sl hO6
    have hv6 : v6 = .slice sa sn sc := hv6
    subst hv6
    have HO6 := zh hO6
    have cF6 : w6.cell? ⟨A,16,none⟩ = some (.slice ta tn tc) := (uh HP6).subs
    have fF6 : w6.frozen? ⟨A,16,none⟩ = false := (uh HP6).subs_f
    clear hO6 hg6 hrow cF4 cF5 HP4 HRP4 HBB4
    refine hK.out _ _ trivial (fun hHeld => ?_)
    clear hK K
    simp only [Act.put,List.setIfInBounds_toArray,List.set_cons_zero,List.set_cons_succ]
    refine rtk 8 (h := ?_)
    refine rtk 9 (h := ?_)
    refine rcl 10 (h := fun K hK => ?_)
    go_simp
    refine hK.out _ _ trivial (fun hHeld => ?_)
    clear hK K
    refine wpAnyH_done (by kernel_rfl) ?_ _
    refine NoPanic.normal ?_
    have HRP7 : Hid (RP w0 (w6.setCell ⟨A,16,none⟩ (.slice sa sn sc)) R st4) := (uh HRP6).set A 16 _ hA hA0
    have HP7 : Hid (Pk (w6.setCell ⟨A,16,none⟩ (.slice sa sn sc)) A { p with id := i,props := s,subs := ⟨sa,sn,sc⟩ }) := (uh HP6).set_subs ⟨sa,sn,sc⟩
    have HBB7 : Hid (B2 R A wl (w6.setCell ⟨A,16,none⟩ (.slice sa sn sc))) := (uh HBB6).set 16 _
    have HO7 : Hid ((w6.setCell ⟨A,16,none⟩ (.slice sa sn sc)).ownsRow wl.heap.size 75 5 (.slice sa sn sc) (k + 1) (scs (d ++ [(sbOf f o)]))) := by
     show World.ownsRow _ _ _ _ _ _ _
     rw [show (scs (d ++ [(sbOf f o)])) = (scs d) ++ (sbOf f o).cells from by rw [scs_app]]
     exact owns_b2 (R := R) (uh HO6) ((B2.refl R A w6).set 16 _) hlt hla
    have HA7 : Hid (Acc sub? st2 (d ++ [(sbOf f o)]) st4) := (uh HAcc).step sub?_shr (uh HST4) hl0
    have HB7 : Hid (∀ l',st4 = some l' -> (k + 1) + l'.length <= 65536) := by
     intro l' hl'
     subst hl'
     have h2 := stp_len sub?_shr (uh HST4)
     have h3 := (uh HLN) l rfl
     omega
    have hM : mlp R (w6.setCell ⟨A,16,none⟩ (.slice sa sn sc)) < mlp R wr := by
     rw [mlp_some (uh HRP)]
     cases st4 with
     | none => rw [mlp_none (uh HRP7)]; omega
     | some l' =>
      rw [mlp_some (uh HRP7)]
      have := stp_len sub?_shr (uh HST4)
      omega
    have hk1 : k + 1 <= 65536 := by
     have h3 := (uh HLN) l rfl
     have := List.length_pos_iff.2 hl0
     omega
    have HD7 : Hid ((d ++ [(sbOf f o)]).length = k + 1) := by show _ = _; rw [List.length_append,uh HD]; rfl
    clear HRP6 HP6 HBB6 HO6 cF6 fF6
    go_wp2
    go_roundw
    case rel => exact ⟨d ++ [(sbOf f o)],st4,⟨sa,sn,sc⟩,k + 1,by go_num,hk1,HD7,HB7,HP7,HO7,HA7,HRP7,HBB7⟩
    case measure => exact hM)
def BodyPg (w0 : GW) (R A : Nat) (P : Pa) (st : Option (List Int)) (w : World) (e : Ending) (w' : World) : Prop :=
 e = .returned (.tuple #[]) /\ ∃ (p' : Pkv) (P' : Pa) (st' : Option (List Int)),Pk w' A p' /\ Stp (body? P) st P' st' /\ RP w0 w' R st' /\ B2 R A w w' /\ (st' = none \/ Hid (Mean w' w.heap.size p' P'))
theorem stp_id {st st1 : Option (List Int)} {i : Int} (h : Stp two? st i st1) : Stp id? st i (if i = 0 then none else st1) := by
 cases st with
 | none => obtain rfl : st1 = none := h; split <;> rfl
 | some l =>
  unfold Stp at h |-
  simp only at h |-
  unfold id?
  cases hq : two? l with
  | none => rw [hq] at h; obtain rfl : st1 = none := h; simp
  | some r =>
   obtain ⟨y,t⟩ := r
   rw [hq] at h
   obtain ⟨rfl,rfl⟩ := h
   simp only
   by_cases hi : i = 0
   ·simp [hi]
   ·simp [hi]
theorem RP.gone {w0 : GW} {w : World} {R : Nat} {st : Option (List Int)} (h : RP w0 w R st) : ∃ ao n cap,w.cell? ⟨R,0,none⟩ = some (.slice ao n cap) /\ (n <= cap /\ cap <= maxLen) /\ (∃ k : Nat,w.cell? ⟨R,1,none⟩ = some (.int .i64 k)) /\ w.frozen? ⟨R,1,none⟩ = false /\ RP w0 (w.setCell ⟨R,1,none⟩ (.int .i64 n)) R (st.map fun _ => []) := by
 obtain ⟨ao,n,cap,k,bad,L,hc,hy,hk,hn,hw,hR,hst⟩ := h
 have hl := byt_len hy
 refine ⟨ao,n,cap,hc.1,hl.2,⟨k,hc.2.1.1⟩,hc.2.1.2,⟨ao,n,cap,n,bad,L,hc.setAt n,hy,Nat.le_refl _,hn,((BX.refl R isAny w).set 1 _ trivial).keep hw hR,hR,?_⟩⟩
 subst hst
 cases bad
 ·show some [] = some (L.drop n)
  rw [List.drop_of_length_le (by omega)]
 ·rfl
theorem pglist_eq {α β : Type} (kind : Int) (f : List Int -> Option (α × List Int)) (g : Int -> List Pr -> List α -> β) (l : List Int) : bindR (pglist? kind f) (fun r => pureR (g r.1 r.2.1 r.2.2)) l = bindR id? (fun i => bindR (props? kind) fun x => bindR (list? f) fun d => pureR (g i x d)) l := by
 unfold pglist? list? id?
 simp only [bindR,mustR,pureR]
 cases two? l with
 | none => rfl
 | some a =>
  simp only [Option.bind_some]
  by_cases hi : a.1 = 0
  ·simp only [hi,if_true,beq_self_eq_true,Bool.not_true,Bool.false_and,Bool.false_eq_true,if_false,Option.bind_none,bind_none']
  ·have hb : (a.1 == 0) = false := by simpa using hi
   simp only [hi,if_false,hb,Bool.not_false,Bool.true_and,Option.bind_some]
   cases props? kind a.2 with
   | none => rfl
   | some b =>
    simp only [Option.bind_some]
    cases manyR f b.2 with
    | none => rfl
    | some c =>
     simp only [Option.bind_some]
     cases mc c.1.length
     ·rfl
     ·rfl
theorem body_1 (R A : Nat) (d : Bool) (q : Int) (r : Bool) (st : Option (List Int)) (w0 : GW) (w : World) (h : RP w0 w R st) (hp : Pk w A (pk0 1 d q r)) (hA : A ≠ R) (hA0 : w0.heap.size <= A) : Calls Tryz.prog 73 #[.pointer (some ⟨R,0,none⟩),.pointer (some ⟨A,0,none⟩)] w (BodyPg w0 R A (pa0 1 d q r) st w) := by
 have hRw := h.lt
 have hAw := hp.lt
 have c0 := hp.kind
 simp only [pk0] at c0
 have HP := zh hp
 have HS := zh h
 clear hp h
 go_enter Tryz.func73,Tryz.ntmps73
 go_wp2_with fail
 refine (connect_pg R A d q r st w0 w (uh HS) (uh HP) hA hA0).mono ?_
 rintro e w1 ⟨rfl,p',n,st',h1,h2,h3,h4,h5⟩
 have H1 := zh h1
 have H2 := zh h2
 have H3 := zh h3
 have H4 := zh h4
 have H5 := zh h5
 clear h1 h2 h3 h4 h5
 go_wp2
 go_end0
 have k : Stp (body? (pa0 1 d q r)) st (ofCn (pa0 1 d q r) n) st' := Stp.bind (g := fun n => pureR (ofCn (pa0 1 d q r) n)) (Stp.congr connectP_eq (uh H2)) (Stp.pure _ _)
 exact ⟨rfl,p',_,st',uh H1,k,uh H3,uh H4,uh H5⟩
theorem connack_eq {β : Type} (g : Int -> Int -> List Pr -> β) (l : List Int) : bindR one? (fun f => bindR one? fun c => bindR (props? 2) fun x => bindR (mustR (decide (f <= 1))) fun _ => pureR (g f c x)) l = bindR one? (fun f => bindR (mustR (decide (f <= 1))) fun _ => bindR one? fun c => bindR (props? 2) fun x => pureR (g f c x)) l := by
 simp only [bindR,mustR,pureR]
 cases one? l with
 | none => rfl
 | some a =>
  simp only [Option.bind_some]
  cases decide (a.1 <= 1)
  ·simp only [Bool.false_eq_true,if_false,Option.bind_none,bind_none']
  ·simp only [if_true,Option.bind_some]
theorem body_2 (R A : Nat) (d : Bool) (q : Int) (r : Bool) (st : Option (List Int)) (w0 : GW) (w : World) (h : RP w0 w R st) (hp : Pk w A (pk0 2 d q r)) (hA : A ≠ R) (hA0 : w0.heap.size <= A) : Calls Tryz.prog 73 #[.pointer (some ⟨R,0,none⟩),.pointer (some ⟨A,0,none⟩)] w (BodyPg w0 R A (pa0 2 d q r) st w) := by
 have hRw := h.lt
 have hAw := hp.lt
 have c0 := hp.kind
 simp only [pk0] at c0
 have HP := zh hp
 have HS := zh h
 clear hp h
 go_enter Tryz.func73,Tryz.ntmps73
 go_wp2_with fail
 refine (byte_pg R st w0 w (uh HS)).mono ?_
 rintro e w1 ⟨f,st1,rfl,hf,hs1,h1,hx1⟩
 have hp1 := (uh HP).oth hx1 hA
 have c15 := hp1.session
 have f15 := hp1.session_f
 have HP1 := zh (hp1.set_session (f == 1))
 have HS1 := zh (h1.set A 15 (.bool (f == 1)) hA hA0)
 have HB1 : Hid (B2 R A w (w1.setCell ⟨A,15,none⟩ (.bool (f == 1)))) := (B2.bx hx1).set 15 _
 have HST1 := zh hs1
 clear hp1 h1 hx1 hs1 HP HS c0
 go_wp2_with fail
 refine (byte_pg R st1 w0 _ (uh HS1)).mono ?_
 rintro e w2 ⟨c,st2,rfl,hc,hs2,h2,hx2⟩
 have hp2 := (uh HP1).oth hx2 hA
 have c14 := hp2.code
 have f14 := hp2.code_f
 have HP2 := zh (hp2.set_code c)
 have HS2 := zh (h2.set A 14 (.int .i64 c) hA hA0)
 have HB2 : Hid (B2 R A w (w2.setCell ⟨A,14,none⟩ (.int .i64 c))) := ((uh HB1).trans (B2.bx hx2)).set 14 _
 have HST2 := zh hs2
 clear hp2 h2 hx2 hs2 HP1 HS1 HB1 c15 f15
 go_wp2_with fail
 refine (props_pg R 2 st2 w0 _ (uh HS2)).mono ?_
 rintro e w3 ⟨t,x,st3,rfl,hO3,hs3,h3,hx3⟩
 have hp3 := (uh HP2).oth hx3 hA
 have c7 := hp3.props
 have f7 := hp3.props_f
 have HP3 := zh (hp3.set_props t)
 have HS3 := zh (h3.set A 7 t.val hA hA0)
 have HB3 : Hid (B2 R A w (w3.setCell ⟨A,7,none⟩ t.val)) := ((uh HB2).trans (B2.bx hx3)).set 7 _
 have HO3 : Hid ((w3.setCell ⟨A,7,none⟩ t.val).ownsRow w.heap.size 120 4 t.val x.length (pcs x)) := owns_mono (owns_b2 (R := R) (uh hO3) ((B2.refl R A w3).set 7 _) (Nat.lt_of_lt_of_le hRw (uh HB2).size) (Nat.lt_of_lt_of_le hAw (uh HB2).size)) (uh HB2).size
 have HST3 := zh hs3
 clear hp3 h3 hx3 hs3 HP2 HS2 HB2 hO3 c14 f14
 have HEQ : Hid (∀ st',Stp (mustR (decide (f <= 1))) st3 () st' -> Stp (body? (pa0 2 d q r)) st { pa0 2 d q r with session := f == 1,code := c,props := x } st') := fun st' k => Stp.congr (connack_eq fun f c x => ({ pa0 2 d q r with session := f == 1,code := c,props := x } : Pa)) ((uh HST1).bind ((uh HST2).bind ((uh HST3).bind (k.bind (Stp.pure _ _)))))
 by_cases hf1 : f <= 1
 ·go_upto_region 9 with fail
  generalize w3.setCell ⟨A,7,none⟩ t.val = wz at HP3 HS3 HB3 HO3 |-
  clear c7 f7
  go_wp2
  go_end0
  exact ⟨rfl,_,_,st3,uh HP3,(uh HEQ) _ (Stp.yes (decide_eq_true hf1)),uh HS3,uh HB3,.inr ⟨⟨rfl,rfl,rfl,rfl,rfl,rfl,rfl,rfl,rfl,rfl,rfl,rfl⟩,uh HO3,wills0 _ _,row0 _ _ _ _,row0 _ _ _ _,row0 _ _ _ _,row0 _ _ _ _,row0 _ _ _ _⟩⟩
 ·go_upto_region 9 with fail
  generalize w3.setCell ⟨A,7,none⟩ t.val = wz at HP3 HS3 HB3 HO3 |-
  clear c7 f7
  obtain ⟨bb,c2,f2,_⟩ := (uh HS3).c2
  go_wp2
  go_end0
  exact ⟨rfl,_,_,none,(uh HP3).blk (Below.heap_setCell _ _ _ _ hA),(uh HEQ) _ (Stp.not (decide_eq_false (by omega))),(uh HS3).bad,(uh HB3).setR 2 _,.inl rfl⟩
theorem body_3 (R A : Nat) (d : Bool) (q : Int) (r : Bool) (st : Option (List Int)) (w0 : GW) (w : World) (h : RP w0 w R st) (hp : Pk w A (pk0 3 d q r)) (hA : A ≠ R) (hA0 : w0.heap.size <= A) (hq : 0 <= q /\ q <= 2) : Calls Tryz.prog 73 #[.pointer (some ⟨R,0,none⟩),.pointer (some ⟨A,0,none⟩)] w (BodyPg w0 R A (pa0 3 d q r) st w) := by
 have hRw := h.lt
 have hAw := hp.lt
 have c0 := hp.kind
 simp only [pk0] at c0
 have HP := zh hp
 have HS := zh h
 clear hp h
 go_enter Tryz.func73,Tryz.ntmps73
 go_wp2_with fail
 refine (text_pg R st w0 w (uh HS)).mono ?_
 rintro e w1 ⟨t,st1,rfl,hs1,h1,hx1⟩
 have hp1 := (uh HP).oth hx1 hA
 have c4 := hp1.topic
 have f4 := hp1.topic_f
 have c2q := hp1.qos
 simp only [pk0] at c2q c4
 have HP1 := zh (hp1.set_topic t)
 have HS1 := zh (h1.set A 4 (.string t) hA hA0)
 have HB1 : Hid (B2 R A w (w1.setCell ⟨A,4,none⟩ (.string t))) := (B2.bx hx1).set 4 _
 have HST1 := zh hs1
 clear hp1 h1 hx1 hs1 HP HS c0
 go_upto_if 52 with fail
 generalize w1.setCell ⟨A,4,none⟩ (.string t) = wy at HP1 HS1 HB1 |-
 clear c4 f4 c2q
 have c5 := (uh HP1).id
 have f5 := (uh HP1).id_f
 simp only [pk0] at c5
 go_cut [] from 5 (fun wx => ∃ (i : Int) (st2 : Option (List Int)),Hid (Stp (if 0 < q then id? else pureR 0) st1 i st2) /\ Hid (RP w0 wx R st2) /\ Hid (Pk wx A { pk0 3 d q r with topic := t,id := i }) /\ Hid (B2 R A w wx))
 case first =>
  by_cases hq0 : 0 < q
  ·go_wp2_with fail
   refine (pair_pg R st1 w0 _ (uh HS1)).mono ?_
   rintro e w2 ⟨i,st2,rfl,hi,hs2,h2,hx2⟩
   have hp2 := (uh HP1).oth hx2 hA
   have d5 := hp2.id
   have g5 := hp2.id_f
   simp only [pk0] at d5
   have HP2 := zh (hp2.set_id i)
   have HS2 := zh (h2.set A 5 (.int .i64 i) hA hA0)
   have HB2 : Hid (B2 R A w (w2.setCell ⟨A,5,none⟩ (.int .i64 i))) := ((uh HB1).trans (B2.bx hx2)).set 5 _
   have HST2 := zh (stp_id hs2)
   clear hp2 h2 hx2 hs2 HP1 HS1 HB1 c5 f5
   go_upto_region 15 with fail
   generalize w2.setCell ⟨A,5,none⟩ (.int .i64 i) = wx at HP2 HS2 HB2 |-
   clear d5 g5
   have e5 := (uh HP2).id
   simp only at e5
   by_cases hi0 : i = 0
   ·rw [if_pos hi0] at HST2
    have HI := zh hi0
    have hib : (i == 0) = true := by simpa using hi0
    clear hi0
    obtain ⟨bb,c2,f2,_⟩ := (uh HS2).c2
    go_wp2
    go_meet
    case rel => exact ⟨i,none,(by show Stp _ _ _ _; rw [if_pos hq0]; exact uh HST2),(uh HS2).bad,(uh HP2).blk (Below.heap_setCell _ _ _ _ hA),(uh HB2).setR 2 _⟩
   ·rw [if_neg hi0] at HST2
    have hib : (i == 0) = false := by simpa using hi0
    go_wp2
    go_meet
    case rel => exact ⟨i,st2,(by show Stp _ _ _ _; rw [if_pos hq0]; exact uh HST2),HS2,HP2,HB2⟩
  ·go_wp2
   go_meet
   case rel => exact ⟨0,st1,(by show Stp _ _ _ _; rw [if_neg (by omega)]; exact Stp.pure _ _),HS1,HP1,HB1⟩
 case rest =>
 obtain ⟨i,st2,HST2,HS2,HP2,HB2⟩ := hcut
 obtain ⟨wx,hwx⟩ : ∃ wx,wx = wc := ⟨_,rfl⟩
 subst hwx
 clear HP1 HS1 HB1 c5 f5
 have hRx : R < wx.heap.size := (uh HS2).lt
 have hAx : A < wx.heap.size := (uh HP2).lt
 go_wp2_with fail
 refine (props_pg R 3 st2 w0 _ (uh HS2)).mono ?_
 rintro e w3 ⟨s,x,st3,rfl,hO3,hs3,h3,hx3⟩
 have hp3 := (uh HP2).oth hx3 hA
 have c7 := hp3.props
 have f7 := hp3.props_f
 simp only [pk0] at c7
 have HP3 := zh (hp3.set_props s)
 have HS3 := zh (h3.set A 7 s.val hA hA0)
 have HB3 : Hid (B2 R A w (w3.setCell ⟨A,7,none⟩ s.val)) := ((uh HB2).trans (B2.bx hx3)).set 7 _
 have HO3 : Hid ((w3.setCell ⟨A,7,none⟩ s.val).ownsRow wx.heap.size 120 4 s.val x.length (pcs x)) := owns_b2 (R := R) (uh hO3) ((B2.refl R A w3).set 7 _) hRx hAx
 have hxw : w.heap.size <= wx.heap.size := (uh HB2).size
 have HST3 := zh hs3
 clear hp3 h3 hx3 hs3 HP2 HS2 HB2 hO3
 go_wp2_with fail
 refine (left_pg R st3 w0 _ (uh HS3)).mono ?_
 rintro e w4 ⟨v,l,rfl,hv,he1,he2,hb4⟩
 have hp4 := (uh HP3).below hb4
 have c6 := hp4.payload
 have f6 := hp4.payload_f
 simp only [pk0] at c6
 have hs4 := (uh HS3).below hb4
 have hcv := conv_byt w4 v l ((uh hv).below hs4.keep)
 have HP4 := zh (hp4.set_payload (bs l))
 have HS4 := zh (hs4.set A 6 (.string (bs l)) hA hA0)
 have HB4 : Hid (B2 R A w (w4.setCell ⟨A,6,none⟩ (.string (bs l)))) := ((uh HB3).trans (B2.bel hb4)).set 6 _
 have HO4 : Hid ((w4.setCell ⟨A,6,none⟩ (.string (bs l))).ownsRow wx.heap.size 120 4 s.val x.length (pcs x)) := owns_b2 (R := R) (uh HO3) ((B2.bel hb4).set 6 _) hRx hAx
 have HE := zh he1
 clear hp4 hs4 hb4 HP3 HS3 HB3 HO3 c7 f7 he1 he2 hv
 go_upto_region 19 with fail
 generalize w4.setCell ⟨A,6,none⟩ (.string (bs l)) = wz at HP4 HS4 HB4 HO4 |-
 clear c6 f6 hcv
 obtain ⟨ao,n,cap,e0,⟨en1,en2⟩,⟨kk,e1⟩,g1,hS5⟩ := (uh HS4).gone
 unfold maxLen at en2
 have HS5 := zh hS5
 clear hS5
 go_wp2
 go_end0
 refine ⟨rfl,_,{ pa0 3 d q r with topic := t,id := i,props := x,payload := bs l },_,(uh HP4).blk (Below.heap_setCell _ _ _ _ hA),?_,uh HS5,(uh HB4).setR 1 _,.inr ⟨⟨rfl,rfl,rfl,rfl,rfl,rfl,rfl,rfl,rfl,rfl,rfl,rfl⟩,owns_mono (owns_b2 (A := A) (uh HO4) ((B2.refl R A wz).setR 1 _) hRx hAx) hxw,wills0 _ _,row0 _ _ _ _,row0 _ _ _ _,row0 _ _ _ _,row0 _ _ _ _,row0 _ _ _ _⟩⟩
 have hall : Stp allR st3 (bs l) (st3.map fun _ => []) := by
  cases st3 with
  | none => rfl
  | some l' => obtain rfl := (uh HE) l' rfl; exact ⟨rfl,rfl⟩
 have k2 : Stp (publish? q) st (t,i,x,bs l) (st3.map fun _ => []) := by
  unfold publish?
  exact (uh HST1).bind ((uh HST2).bind ((uh HST3).bind (hall.bind (Stp.pure _ _))))
 exact Stp.bind (g := fun r' => pureR ({ pa0 3 d q r with topic := r'.1,id := r'.2.1,props := r'.2.2.1,payload := r'.2.2.2 } : Pa)) k2 (Stp.pure _ _)
theorem body_12 (R A : Nat) (d : Bool) (q : Int) (r : Bool) (st : Option (List Int)) (w0 : GW) (w : World) (h : RP w0 w R st) (hp : Pk w A (pk0 12 d q r)) (_hA : A ≠ R) (_hA0 : w0.heap.size <= A) : Calls Tryz.prog 73 #[.pointer (some ⟨R,0,none⟩),.pointer (some ⟨A,0,none⟩)] w (BodyPg w0 R A (pa0 12 d q r) st w) := by
 have hRw := h.lt
 have hAw := hp.lt
 have c0 := hp.kind
 simp only [pk0] at c0
 have HP := zh hp
 have HS := zh h
 clear hp h
 go_enter Tryz.func73,Tryz.ntmps73
 go_wp2
 go_end0
 exact ⟨rfl,_,pa0 12 d q r,st,uh HP,Stp.pure _ _,uh HS,B2.refl _ _ _,.inr ⟨⟨rfl,rfl,rfl,rfl,rfl,rfl,rfl,rfl,rfl,rfl,rfl,rfl⟩,row0 _ _ _ _,wills0 _ _,row0 _ _ _ _,row0 _ _ _ _,row0 _ _ _ _,row0 _ _ _ _,row0 _ _ _ _⟩⟩
theorem body_13 (R A : Nat) (d : Bool) (q : Int) (r : Bool) (st : Option (List Int)) (w0 : GW) (w : World) (h : RP w0 w R st) (hp : Pk w A (pk0 13 d q r)) (_hA : A ≠ R) (_hA0 : w0.heap.size <= A) : Calls Tryz.prog 73 #[.pointer (some ⟨R,0,none⟩),.pointer (some ⟨A,0,none⟩)] w (BodyPg w0 R A (pa0 13 d q r) st w) := by
 have hRw := h.lt
 have hAw := hp.lt
 have c0 := hp.kind
 simp only [pk0] at c0
 have HP := zh hp
 have HS := zh h
 clear hp h
 go_enter Tryz.func73,Tryz.ntmps73
 go_wp2
 go_end0
 exact ⟨rfl,_,pa0 13 d q r,st,uh HP,Stp.pure _ _,uh HS,B2.refl _ _ _,.inr ⟨⟨rfl,rfl,rfl,rfl,rfl,rfl,rfl,rfl,rfl,rfl,rfl,rfl⟩,row0 _ _ _ _,wills0 _ _,row0 _ _ _ _,row0 _ _ _ _,row0 _ _ _ _,row0 _ _ _ _,row0 _ _ _ _⟩⟩
theorem body_14 (R A : Nat) (d : Bool) (q : Int) (r : Bool) (st : Option (List Int)) (w0 : GW) (w : World) (h : RP w0 w R st) (hp : Pk w A (pk0 14 d q r)) (hA : A ≠ R) (hA0 : w0.heap.size <= A) : Calls Tryz.prog 73 #[.pointer (some ⟨R,0,none⟩),.pointer (some ⟨A,0,none⟩)] w (BodyPg w0 R A (pa0 14 d q r) st w) := by
 have hRw := h.lt
 have hAw := hp.lt
 have c0 := hp.kind
 simp only [pk0] at c0
 have HP := zh hp
 have HS := zh h
 clear hp h
 go_enter Tryz.func73,Tryz.ntmps73
 go_wp2_with fail
 refine (tail_pg R A _ st w0 w (uh HS) (uh HP) hA hA0 rfl rfl).mono ?_
 rintro e w1 ⟨rfl,c,t,x,st1,hp1,hO1,hs1,h1,hb1⟩
 have HP1 := zh hp1
 have HS1 := zh h1
 have HST1 := zh hs1
 have HB1 := zh hb1
 clear hp1 h1 hs1 hb1
 go_wp2
 go_end0
 exact ⟨rfl,_,{ pa0 14 d q r with code := c,props := x },st1,uh HP1,Stp.bind (g := fun (r' : Int × List Pr) => pureR ({ pa0 14 d q r with code := r'.1,props := r'.2 } : Pa)) (uh HST1) (Stp.pure _ _),uh HS1,uh HB1,.inr ⟨⟨rfl,rfl,rfl,rfl,rfl,rfl,rfl,rfl,rfl,rfl,rfl,rfl⟩,uh hO1,wills0 _ _,row0 _ _ _ _,row0 _ _ _ _,row0 _ _ _ _,row0 _ _ _ _,row0 _ _ _ _⟩⟩
theorem body_15 (R A : Nat) (d : Bool) (q : Int) (r : Bool) (st : Option (List Int)) (w0 : GW) (w : World) (h : RP w0 w R st) (hp : Pk w A (pk0 15 d q r)) (hA : A ≠ R) (hA0 : w0.heap.size <= A) : Calls Tryz.prog 73 #[.pointer (some ⟨R,0,none⟩),.pointer (some ⟨A,0,none⟩)] w (BodyPg w0 R A (pa0 15 d q r) st w) := by
 have hRw := h.lt
 have hAw := hp.lt
 have c0 := hp.kind
 simp only [pk0] at c0
 have HP := zh hp
 have HS := zh h
 clear hp h
 go_enter Tryz.func73,Tryz.ntmps73
 go_wp2_with fail
 refine (tail_pg R A _ st w0 w (uh HS) (uh HP) hA hA0 rfl rfl).mono ?_
 rintro e w1 ⟨rfl,c,t,x,st1,hp1,hO1,hs1,h1,hb1⟩
 have HP1 := zh hp1
 have HS1 := zh h1
 have HST1 := zh hs1
 have HB1 := zh hb1
 clear hp1 h1 hs1 hb1
 go_wp2
 go_end0
 exact ⟨rfl,_,{ pa0 15 d q r with code := c,props := x },st1,uh HP1,Stp.bind (g := fun (r' : Int × List Pr) => pureR ({ pa0 15 d q r with code := r'.1,props := r'.2 } : Pa)) (uh HST1) (Stp.pure _ _),uh HS1,uh HB1,.inr ⟨⟨rfl,rfl,rfl,rfl,rfl,rfl,rfl,rfl,rfl,rfl,rfl,rfl⟩,uh hO1,wills0 _ _,row0 _ _ _ _,row0 _ _ _ _,row0 _ _ _ _,row0 _ _ _ _,row0 _ _ _ _⟩⟩
theorem body_4 (R A : Nat) (d : Bool) (q : Int) (r : Bool) (st : Option (List Int)) (w0 : GW) (w : World) (h : RP w0 w R st) (hp : Pk w A (pk0 4 d q r)) (hA : A ≠ R) (hA0 : w0.heap.size <= A) : Calls Tryz.prog 73 #[.pointer (some ⟨R,0,none⟩),.pointer (some ⟨A,0,none⟩)] w (BodyPg w0 R A (pa0 4 d q r) st w) := by
 have hRw := h.lt
 have hAw := hp.lt
 have c0 := hp.kind
 simp only [pk0] at c0
 have HP := zh hp
 have HS := zh h
 clear hp h
 go_enter Tryz.func73,Tryz.ntmps73
 go_wp2_with fail
 refine (pair_pg R st w0 w (uh HS)).mono ?_
 rintro e w2 ⟨i,st2,rfl,hi,hs2,h2,hx2⟩
 have hp2 := (uh HP).oth hx2 hA
 have d5 := hp2.id
 have g5 := hp2.id_f
 simp only [pk0] at d5
 have HP2 := zh (hp2.set_id i)
 have HS2 := zh (h2.set A 5 (.int .i64 i) hA hA0)
 have HB2 : Hid (B2 R A w (w2.setCell ⟨A,5,none⟩ (.int .i64 i))) := (B2.bx hx2).set 5 _
 have HST2 := zh (stp_id hs2)
 clear hp2 h2 hx2 hs2 HP HS c0
 go_upto_region 25 with fail
 generalize w2.setCell ⟨A,5,none⟩ (.int .i64 i) = wx at HP2 HS2 HB2 |-
 clear d5 g5
 have e5 := (uh HP2).id
 simp only at e5
 by_cases hi0 : i = 0
 ·rw [if_pos hi0] at HST2
  have hib : (i == 0) = true := by simpa using hi0
  clear hi0
  obtain ⟨bb,c2,f2,_⟩ := (uh HS2).c2
  have HS3 := zh (uh HS2).bad
  have HP3 := zh ((uh HP2).blk (w' := wx.setCell ⟨R,2,none⟩ (.bool true)) (Below.heap_setCell _ _ _ _ hA))
  have HB3 : Hid (B2 R A w (wx.setCell ⟨R,2,none⟩ (.bool true))) := (uh HB2).setR 2 _
  go_wp2_with fail
  refine (tail_pg R A _ _ w0 _ (uh HS3) (uh HP3) hA hA0 rfl rfl).mono ?_
  rintro e w3 ⟨rfl,c,t,x,st3,hp3,hO3,hs3,h3,hb3⟩
  have HP4 := zh hp3
  have HS4 := zh h3
  have HST4 := zh hs3
  have HB4 : Hid (B2 R A w w3) := (uh HB3).trans hb3
  have hwx : w.heap.size <= (wx.setCell ⟨R,2,none⟩ (.bool true)).heap.size := (uh HB3).size
  clear hp3 h3 hs3 hb3
  go_wp2
  go_end0
  exact ⟨rfl,_,{ pa0 4 d q r with id := i,code := c,props := x },st3,uh HP4,Stp.bind (g := fun (i : Int) => bindR (reason? 4) fun (r' : Int × List Pr) => pureR ({ pa0 4 d q r with id := i,code := r'.1,props := r'.2 } : Pa)) (uh HST2) (Stp.bind (g := fun (r' : Int × List Pr) => pureR ({ pa0 4 d q r with id := i,code := r'.1,props := r'.2 } : Pa)) (uh HST4) (Stp.pure _ _)),uh HS4,uh HB4,.inr ⟨⟨rfl,rfl,rfl,rfl,rfl,rfl,rfl,rfl,rfl,rfl,rfl,rfl⟩,owns_mono (uh hO3) hwx,wills0 _ _,row0 _ _ _ _,row0 _ _ _ _,row0 _ _ _ _,row0 _ _ _ _,row0 _ _ _ _⟩⟩
 ·rw [if_neg hi0] at HST2
  have hib : (i == 0) = false := by simpa using hi0
  have HS3 := HS2
  have HP3 := HP2
  have HB3 := HB2
  go_wp2_with fail
  refine (tail_pg R A _ _ w0 _ (uh HS3) (uh HP3) hA hA0 rfl rfl).mono ?_
  rintro e w3 ⟨rfl,c,t,x,st3,hp3,hO3,hs3,h3,hb3⟩
  have HP4 := zh hp3
  have HS4 := zh h3
  have HST4 := zh hs3
  have HB4 : Hid (B2 R A w w3) := (uh HB3).trans hb3
  have hwx : w.heap.size <= wx.heap.size := (uh HB3).size
  clear hp3 h3 hs3 hb3
  go_wp2
  go_end0
  exact ⟨rfl,_,{ pa0 4 d q r with id := i,code := c,props := x },st3,uh HP4,Stp.bind (g := fun (i : Int) => bindR (reason? 4) fun (r' : Int × List Pr) => pureR ({ pa0 4 d q r with id := i,code := r'.1,props := r'.2 } : Pa)) (uh HST2) (Stp.bind (g := fun (r' : Int × List Pr) => pureR ({ pa0 4 d q r with id := i,code := r'.1,props := r'.2 } : Pa)) (uh HST4) (Stp.pure _ _)),uh HS4,uh HB4,.inr ⟨⟨rfl,rfl,rfl,rfl,rfl,rfl,rfl,rfl,rfl,rfl,rfl,rfl⟩,owns_mono (uh hO3) hwx,wills0 _ _,row0 _ _ _ _,row0 _ _ _ _,row0 _ _ _ _,row0 _ _ _ _,row0 _ _ _ _⟩⟩
theorem body_5 (R A : Nat) (d : Bool) (q : Int) (r : Bool) (st : Option (List Int)) (w0 : GW) (w : World) (h : RP w0 w R st) (hp : Pk w A (pk0 5 d q r)) (hA : A ≠ R) (hA0 : w0.heap.size <= A) : Calls Tryz.prog 73 #[.pointer (some ⟨R,0,none⟩),.pointer (some ⟨A,0,none⟩)] w (BodyPg w0 R A (pa0 5 d q r) st w) := by
 have hRw := h.lt
 have hAw := hp.lt
 have c0 := hp.kind
 simp only [pk0] at c0
 have HP := zh hp
 have HS := zh h
 clear hp h
 go_enter Tryz.func73,Tryz.ntmps73
 go_wp2_with fail
 refine (pair_pg R st w0 w (uh HS)).mono ?_
 rintro e w2 ⟨i,st2,rfl,hi,hs2,h2,hx2⟩
 have hp2 := (uh HP).oth hx2 hA
 have d5 := hp2.id
 have g5 := hp2.id_f
 simp only [pk0] at d5
 have HP2 := zh (hp2.set_id i)
 have HS2 := zh (h2.set A 5 (.int .i64 i) hA hA0)
 have HB2 : Hid (B2 R A w (w2.setCell ⟨A,5,none⟩ (.int .i64 i))) := (B2.bx hx2).set 5 _
 have HST2 := zh (stp_id hs2)
 clear hp2 h2 hx2 hs2 HP HS c0
 go_upto_region 25 with fail
 generalize w2.setCell ⟨A,5,none⟩ (.int .i64 i) = wx at HP2 HS2 HB2 |-
 clear d5 g5
 have e5 := (uh HP2).id
 simp only at e5
 by_cases hi0 : i = 0
 ·rw [if_pos hi0] at HST2
  have hib : (i == 0) = true := by simpa using hi0
  clear hi0
  obtain ⟨bb,c2,f2,_⟩ := (uh HS2).c2
  have HS3 := zh (uh HS2).bad
  have HP3 := zh ((uh HP2).blk (w' := wx.setCell ⟨R,2,none⟩ (.bool true)) (Below.heap_setCell _ _ _ _ hA))
  have HB3 : Hid (B2 R A w (wx.setCell ⟨R,2,none⟩ (.bool true))) := (uh HB2).setR 2 _
  go_wp2_with fail
  refine (tail_pg R A _ _ w0 _ (uh HS3) (uh HP3) hA hA0 rfl rfl).mono ?_
  rintro e w3 ⟨rfl,c,t,x,st3,hp3,hO3,hs3,h3,hb3⟩
  have HP4 := zh hp3
  have HS4 := zh h3
  have HST4 := zh hs3
  have HB4 : Hid (B2 R A w w3) := (uh HB3).trans hb3
  have hwx : w.heap.size <= (wx.setCell ⟨R,2,none⟩ (.bool true)).heap.size := (uh HB3).size
  clear hp3 h3 hs3 hb3
  go_wp2
  go_end0
  exact ⟨rfl,_,{ pa0 5 d q r with id := i,code := c,props := x },st3,uh HP4,Stp.bind (g := fun (i : Int) => bindR (reason? 5) fun (r' : Int × List Pr) => pureR ({ pa0 5 d q r with id := i,code := r'.1,props := r'.2 } : Pa)) (uh HST2) (Stp.bind (g := fun (r' : Int × List Pr) => pureR ({ pa0 5 d q r with id := i,code := r'.1,props := r'.2 } : Pa)) (uh HST4) (Stp.pure _ _)),uh HS4,uh HB4,.inr ⟨⟨rfl,rfl,rfl,rfl,rfl,rfl,rfl,rfl,rfl,rfl,rfl,rfl⟩,owns_mono (uh hO3) hwx,wills0 _ _,row0 _ _ _ _,row0 _ _ _ _,row0 _ _ _ _,row0 _ _ _ _,row0 _ _ _ _⟩⟩
 ·rw [if_neg hi0] at HST2
  have hib : (i == 0) = false := by simpa using hi0
  have HS3 := HS2
  have HP3 := HP2
  have HB3 := HB2
  go_wp2_with fail
  refine (tail_pg R A _ _ w0 _ (uh HS3) (uh HP3) hA hA0 rfl rfl).mono ?_
  rintro e w3 ⟨rfl,c,t,x,st3,hp3,hO3,hs3,h3,hb3⟩
  have HP4 := zh hp3
  have HS4 := zh h3
  have HST4 := zh hs3
  have HB4 : Hid (B2 R A w w3) := (uh HB3).trans hb3
  have hwx : w.heap.size <= wx.heap.size := (uh HB3).size
  clear hp3 h3 hs3 hb3
  go_wp2
  go_end0
  exact ⟨rfl,_,{ pa0 5 d q r with id := i,code := c,props := x },st3,uh HP4,Stp.bind (g := fun (i : Int) => bindR (reason? 5) fun (r' : Int × List Pr) => pureR ({ pa0 5 d q r with id := i,code := r'.1,props := r'.2 } : Pa)) (uh HST2) (Stp.bind (g := fun (r' : Int × List Pr) => pureR ({ pa0 5 d q r with id := i,code := r'.1,props := r'.2 } : Pa)) (uh HST4) (Stp.pure _ _)),uh HS4,uh HB4,.inr ⟨⟨rfl,rfl,rfl,rfl,rfl,rfl,rfl,rfl,rfl,rfl,rfl,rfl⟩,owns_mono (uh hO3) hwx,wills0 _ _,row0 _ _ _ _,row0 _ _ _ _,row0 _ _ _ _,row0 _ _ _ _,row0 _ _ _ _⟩⟩
theorem body_6 (R A : Nat) (d : Bool) (q : Int) (r : Bool) (st : Option (List Int)) (w0 : GW) (w : World) (h : RP w0 w R st) (hp : Pk w A (pk0 6 d q r)) (hA : A ≠ R) (hA0 : w0.heap.size <= A) : Calls Tryz.prog 73 #[.pointer (some ⟨R,0,none⟩),.pointer (some ⟨A,0,none⟩)] w (BodyPg w0 R A (pa0 6 d q r) st w) := by
 have hRw := h.lt
 have hAw := hp.lt
 have c0 := hp.kind
 simp only [pk0] at c0
 have HP := zh hp
 have HS := zh h
 clear hp h
 go_enter Tryz.func73,Tryz.ntmps73
 go_wp2_with fail
 refine (pair_pg R st w0 w (uh HS)).mono ?_
 rintro e w2 ⟨i,st2,rfl,hi,hs2,h2,hx2⟩
 have hp2 := (uh HP).oth hx2 hA
 have d5 := hp2.id
 have g5 := hp2.id_f
 simp only [pk0] at d5
 have HP2 := zh (hp2.set_id i)
 have HS2 := zh (h2.set A 5 (.int .i64 i) hA hA0)
 have HB2 : Hid (B2 R A w (w2.setCell ⟨A,5,none⟩ (.int .i64 i))) := (B2.bx hx2).set 5 _
 have HST2 := zh (stp_id hs2)
 clear hp2 h2 hx2 hs2 HP HS c0
 go_upto_region 25 with fail
 generalize w2.setCell ⟨A,5,none⟩ (.int .i64 i) = wx at HP2 HS2 HB2 |-
 clear d5 g5
 have e5 := (uh HP2).id
 simp only at e5
 by_cases hi0 : i = 0
 ·rw [if_pos hi0] at HST2
  have hib : (i == 0) = true := by simpa using hi0
  clear hi0
  obtain ⟨bb,c2,f2,_⟩ := (uh HS2).c2
  have HS3 := zh (uh HS2).bad
  have HP3 := zh ((uh HP2).blk (w' := wx.setCell ⟨R,2,none⟩ (.bool true)) (Below.heap_setCell _ _ _ _ hA))
  have HB3 : Hid (B2 R A w (wx.setCell ⟨R,2,none⟩ (.bool true))) := (uh HB2).setR 2 _
  go_wp2_with fail
  refine (tail_pg R A _ _ w0 _ (uh HS3) (uh HP3) hA hA0 rfl rfl).mono ?_
  rintro e w3 ⟨rfl,c,t,x,st3,hp3,hO3,hs3,h3,hb3⟩
  have HP4 := zh hp3
  have HS4 := zh h3
  have HST4 := zh hs3
  have HB4 : Hid (B2 R A w w3) := (uh HB3).trans hb3
  have hwx : w.heap.size <= (wx.setCell ⟨R,2,none⟩ (.bool true)).heap.size := (uh HB3).size
  clear hp3 h3 hs3 hb3
  go_wp2
  go_end0
  exact ⟨rfl,_,{ pa0 6 d q r with id := i,code := c,props := x },st3,uh HP4,Stp.bind (g := fun (i : Int) => bindR (reason? 6) fun (r' : Int × List Pr) => pureR ({ pa0 6 d q r with id := i,code := r'.1,props := r'.2 } : Pa)) (uh HST2) (Stp.bind (g := fun (r' : Int × List Pr) => pureR ({ pa0 6 d q r with id := i,code := r'.1,props := r'.2 } : Pa)) (uh HST4) (Stp.pure _ _)),uh HS4,uh HB4,.inr ⟨⟨rfl,rfl,rfl,rfl,rfl,rfl,rfl,rfl,rfl,rfl,rfl,rfl⟩,owns_mono (uh hO3) hwx,wills0 _ _,row0 _ _ _ _,row0 _ _ _ _,row0 _ _ _ _,row0 _ _ _ _,row0 _ _ _ _⟩⟩
 ·rw [if_neg hi0] at HST2
  have hib : (i == 0) = false := by simpa using hi0
  have HS3 := HS2
  have HP3 := HP2
  have HB3 := HB2
  go_wp2_with fail
  refine (tail_pg R A _ _ w0 _ (uh HS3) (uh HP3) hA hA0 rfl rfl).mono ?_
  rintro e w3 ⟨rfl,c,t,x,st3,hp3,hO3,hs3,h3,hb3⟩
  have HP4 := zh hp3
  have HS4 := zh h3
  have HST4 := zh hs3
  have HB4 : Hid (B2 R A w w3) := (uh HB3).trans hb3
  have hwx : w.heap.size <= wx.heap.size := (uh HB3).size
  clear hp3 h3 hs3 hb3
  go_wp2
  go_end0
  exact ⟨rfl,_,{ pa0 6 d q r with id := i,code := c,props := x },st3,uh HP4,Stp.bind (g := fun (i : Int) => bindR (reason? 6) fun (r' : Int × List Pr) => pureR ({ pa0 6 d q r with id := i,code := r'.1,props := r'.2 } : Pa)) (uh HST2) (Stp.bind (g := fun (r' : Int × List Pr) => pureR ({ pa0 6 d q r with id := i,code := r'.1,props := r'.2 } : Pa)) (uh HST4) (Stp.pure _ _)),uh HS4,uh HB4,.inr ⟨⟨rfl,rfl,rfl,rfl,rfl,rfl,rfl,rfl,rfl,rfl,rfl,rfl⟩,owns_mono (uh hO3) hwx,wills0 _ _,row0 _ _ _ _,row0 _ _ _ _,row0 _ _ _ _,row0 _ _ _ _,row0 _ _ _ _⟩⟩
theorem body_7 (R A : Nat) (d : Bool) (q : Int) (r : Bool) (st : Option (List Int)) (w0 : GW) (w : World) (h : RP w0 w R st) (hp : Pk w A (pk0 7 d q r)) (hA : A ≠ R) (hA0 : w0.heap.size <= A) : Calls Tryz.prog 73 #[.pointer (some ⟨R,0,none⟩),.pointer (some ⟨A,0,none⟩)] w (BodyPg w0 R A (pa0 7 d q r) st w) := by
 have hRw := h.lt
 have hAw := hp.lt
 have c0 := hp.kind
 simp only [pk0] at c0
 have HP := zh hp
 have HS := zh h
 clear hp h
 go_enter Tryz.func73,Tryz.ntmps73
 go_wp2_with fail
 refine (pair_pg R st w0 w (uh HS)).mono ?_
 rintro e w2 ⟨i,st2,rfl,hi,hs2,h2,hx2⟩
 have hp2 := (uh HP).oth hx2 hA
 have d5 := hp2.id
 have g5 := hp2.id_f
 simp only [pk0] at d5
 have HP2 := zh (hp2.set_id i)
 have HS2 := zh (h2.set A 5 (.int .i64 i) hA hA0)
 have HB2 : Hid (B2 R A w (w2.setCell ⟨A,5,none⟩ (.int .i64 i))) := (B2.bx hx2).set 5 _
 have HST2 := zh (stp_id hs2)
 clear hp2 h2 hx2 hs2 HP HS c0
 go_upto_region 25 with fail
 generalize w2.setCell ⟨A,5,none⟩ (.int .i64 i) = wx at HP2 HS2 HB2 |-
 clear d5 g5
 have e5 := (uh HP2).id
 simp only at e5
 by_cases hi0 : i = 0
 ·rw [if_pos hi0] at HST2
  have hib : (i == 0) = true := by simpa using hi0
  clear hi0
  obtain ⟨bb,c2,f2,_⟩ := (uh HS2).c2
  have HS3 := zh (uh HS2).bad
  have HP3 := zh ((uh HP2).blk (w' := wx.setCell ⟨R,2,none⟩ (.bool true)) (Below.heap_setCell _ _ _ _ hA))
  have HB3 : Hid (B2 R A w (wx.setCell ⟨R,2,none⟩ (.bool true))) := (uh HB2).setR 2 _
  go_wp2_with fail
  refine (tail_pg R A _ _ w0 _ (uh HS3) (uh HP3) hA hA0 rfl rfl).mono ?_
  rintro e w3 ⟨rfl,c,t,x,st3,hp3,hO3,hs3,h3,hb3⟩
  have HP4 := zh hp3
  have HS4 := zh h3
  have HST4 := zh hs3
  have HB4 : Hid (B2 R A w w3) := (uh HB3).trans hb3
  have hwx : w.heap.size <= (wx.setCell ⟨R,2,none⟩ (.bool true)).heap.size := (uh HB3).size
  clear hp3 h3 hs3 hb3
  go_wp2
  go_end0
  exact ⟨rfl,_,{ pa0 7 d q r with id := i,code := c,props := x },st3,uh HP4,Stp.bind (g := fun (i : Int) => bindR (reason? 7) fun (r' : Int × List Pr) => pureR ({ pa0 7 d q r with id := i,code := r'.1,props := r'.2 } : Pa)) (uh HST2) (Stp.bind (g := fun (r' : Int × List Pr) => pureR ({ pa0 7 d q r with id := i,code := r'.1,props := r'.2 } : Pa)) (uh HST4) (Stp.pure _ _)),uh HS4,uh HB4,.inr ⟨⟨rfl,rfl,rfl,rfl,rfl,rfl,rfl,rfl,rfl,rfl,rfl,rfl⟩,owns_mono (uh hO3) hwx,wills0 _ _,row0 _ _ _ _,row0 _ _ _ _,row0 _ _ _ _,row0 _ _ _ _,row0 _ _ _ _⟩⟩
 ·rw [if_neg hi0] at HST2
  have hib : (i == 0) = false := by simpa using hi0
  have HS3 := HS2
  have HP3 := HP2
  have HB3 := HB2
  go_wp2_with fail
  refine (tail_pg R A _ _ w0 _ (uh HS3) (uh HP3) hA hA0 rfl rfl).mono ?_
  rintro e w3 ⟨rfl,c,t,x,st3,hp3,hO3,hs3,h3,hb3⟩
  have HP4 := zh hp3
  have HS4 := zh h3
  have HST4 := zh hs3
  have HB4 : Hid (B2 R A w w3) := (uh HB3).trans hb3
  have hwx : w.heap.size <= wx.heap.size := (uh HB3).size
  clear hp3 h3 hs3 hb3
  go_wp2
  go_end0
  exact ⟨rfl,_,{ pa0 7 d q r with id := i,code := c,props := x },st3,uh HP4,Stp.bind (g := fun (i : Int) => bindR (reason? 7) fun (r' : Int × List Pr) => pureR ({ pa0 7 d q r with id := i,code := r'.1,props := r'.2 } : Pa)) (uh HST2) (Stp.bind (g := fun (r' : Int × List Pr) => pureR ({ pa0 7 d q r with id := i,code := r'.1,props := r'.2 } : Pa)) (uh HST4) (Stp.pure _ _)),uh HS4,uh HB4,.inr ⟨⟨rfl,rfl,rfl,rfl,rfl,rfl,rfl,rfl,rfl,rfl,rfl,rfl⟩,owns_mono (uh hO3) hwx,wills0 _ _,row0 _ _ _ _,row0 _ _ _ _,row0 _ _ _ _,row0 _ _ _ _,row0 _ _ _ _⟩⟩
theorem body_8 (R A : Nat) (d : Bool) (q : Int) (r : Bool) (st : Option (List Int)) (w0 : GW) (w : World) (h : RP w0 w R st) (hp : Pk w A (pk0 8 d q r)) (hA : A ≠ R) (hA0 : w0.heap.size <= A) (hl : ∀ l,st = some l -> l.length <= 65536) : Calls Tryz.prog 73 #[.pointer (some ⟨R,0,none⟩),.pointer (some ⟨A,0,none⟩)] w (BodyPg w0 R A (pa0 8 d q r) st w) := by
 have hRw := h.lt
 have hAw := hp.lt
 have c0 := hp.kind
 simp only [pk0] at c0
 have HP := zh hp
 have HS := zh h
 clear hp h
 go_enter Tryz.func73,Tryz.ntmps73
 go_wp2_with fail
 refine (lists_subs R A _ st w0 w (uh HS) (uh HP) hA hA0 rfl hl rfl).mono ?_
 rintro e w1 ⟨rfl,i,s,x,t,dd,st1,hp1,hO1,hO2,hs1,h1,hb1⟩
 have HP1 := zh hp1
 have HS1 := zh h1
 have HST1 := zh hs1
 have HB1 := zh hb1
 clear hp1 h1 hs1 hb1
 go_wp2
 go_end0
 have k1 : Stp (body? (pa0 8 d q r)) st { pa0 8 d q r with id := i,props := x,subs := dd } st1 := Stp.congr (pglist_eq 8 sub? fun i x dd => ({ pa0 8 d q r with id := i,props := x,subs := dd } : Pa)) (Stp.bind (g := fun (r' : Int × List Pr × List Sb) => pureR ({ pa0 8 d q r with id := r'.1,props := r'.2.1,subs := r'.2.2 } : Pa)) (uh HST1) (Stp.pure _ _))
 exact ⟨rfl,_,_,st1,uh HP1,k1,uh HS1,uh HB1,.inr ⟨⟨rfl,rfl,rfl,rfl,rfl,rfl,rfl,rfl,rfl,rfl,rfl,rfl⟩,uh hO1,wills0 _ _,row0 _ _ _ _,row0 _ _ _ _,uh hO2,row0 _ _ _ _,row0 _ _ _ _⟩⟩
theorem body_10 (R A : Nat) (d : Bool) (q : Int) (r : Bool) (st : Option (List Int)) (w0 : GW) (w : World) (h : RP w0 w R st) (hp : Pk w A (pk0 10 d q r)) (hA : A ≠ R) (hA0 : w0.heap.size <= A) (hl : ∀ l,st = some l -> l.length <= 65536) : Calls Tryz.prog 73 #[.pointer (some ⟨R,0,none⟩),.pointer (some ⟨A,0,none⟩)] w (BodyPg w0 R A (pa0 10 d q r) st w) := by
 have hRw := h.lt
 have hAw := hp.lt
 have c0 := hp.kind
 simp only [pk0] at c0
 have HP := zh hp
 have HS := zh h
 clear hp h
 go_enter Tryz.func73,Tryz.ntmps73
 go_wp2_with fail
 refine (lists_filters R A _ st w0 w (uh HS) (uh HP) hA hA0 rfl hl rfl).mono ?_
 rintro e w1 ⟨rfl,i,s,x,t,dd,st1,hp1,hO1,hO2,hs1,h1,hb1⟩
 have HP1 := zh hp1
 have HS1 := zh h1
 have HST1 := zh hs1
 have HB1 := zh hb1
 clear hp1 h1 hs1 hb1
 go_wp2
 go_end0
 have k1 : Stp (body? (pa0 10 d q r)) st { pa0 10 d q r with id := i,props := x,filters := dd } st1 := Stp.congr (pglist_eq 10 text? fun i x dd => ({ pa0 10 d q r with id := i,props := x,filters := dd } : Pa)) (Stp.bind (g := fun (r' : Int × List Pr × List ByteArray) => pureR ({ pa0 10 d q r with id := r'.1,props := r'.2.1,filters := r'.2.2 } : Pa)) (uh HST1) (Stp.pure _ _))
 exact ⟨rfl,_,_,st1,uh HP1,k1,uh HS1,uh HB1,.inr ⟨⟨rfl,rfl,rfl,rfl,rfl,rfl,rfl,rfl,rfl,rfl,rfl,rfl⟩,uh hO1,wills0 _ _,row0 _ _ _ _,row0 _ _ _ _,row0 _ _ _ _,uh hO2,row0 _ _ _ _⟩⟩
theorem body_9 (R A : Nat) (d : Bool) (q : Int) (r : Bool) (st : Option (List Int)) (w0 : GW) (w : World) (h : RP w0 w R st) (hp : Pk w A (pk0 9 d q r)) (hA : A ≠ R) (hA0 : w0.heap.size <= A) (hl : ∀ l,st = some l -> l.length <= 65536) : Calls Tryz.prog 73 #[.pointer (some ⟨R,0,none⟩),.pointer (some ⟨A,0,none⟩)] w (BodyPg w0 R A (pa0 9 d q r) st w) := by
 have hRw := h.lt
 have hAw := hp.lt
 have c0 := hp.kind
 simp only [pk0] at c0
 have HP := zh hp
 have HS := zh h
 clear hp h
 go_enter Tryz.func73,Tryz.ntmps73
 go_wp2_with fail
 refine (lists_codes R A _ st w0 w (uh HS) (uh HP) hA hA0 rfl hl (by show (9 : Int) ≠ 8; decide) (by show (9 : Int) ≠ 10; decide)).mono ?_
 rintro e w1 ⟨rfl,i,s,x,t,dd,st1,hp1,hO1,hO2,hs1,h1,hb1⟩
 have HP1 := zh hp1
 have HS1 := zh h1
 have HST1 := zh hs1
 have HB1 := zh hb1
 clear hp1 h1 hs1 hb1
 go_wp2
 go_end0
 have k1 : Stp (body? (pa0 9 d q r)) st { pa0 9 d q r with id := i,props := x,codes := dd } st1 := Stp.congr (pglist_eq 9 one? fun i x dd => ({ pa0 9 d q r with id := i,props := x,codes := dd } : Pa)) (Stp.bind (g := fun (r' : Int × List Pr × List Int) => pureR ({ pa0 9 d q r with id := r'.1,props := r'.2.1,codes := r'.2.2 } : Pa)) (uh HST1) (Stp.pure _ _))
 exact ⟨rfl,_,_,st1,uh HP1,k1,uh HS1,uh HB1,.inr ⟨⟨rfl,rfl,rfl,rfl,rfl,rfl,rfl,rfl,rfl,rfl,rfl,rfl⟩,uh hO1,wills0 _ _,row0 _ _ _ _,row0 _ _ _ _,row0 _ _ _ _,row0 _ _ _ _,uh hO2⟩⟩
theorem body_11 (R A : Nat) (d : Bool) (q : Int) (r : Bool) (st : Option (List Int)) (w0 : GW) (w : World) (h : RP w0 w R st) (hp : Pk w A (pk0 11 d q r)) (hA : A ≠ R) (hA0 : w0.heap.size <= A) (hl : ∀ l,st = some l -> l.length <= 65536) : Calls Tryz.prog 73 #[.pointer (some ⟨R,0,none⟩),.pointer (some ⟨A,0,none⟩)] w (BodyPg w0 R A (pa0 11 d q r) st w) := by
 have hRw := h.lt
 have hAw := hp.lt
 have c0 := hp.kind
 simp only [pk0] at c0
 have HP := zh hp
 have HS := zh h
 clear hp h
 go_enter Tryz.func73,Tryz.ntmps73
 go_wp2_with fail
 refine (lists_codes R A _ st w0 w (uh HS) (uh HP) hA hA0 rfl hl (by show (11 : Int) ≠ 8; decide) (by show (11 : Int) ≠ 10; decide)).mono ?_
 rintro e w1 ⟨rfl,i,s,x,t,dd,st1,hp1,hO1,hO2,hs1,h1,hb1⟩
 have HP1 := zh hp1
 have HS1 := zh h1
 have HST1 := zh hs1
 have HB1 := zh hb1
 clear hp1 h1 hs1 hb1
 go_wp2
 go_end0
 have k1 : Stp (body? (pa0 11 d q r)) st { pa0 11 d q r with id := i,props := x,codes := dd } st1 := Stp.congr (pglist_eq 11 one? fun i x dd => ({ pa0 11 d q r with id := i,props := x,codes := dd } : Pa)) (Stp.bind (g := fun (r' : Int × List Pr × List Int) => pureR ({ pa0 11 d q r with id := r'.1,props := r'.2.1,codes := r'.2.2 } : Pa)) (uh HST1) (Stp.pure _ _))
 exact ⟨rfl,_,_,st1,uh HP1,k1,uh HS1,uh HB1,.inr ⟨⟨rfl,rfl,rfl,rfl,rfl,rfl,rfl,rfl,rfl,rfl,rfl,rfl⟩,uh hO1,wills0 _ _,row0 _ _ _ _,row0 _ _ _ _,row0 _ _ _ _,row0 _ _ _ _,uh hO2⟩⟩
theorem body_pg (R A : Nat) (k : Int) (d : Bool) (q : Int) (r : Bool) (st : Option (List Int)) (w0 : GW) (w : World) (h : RP w0 w R st) (hp : Pk w A (pk0 k d q r)) (hA : A ≠ R) (hA0 : w0.heap.size <= A) (hk : 1 <= k /\ k <= 15) (hq : k = 3 -> 0 <= q /\ q <= 2) (hl : ∀ l,st = some l -> l.length <= 65536) : Calls Tryz.prog 73 #[.pointer (some ⟨R,0,none⟩),.pointer (some ⟨A,0,none⟩)] w (BodyPg w0 R A (pa0 k d q r) st w) := by
 have hc : k = 1 \/ k = 2 \/ k = 3 \/ k = 4 \/ k = 5 \/ k = 6 \/ k = 7 \/ k = 8 \/ k = 9 \/ k = 10 \/ k = 11 \/ k = 12 \/ k = 13 \/ k = 14 \/ k = 15 := by omega
 rcases hc with rfl | rfl | rfl | rfl | rfl | rfl | rfl | rfl | rfl | rfl | rfl | rfl | rfl | rfl | rfl
 ·exact body_1 R A d q r st w0 w h hp hA hA0
 ·exact body_2 R A d q r st w0 w h hp hA hA0
 ·exact body_3 R A d q r st w0 w h hp hA hA0 (hq rfl)
 ·exact body_4 R A d q r st w0 w h hp hA hA0
 ·exact body_5 R A d q r st w0 w h hp hA hA0
 ·exact body_6 R A d q r st w0 w h hp hA hA0
 ·exact body_7 R A d q r st w0 w h hp hA hA0
 ·exact body_8 R A d q r st w0 w h hp hA hA0 hl
 ·exact body_9 R A d q r st w0 w h hp hA hA0 hl
 ·exact body_10 R A d q r st w0 w h hp hA hA0 hl
 ·exact body_11 R A d q r st w0 w h hp hA hA0 hl
 ·exact body_12 R A d q r st w0 w h hp hA hA0
 ·exact body_13 R A d q r st w0 w h hp hA hA0
 ·exact body_14 R A d q r st w0 w h hp hA hA0
 ·exact body_15 R A d q r st w0 w h hp hA hA0
theorem body_b (R A : Nat) (b : Int) (h0 : 0 <= b) (h1 : b <= 255) (hb : bok b = true) (st : Option (List Int)) (w0 : GW) (w : World) (h : RP w0 w R st) (hp : Pk w A (bpk b)) (hA : A ≠ R) (hA0 : w0.heap.size <= A) (hl : ∀ l,st = some l -> l.length <= 65536) : Calls Tryz.prog 73 #[.pointer (some ⟨R,0,none⟩),.pointer (some ⟨A,0,none⟩)] w (BodyPg w0 R A (bpa b) st w) := by
 have hk := bok_kind b h0 h1 hb
 unfold bpk at hp
 unfold bpa
 by_cases h3 : b / 16 = 3
 ·rw [if_pos h3] at hp |-
  have hq : b / 2 % 4 <= 2 := byte_cases (P := fun b => b / 16 = 3 -> bok b = true -> b / 2 % 4 <= 2) (by decide +kernel) b h0 h1 h3 hb
  exact body_pg R A 3 _ _ _ st w0 w h hp hA hA0 (by omega) (fun _ => by omega) hl
 ·rw [if_neg h3] at hp |-
  exact body_pg R A (b / 16) _ _ _ st w0 w h hp hA hA0 hk (fun e => absurd e h3) hl
def pnum (lim : Int) (l : List Int) : Int := if hnum lim l ≠ 0 then hnum lim l else if l.length < 1 + ghd (l.drop 1) + (gid (l.drop 1)).toNat then 3 else if (dbody l).isSome then 0 else 1
def PDecPost (lim : Int) (l : List Int) (w : World) (e : Ending) (w' : World) : Prop :=
 ∃ (q : Pkv) (n : Nat),e = .returned (.tuple #[q.val,.int .i64 n,.int .i64 (pnum lim l)]) /\
  ((pnum lim l ≠ 0 /\ q = pkz /\ n = 0) \/ (pnum lim l = 0 /\ n = (meas l).2.1 /\ ∃ P r,dbody l = some (P,r) /\ Hid (Mean w' w.heap.size q P))) /\ Below w.heap.size w w'
theorem hnum_zero {lim : Int} {l : List Int} (h : hnum lim l = 0) : l ≠ [] /\ bok (l.getD 0 0) = true /\ (V.vget (l.drop 1)).2.2 = 0 /\ ((1 + ghd (l.drop 1) + (gid (l.drop 1)).toNat : Nat) : Int) <= lim := by
 unfold hnum at h
 by_cases h1 : l = []
 ·rw [if_pos h1] at h; cases h
 ·rw [if_neg h1] at h
  cases h2 : bok (l.getD 0 0)
  ·rw [if_pos h2] at h; cases h
  ·rw [if_neg (by rw [h2]; decide)] at h
   by_cases h3 : (V.vget (l.drop 1)).2.2 = 0
   ·rw [if_neg (by rw [h3]; decide)] at h
    by_cases h4 : lim < ((1 + ghd (l.drop 1) + (gid (l.drop 1)).toNat : Nat) : Int)
    ·rw [if_pos h4] at h; cases h
    ·exact ⟨h1,rfl,h3,by omega⟩
   ·rw [if_pos h3] at h; exact absurd h h3
theorem pdec_bad (lim : Int) (l : List Int) (w w' : World) (m : Int) (hm : pnum lim l = m) (h0 : m ≠ 0) (hb : Below w.heap.size w w') : PDecPost lim l w (.returned (.tuple #[pkz.val,.int .i64 0,.int .i64 m])) w' :=
 ⟨pkz,0,by rw [hm]; rfl,.inl ⟨by rw [hm]; exact h0,rfl,rfl⟩,hb⟩
theorem rp_new (w0 : GW) (w : World) (ao : Option Addr) (n cap : Nat) (L : List Int) (h : Byt w0 (.slice ao n cap) L) (hn : n <= 140737488355328) (hN : n = w0.N) (hw : Below w0.heap.size w0 w) : RP w0 (w.alloc (.cells #[.slice ao n cap,.int .i64 0,.bool false] 106)) w.heap.size (some L) :=
 ⟨ao,n,cap,0,false,L,⟨by simp,⟨by simp,by simp⟩,by simp,by simp⟩,h,Nat.zero_le _,⟨hn,hN⟩,hw.alloc hw.size _,hw.size,by simp⟩
theorem pdec_some (bl off cap : Nat) (l : List Int) (lim : Int) (w : World) (h : Byt w (.slice (some ⟨bl,off,none⟩) l.length cap) l) (hlim : lim <= 65536) : Calls Tryz.prog 34 #[.slice (some ⟨bl,off,none⟩) l.length cap,.int .i64 lim] w (PDecPost lim l w) := by
 have HPN := zh (pk_new w pkz)
 have HBN : Hid (Below w.heap.size w (w.alloc (.cells pkz.cells.toArray 30))) := bal _ _
 obtain ⟨hc1,hc2⟩ : l.length <= cap /\ cap <= maxLen := (byt_len h).2
 unfold maxLen at hc2
 have HH := zh h
 have HRG := zh h.range
 have HPD := zh (pdec_bad lim l w)
 have HPU : Hid (pnum lim l = if hnum lim l ≠ 0 then hnum lim l else if l.length < 1 + ghd (l.drop 1) + (gid (l.drop 1)).toNat then 3 else if (dbody l).isSome then 0 else 1) := rfl
 have HHN := zh (head_pg (.slice (some ⟨bl,off,none⟩) l.length cap) l lim)
 generalize hn : l.length = n at hc1 HH HPU HHN
 have HN := zh hn
 clear h hn
 go_enter Tryz.func34,Tryz.ntmps34
 go_upto_region 1 with fail
 change Code.wp _ _ _ _ (w.alloc (.cells pkz.cells.toArray 30))
 generalize w.alloc (.cells pkz.cells.toArray 30) = w1 at HPN HBN |-
 have HG := zh ((uh HHN) w1 ((uh HH).below (uh HBN)))
 have hlt1 := (uh HPN).lt
 clear HHN
 go_wp2_with fail
 refine (uh HG).mono ?_
 rintro e w2 ⟨q,a,m,rfl,hq,hb2⟩
 have HP2 := zh ((uh HPN).below hb2)
 have HB2 : Hid (Below w.heap.size w w2) := (uh HBN).trans (hb2.mono (uh HBN).size)
 have hlt2 : w.heap.size < w2.heap.size := Nat.lt_of_lt_of_le hlt1 hb2.size
 have HQ := zh hq
 clear HPN HBN HG hb2 hq
 dsimp only
 iterate 16 go_step
 refine wpList_value rfl (packet_alloc _ _ _ _ _ _) ?_
 simp only [Act.put,List.setIfInBounds_toArray,List.set_cons_zero,List.set_cons_succ]
 refine wpList_skip rfl (packet_store _ _ _ _ _ _ _ q _ rfl rfl) ?_
 simp only [Act.put]
 have HPA := zh (pk_new w2 q)
 have HP4 := zh ((uh HP2).below (al (.cells q.cells.toArray 30)))
 have HB3 : Hid (Below w.heap.size w (w2.alloc (.cells q.cells.toArray 30))) := (uh HB2).alloc (Nat.le_of_lt hlt2) _
 obtain ⟨A,hA⟩ : ∃ A,A = w2.heap.size := ⟨_,rfl⟩
 rw [<- hA] at HPA hlt2 |-
 have hA3 : A < (w2.alloc (.cells q.cells.toArray 30)).heap.size := by rw [hA]; simp
 generalize w2.alloc (.cells q.cells.toArray 30) = w3 at HPA HP4 HB3 hA3 |-
 clear HP2 HB2 hA
 generalize hh : hnum lim l = hm at HQ HPU |-
 have HH0 : hm = 0 -> hnum lim l = 0 := fun e => hh.trans e
 clear hh
 by_cases h0 : hm = 0
 ·subst h0
  obtain ⟨rfl,ha,hmm⟩ := (uh HQ) rfl
  rw [if_neg (by decide),<- ha,<- hmm] at HPU
  obtain ⟨hl0,hok,hvz,hle⟩ := hnum_zero (HH0 rfl)
  rw [<- ha,<- hmm] at hle
  have hle2 : a + m <= 65536 := by omega
  have HB0 : Hid (0 <= l.getD 0 0 /\ l.getD 0 0 <= 255) := (uh HRG) 0
  have HOK := zh hok
  have HMS : Hid (a + m <= n -> meas l = (a,a + m,0)) := fun k => by
   unfold meas
   rw [if_neg (by rw [hvz]; decide),<- ha,<- hmm,if_neg (by omega),if_neg (by rw [uh HN]; omega)]
  clear hl0 hok hvz hle HQ HH0
  have HA := zh ha
  clear ha hmm HRG
  by_cases hsh : n < a + m
  ·rw [if_pos hsh] at HPU
   go_upto_region 5 with fail
   iterate 4 go_step
   refine wpList_store_mid rfl 30 _ _ rfl w.heap.size 0 pkz.cells.toArray rfl rfl ((uh HP4).there _) packet_size (Pkv.ones' _) ?_
   simp only [Act.put]
   have HPS := zh ((uh HP4).stored pkz)
   have HBS : Hid (Below w.heap.size w (w3.setCells w.heap.size 0 pkz.cells)) := setCells_below (uh HB3) (Nat.le_refl _)
   generalize w3.setCells w.heap.size 0 pkz.cells = wS at HPS HBS |-
   go_wp2
   refine bodyPost_ret (res_pk3 (B := w.heap.size) (q := pkz) rfl rfl (uh HPS)) rfl ?_
   exact (uh HPD) _ 3 (uh HPU) (by decide) (uh HBS)
  rw [if_neg hsh] at HPU
  have HM2 := zh ((uh HMS) (by omega))
  have HMID := zh ((uh HH).mid a m (by omega))
  clear HMS
  have hDB : dbody l = packet? (bpa (l.getD 0 0)) ((l.drop a).take m) := by
   unfold dbody
   rw [uh HM2]
   show packet? _ ((l.drop a).take (a + m - a)) = _
   rw [Nat.add_sub_cancel_left]
  have HLL : Hid (((l.drop a).take m).length = m) := by
   show _ = _
   rw [List.length_take,List.length_drop,uh HN]
   omega
  have HDB := zh hDB
  clear hDB
  generalize (l.drop a).take m = L at HMID HDB HLL
  have HBD := zh (body_b (b := l.getD 0 0) (h0 := (uh HB0).1) (h1 := (uh HB0).2) (hb := uh HOK) (w0 := ⟨w,m⟩) (A := A) (st := some L))
  have hA0 : w.heap.size <= A := Nat.le_of_lt hlt2
  go_upto_region 6 with fail
  go_cut [11] from 12 (fun s11 wx => ∃ R : Nat,s11 = .pointer (some ⟨R,0,none⟩) /\ A < R /\ Hid (RP ⟨w,m⟩ wx R (some L)) /\ Hid (Pk wx A (bpk (l.getD 0 0))) /\ Hid (Pk wx w.heap.size pkz) /\ Hid (Below w.heap.size w wx))
  case first =>
   by_cases hcap : cap = a
   ·have HT : Hid (Byt w (.slice (some ⟨bl,off,none⟩) 0 0) L) := by
     show Byt _ _ _
     have k := uh HMID
     rw [if_pos hcap,show m = 0 by omega,show cap - a = 0 by omega] at k
     exact k
    clear HMID
    obtain rfl : m = 0 := by omega
    obtain rfl : a = n := by omega
    subst hcap
    go_wp2
    go_meet
    case rel => exact ⟨w3.heap.size,rfl,hA3,rp_new ⟨w,_⟩ w3 _ _ _ L (uh HT) (by omega) rfl (uh HB3),(uh HPA).below (al _),(uh HP4).below (al _),(uh HB3).alloc (uh HB3).size _⟩
   ·have HT : Hid (Byt w (.slice (some ⟨bl,off + a,none⟩) m (cap - a)) L) := by
     show Byt _ _ _
     have k := uh HMID
     rw [if_neg hcap] at k
     exact k
    clear HMID
    go_wp2
    go_meet
    case rel => exact ⟨w3.heap.size,rfl,hA3,rp_new ⟨w,_⟩ w3 _ _ _ L (uh HT) (by omega) rfl (uh HB3),(uh HPA).below (al _),(uh HP4).below (al _),(uh HB3).alloc (uh HB3).size _⟩
  case rest =>
  obtain ⟨R,rfl,hAR,HR,HPA',HP4',HB3'⟩ := hcut
  obtain ⟨wx,hwx⟩ : ∃ wx,wx = wc := ⟨_,rfl⟩
  subst hwx
  clear HPA HP4 HB3 HMID hA3
  have hRx : R < wx.heap.size := (uh HR).lt
  have HG := zh ((uh HBD) R wx (uh HR) (uh HPA') (by omega) hA0 (fun l' e => by cases e; rw [uh HLL]; omega))
  clear HBD
  go_wp2_with fail
  refine (uh HG).mono ?_
  rintro e wy ⟨rfl,p',P',st',hp,hst,hrp,hb2,hmean⟩
  have h4y : Pk wy w.heap.size pkz := (uh HP4').blk (hb2.block w.heap.size (uh HP4').lt (by omega) (by omega))
  have hby : Below w.heap.size w wy := hb2.keep (uh HB3') (by omega) hA0
  have HP4 := zh h4y
  have HB3 := zh hby
  have HPA := zh hp
  have HST := zh hst
  have HME := zh hmean
  have hsx : w.heap.size <= wx.heap.size := (uh HB3').size
  clear h4y hby hp hst hmean HG HPA' HP4' HB3' hb2
  obtain ⟨ao,n',cap',k',bad,L',hc,hy',hk',⟨hn',hN'⟩,hw',hR',hst'⟩ := hrp
  have hN2 : n' = m := uh hN'
  subst hN2
  have hL' := (byt_len hy').1
  obtain ⟨c0,⟨c1,f1⟩,c2,f2⟩ := hc
  have hrest : Stp (packet? (bpa (l.getD 0 0))) (some L) P' (if st' = some [] then some [] else none) := by
   unfold packet?
   refine (uh HST).bind ((?_ : Stp endR st' () (if st' = some [] then some [] else none)).bind (Stp.pure _ _))
   cases st' with
   | none => rfl
   | some l' => cases l' with
    | nil => exact ⟨rfl,rfl⟩
    | cons x t => rfl
  have HKN : Hid ((st' = some []) ↔ (bad = false /\ k' = n')) := by
   show _ ↔ _
   rw [hst']
   cases bad
   ·constructor
    ·intro e
     refine ⟨rfl,?_⟩
     have := congrArg List.length (Option.some.inj e)
     rw [List.length_drop,hL'] at this
     simp at this
     omega
    ·rintro ⟨_,rfl⟩
     show some (L'.drop k') = some []
     rw [List.drop_of_length_le (by omega)]
   ·constructor
    ·intro e; cases e
    ·rintro ⟨e,_⟩; cases e
  have HE := zh hrest
  have HBAD : Hid (¬ (bad = false /\ k' = n') -> pnum lim l = 1) := fun hne => by
   have k := uh HE
   rw [if_neg (fun e => hne ((uh HKN).1 e))] at k
   rw [uh HPU,uh HDB,stp_none k]
   rfl
  clear hN' hL' hy' hw' hR' hst' hrest hn'
  cases bad
  ·by_cases hkn : k' = n'
   ·have e1 : st' = some [] := (uh HKN).2 ⟨rfl,hkn⟩
    have k := uh HE
    rw [if_pos e1] at k
    have hdb : dbody l = some (P',[]) := (uh HDB).trans (stp_some k)
    have HME2 : Hid (Mean wy wx.heap.size p' P') := by
     rcases uh HME with h | h
     ·rw [e1] at h; cases h
     ·exact h
    have HDB2 := zh hdb
    have HPU0 : Hid (pnum lim l = 0) := by
     show _ = _
     rw [uh HPU,hdb]
     rfl
    have hkb : ((k' : Int) != (n' : Int)) = false := by simp [hkn]
    clear e1 k hdb HKN HE HBAD hkn HPU HME
    go_upto_region 10 with fail
    go_step
    refine wpList_load_mid rfl 30 _ rfl A 0 rfl p'.cells _ (uh HPA).range Tryz.underlying30 rfl packet_size ?_
    simp only [Act.put,List.setIfInBounds_toArray,List.set_cons_zero,List.set_cons_succ]
    iterate 9 go_step
    refine wpList_store_mid rfl 30 _ _ rfl w.heap.size 0 p'.cells.toArray rfl rfl ((uh HP4).there _) packet_size (Pkv.ones' _) ?_
    simp only [Act.put]
    have HPS := zh ((uh HP4).stored p')
    have HBS : Hid (Below w.heap.size w (wy.setCells w.heap.size 0 p'.cells)) := setCells_below (uh HB3) (Nat.le_refl _)
    have HMS : Hid (Mean (wy.setCells w.heap.size 0 p'.cells) w.heap.size p' P') := ((uh HME2).cells (by omega)).base hsx
    generalize wy.setCells w.heap.size 0 p'.cells = wS at HPS HBS HMS |-
    go_wp2
    refine bodyPost_ret (res_pk3 (B := w.heap.size) (q := p') rfl rfl (uh HPS)) rfl ?_
    exact ⟨p',a + n',by rw [uh HPU0]; exact (by go_num),.inr ⟨uh HPU0,by rw [uh HM2],P',[],uh HDB2,HMS⟩,uh HBS⟩
   ·have hp1 := (uh HBAD) (fun e => hkn e.2)
    have HP1 := zh hp1
    have hkb : ((k' : Int) != (n' : Int)) = true := by simp; omega
    clear hp1 HKN HE HBAD HPU HME
    go_upto_region 9 with fail
    iterate 4 go_step
    refine wpList_store_mid rfl 30 _ _ rfl w.heap.size 0 pkz.cells.toArray rfl rfl ((uh HP4).there _) packet_size (Pkv.ones' _) ?_
    simp only [Act.put]
    have HPS := zh ((uh HP4).stored pkz)
    have HBS : Hid (Below w.heap.size w (wy.setCells w.heap.size 0 pkz.cells)) := setCells_below (uh HB3) (Nat.le_refl _)
    generalize wy.setCells w.heap.size 0 pkz.cells = wS at HPS HBS |-
    go_wp2
    refine bodyPost_ret (res_pk3 (B := w.heap.size) (q := pkz) rfl rfl (uh HPS)) rfl ?_
    exact (uh HPD) _ 1 (uh HP1) (by decide) (uh HBS)
  ·have hp1 := (uh HBAD) (fun e => by cases e.1)
   have HP1 := zh hp1
   clear hp1 HKN HE HBAD HPU HME
   go_upto_region 9 with fail
   iterate 4 go_step
   refine wpList_store_mid rfl 30 _ _ rfl w.heap.size 0 pkz.cells.toArray rfl rfl ((uh HP4).there _) packet_size (Pkv.ones' _) ?_
   simp only [Act.put]
   have HPS := zh ((uh HP4).stored pkz)
   have HBS : Hid (Below w.heap.size w (wy.setCells w.heap.size 0 pkz.cells)) := setCells_below (uh HB3) (Nat.le_refl _)
   generalize wy.setCells w.heap.size 0 pkz.cells = wS at HPS HBS |-
   go_wp2
   refine bodyPost_ret (res_pk3 (B := w.heap.size) (q := pkz) rfl rfl (uh HPS)) rfl ?_
   exact (uh HPD) _ 1 (uh HP1) (by decide) (uh HBS)
 ·clear HH0
  rw [if_pos h0] at HPU
  have h1 : (hm != 0) = true := by simpa using h0
  go_upto_region 3 with fail
  iterate 7 go_step
  refine wpList_store_mid rfl 30 _ _ rfl w.heap.size 0 pkz.cells.toArray rfl rfl ((uh HP4).there _) packet_size (Pkv.ones' _) ?_
  simp only [Act.put]
  have HPS := zh ((uh HP4).stored pkz)
  have HBS : Hid (Below w.heap.size w (w3.setCells w.heap.size 0 pkz.cells)) := setCells_below (uh HB3) (Nat.le_refl _)
  generalize w3.setCells w.heap.size 0 pkz.cells = wS at HPS HBS |-
  go_wp2
  refine bodyPost_ret (res_pk3 (B := w.heap.size) (q := pkz) rfl rfl (uh HPS)) rfl ?_
  exact (uh HPD) _ hm (uh HPU) h0 (uh HBS)
theorem pdec_nil (ao : Option Addr) (cap : Nat) (lim : Int) (w : World) : Calls Tryz.prog 34 #[.slice ao 0 cap,.int .i64 lim] w (PDecPost lim [] w) := by
 have HPN := zh (pk_new w pkz)
 have HBN : Hid (Below w.heap.size w (w.alloc (.cells pkz.cells.toArray 30))) := bal _ _
 have HPD := zh (pdec_bad lim [] w)
 have hh3 : hnum lim [] = 3 := by unfold hnum; rw [if_pos rfl]
 have HPU : Hid (pnum lim [] = 3) := by
  show _ = _
  unfold pnum
  rw [hh3,if_pos (by decide)]
 have HHN := zh (head_nil ao cap lim)
 unfold HeadPost at HHN
 rw [hh3] at HHN
 obtain ⟨l,hl⟩ : ∃ l : List Int,l = [] := ⟨_,rfl⟩
 rw [<- hl] at HPD HPU HHN |-
 clear hh3 hl
 go_enter Tryz.func34,Tryz.ntmps34
 go_upto_region 1 with fail
 change Code.wp _ _ _ _ (w.alloc (.cells pkz.cells.toArray 30))
 generalize w.alloc (.cells pkz.cells.toArray 30) = w1 at HPN HBN |-
 have HG := zh ((uh HHN) w1)
 have hlt1 := (uh HPN).lt
 clear HHN
 go_wp2_with fail
 refine (uh HG).mono ?_
 rintro e w2 ⟨q,a,m,rfl,hq,hb2⟩
 have HP2 := zh ((uh HPN).below hb2)
 have HB2 : Hid (Below w.heap.size w w2) := (uh HBN).trans (hb2.mono (uh HBN).size)
 have hlt2 : w.heap.size < w2.heap.size := Nat.lt_of_lt_of_le hlt1 hb2.size
 clear HPN HBN HG hb2 hq
 dsimp only
 iterate 16 go_step
 refine wpList_value rfl (packet_alloc _ _ _ _ _ _) ?_
 simp only [Act.put,List.setIfInBounds_toArray,List.set_cons_zero,List.set_cons_succ]
 refine wpList_skip rfl (packet_store _ _ _ _ _ _ _ q _ rfl rfl) ?_
 simp only [Act.put]
 have HP4 := zh ((uh HP2).below (al (.cells q.cells.toArray 30)))
 have HB3 : Hid (Below w.heap.size w (w2.alloc (.cells q.cells.toArray 30))) := (uh HB2).alloc (Nat.le_of_lt hlt2) _
 generalize w2.alloc (.cells q.cells.toArray 30) = wy at HP4 HB3 |-
 clear HP2 HB2
 go_upto_region 3 with fail
 iterate 7 go_step
 refine wpList_store_mid rfl 30 _ _ rfl w.heap.size 0 pkz.cells.toArray rfl rfl ((uh HP4).there _) packet_size (Pkv.ones' _) ?_
 simp only [Act.put]
 have HPS := zh ((uh HP4).stored pkz)
 have HBS : Hid (Below w.heap.size w (wy.setCells w.heap.size 0 pkz.cells)) := setCells_below (uh HB3) (Nat.le_refl _)
 generalize wy.setCells w.heap.size 0 pkz.cells = wS at HPS HBS |-
 go_wp2
 refine bodyPost_ret (res_pk3 (B := w.heap.size) (q := pkz) rfl rfl (uh HPS)) rfl ?_
 exact (uh HPD) _ 3 (uh HPU) (by decide) (uh HBS)
theorem pdec_pg (v : Value) (l : List Int) (lim : Int) (w : World) (h : Byt w v l) (hlim : lim <= 65536) : Calls Tryz.prog 34 #[v,.int .i64 lim] w (PDecPost lim l w) := by
 by_cases hl : l = []
 ·subst hl
  obtain ⟨ao,cap,rfl,_⟩ := h.form
  exact pdec_nil ao cap lim w
 ·obtain ⟨b,off,cap,rfl,_⟩ := h.form1 (List.length_pos_iff.2 hl)
  exact pdec_some b off cap l lim w h hlim
end Go.Proofs.YtpoeakillimibaaGreatDoor.K
