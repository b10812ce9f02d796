/- Proved here: helpers, one text behind the other. -/
import Derived.Test.YtemedclhglkfjaaGreatDoorZKTk
import Derived.Test.YtemedclhglkfjaaGreatDoorM37
set_option maxHeartbeats 20000000
namespace Go.Proofs.YtemedclhglkfjaaGreatDoor.K
open Go.RowKit
set_option maxRecDepth 100000
theorem dec_flag (bl off cap : Nat) (l : List Int) (w : World) (h : Byt w (.slice (some ⟨bl,off,none⟩) l.length cap) l) (hl : l ≠ []) (hok : bok (l.getD 0 0) = false) : Calls Tryz.prog 14 #[.slice (some ⟨bl,off,none⟩) l.length cap] w (DecPost l w) := by
 have HPN := zh (pk_new w pkz)
 have HBN : Hid (Below w.heap.size w (w.alloc (.cells pkz.cells.toArray 30))) := bal _ _
 have hl1 : 1 <= l.length := List.length_pos_iff.2 hl
 obtain ⟨hc1,hc2⟩ : l.length <= cap /\ cap <= maxLen := by
  obtain ⟨ao',cap',e,k1,k2⟩ := h.form
  simp only [Value.slice.injEq] at e
  obtain ⟨_,_,rfl⟩ := e
  exact ⟨k1,k2⟩
 unfold maxLen at hc2
 have hr0 := h.range 0
 have hbl : w.cell? ⟨bl,off,none⟩ = some (.int .u8 (l.getD 0 0)) := by
  obtain ⟨ao',cap',e',_,_,hcase⟩ := h
  simp only [Value.slice.injEq] at e'
  obtain ⟨rfl,_,rfl⟩ := e'
  rcases hcase with h0 | ⟨b',off',e2,hc⟩
  ·exact absurd h0 hl
  ·simp only [Option.some.injEq,Addr.mk.injEq] at e2
   obtain ⟨rfl,rfl,_⟩ := e2
   exact hc 0 (by omega)
 have hcl := cell_lt hbl
 have HH := zh h
 have HL := zh hl
 generalize hn : l.length = n at hc1 hl1 HH
 have HN := zh hn
 obtain ⟨b,hb⟩ : ∃ b,l.getD 0 0 = b := ⟨_,rfl⟩
 rw [hb] at hr0 hbl hok
 have HB0 := zh hb
 clear h hl hn hb
 have HDN : Hid (dnum l = 1) := by
  show _ = _
  unfold dnum
  rw [if_neg (uh HL),uh HB0,if_pos hok]
 go_enter Tryz.func14,Tryz.ntmps14
 go_wp2_with fail
 refine (begin_any b hr0.1 hr0.2 _).mono ?_
 rintro e w1 ⟨rfl,hb1⟩
 have HP1 := zh ((uh HPN).below hb1)
 have HB1 : Hid (Below w.heap.size w w1) := (uh HBN).trans (hb1.mono (uh HBN).size)
 clear hb1 HPN HBN hbl hcl
 dsimp only
 iterate 10 go_step
 refine wpList_store_mid rfl 30 _ _ rfl w.heap.size 0 (bpk b).cells.toArray rfl rfl ((uh HP1).there _) packet_size (Pkv.ones' _) ?_
 simp only [Act.put]
 have HP2 := zh ((uh HP1).stored (bpk b))
 have HB2 : Hid (Below w.heap.size w (w1.setCells w.heap.size 0 (bpk b).cells)) := setCells_below (uh HB1) (Nat.le_refl _)
 generalize w1.setCells w.heap.size 0 (bpk b).cells = w2 at HP2 HB2 |-
 clear HP1 HB1
 rw [hok]
 go_wp2_with fail
 refine (pf_use 1 _).mono ?_
 rintro e w3 ⟨x,rfl,hE,hb3⟩
 have HP3 := zh ((uh HP2).below hb3)
 have HB3 : Hid (Below w.heap.size w w3) := (uh HB2).trans (hb3.mono (uh HB2).size)
 clear hb3 HP2 HB2
 dsimp only
 go_step
 refine wpList_store_mid rfl 30 _ _ rfl w.heap.size 0 pkz.cells.toArray rfl rfl ((uh HP3).there _) packet_size (Pkv.ones' _) ?_
 simp only [Act.put]
 have HPS := zh ((uh HP3).stored pkz)
 have HBS : Hid (Below w.heap.size w (w3.setCells w.heap.size 0 pkz.cells)) := setCells_below (uh HB3) (Nat.le_refl _)
 have HES : Hid (ErP (w3.setCells w.heap.size 0 pkz.cells) (.iface 112 x) 1) := erp_cells (uh hE) (uh HP3).dup
 generalize w3.setCells w.heap.size 0 pkz.cells = wS at HPS HBS HES |-
 go_wp2
 refine bodyPost_ret (res_pk3 (B := w.heap.size) (q := pkz) rfl rfl (uh HPS)) rfl ?_
 exact dec_bad l w _ x 1 (uh HDN) (by decide) HES (uh HBS)
theorem dec_meas (bl off cap : Nat) (l : List Int) (w : World) (h : Byt w (.slice (some ⟨bl,off,none⟩) l.length cap) l) (hl : l ≠ []) (hok : bok (l.getD 0 0) = true) (hm : (meas l).2.2 ≠ 0) : Calls Tryz.prog 14 #[.slice (some ⟨bl,off,none⟩) l.length cap] w (DecPost l w) := by
 have HPN := zh (pk_new w pkz)
 have HBN : Hid (Below w.heap.size w (w.alloc (.cells pkz.cells.toArray 30))) := bal _ _
 have hl1 : 1 <= l.length := List.length_pos_iff.2 hl
 obtain ⟨hc1,hc2⟩ : l.length <= cap /\ cap <= maxLen := by
  obtain ⟨ao',cap',e,k1,k2⟩ := h.form
  simp only [Value.slice.injEq] at e
  obtain ⟨_,_,rfl⟩ := e
  exact ⟨k1,k2⟩
 unfold maxLen at hc2
 have hr0 := h.range 0
 have hbl : w.cell? ⟨bl,off,none⟩ = some (.int .u8 (l.getD 0 0)) := by
  obtain ⟨ao',cap',e',_,_,hcase⟩ := h
  simp only [Value.slice.injEq] at e'
  obtain ⟨rfl,_,rfl⟩ := e'
  rcases hcase with h0 | ⟨b',off',e2,hc⟩
  ·exact absurd h0 hl
  ·simp only [Option.some.injEq,Addr.mk.injEq] at e2
   obtain ⟨rfl,rfl,_⟩ := e2
   exact hc 0 (by omega)
 have hcl := cell_lt hbl
 have HH := zh h
 have HL := zh hl
 generalize hn : l.length = n at hc1 hl1 HH
 have HN := zh hn
 obtain ⟨b,hb⟩ : ∃ b,l.getD 0 0 = b := ⟨_,rfl⟩
 rw [hb] at hr0 hbl hok
 have HB0 := zh hb
 clear h hl hn hb
 have HDN : Hid (dnum l = (meas l).2.2) := by
  show _ = _
  unfold dnum
  rw [if_neg (uh HL),uh HB0,if_neg (by rw [hok]; decide),if_pos hm]
 generalize hmm : (meas l).2.2 = m at hm HDN
 have HMM := zh hmm
 clear hmm
 go_enter Tryz.func14,Tryz.ntmps14
 go_wp2_with fail
 refine (begin_any b hr0.1 hr0.2 _).mono ?_
 rintro e w1 ⟨rfl,hb1⟩
 have HP1 := zh ((uh HPN).below hb1)
 have HB1 : Hid (Below w.heap.size w w1) := (uh HBN).trans (hb1.mono (uh HBN).size)
 clear hb1 HPN HBN hbl hcl
 dsimp only
 iterate 10 go_step
 refine wpList_store_mid rfl 30 _ _ rfl w.heap.size 0 (bpk b).cells.toArray rfl rfl ((uh HP1).there _) packet_size (Pkv.ones' _) ?_
 simp only [Act.put]
 have HP2 := zh ((uh HP1).stored (bpk b))
 have HB2 : Hid (Below w.heap.size w (w1.setCells w.heap.size 0 (bpk b).cells)) := setCells_below (uh HB1) (Nat.le_refl _)
 generalize w1.setCells w.heap.size 0 (bpk b).cells = w2 at HP2 HB2 |-
 clear HP1 HB1
 rw [hok]
 have HMS := zh (measure_any (.slice (some ⟨bl,off,none⟩) n cap) l w2 ((uh HH).below (uh HB2)) (uh HL))
 go_wp2_with fail
 refine (uh HMS).mono ?_
 rintro e w3 ⟨E,rfl,hE,hb3⟩
 have HP3 := zh ((uh HP2).below hb3)
 have HB3 : Hid (Below w.heap.size w w3) := (uh HB2).trans (hb3.mono (uh HB2).size)
 clear hb3 HP2 HB2 HMS
 rw [uh HMM] at hE
 rcases uh hE with ⟨h0,_⟩ | ⟨_,x,d,hx,hd,he⟩
 ·exact absurd h0 hm
 ·subst hx
  have HE : Hid (ErP w3 (.iface 112 x) m) := ⟨x,d,rfl,hd,he⟩
  clear he hE
  go_upto_region 8 with fail
  iterate 7 go_step
  refine wpList_store_mid rfl 30 _ _ rfl w.heap.size 0 pkz.cells.toArray rfl rfl ((uh HP3).there _) packet_size (Pkv.ones' _) ?_
  simp only [Act.put]
  have HPS := zh ((uh HP3).stored pkz)
  have HBS : Hid (Below w.heap.size w (w3.setCells w.heap.size 0 pkz.cells)) := setCells_below (uh HB3) (Nat.le_refl _)
  have HES : Hid (ErP (w3.setCells w.heap.size 0 pkz.cells) (.iface 112 x) m) := erp_cells (uh HE) (uh HP3).dup
  generalize w3.setCells w.heap.size 0 pkz.cells = wS at HPS HBS HES |-
  go_wp2
  refine bodyPost_ret (res_pk3 (B := w.heap.size) (q := pkz) rfl rfl (uh HPS)) rfl ?_
  exact dec_bad l w _ x m (uh HDN) hm HES (uh HBS)
theorem meas_le (l : List Int) (h : (meas l).2.2 = 0) : 1 <= (meas l).1 /\ (meas l).1 <= (meas l).2.1 /\ (meas l).2.1 <= l.length /\ (meas l).2.1 <= 65536 := by
 unfold meas at h |-
 split at h
 ·contradiction
 ·split at h
  ·simp at h
  ·split at h
   ·simp at h
   ·rename_i h1 h2 h3
    rw [if_neg h1,if_neg h2,if_neg h3]
    simp only
    omega
theorem stp_none {α : Type} {f : List Int -> Option (α × List Int)} {l : List Int} {x : α} (h : Stp f (some l) x none) : f l = none := by
 unfold Stp at h
 simp only at h
 cases hq : f l with
 | none => rfl
 | some r => rw [hq] at h; cases h.2
theorem stp_some {α : Type} {f : List Int -> Option (α × List Int)} {l l' : List Int} {x : α} (h : Stp f (some l) x (some l')) : f l = some (x,l') := by
 unfold Stp at h
 simp only at h
 cases hq : f l with
 | none => rw [hq] at h; cases h
 | some r =>
  rw [hq] at h
  obtain ⟨rfl,e⟩ := h
  cases e
  rfl
theorem Pk.lt {w : World} {A : Nat} {q : Pkv} (h : Pk w A q) : A < w.heap.size := cell_lt (h 0 (by omega)).1
theorem dec_body (bl off cap : Nat) (l : List Int) (w : World) (h : Byt w (.slice (some ⟨bl,off,none⟩) l.length cap) l) (hl : l ≠ []) (hok : bok (l.getD 0 0) = true) (hm : (meas l).2.2 = 0) : Calls Tryz.prog 14 #[.slice (some ⟨bl,off,none⟩) l.length cap] w (DecPost l w) := by
 have HPN := zh (pk_new w pkz)
 have HBN : Hid (Below w.heap.size w (w.alloc (.cells pkz.cells.toArray 30))) := bal _ _
 have hl1 : 1 <= l.length := List.length_pos_iff.2 hl
 obtain ⟨hc1,hc2⟩ : l.length <= cap /\ cap <= maxLen := by
  obtain ⟨ao',cap',e,k1,k2⟩ := h.form
  simp only [Value.slice.injEq] at e
  obtain ⟨_,_,rfl⟩ := e
  exact ⟨k1,k2⟩
 unfold maxLen at hc2
 have hr0 := h.range 0
 have hbl : w.cell? ⟨bl,off,none⟩ = some (.int .u8 (l.getD 0 0)) := by
  obtain ⟨ao',cap',e',_,_,hcase⟩ := h
  simp only [Value.slice.injEq] at e'
  obtain ⟨rfl,_,rfl⟩ := e'
  rcases hcase with h0 | ⟨b',off',e2,hc⟩
  ·exact absurd h0 hl
  ·simp only [Option.some.injEq,Addr.mk.injEq] at e2
   obtain ⟨rfl,rfl,_⟩ := e2
   exact hc 0 (by omega)
 have hcl := cell_lt hbl
 have HH := zh h
 have HL := zh hl
 generalize hn : l.length = n at hc1 hl1 HH
 have HN := zh hn
 obtain ⟨b,hb⟩ : ∃ b,l.getD 0 0 = b := ⟨_,rfl⟩
 rw [hb] at hr0 hbl hok
 have HB0 := zh hb
 clear h hl hn hb
 obtain ⟨hd,hhd⟩ : ∃ hd,hd = (meas l).1 := ⟨_,rfl⟩
 obtain ⟨sz,hsz⟩ : ∃ sz,sz = (meas l).2.1 := ⟨_,rfl⟩
 have hms := meas_le l hm
 rw [<- hhd,<- hsz] at hms
 obtain ⟨hh1,hh2,hh3,hh4⟩ := hms
 have HDB : Hid (dbody l = packet? (bpa b) ((l.drop hd).take (sz - hd))) := by
  show dbody l = _
  unfold dbody
  rw [<- hhd,<- hsz,uh HB0]
 have HD1 : Hid (packet? (bpa b) ((l.drop hd).take (sz - hd)) = none -> dnum l = 1) := fun e => by
  unfold dnum
  rw [if_neg (uh HL),uh HB0,if_neg (by rw [hok]; decide),if_neg (by rw [hm]; decide),uh HDB,e]
  rfl
 have HD0 : Hid (∀ {P' : Pa} {l' : List Int},packet? (bpa b) ((l.drop hd).take (sz - hd)) = some (P',l') -> dnum l = 0) := fun e => by
  unfold dnum
  rw [if_neg (uh HL),uh HB0,if_neg (by rw [hok]; decide),if_neg (by rw [hm]; decide),uh HDB,e]
  rfl
 have HSZ : Hid (sz = (meas l).2.1) := hsz
 rw [uh HN] at hh3
 go_enter Tryz.func14,Tryz.ntmps14
 go_wp2_with fail
 refine (begin_any b hr0.1 hr0.2 _).mono ?_
 rintro e w1 ⟨rfl,hb1⟩
 have HP1 := zh ((uh HPN).below hb1)
 have HB1 : Hid (Below w.heap.size w w1) := (uh HBN).trans (hb1.mono (uh HBN).size)
 clear hb1 HPN HBN hbl hcl
 dsimp only
 iterate 10 go_step
 refine wpList_store_mid rfl 30 _ _ rfl w.heap.size 0 (bpk b).cells.toArray rfl rfl ((uh HP1).there _) packet_size (Pkv.ones' _) ?_
 simp only [Act.put]
 have HP2 := zh ((uh HP1).stored (bpk b))
 have HB2 : Hid (Below w.heap.size w (w1.setCells w.heap.size 0 (bpk b).cells)) := setCells_below (uh HB1) (Nat.le_refl _)
 generalize w1.setCells w.heap.size 0 (bpk b).cells = w2 at HP2 HB2 |-
 clear HP1 HB1
 rw [hok]
 have HMS := zh (measure_any (.slice (some ⟨bl,off,none⟩) n cap) l w2 ((uh HH).below (uh HB2)) (uh HL))
 go_wp2_with fail
 refine (uh HMS).mono ?_
 rintro e w3 ⟨E,rfl,hE,hb3⟩
 have HP3 := zh ((uh HP2).below hb3)
 have HB3 : Hid (Below w.heap.size w w3) := (uh HB2).trans (hb3.mono (uh HB2).size)
 clear hb3 HP2 HB2 HMS
 obtain ⟨q,hq⟩ : ∃ q,q = bpk b := ⟨_,rfl⟩
 have HPK : Hid (∀ w4 : World,RS w3 w4 w3.heap.size (some ((l.drop hd).take (sz - hd))) -> Pk w4 w3.heap.size q -> Calls Tryz.prog 39 #[.pointer (some ⟨w3.heap.size,0,none⟩)] w4 (PackPost w3 w3.heap.size (bpa b) (some ((l.drop hd).take (sz - hd))) w4)) := fun w4 k1 k2 => by
  rw [hq] at k2
  exact packet_all _ _ hr0.1 hr0.2 hok _ _ _ k1 k2 (fun l2 e => by
   cases e
   rw [List.length_take]
   omega)
 rw [<- hq] at HP3
 rw [<- hhd,<- hsz]
 clear hq hhd hsz
 have HMID := zh (((uh HH).below (uh HB3)).mid hd (sz - hd) (by omega))
 by_cases hcap : cap = hd
 ·have e1 : hd = cap := hcap.symm
  clear hcap
  subst e1
  have e2 : hd = n := by omega
  have e3 : sz = hd := by omega
  subst e3
  have HBY : Hid (Byt w3 (.slice (some ⟨bl,off,none⟩) 0 0) ((l.drop sz).take (sz - sz))) := by
   show Byt _ _ _
   have k := uh HMID
   rw [if_pos rfl,Nat.sub_self] at k
   rw [Nat.sub_self]
   exact k
  clear HMID
  subst e2
  obtain ⟨hE0,rfl⟩ : (meas l).2.2 = 0 /\ E = .nilIface := by
   rcases uh hE with h | ⟨h,_⟩
   ·exact h
   ·exact absurd hm h
  clear hE hE0
  have hbd3 := bel_drew w3
  have HPd := zh ((uh HP3).below hbd3)
  have HBd : Hid (Below w.heap.size w w3.drew) := (uh HB3).trans (hbd3.mono (uh HB3).size)
  clear hbd3
  go_wp2_with fail
  refine wp_region_noPanic ?_
  refine wp_region_held_drew (S := (fun w' => w'.rangeAt w.heap.size 0 q.cells)) (by kernel_rfl) (uh HPd).range (fun hHeld => ?_)
  refine wpAnyH_take (i := 0) (oi := { dst := some 35,op := Op.load 30 (Operand.tmp 2),type := 30,pos := "packet.go:81",after := #[],guard := none }) (v := q.val) rfl (by kernel_rfl) (by kernel_rfl) (by kernel_rfl) (fun _ _ _ h => h) (yieldsIf_load_mid (by rfl) 30 _ rfl w.heap.size 0 rfl q.cells _ (fun _ h => h) Tryz.underlying30 rfl packet_size) (by assumption) ?_
  simp only [Act.put,List.setIfInBounds_toArray,List.set_cons_zero,List.set_cons_succ]
  refine rtk 1 (h := ?_)
  refine rtk 2 (h := ?_)
  refine rtk 3 (h := ?_)
  refine rtk 4 (h := ?_)
  refine wpAnyH_take (i := 5) (oi := { dst := some 40,op := Op.build 81 #[(0,Operand.tmp 35),(1,Operand.tmp 39)],type := 81,pos := "packet.go:81",after := #[{ on := 0,ground := Ground.data },{ on := 4,ground := Ground.data }],guard := none }) (v := .agg (rdc q (some ⟨bl,off,none⟩) 0 0)) rfl (by kernel_rfl) (by kernel_rfl) (by kernel_rfl) (fun _ _ _ h => h) (Or.inl ⟨by rfl,fun w _ => reader_build _ _ _ _ _ _ _ q (some ⟨bl,off,none⟩) 0 0 rfl rfl w⟩) (by assumption) ?_
  simp only [Act.put,List.setIfInBounds_toArray,List.set_cons_zero,List.set_cons_succ]
  refine rcl 6 (h := fun K hK => ?_)
  refine step_value rfl (reader_alloc _ _ _ _ _ _) ?_
  refine hK.out _ _ ((uh HPd).below (bal _ _)).range (fun hHeld => ?_)
  clear hK K
  simp only [Act.put,List.setIfInBounds_toArray,List.set_cons_zero,List.set_cons_succ]
  refine rcl 7 (h := fun K hK => ?_)
  refine step_skip rfl (reader_store _ _ _ _ _ _ _ q (some ⟨bl,off,none⟩) 0 0 w3.drew rfl rfl) ?_
  refine hK.out _ _ ((uh HPd).below (bal _ _)).range (fun hHeld => ?_)
  clear hK K
  simp only [Act.put]
  refine wpAnyH_done (by kernel_rfl) ?_ _
  refine NoPanic.normal ?_
  have hR : w3.drew.heap.size = w3.heap.size := rfl
  have HPR := zh (rdc_pk w3.drew q (some ⟨bl,off,none⟩) 0 0)
  have HRS := zh (rdc_rs w3 w3.drew q (some ⟨bl,off,none⟩) 0 0 ((l.drop sz).take (sz - sz)) (uh HBY) (bel_drew w3))
  have HPA : Hid (Pk (w3.drew.alloc (.cells (rdc q (some ⟨bl,off,none⟩) 0 0) 81)) w.heap.size q) := (uh HPd).below (bal _ _)
  have HBA : Hid (Below w.heap.size w (w3.drew.alloc (.cells (rdc q (some ⟨bl,off,none⟩) 0 0) 81))) := (uh HBd).trans ((bal _ _).mono (uh HBd).size)
  have hAR : w.heap.size < w3.heap.size := (uh HP3).lt
  have hWs : w3.heap.size < (w3.drew.alloc (.cells (rdc q (some ⟨bl,off,none⟩) 0 0) 81)).heap.size := by simp
  rw [hR] at HPR HRS
  generalize w3.drew.alloc (.cells (rdc q (some ⟨bl,off,none⟩) 0 0) 81) = w4 at HPR HRS HPA HBA hWs |-
  clear HPd HBd hHeld hR HP3
  go_wp2_with fail
  refine ((uh HPK) _ (uh HRS) (uh HPR)).mono ?_
  rintro e w5 ⟨rfl,p',P',st',hp5,hM5,hs5,h5,hx5⟩
  have HP5 := zh hp5
  have HS5 := zh h5
  have HST5 := zh hs5
  have HA5 := zh ((uh HPA).far hx5 (Nat.ne_of_lt hAR))
  have HB5 : Hid (Below w.heap.size w w5) := (uh HBA).trans (hx5.below (Nat.le_of_lt hAR) (uh HBA).size)
  have hR5 : w3.heap.size < w5.heap.size := Nat.lt_of_lt_of_le hWs hx5.size
  have HM5 : Hid (Mean w5 w3.heap.size.succ p' P') := (uh hM5).base hWs
  clear hp5 h5 hs5 hx5 hM5 HPA HBA HPR HRS HPK
  cases st' with
  | none =>
   obtain ⟨t,x,d,k,c20,hd2,he⟩ := (uh HS5).bad
   have HE5 := zh he
   clear he
   have HDN : Hid (dnum l = 1) := (uh HD1) (stp_none (uh HST5))
   go_wp2_with fail
   refine (pbroken d hd2 _ k _ (uh HE5)).mono ?_
   rintro e w6 ⟨y,rfl,hE,hb6⟩
   have HP6 := zh ((uh HA5).below hb6)
   have HB6 : Hid (Below w.heap.size w w6) := (uh HB5).trans (hb6.mono (uh HB5).size)
   clear hb6
   dsimp only
   go_step
   refine wpList_store_mid rfl 30 _ _ rfl w.heap.size 0 pkz.cells.toArray rfl rfl ((uh HP6).there _) packet_size (Pkv.ones' _) ?_
   simp only [Act.put]
   have HPS := zh ((uh HP6).stored pkz)
   have HBS : Hid (Below w.heap.size w (w6.setCells w.heap.size 0 pkz.cells)) := setCells_below (uh HB6) (Nat.le_refl _)
   have HES : Hid (ErP (w6.setCells w.heap.size 0 pkz.cells) (.iface 112 y) 1) := erp_cells (uh hE) (uh HP6).dup
   generalize w6.setCells w.heap.size 0 pkz.cells = wS at HPS HBS HES |-
   go_wp2
   refine bodyPost_ret (res_pk3 (B := w.heap.size) (q := pkz) rfl rfl (uh HPS)) rfl ?_
   exact dec_bad l w _ y 1 (uh HDN) (by decide) HES (uh HBS)
  | some l' =>
   have hds := stp_some (uh HST5)
   have HDN : Hid (dnum l = 0) := (uh HD0) hds
   have HDS := zh hds
   clear hds
   obtain ⟨_,_,c20⟩ | ⟨hno,_⟩ := (uh HS5).err
   ·go_upto_region 13 with fail
    iterate 4 go_step
    refine wpList_load_mid rfl 30 _ rfl w3.heap.size 0 rfl p'.cells _ (uh HP5).range Tryz.underlying30 rfl packet_size ?_
    simp only [Act.put,List.setIfInBounds_toArray,List.set_cons_zero,List.set_cons_succ]
    iterate 3 go_step
    refine wpList_store_mid rfl 30 _ _ rfl w.heap.size 0 p'.cells.toArray rfl rfl ((uh HA5).there _) packet_size (Pkv.ones' _) ?_
    simp only [Act.put]
    have HPS := zh ((uh HA5).stored p')
    have HBS : Hid (Below w.heap.size w (w5.setCells w.heap.size 0 p'.cells)) := setCells_below (uh HB5) (Nat.le_refl _)
    have HMS : Hid (Mean (w5.setCells w.heap.size 0 p'.cells) w.heap.size p' P') := ((uh HM5).cells (Nat.lt_succ_of_lt hAR)).base (Nat.le_succ_of_le (Nat.le_of_lt hAR))
    generalize w5.setCells w.heap.size 0 p'.cells = w6 at HPS HBS HMS |-
    clear c20
    go_wp2
    refine bodyPost_ret (res_pk3 (B := w.heap.size) (q := p') rfl rfl (uh HPS)) rfl ?_
    exact ⟨p',sz,.nilIface,rfl,.inr ⟨uh HDN,(uh HSZ),rfl,P',l',(uh HDB).trans (uh HDS),HMS⟩,uh HBS⟩
   ·cases hno
 ·have HBY : Hid (Byt w3 (.slice (some ⟨bl,off + hd,none⟩) (sz - hd) (cap - hd)) ((l.drop hd).take (sz - hd))) := by
   show Byt _ _ _
   have k := uh HMID
   rw [if_neg hcap] at k
   exact k
  clear HMID
  obtain ⟨hE0,rfl⟩ : (meas l).2.2 = 0 /\ E = .nilIface := by
   rcases uh hE with h | ⟨h,_⟩
   ·exact h
   ·exact absurd hm h
  clear hE hE0
  have hbd3 := bel_drew w3
  have HPd := zh ((uh HP3).below hbd3)
  have HBd : Hid (Below w.heap.size w w3.drew) := (uh HB3).trans (hbd3.mono (uh HB3).size)
  clear hbd3
  go_wp2_with fail
  refine wp_region_noPanic ?_
  refine wp_region_held_drew (S := (fun w' => w'.rangeAt w.heap.size 0 q.cells)) (by kernel_rfl) (uh HPd).range (fun hHeld => ?_)
  refine wpAnyH_take (i := 0) (oi := { dst := some 35,op := Op.load 30 (Operand.tmp 2),type := 30,pos := "packet.go:81",after := #[],guard := none }) (v := q.val) rfl (by kernel_rfl) (by kernel_rfl) (by kernel_rfl) (fun _ _ _ h => h) (yieldsIf_load_mid (by rfl) 30 _ rfl w.heap.size 0 rfl q.cells _ (fun _ h => h) Tryz.underlying30 rfl packet_size) (by assumption) ?_
  simp only [Act.put,List.setIfInBounds_toArray,List.set_cons_zero,List.set_cons_succ]
  refine rtk 1 (h := ?_)
  refine rtk 2 (h := ?_)
  refine rtk 3 (h := ?_)
  refine rtk 4 (h := ?_)
  refine wpAnyH_take (i := 5) (oi := { dst := some 40,op := Op.build 81 #[(0,Operand.tmp 35),(1,Operand.tmp 39)],type := 81,pos := "packet.go:81",after := #[{ on := 0,ground := Ground.data },{ on := 4,ground := Ground.data }],guard := none }) (v := .agg (rdc q (some ⟨bl,off + hd,none⟩) (sz - hd) (cap - hd))) rfl (by kernel_rfl) (by kernel_rfl) (by kernel_rfl) (fun _ _ _ h => h) (Or.inl ⟨by rfl,fun w _ => reader_build _ _ _ _ _ _ _ q (some ⟨bl,off + hd,none⟩) (sz - hd) (cap - hd) rfl rfl w⟩) (by assumption) ?_
  simp only [Act.put,List.setIfInBounds_toArray,List.set_cons_zero,List.set_cons_succ]
  refine rcl 6 (h := fun K hK => ?_)
  refine step_value rfl (reader_alloc _ _ _ _ _ _) ?_
  refine hK.out _ _ ((uh HPd).below (bal _ _)).range (fun hHeld => ?_)
  clear hK K
  simp only [Act.put,List.setIfInBounds_toArray,List.set_cons_zero,List.set_cons_succ]
  refine rcl 7 (h := fun K hK => ?_)
  refine step_skip rfl (reader_store _ _ _ _ _ _ _ q (some ⟨bl,off + hd,none⟩) (sz - hd) (cap - hd) w3.drew rfl rfl) ?_
  refine hK.out _ _ ((uh HPd).below (bal _ _)).range (fun hHeld => ?_)
  clear hK K
  simp only [Act.put]
  refine wpAnyH_done (by kernel_rfl) ?_ _
  refine NoPanic.normal ?_
  have hR : w3.drew.heap.size = w3.heap.size := rfl
  have HPR := zh (rdc_pk w3.drew q (some ⟨bl,off + hd,none⟩) (sz - hd) (cap - hd))
  have HRS := zh (rdc_rs w3 w3.drew q (some ⟨bl,off + hd,none⟩) (sz - hd) (cap - hd) ((l.drop hd).take (sz - hd)) (uh HBY) (bel_drew w3))
  have HPA : Hid (Pk (w3.drew.alloc (.cells (rdc q (some ⟨bl,off + hd,none⟩) (sz - hd) (cap - hd)) 81)) w.heap.size q) := (uh HPd).below (bal _ _)
  have HBA : Hid (Below w.heap.size w (w3.drew.alloc (.cells (rdc q (some ⟨bl,off + hd,none⟩) (sz - hd) (cap - hd)) 81))) := (uh HBd).trans ((bal _ _).mono (uh HBd).size)
  have hAR : w.heap.size < w3.heap.size := (uh HP3).lt
  have hWs : w3.heap.size < (w3.drew.alloc (.cells (rdc q (some ⟨bl,off + hd,none⟩) (sz - hd) (cap - hd)) 81)).heap.size := by simp
  rw [hR] at HPR HRS
  generalize w3.drew.alloc (.cells (rdc q (some ⟨bl,off + hd,none⟩) (sz - hd) (cap - hd)) 81) = w4 at HPR HRS HPA HBA hWs |-
  clear HPd HBd hHeld hR HP3
  go_wp2_with fail
  refine ((uh HPK) _ (uh HRS) (uh HPR)).mono ?_
  rintro e w5 ⟨rfl,p',P',st',hp5,hM5,hs5,h5,hx5⟩
  have HP5 := zh hp5
  have HS5 := zh h5
  have HST5 := zh hs5
  have HA5 := zh ((uh HPA).far hx5 (Nat.ne_of_lt hAR))
  have HB5 : Hid (Below w.heap.size w w5) := (uh HBA).trans (hx5.below (Nat.le_of_lt hAR) (uh HBA).size)
  have hR5 : w3.heap.size < w5.heap.size := Nat.lt_of_lt_of_le hWs hx5.size
  have HM5 : Hid (Mean w5 w3.heap.size.succ p' P') := (uh hM5).base hWs
  clear hp5 h5 hs5 hx5 hM5 HPA HBA HPR HRS HPK
  cases st' with
  | none =>
   obtain ⟨t,x,d,k,c20,hd2,he⟩ := (uh HS5).bad
   have HE5 := zh he
   clear he
   have HDN : Hid (dnum l = 1) := (uh HD1) (stp_none (uh HST5))
   go_wp2_with fail
   refine (pbroken d hd2 _ k _ (uh HE5)).mono ?_
   rintro e w6 ⟨y,rfl,hE,hb6⟩
   have HP6 := zh ((uh HA5).below hb6)
   have HB6 : Hid (Below w.heap.size w w6) := (uh HB5).trans (hb6.mono (uh HB5).size)
   clear hb6
   dsimp only
   go_step
   refine wpList_store_mid rfl 30 _ _ rfl w.heap.size 0 pkz.cells.toArray rfl rfl ((uh HP6).there _) packet_size (Pkv.ones' _) ?_
   simp only [Act.put]
   have HPS := zh ((uh HP6).stored pkz)
   have HBS : Hid (Below w.heap.size w (w6.setCells w.heap.size 0 pkz.cells)) := setCells_below (uh HB6) (Nat.le_refl _)
   have HES : Hid (ErP (w6.setCells w.heap.size 0 pkz.cells) (.iface 112 y) 1) := erp_cells (uh hE) (uh HP6).dup
   generalize w6.setCells w.heap.size 0 pkz.cells = wS at HPS HBS HES |-
   go_wp2
   refine bodyPost_ret (res_pk3 (B := w.heap.size) (q := pkz) rfl rfl (uh HPS)) rfl ?_
   exact dec_bad l w _ y 1 (uh HDN) (by decide) HES (uh HBS)
  | some l' =>
   have hds := stp_some (uh HST5)
   have HDN : Hid (dnum l = 0) := (uh HD0) hds
   have HDS := zh hds
   clear hds
   obtain ⟨_,_,c20⟩ | ⟨hno,_⟩ := (uh HS5).err
   ·go_upto_region 13 with fail
    iterate 4 go_step
    refine wpList_load_mid rfl 30 _ rfl w3.heap.size 0 rfl p'.cells _ (uh HP5).range Tryz.underlying30 rfl packet_size ?_
    simp only [Act.put,List.setIfInBounds_toArray,List.set_cons_zero,List.set_cons_succ]
    iterate 3 go_step
    refine wpList_store_mid rfl 30 _ _ rfl w.heap.size 0 p'.cells.toArray rfl rfl ((uh HA5).there _) packet_size (Pkv.ones' _) ?_
    simp only [Act.put]
    have HPS := zh ((uh HA5).stored p')
    have HBS : Hid (Below w.heap.size w (w5.setCells w.heap.size 0 p'.cells)) := setCells_below (uh HB5) (Nat.le_refl _)
    have HMS : Hid (Mean (w5.setCells w.heap.size 0 p'.cells) w.heap.size p' P') := ((uh HM5).cells (Nat.lt_succ_of_lt hAR)).base (Nat.le_succ_of_le (Nat.le_of_lt hAR))
    generalize w5.setCells w.heap.size 0 p'.cells = w6 at HPS HBS HMS |-
    clear c20
    go_wp2
    refine bodyPost_ret (res_pk3 (B := w.heap.size) (q := p') rfl rfl (uh HPS)) rfl ?_
    exact ⟨p',sz,.nilIface,rfl,.inr ⟨uh HDN,(uh HSZ),rfl,P',l',(uh HDB).trans (uh HDS),HMS⟩,uh HBS⟩
   ·cases hno
theorem decode_any (v : Value) (l : List Int) (w : World) (h : Byt w v l) : Calls Tryz.prog 14 #[v] w (DecPost l w) := by
 by_cases hl : l = []
 ·subst hl
  obtain ⟨ao,cap,rfl,_⟩ := h.form
  exact dec_nil ao cap w
 ·obtain ⟨b,off,cap,rfl,_⟩ := h.form1 (List.length_pos_iff.2 hl)
  cases hok : bok (l.getD 0 0)
  ·exact dec_flag b off cap l w h hl hok
  ·by_cases hm : (meas l).2.2 = 0
   ·exact dec_body b off cap l w h hl hok hm
   ·exact dec_meas b off cap l w h hl hok hm
end Go.Proofs.YtemedclhglkfjaaGreatDoor.K
