/- Proved here: helpers, one text behind the other. -/
import Derived.Test.YtpoeakillimibaaGreatDoorM31
import Derived.Test.YtpoeakillimibaaGreatDoorZPRefCheck
import Derived.Test.YtpoeakillimibaaGreatDoorM26
import Derived.Test.YtpoeakillimibaaGreatDoorZTCopy
set_option maxHeartbeats 20000000
namespace Go.Proofs.YtpoeakillimibaaGreatDoor
open Go.RowKit
set_option maxRecDepth 100000
theorem rg_good (v : Value) (l : List Int) (w : World) (h : Byt w v l) (hg : gok l = true) : Calls Tryz.prog 196 #[v] w (RgOk (gpr l) (gsz l) w) := by
 have hr := h.range
 unfold gok at hg
 rw [Bool.and_eq_true,decide_eq_true_eq] at hg
 obtain ⟨hv,a,b,c,d,e⟩ := vget_is l hr hg.1
 have h4 := ghd_le l b e
 have hg2 := hg.2
 have hl := gval_le _ _ (Rng.drop hr (ghd l)) hg2
 have hr' := Rng.drop hr (ghd l)
 unfold gpr gsz grs
 unfold grs at hg2
 obtain ⟨k,hk⟩ : ∃ k,kd (gid l) = k := ⟨_,rfl⟩
 rw [hk] at hg2 hl |-
 unfold gval at hg2 hl |-
 rw [List.length_drop] at hl
 by_cases k1 : k = 1 \/ k = 2 \/ k = 4
 ·rw [if_pos k1] at hg2 hl |-
  simp only [decide_eq_true_eq] at hg2 hl |-
  rcases k1 with rfl | rfl | rfl
  ·exact rg_num1 v l w h _ _ hv ⟨a,b⟩ h4 hk (by omega)
  ·exact rg_num2 v l w h _ _ hv ⟨a,b⟩ h4 hk (by omega)
  ·exact rg_num4 v l w h _ _ hv ⟨a,b⟩ h4 hk (by omega)
 rw [if_neg k1] at hg2 hl |-
 by_cases k5 : k = 5
 ·subst k5
  rw [if_pos rfl] at hg2 hl |-
  simp only [decide_eq_true_eq] at hg2 hl |-
  obtain ⟨hv',x1,x2,_⟩ := vget_is _ hr' hg2
  exact rg_var v l w h _ _ hv ⟨a,b⟩ h4 hk _ _ hv' x1 (by unfold ghd at *; omega)
 rw [if_neg k5] at hg2 hl |-
 by_cases k6 : k = 6
 ·subst k6
  rw [if_pos rfl] at hg2 hl |-
  simp only [decide_eq_true_eq] at hg2 hl |-
  obtain ⟨x0,x1,x2,_⟩ := gt_is _ hg2
  exact rg_text v l w h _ _ hv ⟨a,b⟩ h4 hk _ _ x0 (by omega) (by omega)
 rw [if_neg k6] at hg2 hl |-
 by_cases k7 : k = 7
 ·subst k7
  rw [if_pos rfl] at hg2 hl |-
  simp only [decide_eq_true_eq] at hg2 hl |-
  obtain ⟨x0,x1,x2,_⟩ := gbn_is _ hg2
  exact rg_bin v l w h _ _ hv ⟨a,b⟩ h4 hk _ _ x0 (by omega) (by omega)
 rw [if_neg k7] at hg2 hl |-
 by_cases k8 : k = 8
 ·subst k8
  rw [if_pos rfl] at hg2 hl |-
  simp only [Bool.and_eq_true,decide_eq_true_eq] at hg2 hl |-
  obtain ⟨x0,x1,x2,_⟩ := gt_is _ hg2.1
  obtain ⟨y0,y1,y2,_⟩ := gt_is _ hg2.2
  exact rg_pair v l w h _ _ hv ⟨a,b⟩ h4 hk _ _ x0 x1 (by omega) _ _ y0 y1 (by omega)
 rw [if_neg k8] at hg2
 simp at hg2
theorem rg_fail (v : Value) (l : List Int) (w : World) (h : Byt w v l) (hg : gok l = false) : Calls Tryz.prog 196 #[v] w (RgBad w) := by
 have hr := h.range
 by_cases hv0 : (V.vget l).2.2 = 0
 ·obtain ⟨hv,a,b,c,d,e⟩ := vget_is l hr hv0
  have h4 := ghd_le l b e
  have hg2 : (grs l).1 = false := by
   unfold gok at hg
   rw [hv0] at hg
   simpa using hg
  unfold grs at hg2
  obtain ⟨k,hk⟩ : ∃ k,kd (gid l) = k := ⟨_,rfl⟩
  have hkc := kd_cases (gid l)
  rw [hk] at hg2 hkc
  unfold gval at hg2
  by_cases k1 : k = 1 \/ k = 2 \/ k = 4
  ·rw [if_pos k1] at hg2
   simp only [decide_eq_false_iff_not,List.length_drop] at hg2
   rcases k1 with rfl | rfl | rfl
   ·exact rg_num1_bad v l w h _ _ hv ⟨a,b⟩ h4 hk (by omega)
   ·exact rg_num2_bad v l w h _ _ hv ⟨a,b⟩ h4 hk (by omega)
   ·exact rg_num4_bad v l w h _ _ hv ⟨a,b⟩ h4 hk (by omega)
  rw [if_neg k1] at hg2
  by_cases k5 : k = 5
  ·subst k5
   rw [if_pos rfl] at hg2
   simp only [decide_eq_false_iff_not] at hg2
   exact rg_var_bad v l w h _ _ hv ⟨a,b⟩ h4 hk _ rfl hg2
  rw [if_neg k5] at hg2
  by_cases k6 : k = 6
  ·subst k6
   rw [if_pos rfl] at hg2
   simp only [decide_eq_false_iff_not] at hg2
   exact rg_text_bad v l w h _ _ hv ⟨a,b⟩ h4 hk _ rfl hg2
  rw [if_neg k6] at hg2
  by_cases k7 : k = 7
  ·subst k7
   rw [if_pos rfl] at hg2
   simp only [decide_eq_false_iff_not] at hg2
   exact rg_bin_bad v l w h _ _ hv ⟨a,b⟩ h4 hk _ rfl hg2
  rw [if_neg k7] at hg2
  by_cases k8 : k = 8
  ·subst k8
   rw [if_pos rfl] at hg2
   by_cases h1 : (gt (l.drop (ghd l))).2.2 = 0
   ·obtain ⟨e1,e2,e3,_⟩ := gt_is _ h1
    rw [List.length_drop] at e3
    have h2 : ¬ (gt ((l.drop (ghd l)).drop (gt (l.drop (ghd l))).2.1.toNat)).2.2 = 0 := by
     rw [h1] at hg2
     simpa using hg2
    exact rg_pair_bad2 v l w h _ _ hv ⟨a,b⟩ h4 hk _ _ e1 e2 (by omega) _ rfl h2
   ·exact rg_pair_bad1 v l w h _ _ hv ⟨a,b⟩ h4 hk _ rfl h1
  exact rg_none v l w h _ _ hv ⟨a,b⟩ h4 (by omega)
 ·exact rg_id_bad v l w h _ rfl hv0
def RGetPost2 (place : Int) (l : List Int) (w : World) (e : Ending) (w' : World) : Prop :=
 ∃ v,e = .returned (.tuple #[v,.int .i64 (psz place l),.int .i64 (pgt place l)]) /\ Hid (w'.ownsRow w.heap.size 120 4 v (plist place l).length (pcs (plist place l))) /\ Below w.heap.size w w'
theorem rget_post_bad (place : Int) (l : List Int) (w w' : World) (n : Int) (hp : pgt place l = n) (hn : n ≠ 0) (hb : Below w.heap.size w w') : RGetPost2 place l w (.returned (.tuple #[.slice none 0 0,.int .i64 0,.int .i64 n])) w' := by
 refine ⟨.slice none 0 0,?_,?_,hb⟩
 ·unfold psz
  rw [if_neg (by rw [hp]; exact hn),hp]
 ·show World.ownsRow _ _ _ _ _ _ _
  unfold plist
  rw [if_neg (by rw [hp]; exact hn)]
  exact World.ownsRow_nil _ _ _ _
theorem rGet_bad1 (v : Value) (l : List Int) (place : Int) (w : World) (h : Byt w v l) (hv : (V.vget l).2.2 ≠ 0) : Calls Tryz.prog 170 #[v,.int .i64 place] w (RGetPost2 place l w) := by
 have hp : pgt place l = (V.vget l).2.2 := by unfold pgt; rw [if_pos hv]
 obtain ⟨ao,cap,rfl,hc1,hc2⟩ := h.form
 have HV := zh h
 have HP := zh hp
 clear h hp
 generalize hm : (V.vget l).2.2 = m at hv HP
 generalize hn : l.length = n at hc1 HV
 have HM := zh hm
 clear hn hm
 go_enter Tryz.func170,Tryz.ntmps170
 go_wp2_with fail
 refine (rvget_fail _ l _ (uh HV) m (uh HM)).mono ?_
 rintro e w1 ⟨a,b,rfl,hb1⟩
 go_wp2
 go_returns
 exact rget_post_bad place l w _ m (uh HP) hv hb1
theorem rGet_short (v : Value) (l : List Int) (place : Int) (w : World) (h : Byt w v l) (hv : (V.vget l).2.2 = 0) (hs : l.length < ghd l + (gid l).toNat) : Calls Tryz.prog 170 #[v,.int .i64 place] w (RGetPost2 place l w) := by
 have hp : pgt place l = 3 := by unfold pgt; rw [if_neg (by rw [hv]; decide),if_pos hs]
 obtain ⟨hv',h1,h2,h3,h4,h5⟩ := vget_is l h.range hv
 have hQ4 := ghd_le l h2 h5
 clear h5
 obtain ⟨ao,cap,rfl,hc1,hc2⟩ := h.form
 unfold maxLen at hc2
 have HV := zh h
 have HP := zh hp
 clear h hp hv
 obtain ⟨N,hN⟩ : ∃ N : Nat,gid l = N := ⟨(gid l).toNat,by omega⟩
 rw [hN,Int.toNat_natCast] at hs
 rw [hN] at hv' h3 h4
 generalize ghd l = Q at hQ4 hv' h1 h2 hs
 have Hv := zh hv'
 generalize hn : l.length = n at hc1 HV h2 hs
 clear hn hv' hN
 go_enter Tryz.func170,Tryz.ntmps170
 go_wp2_with fail
 refine (rvget_good _ l _ (uh HV) N Q (uh Hv)).mono ?_
 rintro e w1 ⟨rfl,hb1⟩
 have HB1 := zh hb1
 clear hb1
 go_wp2
 go_returns
 exact rget_post_bad place l w _ 3 (uh HP) (by decide) (uh HB1)
theorem rchk_use (v : Value) (l : List Pr) (place : Int) (w : World) (h : Prp w v l) (hmx : l.length <= 1000000000) (hsm : Small l) : Calls Tryz.prog 154 #[v,.int .i64 place] w fun e w' => e = .returned (.int .i64 (chkP place l)) /\ Below w.heap.size w w' := by
 obtain ⟨ao,cap,rfl,hc⟩ := h
 rcases hc with rfl | ⟨b,off,rfl,hc⟩
 ·have HC : Hid (chkP place [] = 0) := chkP_ok place [] (fun i hi => absurd hi (Nat.not_lt_zero i)) (by simp)
  go_enter Tryz.func154,Tryz.ntmps154
  go_wp2
  refine wp_loop_rounds 1 ?_
  rw [rounds_succ]
  go_wp2
  go_ret
  exact ⟨ret_int (uh HC).symm,Below.refl _ _⟩
 ·exact rchk_core b off cap l _ place w rfl hmx hsm hc
theorem small_snoc (d : List Pr) (p : Pr) (h : Small d) (h1 : p.2.2.1.size <= 65535) (h2 : p.2.2.2.size <= 65535) : Small (d ++ [p]) := fun k hk => by
 rw [List.length_append,List.length_singleton] at hk
 rcases Nat.lt_or_ge k d.length with a | a
 ·rw [at0_app d [p] k a]; exact h k a
 ·obtain rfl : k = d.length := by omega
  rw [at0_mid]; omega
theorem drop_take_drop (l : List Int) (q m a : Nat) : (l.drop (q + a)).take (m - a) = ((l.drop q).take m).drop a := by
 rw [List.drop_take,List.drop_drop]
theorem rGet_read (v : Value) (l : List Int) (place : Int) (w : World) (h : Byt w v l) (hv : (V.vget l).2.2 = 0) (hs : ghd l + (gid l).toNat <= l.length) : Calls Tryz.prog 170 #[v,.int .i64 place] w (RGetPost2 place l w) := by
 obtain ⟨i0,hi,hz0,hz1,hz2⟩ := info_parts Tryz.infoProp
 have hp : pgt place l = rdn place (pbd l) := by unfold pgt; rw [if_neg (by rw [hv]; decide),if_neg (by omega)]
 have hsz : ∀ q,parse (pbd l) = some q -> pgt place l = 0 -> plist place l = q /\ psz place l = ((ghd l + (gid l).toNat : Nat) : Int) := fun q hq h0 => by
  unfold plist psz
  rw [if_pos h0,if_pos h0,hq]
  exact ⟨rfl,by omega⟩
 obtain ⟨hv',h1,h2,h3,h4,h5⟩ := vget_is l h.range hv
 have hQ4 := ghd_le l h2 h5
 clear h5
 obtain ⟨b,off,cap,rfl,hc1,hc2⟩ := h.form1 (by omega)
 unfold maxLen at hc2
 have HV := zh h
 have HP := zh hp
 have HSZ := zh hsz
 clear h hv hp hsz
 have hpb : pbd l = (l.drop (ghd l)).take (gid l).toNat := rfl
 obtain ⟨N,hN⟩ : ∃ N : Nat,gid l = N := ⟨(gid l).toNat,by omega⟩
 rw [hN,Int.toNat_natCast] at hs HSZ hpb
 rw [hN] at hv' h3 h4
 generalize ghd l = Q at hQ4 hv' h1 h2 hs HSZ hpb
 generalize pbd l = L at HP HSZ hpb
 have Hv := zh hv'
 have hLl : L.length = N := by rw [hpb,List.length_take,List.length_drop]; omega
 generalize hn : l.length = n at hc1 HV h2 hs
 have HPB := zh hpb
 have HLL := zh hLl
 clear hn hv' hN hpb hLl
 go_enter Tryz.func170,Tryz.ntmps170
 go_wp2_with fail
 refine (rvget_good _ l _ (uh HV) N Q (uh Hv)).mono ?_
 rintro e w1 ⟨rfl,hb1⟩
 have HB1 := zh hb1
 clear hb1
 go_wp2_with fail
 go_loopw [10,11] (fun l0 a0 wr => ∃ (lv : Value) (d : List Pr) (k A : Nat),l0 = lv /\ a0 = .int .i64 (Q + A : Nat) /\ A <= N /\ k <= A /\ Hid (d.length = k) /\ Hid (parse L = (parse (L.drop A)).map (d ++ ·)) /\ Hid (Small d) /\ Hid (wr.ownsRow w.heap.size 120 4 lv k (pcs d)) /\ Below w.heap.size w wr) (fun _ a0 _ => Q + N - (intOf a0).toNat)
 case atStart =>
  refine ⟨_,[],0,0,rfl,rfl,Nat.zero_le _,Nat.le_refl _,rfl,?_,fun k hk => absurd hk (Nat.not_lt_zero k),World.ownsRow_nil _ _ _ _,uh HB1⟩
  show parse L = _
  rw [List.drop_zero]
  cases parse L <;> simp
 case round =>
  obtain ⟨_,d,k,A,rfl,rfl,hAN,hkA,HD,HPA,HSM,HOWN,hbel⟩ := hrel
  have hsz := hbel.size
  by_cases hlt : A < N
  ·have HY : Hid (Byt wr (.slice (some ⟨b,off + (Q + A),none⟩) (Q + N - (Q + A)) (cap - (Q + A))) (L.drop A)) := by
    show Byt _ _ _
    have := ((uh HV).below hbel).mid (Q + A) (N - A) (by omega)
    rw [if_neg (by omega),drop_take_drop,<- uh HPB] at this
    rw [show Q + N - (Q + A) = N - A from by omega]
    exact this
   have HLA : Hid ((L.drop A).length = N - A) := by show _ = _; rw [List.length_drop,uh HLL]
   have HNE : Hid (L.drop A ≠ []) := by
    intro e
    have := uh HLA
    rw [e] at this
    simp at this
    omega
   have HBEL := zh hbel
   clear hbel
   cases hgk : gok (L.drop A)
   ·have HC : Hid (pgt place l = 1) := (uh HP).trans (rdn_none place L (by rw [uh HPA,parse_no _ (uh HNE) hgk]; rfl))
    have HGK := zh hgk
    clear hgk
    go_wp2_with fail
    refine (rg_fail _ _ _ (uh HY) (uh HGK)).mono ?_
    rintro e w2 ⟨i2,n2,s2,t2,rfl,hb2⟩
    go_wp2
    go_returns
    exact rget_post_bad place l w _ 1 (uh HC) (by decide) (((uh HBEL).trans (hb2.mono hsz)).alloc (by have := hb2.size; omega) _)
   ·have hr := (uh HY).range
    obtain ⟨hg1,hg2,-,-⟩ := gok_le (L.drop A) hr hgk
    rw [uh HLA] at hg2
    have HTX := zh (gpr_txo (L.drop A) hr hgk)
    have HPY := zh (parse_yes (L.drop A) (uh HNE) hr hgk)
    have HG1 := zh (rg_good _ (L.drop A) _ (uh HY) hgk)
    clear hr hgk
    generalize hz : gsz (L.drop A) = z at hg1 hg2 HPY HG1
    clear hz
    obtain ⟨id,M,s,t,hp⟩ : ∃ id M s t,gpr (L.drop A) = (id,M,s,t) := ⟨_,_,_,_,rfl⟩
    rw [hp] at HTX HPY HG1
    clear hp
    have HP2 : Hid (parse L = (parse (L.drop (A + z))).map ((d ++ [(id,M,s,t)]) ++ ·)) := by
     show _ = _
     rw [uh HPA,uh HPY,Option.map_map,List.drop_drop]
     congr 1
     funext x
     simp
    clear HPY HPA
    go_wp2_with fail
    refine (uh HG1).mono ?_
    rintro e w2 ⟨rfl,hb2⟩
    have HB2 : Hid (Below w.heap.size w w2) := (uh HBEL).trans (hb2.mono hsz)
    have hs2 := (uh HB2).size
    have HOWN2 : Hid (w2.ownsRow w.heap.size 120 4 u10 k (pcs d)) := owns_below (uh HOWN) hb2
    have HSM2 : Hid (Small (d ++ [(id,M,s,t)])) := small_snoc d _ (uh HSM) (uh HTX).2.1 (uh HTX).2.2
    have HLEN2 : Hid ((d ++ [(id,M,s,t)]).length = k + 1) := by show _ = _; rw [List.length_append,uh HD]; rfl
    clear hb2 HOWN HBEL HG1 HTX HSM
    have HSIZE : Hid ((w2.alloc (.cells #[.int .i64 id,.int .i64 M,.string s,.string t] 120)).heap.size = w2.heap.size + 1) := by show _ = _; simp
    have HFC := zh (four_cell (w2.alloc (.cells #[.int .i64 id,.int .i64 M,.string s,.string t] 120)) (.int .i64 id) (.int .i64 M) (.string s) (.string t) 120)
    rw [uh HSIZE] at HFC
    go_wp2_with (first
     | (at_builtin; refine wpList_append_own _ rfl _ _ 24 rfl w.heap.size 120 i0 _ 4 48 Tryz.underlying24 hi hz0 hz1 hz2 rfl (by decide) _ _ _ rfl (((uh HOWN2).alloc _).alloc _) ⟨w2.heap.size + 1,0,none⟩ 1 1 [.int .i64 id,.int .i64 M,.string s,.string t] rfl rfl (uh HFC) (four_one _ _ _ _) (by unfold maxLen; omega) (by omega) (by simp; omega) ?_)
     | go_in)
    intro v4 w4 hown4 hgrow4 _
    have HB4 : Hid (Below w.heap.size w w4) := (((uh HB2).alloc hs2 _).alloc (by simp; omega) _).grown hgrow4 (by simp; omega) (fun g hg => by have := ((uh HOWN2).lt g hg).1; omega)
    have HOWN4 : Hid (w4.ownsRow w.heap.size 120 4 v4 (k + 1) (pcs (d ++ [(id,M,s,t)]))) := by
     show World.ownsRow _ _ _ _ _ _ _
     rw [pcs_app]
     exact hown4
    clear hown4 hgrow4 HOWN2 HFC HSIZE HB2
    go_wp2
    go_roundw
    case rel => exact ⟨_,_,k + 1,A + z,rfl,by go_num,by omega,by omega,HLEN2,HP2,HSM2,HOWN4,uh HB4⟩
    case measure => simp [intOf]; omega
  ·obtain rfl : A = N := by omega
   have HPS : Hid (parse L = some d) := by
    have := uh HPA
    rw [List.drop_of_length_le (by rw [uh HLL]; exact Nat.le_refl _),parse_nil] at this
    show parse L = some d
    simpa using this
   have HPR : Hid (Prp wr u10 d) := prp_of_owns (by rw [uh HD]; exact uh HOWN)
   have HRD : Hid (pgt place l = chkP place d) := (uh HP).trans (rdn_some place L d (uh HPS))
   have HBEL := zh hbel
   have HCK := zh (rchk_use u10 d place wr (uh HPR) (by rw [uh HD]; omega) (uh HSM))
   clear hbel HPA
   by_cases hc0 : chkP place d = 0
   ·have HLS := zh ((uh HSZ) d (uh HPS) ((uh HRD).trans hc0))
    have HC : Hid (pgt place l = 0) := (uh HRD).trans hc0
    rw [hc0] at HCK
    clear hc0 HRD
    go_wp2_with fail
    refine (uh HCK).mono ?_
    rintro e w2 ⟨rfl,hb2⟩
    have HB2 : Hid (Below w.heap.size w w2) := (uh HBEL).trans (hb2.mono hsz)
    have HOW2 : Hid (w2.ownsRow w.heap.size 120 4 u10 k (pcs d)) := owns_below (uh HOWN) hb2
    clear HOWN
    clear hb2
    go_wp2
    go_returns
    refine ⟨_,by rw [(uh HLS).2,uh HC]; exact (by go_num),?_,uh HB2⟩
    show World.ownsRow _ _ _ _ _ _ _
    rw [(uh HLS).1,uh HD]
    exact uh HOW2
   ·generalize hm : chkP place d = m at HCK hc0 HRD
    clear hm HOWN
    go_wp2_with fail
    refine (uh HCK).mono ?_
    rintro e w2 ⟨rfl,hb2⟩
    go_wp2
    go_returns
    exact rget_post_bad place l w _ m (uh HRD) hc0 ((uh HBEL).trans (hb2.mono hsz))
theorem rGet_own (v : Value) (l : List Int) (place : Int) (w : World) (h : Byt w v l) : Calls Tryz.prog 170 #[v,.int .i64 place] w (RGetPost2 place l w) := by
 by_cases hv : (V.vget l).2.2 = 0
 ·rcases Nat.lt_or_ge l.length (ghd l + (gid l).toNat) with hs | hs
  ·exact rGet_short v l place w h hv hs
  ·exact rGet_read v l place w h hv hs
 ·exact rGet_bad1 v l place w h hv
end Go.Proofs.YtpoeakillimibaaGreatDoor
namespace Go.Proofs.YtpoeakillimibaaGreatDoor.K
open Go.RowKit
set_option maxRecDepth 100000
theorem wpList_append_run (w : World) {ops : Array Oper} {rest : List Oper} {o : Oper} {a : Act} {Q : Exit -> Act -> World -> Prop} {Z : Value -> World -> Prop} (hgd : o.guard = none) (s x : Operand) (t u : TypeId)
  (ho : o.op = .call { callee := .builtin .append,args := #[s,x],argTypes := #[t,u] }) (v vx : Value) (hs : a.eval s = v) (hx : a.eval x = vx)
  (hr : ∃ v' w',(Builtin.append_ #[t,u] o.type #[v,vx]).run Tryz.prog w = .ok v' w' /\ Z v' w')
  (h : ∀ v' w',Z v' w' -> wpList Tryz.prog ops Q rest (a.put o.dst v') w') : wpList Tryz.prog ops Q (o :: rest) a w := by
 refine wpList_plain hgd fun K hK => ?_
 obtain ⟨v',w',hr,h2⟩ := hr
 unfold Oper.wp execOp
 simp only [ho,resolve,invoke,builtin,Sem.run_bind,Sem.run_pure,Result.andThen_ok,List.map_toArray,List.map_cons,List.map_nil,hs,hx,hr]
 exact hK _ _ (h v' w' h2)
theorem eqp_any (va vb : Value) (l m : List Pr) (w : World) (ha : Prp w va l) (hb : Prp w vb m) (hmx : l.length <= 1000000000) :
  Calls Tryz.prog 64 #[va,vb] w fun e w' => (∃ b,e = .returned (.bool b) /\ (b = true ↔ l = m)) /\ ∃ k,w' = w.drewN k := by
 obtain ⟨ao,ca,rfl,ha⟩ := ha
 obtain ⟨bo,cb,rfl,hb⟩ := hb
 by_cases hl : l.length = m.length
 ·rcases ha with rfl | ⟨ba,oa,rfl,hca⟩
  ·obtain rfl : m = [] := List.length_eq_zero_iff.1 hl.symm
   refine (eqp_nil _ _ _ _ _).mono ?_
   rintro e w' ⟨rfl,rfl⟩
   exact ⟨⟨true,rfl,by simp⟩,0,rfl⟩
  ·rcases hb with rfl | ⟨bb,ob,rfl,hcb⟩
   ·obtain rfl : l = [] := List.length_eq_zero_iff.1 hl
    refine (eqp_nil _ _ _ _ _).mono ?_
    rintro e w' ⟨rfl,rfl⟩
    exact ⟨⟨true,rfl,by simp⟩,0,rfl⟩
   ·rw [<- hl]
    refine (eqp_core ba oa bb ob ca cb l m l.length w rfl hl.symm hmx hca hcb).mono ?_
    rintro e w' ⟨⟨b,rfl,hbb⟩,k,rfl⟩
    exact ⟨⟨b,rfl,hbb.trans ⟨fun h => at0_ext hl h,fun h j _ => by rw [h]⟩⟩,k,rfl⟩
 ·refine (eqp_len ao bo l.length m.length ca cb w hl).mono ?_
  rintro e w' ⟨rfl,rfl⟩
  exact ⟨⟨false,rfl,by constructor; (intro h; cases h); (intro h; exact absurd (by rw [h]) hl)⟩,0,rfl⟩
end Go.Proofs.YtpoeakillimibaaGreatDoor.K
