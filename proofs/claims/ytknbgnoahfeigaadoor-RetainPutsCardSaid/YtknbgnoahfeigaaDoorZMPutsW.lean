/- Proved here: the walk of dovecotelaw8.RetainPuts: at any asks it returns true. -/
import Derived.Test.YtknbgnoahfeigaaDoorZMAk
import Derived.Test.YtknbgnoahfeigaaDoorZMRPut
namespace Go.Proofs.YtknbgnoahfeigaaDoor.M
open Go.RowKit
set_option maxRecDepth 100000

theorem rput_yes (v : Value) (l : List Mg) (m : Mg) (mo : Option Addr) (mc : Nat) (k : Nat) (w : World) (hm : mayL l) (hk : At l m.topic k) (hmx : l.length ≤ 1000000) (h : Mgs w v l) (hp : Pok w mo mc m.props) (hts : m.topic.size ≤ 140737488351232) :
    Calls Tryd.prog 9 #[v, mval m (.slice mo m.props.length mc)] w fun e w' => ∃ v' qs, e = .returned (.tuple #[v', .int .i64 (putN l m k)]) ∧ Hid (OwnMs w' w.heap.size v' qs ∧ qs.map (·.1) = putA l m k) ∧ Below w.heap.size w w' := by
  refine (rput_any v l m mo mc w hmx hm h hp hts).mono ?_
  rintro e w' ⟨⟨hn, rfl⟩ | ⟨hn, k', HAT, ⟨h0, v', qs, rfl, HO⟩ | ⟨h9, rfl⟩⟩, hb⟩
  · have e5 : putN l m k = 5 := by unfold putN; rw [if_neg (by rw [hn]; simp)]
    exact ⟨_, [], by rw [e5], ⟨OwnMs.nil _ _, by unfold putA; rw [e5]; rfl⟩, hb⟩
  · obtain rfl := (unhide HAT).uniq hk
    exact ⟨v', qs, by rw [h0], ⟨(unhide HO).1, by unfold putA; rw [if_pos h0]; exact (unhide HO).2⟩, hb⟩
  · obtain rfl := (unhide HAT).uniq hk
    exact ⟨_, [], by rw [h9], ⟨OwnMs.nil _ _, by unfold putA; rw [h9]; rfl⟩, hb⟩
theorem putA_len (l : List Mg) (m : Mg) (k : Nat) : (putA l m k).length ≤ l.length + 1 := by
  unfold putA
  split
  · unfold putL
    have h2 : (wrt m).length ≤ 1 := by unfold wrt; split <;> simp
    split
    · simp only [List.length_append, List.length_take, List.length_drop]; omega
    · simp only [List.length_append, List.length_take, List.length_drop]; omega
  · simp
set_option maxHeartbeats 16000000 in
theorem puts_walk (b off len cap : Nat) (aks : Nat → Ak) (w : World) (hlen : len ≤ maxLen) (hg : Laid w) (hk : AsksIn w b off aks len) : Calls Tryd.prog 3 #[.slice (some ⟨b, off, none⟩) len cap] w fun e w' => e = .returned (.bool true) ∧ Below w.heap.size w w' := by
  have HG := hide hg
  have HA := hide hk
  clear hg hk
  go_enter Tryd.func3, Tryd.ntmps3
  go_wp2
  go_loopw [3] (fun i wr => ∃ k : Nat, k ≤ len ∧ k ≤ 6 ∧ i = .int .i64 k ∧ Hid (Below w.heap.size w wr)) (fun i _ => 6 - (intOf i).toNat)
  case atStart => exact ⟨0, Nat.zero_le _, by omega, rfl, Below.refl _ _⟩
  case round =>
    obtain ⟨k, hk, hk6, rfl, HBEL⟩ := hrel
    have HGr := hide (lup (unhide HG) (unhide HBEL))
    by_cases hlt : k < len ∧ k < 6
    · obtain ⟨hlt, hlt6⟩ := hlt
      obtain ⟨lo, lc, mo, mc, hc, hl, hp, htop, hmt, hft, hll⟩ := ((unhide HA) k hlt).below (unhide HBEL)
      generalize aks k = ak at hc hl hp htop hmt hft hll
      obtain ⟨l, m, f, now⟩ := ak
      dsimp only at hc hl hp htop hmt hft hll
      have HCC := hide hc
      obtain ⟨c0, c1, c2, c3, c4, c5, c6, c7, c8, c9⟩ := hc
      have HL := hide hl
      have HP := hide hp
      have HTP := hide htop
      have HMT := hide hmt
      have HHV := hide (heavy_any l lo lc m mo mc f now wr hp hl hll)
      clear hl hp htop hmt hft
      go_wp2_with fail
      refine (unhide HHV).mono ?_
      clear HHV
      rintro e w2 ⟨⟨bo, rfl, hbo⟩, hb2⟩
      cases bo
      case true =>
        clear hbo
        go_wp2
        go_ret
        exact ⟨rfl, bnx (unhide HBEL) hb2⟩
      have h100 := hbo rfl
      have HB2 := hide hb2
      have HBT := hide (bnx (unhide HBEL) hb2)
      have HL2 := hide ((unhide HL).below hb2)
      have HP2 := hide ((unhide HP).below hb2)
      have HG2 := hide (lup (unhide HGr) hb2)
      have hbl : b < wr.heap.size := cell_lt c0
      have HK10 : Hid (∀ W : World, Below w2.heap.size w2 W → (W.cell? ⟨b, off + k * 10, none⟩ = some (.slice lo l.length lc) ∧ W.cell? ⟨b, off + k * 10 + 1, none⟩ = some (.string m.topic) ∧ W.cell? ⟨b, off + k * 10 + 2, none⟩ = some (.string m.payload) ∧ W.cell? ⟨b, off + k * 10 + 3, none⟩ = some (.int .i64 m.qos) ∧ W.cell? ⟨b, off + k * 10 + 4, none⟩ = some (.bool m.ret) ∧ W.cell? ⟨b, off + k * 10 + 5, none⟩ = some (.string m.frm) ∧ W.cell? ⟨b, off + k * 10 + 6, none⟩ = some (.int .i64 m.untl) ∧ W.cell? ⟨b, off + k * 10 + 7, none⟩ = some (.slice mo m.props.length mc) ∧ W.cell? ⟨b, off + k * 10 + 8, none⟩ = some (.string f) ∧ W.cell? ⟨b, off + k * 10 + 9, none⟩ = some (.int .i64 now))) := fun W hW => by
        obtain ⟨d0, d1, d2, d3, d4, d5, d6, d7, d8, d9⟩ := unhide HCC
        have hb3 := bnx hb2 hW
        exact ⟨(hb3.cell hbl).trans d0, (hb3.cell hbl).trans d1, (hb3.cell hbl).trans d2, (hb3.cell hbl).trans d3, (hb3.cell hbl).trans d4, (hb3.cell hbl).trans d5, (hb3.cell hbl).trans d6, (hb3.cell hbl).trans d7, (hb3.cell hbl).trans d8, (hb3.cell hbl).trans d9⟩
      clear hb2 c0 c1 c2 c3 c4 c5 c6 c7 c8 c9 HL HP HCC hbo
      by_cases hm : mayL l
      · obtain ⟨kk, hat⟩ := at_ex hm m.topic
        have HAT := hide hat
        clear hat
        go_wp2_with fail
        refine wp_region_noPanic ?_
        refine wp_region_held_drew (S := (fun w' => w'.cell? ⟨b, off + k * 10, none⟩ = some (.slice lo l.length lc) ∧ w'.cell? ⟨b, off + k * 10 + 1, none⟩ = some (.string m.topic) ∧ w'.cell? ⟨b, off + k * 10 + 1 + 1, none⟩ = some (.string m.payload) ∧ w'.cell? ⟨b, off + k * 10 + 1 + 2, none⟩ = some (.int .i64 m.qos) ∧ w'.cell? ⟨b, off + k * 10 + 1 + 3, none⟩ = some (.bool m.ret) ∧ w'.cell? ⟨b, off + k * 10 + 1 + 4, none⟩ = some (.string m.frm) ∧ w'.cell? ⟨b, off + k * 10 + 1 + 5, none⟩ = some (.int .i64 m.untl) ∧ w'.cell? ⟨b, off + k * 10 + 1 + 6, none⟩ = some (.slice mo m.props.length mc))) (by kernel_rfl) (by have h := (unhide HK10) _ (below_drewN (Below.refl _ _) 1); exact ⟨h.1, h.2.1, h.2.2.1, h.2.2.2.1, h.2.2.2.2.1, h.2.2.2.2.2.1, h.2.2.2.2.2.2.1, h.2.2.2.2.2.2.2.1⟩) (fun hHeld => ?_)
        refine rtk 0 (h := ?_)
        refine rtk 1 (h := ?_)
        refine rtk 2 (h := ?_)
        refine rtk 3 (h := ?_)
        refine rtk 4 (h := ?_)
        refine rtk 5 (h := ?_)
        refine rtk 6 (h := ?_)
        refine rtk 7 (h := ?_)
        refine rtk 8 (h := ?_)
        refine rtk 9 (h := ?_)
        refine rcl 10 (h := fun K hK => ?_)
        go_simp
        refine (put_yes _ l m mo mc kk _ hm (unhide HAT) (by omega) (unhide HTP) ((unhide HL2).below (below_drewN (Below.refl _ _) 1)) ((unhide HP2).below (below_drewN (Below.refl _ _) 1)) (unhide HMT)).mono ?_
        rintro e w3 ⟨v3, E3, qs, rfl, HE3, HO3, hb3⟩
        have HB3 : Hid (Below w2.heap.size w2 w3) := (below_drewN (Below.refl _ _) 1).trans hb3
        clear hb3
        refine hK.out _ _ (by have h := (unhide HK10) _ (unhide HB3); exact ⟨h.1, h.2.1, h.2.2.1, h.2.2.2.1, h.2.2.2.2.1, h.2.2.2.2.2.1, h.2.2.2.2.2.2.1, h.2.2.2.2.2.2.2.1⟩) (fun hHeld => ?_)
        clear hK K
        refine rtk 11 (h := ?_)
        refine rtk 12 (h := ?_)
        refine rtk 13 (h := ?_)
        refine rcl 14 (h := fun K hK => ?_)
        go_simp
        refine hK.out _ _ (by have h := (unhide HK10) _ (unhide HB3); exact ⟨h.1, h.2.1, h.2.2.1, h.2.2.2.1, h.2.2.2.2.1, h.2.2.2.2.2.1, h.2.2.2.2.2.2.1, h.2.2.2.2.2.2.2.1⟩) (fun hHeld => ?_)
        clear hK K
        refine rcl 15 (h := fun K hK => ?_)
        go_simp
        refine hK.out _ _ (by have h := (unhide HK10) _ (unhide HB3); exact ⟨h.1, h.2.1, h.2.2.1, h.2.2.2.1, h.2.2.2.2.1, h.2.2.2.2.2.1, h.2.2.2.2.2.2.1, h.2.2.2.2.2.2.2.1⟩) (fun hHeld => ?_)
        clear hK K
        refine wpAnyH_done (by kernel_rfl) ?_ _
        refine NoPanic.normal ?_
        have c0 := ((unhide HK10) _ (unhide HB3)).1
        have HM3 : Hid (Mgs w3 v3 (putA l m kk)) := by have h := (unhide HO3).1.mgs; rw [(unhide HO3).2] at h; exact h
        clear HO3
        go_wp2_with fail
        refine (rmsgs_is _ l true _ (by simp [hm]) (by omega) (unhide HTP) ((unhide HL2).below (unhide HB3))).mono ?_
        rintro e w4 ⟨rfl, hb4⟩
        have HB24 := hide (bnx (unhide HB3) hb4)
        have HM4 := hide ((unhide HM3).below hb4)
        have HE4 := hide ((unhide HE3).below hb4)
        clear hb4 c0
        go_wp2_with fail
        refine wp_region_noPanic ?_
        refine wp_region_held_drew (S := (fun w' => w'.cell? ⟨b, off + k * 10, none⟩ = some (.slice lo l.length lc) ∧ w'.cell? ⟨b, off + k * 10 + 1, none⟩ = some (.string m.topic) ∧ w'.cell? ⟨b, off + k * 10 + 1 + 1, none⟩ = some (.string m.payload) ∧ w'.cell? ⟨b, off + k * 10 + 1 + 2, none⟩ = some (.int .i64 m.qos) ∧ w'.cell? ⟨b, off + k * 10 + 1 + 3, none⟩ = some (.bool m.ret) ∧ w'.cell? ⟨b, off + k * 10 + 1 + 4, none⟩ = some (.string m.frm) ∧ w'.cell? ⟨b, off + k * 10 + 1 + 5, none⟩ = some (.int .i64 m.untl) ∧ w'.cell? ⟨b, off + k * 10 + 1 + 6, none⟩ = some (.slice mo m.props.length mc))) (by kernel_rfl) (by have h := (unhide HK10) _ (bnx (unhide HB24) (below_drewN (Below.refl _ _) 1)); exact ⟨h.1, h.2.1, h.2.2.1, h.2.2.2.1, h.2.2.2.2.1, h.2.2.2.2.2.1, h.2.2.2.2.2.2.1, h.2.2.2.2.2.2.2.1⟩) (fun hHeld => ?_)
        refine rtk 0 (h := ?_)
        refine rtk 1 (h := ?_)
        refine rtk 2 (h := ?_)
        refine rtk 3 (h := ?_)
        refine rtk 4 (h := ?_)
        refine rtk 5 (h := ?_)
        refine rtk 6 (h := ?_)
        refine rtk 7 (h := ?_)
        refine rtk 8 (h := ?_)
        refine rtk 9 (h := ?_)
        refine rcl 10 (h := fun K hK => ?_)
        go_simp
        refine (rput_yes _ l m mo mc kk _ hm (unhide HAT) (by omega) ((unhide HL2).below (bnx (unhide HB24) (below_drewN (Below.refl _ _) 1))) ((unhide HP2).below (bnx (unhide HB24) (below_drewN (Below.refl _ _) 1))) (unhide HMT)).mono ?_
        rintro e w5 ⟨v5, q5, rfl, HO5, hb5⟩
        have HB5 : Hid (Below w4.heap.size w4 w5) := (below_drewN (Below.refl _ _) 1).trans hb5
        clear hb5
        refine hK.out _ _ (by have h := (unhide HK10) _ (bnx (unhide HB24) (unhide HB5)); exact ⟨h.1, h.2.1, h.2.2.1, h.2.2.2.1, h.2.2.2.2.1, h.2.2.2.2.2.1, h.2.2.2.2.2.2.1, h.2.2.2.2.2.2.2.1⟩) (fun hHeld => ?_)
        clear hK K
        refine rtk 11 (h := ?_)
        refine rtk 12 (h := ?_)
        refine rtk 13 (h := ?_)
        refine rcl 14 (h := fun K hK => ?_)
        go_simp
        refine hK.out _ _ (by have h := (unhide HK10) _ (bnx (unhide HB24) (unhide HB5)); exact ⟨h.1, h.2.1, h.2.2.1, h.2.2.2.1, h.2.2.2.2.1, h.2.2.2.2.2.1, h.2.2.2.2.2.2.1, h.2.2.2.2.2.2.2.1⟩) (fun hHeld => ?_)
        clear hK K
        refine rcl 15 (h := fun K hK => ?_)
        go_simp
        refine hK.out _ _ (by have h := (unhide HK10) _ (bnx (unhide HB24) (unhide HB5)); exact ⟨h.1, h.2.1, h.2.2.1, h.2.2.2.1, h.2.2.2.2.1, h.2.2.2.2.2.1, h.2.2.2.2.2.2.1, h.2.2.2.2.2.2.2.1⟩) (fun hHeld => ?_)
        clear hK K
        refine wpAnyH_done (by kernel_rfl) ?_ _
        refine NoPanic.normal ?_
        have HM5b : Hid (Mgs w5 v5 (putA l m kk)) := by have h := (unhide HO5).1.mgs; rw [(unhide HO5).2] at h; exact h
        have HM5 := hide ((unhide HM4).below (unhide HB5))
        have HB25 := hide (bnx (unhide HB24) (unhide HB5))
        have HG5 := hide (lup (unhide HG2) (unhide HB25))
        have HE5 := hide ((unhide HE4).below (unhide HB5))
        have HPL := hide (putA_len l m kk)
        generalize putN l m kk = nn at *
        clear HO5
        go_wp2_with fail
        refine (num8 _ nn _ (unhide HG5) (unhide HE5)).mono ?_
        rintro e w6 ⟨rfl, hb6⟩
        have HB6 := hide hb6
        clear hb6
        go_wp2_with fail
        refine (eqms_same _ _ (putA l m kk) _ ((unhide HM5).below (unhide HB6)) ((unhide HM5b).below (unhide HB6)) (by have := unhide HPL; omega)).mono ?_
        rintro e w7 ⟨rfl, hb7⟩
        have HBF := hide (bnx (bnx (bnx (unhide HBT) (unhide HB25)) (unhide HB6)) hb7)
        clear hb7
        go_wp2
        go_roundw
        case rel => exact ⟨k + 1, by omega, by omega, by go_num, HBF⟩
        case measure => simp [intOf] <;> omega
      · go_wp2_with fail
        refine wp_region_noPanic ?_
        refine wp_region_held_drew (S := (fun w' => w'.cell? ⟨b, off + k * 10, none⟩ = some (.slice lo l.length lc) ∧ w'.cell? ⟨b, off + k * 10 + 1, none⟩ = some (.string m.topic) ∧ w'.cell? ⟨b, off + k * 10 + 1 + 1, none⟩ = some (.string m.payload) ∧ w'.cell? ⟨b, off + k * 10 + 1 + 2, none⟩ = some (.int .i64 m.qos) ∧ w'.cell? ⟨b, off + k * 10 + 1 + 3, none⟩ = some (.bool m.ret) ∧ w'.cell? ⟨b, off + k * 10 + 1 + 4, none⟩ = some (.string m.frm) ∧ w'.cell? ⟨b, off + k * 10 + 1 + 5, none⟩ = some (.int .i64 m.untl) ∧ w'.cell? ⟨b, off + k * 10 + 1 + 6, none⟩ = some (.slice mo m.props.length mc))) (by kernel_rfl) (by have h := (unhide HK10) _ (below_drewN (Below.refl _ _) 1); exact ⟨h.1, h.2.1, h.2.2.1, h.2.2.2.1, h.2.2.2.2.1, h.2.2.2.2.2.1, h.2.2.2.2.2.2.1, h.2.2.2.2.2.2.2.1⟩) (fun hHeld => ?_)
        refine rtk 0 (h := ?_)
        refine rtk 1 (h := ?_)
        refine rtk 2 (h := ?_)
        refine rtk 3 (h := ?_)
        refine rtk 4 (h := ?_)
        refine rtk 5 (h := ?_)
        refine rtk 6 (h := ?_)
        refine rtk 7 (h := ?_)
        refine rtk 8 (h := ?_)
        refine rtk 9 (h := ?_)
        refine rcl 10 (h := fun K hK => ?_)
        go_simp
        refine (put_no _ l m mo mc _ hm (by omega) (unhide HTP) ((unhide HL2).below (below_drewN (Below.refl _ _) 1)) ((unhide HP2).below (below_drewN (Below.refl _ _) 1)) (unhide HMT)).mono ?_
        rintro e w3 ⟨x, rfl, HX, hb3⟩
        have HB3 : Hid (Below w2.heap.size w2 w3) := (below_drewN (Below.refl _ _) 1).trans hb3
        clear hb3
        refine hK.out _ _ (by have h := (unhide HK10) _ (unhide HB3); exact ⟨h.1, h.2.1, h.2.2.1, h.2.2.2.1, h.2.2.2.2.1, h.2.2.2.2.2.1, h.2.2.2.2.2.2.1, h.2.2.2.2.2.2.2.1⟩) (fun hHeld => ?_)
        clear hK K
        refine rtk 11 (h := ?_)
        refine rtk 12 (h := ?_)
        refine rtk 13 (h := ?_)
        refine rcl 14 (h := fun K hK => ?_)
        go_simp
        refine hK.out _ _ (by have h := (unhide HK10) _ (unhide HB3); exact ⟨h.1, h.2.1, h.2.2.1, h.2.2.2.1, h.2.2.2.2.1, h.2.2.2.2.2.1, h.2.2.2.2.2.2.1, h.2.2.2.2.2.2.2.1⟩) (fun hHeld => ?_)
        clear hK K
        refine rcl 15 (h := fun K hK => ?_)
        go_simp
        refine hK.out _ _ (by have h := (unhide HK10) _ (unhide HB3); exact ⟨h.1, h.2.1, h.2.2.1, h.2.2.2.1, h.2.2.2.2.1, h.2.2.2.2.2.1, h.2.2.2.2.2.2.1, h.2.2.2.2.2.2.2.1⟩) (fun hHeld => ?_)
        clear hK K
        refine wpAnyH_done (by kernel_rfl) ?_ _
        refine NoPanic.normal ?_
        have c0 := ((unhide HK10) _ (unhide HB3)).1
        go_wp2_with fail
        refine (rmsgs_is _ l false _ (by simp [hm]) (by omega) (unhide HTP) ((unhide HL2).below (unhide HB3))).mono ?_
        rintro e w4 ⟨rfl, hb4⟩
        have HX4 := hide ((unhide HX).below hb4)
        have HG4 := hide (lup (lup (unhide HG2) (unhide HB3)) hb4)
        have HB4 := hide (bnx (bnx (unhide HBT) (unhide HB3)) hb4)
        clear hb4
        go_wp2_with fail
        refine (num8_era _ 1 _ (unhide HG4) (unhide HX4)).mono ?_
        rintro e w5 ⟨rfl, hb5⟩
        have HBF := hide (bnx (unhide HB4) hb5)
        clear hb5
        go_wp2
        go_roundw
        case rel => exact ⟨k + 1, by omega, by omega, by go_num, HBF⟩
        case measure => simp [intOf] <;> omega
    · have hx : ¬ (k < len ∧ k < 6) := hlt
      by_cases h1 : k < len
      · obtain rfl : k = 6 := by omega
        go_wp2_with (go_at_call 11; refine (wakes8 _ (unhide HGr)).mono ?_; rintro e w2 ⟨rfl, hb2⟩)
        go_ret
        exact ⟨rfl, bnx (unhide HBEL) hb2⟩
      · obtain rfl : k = len := by omega
        go_wp2_with (go_at_call 11; refine (wakes8 _ (unhide HGr)).mono ?_; rintro e w2 ⟨rfl, hb2⟩)
        go_ret
        exact ⟨rfl, bnx (unhide HBEL) hb2⟩
theorem puts_walk0 (ao : Option Addr) (cap : Nat) (w : World) (hg : Laid w) : Calls Tryd.prog 3 #[.slice ao 0 cap] w fun e w' => e = .returned (.bool true) ∧ Below w.heap.size w w' := by
  go_enter Tryd.func3, Tryd.ntmps3
  go_wp2
  go_loop [3] (fun i => i = .int .i64 0) (fun _ => 0)
  case atStart => rfl
  case round =>
    subst hrel
    go_wp2_with (go_at_call 11; refine (wakes8 _ hg).mono ?_; rintro e w2 ⟨rfl, hb2⟩)
    go_ret
    exact ⟨rfl, hb2⟩
end Go.Proofs.YtknbgnoahfeigaaDoor.M
