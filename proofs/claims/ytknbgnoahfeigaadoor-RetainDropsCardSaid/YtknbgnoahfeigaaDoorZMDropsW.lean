/- Proved here: the walk of dovecotelaw8.RetainDrops: at any asks it returns true. -/
import Derived.Test.YtknbgnoahfeigaaDoorZMAk
namespace Go.Proofs.YtknbgnoahfeigaaDoor.M
open Go.RowKit
set_option maxRecDepth 100000

set_option maxHeartbeats 16000000 in
theorem drops_walk (b off len cap : Nat) (aks : Nat → Ak) (w : World) (hlen : len ≤ maxLen) (hg : Laid w) (hk : AsksIn w b off aks len) : Calls Tryd.prog 4 #[.slice (some ⟨b, off, none⟩) len cap] w fun e w' => e = .returned (.bool true) ∧ Below w.heap.size w w' := by
  have HG := hide hg
  have HA := hide hk
  clear hg hk
  go_enter Tryd.func4, Tryd.ntmps4
  go_wp2
  go_loopw [3] (fun i wr => ∃ k : Nat, k ≤ len ∧ k ≤ 6 ∧ i = .int .i64 k ∧ Hid (Below w.heap.size w wr)) (fun i _ => 6 - (intOf i).toNat)
  case atStart => exact ⟨0, Nat.zero_le _, by omega, rfl, Below.refl _ _⟩
  case round =>
    obtain ⟨k, hk, hk6, rfl, HBEL⟩ := hrel
    have HGr := hide (lup (unhide HG) (unhide HBEL))
    by_cases hlt : k < len ∧ k < 6
    · obtain ⟨hlt, hlt6⟩ := hlt
      obtain ⟨lo, lc, mo, mc, hc, hl, hp, htop, hmt, hft, hll⟩ := ((unhide HA) k hlt).below (unhide HBEL)
      generalize aks k = ak at hc hl hp htop hmt hft hll
      obtain ⟨l, m, f, now⟩ := ak
      dsimp only at hc hl hp htop hmt hft hll
      have HCC := hide hc
      obtain ⟨c0, c1, c2, c3, c4, c5, c6, c7, c8, c9⟩ := hc
      have HL := hide hl
      have HP := hide hp
      have HTP := hide htop
      have HMT := hide hmt
      have HHV := hide (heavy_any l lo lc m mo mc f now wr hp hl hll)
      clear hl hp htop hmt hft
      go_wp2_with fail
      refine (unhide HHV).mono ?_
      clear HHV
      rintro e w2 ⟨⟨bo, rfl, hbo⟩, hb2⟩
      cases bo
      case true =>
        clear hbo
        go_wp2
        go_ret
        exact ⟨rfl, bnx (unhide HBEL) hb2⟩
      have h100 := hbo rfl
      have HB2 := hide hb2
      have HBT := hide (bnx (unhide HBEL) hb2)
      have HL2 := hide ((unhide HL).below hb2)
      have HP2 := hide ((unhide HP).below hb2)
      have HG2 := hide (lup (unhide HGr) hb2)
      have hbl : b < wr.heap.size := cell_lt c0
      have HK10 : Hid (∀ W : World, Below w2.heap.size w2 W → (W.cell? ⟨b, off + k * 10, none⟩ = some (.slice lo l.length lc) ∧ W.cell? ⟨b, off + k * 10 + 1, none⟩ = some (.string m.topic) ∧ W.cell? ⟨b, off + k * 10 + 2, none⟩ = some (.string m.payload) ∧ W.cell? ⟨b, off + k * 10 + 3, none⟩ = some (.int .i64 m.qos) ∧ W.cell? ⟨b, off + k * 10 + 4, none⟩ = some (.bool m.ret) ∧ W.cell? ⟨b, off + k * 10 + 5, none⟩ = some (.string m.frm) ∧ W.cell? ⟨b, off + k * 10 + 6, none⟩ = some (.int .i64 m.untl) ∧ W.cell? ⟨b, off + k * 10 + 7, none⟩ = some (.slice mo m.props.length mc) ∧ W.cell? ⟨b, off + k * 10 + 8, none⟩ = some (.string f) ∧ W.cell? ⟨b, off + k * 10 + 9, none⟩ = some (.int .i64 now))) := fun W hW => by
        obtain ⟨d0, d1, d2, d3, d4, d5, d6, d7, d8, d9⟩ := unhide HCC
        have hb3 := bnx hb2 hW
        exact ⟨(hb3.cell hbl).trans d0, (hb3.cell hbl).trans d1, (hb3.cell hbl).trans d2, (hb3.cell hbl).trans d3, (hb3.cell hbl).trans d4, (hb3.cell hbl).trans d5, (hb3.cell hbl).trans d6, (hb3.cell hbl).trans d7, (hb3.cell hbl).trans d8, (hb3.cell hbl).trans d9⟩
      clear hb2 c0 c1 c2 c3 c4 c5 c6 c7 c8 c9 HL HP HCC hbo
      by_cases hm : mayL l
      · go_wp2_with fail
        refine wp_region_noPanic ?_
        refine wp_region_held_drew (S := (fun w' => w'.cell? ⟨b, off + k * 10, none⟩ = some (.slice lo l.length lc) ∧ w'.cell? ⟨b, off + k * 10 + 9, none⟩ = some (.int .i64 now))) (by kernel_rfl) (by have h := (unhide HK10) _ (below_drewN (Below.refl _ _) 1); exact ⟨h.1, h.2.2.2.2.2.2.2.2.2⟩) (fun hHeld => ?_)
        refine rtk 0 (h := ?_)
        refine rtk 1 (h := ?_)
        refine rtk 2 (h := ?_)
        refine rtk 3 (h := ?_)
        refine rtk 4 (h := ?_)
        refine rtk 5 (h := ?_)
        refine rtk 6 (h := ?_)
        refine rtk 7 (h := ?_)
        refine rtk 8 (h := ?_)
        refine rtk 9 (h := ?_)
        refine rcl 10 (h := fun K hK => ?_)
        go_simp
        refine (drop_yes _ l now _ hm (by omega) (unhide HTP) ((unhide HL2).below (below_drewN (Below.refl _ _) 1))).mono ?_
        rintro e w3 ⟨v3, qs, rfl, HO3, hb3⟩
        have HB3 : Hid (Below w2.heap.size w2 w3) := (below_drewN (Below.refl _ _) 1).trans hb3
        clear hb3
        refine hK.out _ _ (by have h := (unhide HK10) _ (unhide HB3); exact ⟨h.1, h.2.2.2.2.2.2.2.2.2⟩) (fun hHeld => ?_)
        clear hK K
        refine rtk 11 (h := ?_)
        refine rtk 12 (h := ?_)
        refine rtk 13 (h := ?_)
        refine rcl 14 (h := fun K hK => ?_)
        go_simp
        refine hK.out _ _ (by have h := (unhide HK10) _ (unhide HB3); exact ⟨h.1, h.2.2.2.2.2.2.2.2.2⟩) (fun hHeld => ?_)
        clear hK K
        refine rcl 15 (h := fun K hK => ?_)
        go_simp
        refine hK.out _ _ (by have h := (unhide HK10) _ (unhide HB3); exact ⟨h.1, h.2.2.2.2.2.2.2.2.2⟩) (fun hHeld => ?_)
        clear hK K
        refine wpAnyH_done (by kernel_rfl) ?_ _
        refine NoPanic.normal ?_
        have c0 := ((unhide HK10) _ (unhide HB3)).1
        have HM3 : Hid (Mgs w3 v3 (l.filter (liv now))) := by have h := (unhide HO3).1.mgs; rw [(unhide HO3).2] at h; exact h
        clear HO3
        go_wp2_with fail
        refine (rmsgs_is _ l true _ (by simp [hm]) (by omega) (unhide HTP) ((unhide HL2).below (unhide HB3))).mono ?_
        rintro e w4 ⟨rfl, hb4⟩
        have HB4 := hide hb4
        have c9 := ((unhide HK10) _ (bnx (unhide HB3) hb4)).2.2.2.2.2.2.2.2.2
        clear c0
        go_wp2_with fail
        refine (drop_yes _ (l.filter (liv now)) now _ (may_filter hm _) (by have := len_filter l (liv now); omega) (top_filter (unhide HTP) _) ((unhide HM3).below hb4)).mono ?_
        rintro e w5 ⟨v5, q5, rfl, HO5, hb5⟩
        have HM5b : Hid (Mgs w5 v5 (l.filter (liv now))) := by have h := (unhide HO5).1.mgs; rw [(unhide HO5).2, filt_filt] at h; exact h
        have HM5 := hide (((unhide HM3).below hb4).below hb5)
        have HB5 := hide hb5
        have HB25 := hide (bnx (bnx (unhide HB3) hb4) hb5)
        have HG5 := hide (lup (unhide HG2) (unhide HB25))
        have HG5d : Hid (Laid w5.drew) := unhide HG5
        clear hb4 hb5 HO5 c9
        go_wp2_with fail
        refine wp_region_noPanic ?_
        refine wp_region_held_drew (S := (fun w' => w'.cell? ⟨b, off + k * 10, none⟩ = some (.slice lo l.length lc) ∧ w'.cell? ⟨b, off + k * 10 + 9, none⟩ = some (.int .i64 now))) (by kernel_rfl) (by have h := (unhide HK10) _ (bnx (bnx (bnx (unhide HB3) (unhide HB4)) (unhide HB5)) (below_drewN (Below.refl _ _) 1)); exact ⟨h.1, h.2.2.2.2.2.2.2.2.2⟩) (fun hHeld => ?_)
        refine rtk 0 (h := ?_)
        refine rcl 1 (h := fun K hK => ?_)
        go_simp
        refine (num8_nil _ (unhide HG5d)).mono ?_
        rintro e w6 ⟨rfl, hb6⟩
        have HB6 : Hid (Below w5.heap.size w5 w6) := (below_drewN (Below.refl _ _) 1).trans hb6
        clear hb6
        refine hK.out _ _ (by have h := (unhide HK10) _ (bnx (unhide HB25) (unhide HB6)); exact ⟨h.1, h.2.2.2.2.2.2.2.2.2⟩) (fun hHeld => ?_)
        clear hK K
        refine rtk 2 (h := ?_)
        refine rtk 3 (h := ?_)
        refine rtk 4 (h := ?_)
        refine rtk 5 (h := ?_)
        refine rtk 6 (h := ?_)
        refine rtk 7 (h := ?_)
        refine rtk 8 (h := ?_)
        refine rtk 9 (h := ?_)
        refine rtk 10 (h := ?_)
        refine rtk 11 (h := ?_)
        refine rtk 12 (h := ?_)
        refine rtk 13 (h := ?_)
        refine rtk 14 (h := ?_)
        refine rcl 15 (h := fun K hK => ?_)
        go_simp
        refine (rdrop_any _ l now _ (by omega) ((unhide HL2).below (bnx (unhide HB25) (unhide HB6)))).mono ?_
        rintro e w7 ⟨v7, q7, rfl, HO7, hb7⟩
        have HB7 := hide (bnx (unhide HB6) hb7)
        have HM7 : Hid (Mgs w7 v7 (l.filter (liv now))) := by have h := (unhide HO7).1.mgs; rw [(unhide HO7).2] at h; exact h
        clear hb7 HO7
        refine hK.out _ _ (by have h := (unhide HK10) _ (bnx (unhide HB25) (unhide HB7)); exact ⟨h.1, h.2.2.2.2.2.2.2.2.2⟩) (fun hHeld => ?_)
        clear hK K
        refine rcl 16 (h := fun K hK => ?_)
        go_simp
        refine (eqms_same _ _ (l.filter (liv now)) _ ((unhide HM5).below (unhide HB7)) (unhide HM7) (by have := len_filter l (liv now); omega)).mono ?_
        rintro e w8 ⟨rfl, hb8⟩
        have HB8 := hide (bnx (unhide HB7) hb8)
        clear hb8
        refine hK.out _ _ (by have h := (unhide HK10) _ (bnx (unhide HB25) (unhide HB8)); exact ⟨h.1, h.2.2.2.2.2.2.2.2.2⟩) (fun hHeld => ?_)
        clear hK K
        refine rtk 17 (h := ?_)
        refine rtk 18 (h := ?_)
        refine rtk 19 (h := ?_)
        refine rtk 20 (h := ?_)
        refine rcl 21 (h := fun K hK => ?_)
        go_simp
        refine (num8_nil _ (lup (unhide HG5) (unhide HB8))).mono ?_
        rintro e w9 ⟨rfl, hb9⟩
        have HB9 := hide (bnx (unhide HB8) hb9)
        clear hb9
        refine hK.out _ _ (by have h := (unhide HK10) _ (bnx (unhide HB25) (unhide HB9)); exact ⟨h.1, h.2.2.2.2.2.2.2.2.2⟩) (fun hHeld => ?_)
        clear hK K
        refine rtk 22 (h := ?_)
        refine rtk 23 (h := ?_)
        refine rtk 24 (h := ?_)
        refine rtk 25 (h := ?_)
        refine rtk 26 (h := ?_)
        refine rcl 27 (h := fun K hK => ?_)
        go_simp
        refine (eqms_same _ _ (l.filter (liv now)) _ ((unhide HM5).below (unhide HB9)) ((unhide HM5b).below (unhide HB9)) (by have := len_filter l (liv now); omega)).mono ?_
        rintro e w10 ⟨rfl, hb10⟩
        have HB10 := hide (bnx (unhide HB9) hb10)
        clear hb10
        refine hK.out _ _ (by have h := (unhide HK10) _ (bnx (unhide HB25) (unhide HB10)); exact ⟨h.1, h.2.2.2.2.2.2.2.2.2⟩) (fun hHeld => ?_)
        clear hK K
        refine rtk 28 (h := ?_)
        refine rtk 29 (h := ?_)
        refine wpAnyH_done (by kernel_rfl) ?_ _
        refine NoPanic.normal ?_
        have HBF := hide (bnx (unhide HBT) (bnx (unhide HB25) (unhide HB10)))
        go_wp2
        go_roundw
        case rel => exact ⟨k + 1, by omega, by omega, by go_num, HBF⟩
        case measure => simp [intOf] <;> omega
      · go_wp2_with fail
        refine wp_region_noPanic ?_
        refine wp_region_held_drew (S := (fun w' => w'.cell? ⟨b, off + k * 10, none⟩ = some (.slice lo l.length lc) ∧ w'.cell? ⟨b, off + k * 10 + 9, none⟩ = some (.int .i64 now))) (by kernel_rfl) (by have h := (unhide HK10) _ (below_drewN (Below.refl _ _) 1); exact ⟨h.1, h.2.2.2.2.2.2.2.2.2⟩) (fun hHeld => ?_)
        refine rtk 0 (h := ?_)
        refine rtk 1 (h := ?_)
        refine rtk 2 (h := ?_)
        refine rtk 3 (h := ?_)
        refine rtk 4 (h := ?_)
        refine rtk 5 (h := ?_)
        refine rtk 6 (h := ?_)
        refine rtk 7 (h := ?_)
        refine rtk 8 (h := ?_)
        refine rtk 9 (h := ?_)
        refine rcl 10 (h := fun K hK => ?_)
        go_simp
        refine (drop_no _ l now _ hm (by omega) (unhide HTP) ((unhide HL2).below (below_drewN (Below.refl _ _) 1))).mono ?_
        rintro e w3 ⟨x, rfl, HX, hb3⟩
        have HB3 : Hid (Below w2.heap.size w2 w3) := (below_drewN (Below.refl _ _) 1).trans hb3
        clear hb3
        refine hK.out _ _ (by have h := (unhide HK10) _ (unhide HB3); exact ⟨h.1, h.2.2.2.2.2.2.2.2.2⟩) (fun hHeld => ?_)
        clear hK K
        refine rtk 11 (h := ?_)
        refine rtk 12 (h := ?_)
        refine rtk 13 (h := ?_)
        refine rcl 14 (h := fun K hK => ?_)
        go_simp
        refine hK.out _ _ (by have h := (unhide HK10) _ (unhide HB3); exact ⟨h.1, h.2.2.2.2.2.2.2.2.2⟩) (fun hHeld => ?_)
        clear hK K
        refine rcl 15 (h := fun K hK => ?_)
        go_simp
        refine hK.out _ _ (by have h := (unhide HK10) _ (unhide HB3); exact ⟨h.1, h.2.2.2.2.2.2.2.2.2⟩) (fun hHeld => ?_)
        clear hK K
        refine wpAnyH_done (by kernel_rfl) ?_ _
        refine NoPanic.normal ?_
        have c0 := ((unhide HK10) _ (unhide HB3)).1
        go_wp2_with fail
        refine (rmsgs_is _ l false _ (by simp [hm]) (by omega) (unhide HTP) ((unhide HL2).below (unhide HB3))).mono ?_
        rintro e w4 ⟨rfl, hb4⟩
        have HX4 := hide ((unhide HX).below hb4)
        have HG4 := hide (lup (lup (unhide HG2) (unhide HB3)) hb4)
        have HB4 := hide (bnx (bnx (unhide HBT) (unhide HB3)) hb4)
        clear hb4
        go_wp2_with fail
        refine (num8_era _ 1 _ (unhide HG4) (unhide HX4)).mono ?_
        rintro e w5 ⟨rfl, hb5⟩
        have HBF := hide (bnx (unhide HB4) hb5)
        clear hb5
        go_wp2
        go_roundw
        case rel => exact ⟨k + 1, by omega, by omega, by go_num, HBF⟩
        case measure => simp [intOf] <;> omega
    · have hx : ¬ (k < len ∧ k < 6) := hlt
      by_cases h1 : k < len
      · obtain rfl : k = 6 := by omega
        go_wp2_with (go_at_call 11; refine (wakes8 _ (unhide HGr)).mono ?_; rintro e w2 ⟨rfl, hb2⟩)
        go_ret
        exact ⟨rfl, bnx (unhide HBEL) hb2⟩
      · obtain rfl : k = len := by omega
        go_wp2_with (go_at_call 11; refine (wakes8 _ (unhide HGr)).mono ?_; rintro e w2 ⟨rfl, hb2⟩)
        go_ret
        exact ⟨rfl, bnx (unhide HBEL) hb2⟩
theorem drops_walk0 (ao : Option Addr) (cap : Nat) (w : World) (hg : Laid w) : Calls Tryd.prog 4 #[.slice ao 0 cap] w fun e w' => e = .returned (.bool true) ∧ Below w.heap.size w w' := by
  go_enter Tryd.func4, Tryd.ntmps4
  go_wp2
  go_loop [3] (fun i => i = .int .i64 0) (fun _ => 0)
  case atStart => rfl
  case round =>
    subst hrel
    go_wp2_with (go_at_call 11; refine (wakes8 _ hg).mono ?_; rintro e w2 ⟨rfl, hb2⟩)
    go_ret
    exact ⟨rfl, hb2⟩
end Go.Proofs.YtknbgnoahfeigaaDoor.M
