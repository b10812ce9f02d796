/- Proved here: the walk of dovecotelaw9.SumExact: at any asks it returns true. -/
import Derived.Test.YtlomlhnmkhngjaaZCLaw
import Derived.Test.YtlomlhnmkhngjaaZKTk
import Derived.Deep.RegionHeld3
namespace Go.Proofs.Ytlomlhnmkhngjaa.C
open Go.RowKit
set_option maxRecDepth 100000

set_option maxHeartbeats 8000000 in
theorem exact9_walk (b off len cap : Nat) (aks : Nat → Ak) (w : World) (hlen : len ≤ maxLen) (hk : AsksIn w b off aks len) : Calls Try.prog 3 #[.slice (some ⟨b, off, none⟩) len cap] w fun e w' => e = .returned (.bool true) ∧ Below w.heap.size w w' := by
  have HA := hide hk
  clear hk
  go_enter Try.func3, Try.ntmps3
  go_wp2
  go_loopw [3] (fun i wr => ∃ k : Nat, k ≤ len ∧ k ≤ 20 ∧ i = .int .i64 k ∧ Hid (Below w.heap.size w wr)) (fun i _ => 20 - (intOf i).toNat)
  case atStart => exact ⟨0, Nat.zero_le _, by omega, rfl, Below.refl _ _⟩
  case round =>
    obtain ⟨k, hk, hk6, rfl, HBEL⟩ := hrel
    by_cases hlt : k < len ∧ k < 20
    · obtain ⟨hlt, hlt6⟩ := hlt
      obtain ⟨bo, bc, hc, hl, hs, hll⟩ := ((unhide HA) k hlt).below (unhide HBEL)
      generalize aks k = ak at hc hl hs hll
      obtain ⟨s, l, n⟩ := ak
      dsimp only at hc hl hs hll
      have HL := hide hl
      have HCC := hide hc
      obtain ⟨c0, c1, c2⟩ := hc
      clear hl
      by_cases h3 : 3000 < l.length
      · go_wp2
        go_ret
        exact ⟨rfl, unhide HBEL⟩
      go_wp2_with fail
      refine (copy_any _ l _ (unhide HL) hll).mono ?_
      rintro e w2 ⟨v2, rfl, HO2, hb2⟩
      have HB2 := hide hb2
      have hr : ∀ x ∈ l, x < 256 := by obtain ⟨_, _, _, _, h, _⟩ := unhide HL; exact h
      have HLC : Hid (Nbs w2 v2 l) := nbs_of_owns (unhide HO2) hr
      have hbl : b < wr.heap.size := cell_lt c0
      have HK : Hid (∀ W : World, Below wr.heap.size wr W → W.cell? ⟨b, off + k * 3, none⟩ = some (.int .u32 (s : Int)) ∧ W.cell? ⟨b, off + k * 3 + 1, none⟩ = some (.slice bo l.length bc)) := fun W hW => ⟨(hW.cell hbl).trans (unhide HCC).1, (hW.cell hbl).trans (unhide HCC).2.1⟩
      clear hb2 c0 c1 c2 HO2 hr
      go_wp2_with fail
      refine wp_region_noPanic ?_
      refine wp_region_held_drew (S := (fun w' => w'.cell? ⟨b, off + k * 3, none⟩ = some (.int .u32 (s : Int)) ∧ w'.cell? ⟨b, off + k * 3 + 1, none⟩ = some (.slice bo l.length bc))) (by kernel_rfl) ((unhide HK) _ (bnx (unhide HB2) (below_drewN (Below.refl _ _) 1))) (fun hHeld => ?_)
      refine rtk 0 (h := ?_)
      refine rtk 1 (h := ?_)
      refine rtk 2 (h := ?_)
      refine rtk 3 (h := ?_)
      refine rtk 4 (h := ?_)
      refine rtk 5 (h := ?_)
      refine rtk 7 (h := ?_)
      refine rtk 8 (h := ?_)
      refine rtk 9 (h := ?_)
      refine rtk 10 (h := ?_)
      refine rtk 11 (h := ?_)
      refine rtk 12 (h := ?_)
      refine rtk 13 (h := ?_)
      refine rtk 14 (h := ?_)
      refine rtk 15 (h := ?_)
      refine rtk 16 (h := ?_)
      refine rcl 6 (h := fun K hK => ?_)
      go_simp
      refine (sum_any s _ l _ hs ((unhide HLC).below (below_drewN (Below.refl _ _) 1)) hll).mono ?_
      rintro e w3 ⟨rfl, hw3⟩
      have HB3 : Hid (Below w2.heap.size w2 w3) := bnx (below_drewN (Below.refl _ _) 1) hw3
      clear hw3
      refine hK.out _ _ ((unhide HK) _ (bnx (unhide HB2) (unhide HB3))) (fun hHeld => ?_)
      clear hK K
      refine rcl 17 (h := fun K hK => ?_)
      go_simp
      refine (rsum_any s _ l _ hs ((unhide HL).below (bnx (unhide HB2) (unhide HB3))) hll).mono ?_
      rintro e w4 ⟨rfl, hw4⟩
      have HB4 : Hid (Below w2.heap.size w2 w4) := by rw [hw4]; exact unhide HB3
      clear hw4
      refine hK.out _ _ ((unhide HK) _ (bnx (unhide HB2) (unhide HB4))) (fun hHeld => ?_)
      clear hK K
      refine rtk 18 (h := ?_)
      refine rtk 19 (h := ?_)
      refine rtk 20 (h := ?_)
      refine rtk 21 (h := ?_)
      refine rtk 22 (h := ?_)
      refine rtk 23 (h := ?_)
      refine rtk 24 (h := ?_)
      refine rtk 25 (h := ?_)
      refine rcl 26 (h := fun K hK => ?_)
      go_simp
      refine (eq_any _ _ l _ ((unhide HLC).below (unhide HB4)) ((unhide HL).below (bnx (unhide HB2) (unhide HB4))) hll).mono ?_
      rintro e w5 ⟨rfl, hb5⟩
      have HB5 := hide (bnx (unhide HB4) hb5)
      clear hb5
      refine hK.out _ _ ((unhide HK) _ (bnx (unhide HB2) (unhide HB5))) (fun hHeld => ?_)
      clear hK K
      refine rtk 27 (h := ?_)
      refine rtk 28 (h := ?_)
      refine wpAnyH_done (by kernel_rfl) ?_ _
      refine NoPanic.normal ?_
      have HBF := hide (bnx (bnx (unhide HBEL) (unhide HB2)) (unhide HB5))
      go_wp2
      go_roundw
      case rel => exact ⟨k + 1, by omega, by omega, by go_num, HBF⟩
      case measure => simp [intOf] <;> omega
    · by_cases h1 : k < len
      · obtain rfl : k = 20 := by omega
        go_wp2_with (go_at_call 9; refine (wakes9 _).mono ?_; rintro e w2 ⟨rfl, hb2⟩)
        go_ret
        exact ⟨rfl, bnx (unhide HBEL) hb2⟩
      · obtain rfl : k = len := by omega
        go_wp2_with (go_at_call 9; refine (wakes9 _).mono ?_; rintro e w2 ⟨rfl, hb2⟩)
        go_ret
        exact ⟨rfl, bnx (unhide HBEL) hb2⟩
theorem exact9_walk0 (ao : Option Addr) (cap : Nat) (w : World) : Calls Try.prog 3 #[.slice ao 0 cap] w fun e w' => e = .returned (.bool true) ∧ Below w.heap.size w w' := by
  go_enter Try.func3, Try.ntmps3
  go_wp2
  go_loop [3] (fun i => i = .int .i64 0) (fun _ => 0)
  case atStart => rfl
  case round =>
    subst hrel
    go_wp2_with (go_at_call 9; refine (wakes9 _).mono ?_; rintro e w2 ⟨rfl, hb2⟩)
    go_ret
    exact ⟨rfl, hb2⟩
end Go.Proofs.Ytlomlhnmkhngjaa.C
