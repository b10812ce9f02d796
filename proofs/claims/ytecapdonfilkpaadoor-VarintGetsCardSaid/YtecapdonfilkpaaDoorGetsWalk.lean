/- Proved here: the statement VarintGets, called in any world whose errors.errorType is as laid, on any slice that reads, tells true and changes nothing that was there. -/
import Derived.Test.YtecapdonfilkpaaDoorWakes
import Derived.Test.YtecapdonfilkpaaDoorGetAny
namespace Go.Proofs.YtecapdonfilkpaaDoor
open Go.RowKit

set_option maxHeartbeats 2000000 in
theorem gets_walk (b off len cap : Nat) (vs : Nat → Value) (bs : Nat → List Int) (w : World) (hlen : len ≤ maxLen) (hg : Laid w)
    (hc : ∀ k, k < len → w.cell? ⟨b, off + k * 2 + 1, none⟩ = some (vs k) ∧ Byt w (vs k) (bs k)) :
    Calls Tryd.prog 4 #[.slice (some ⟨b, off, none⟩) len cap] w fun e w' => e = .returned (.bool true) ∧ Below w.heap.size w w' := by
  unfold maxLen at hlen
  have HC := hide hc
  have HG := hide hg
  clear hc hg
  go_enter Tryd.func4, Tryd.ntmps4
  go_wp2
  go_loopw [3] (fun i wr => ∃ k : Nat, k ≤ len ∧ k ≤ 40 ∧ i = .int .i64 k ∧ Below w.heap.size w wr) (fun i _ => 40 - (intOf i).toNat)
  case atStart => exact ⟨0, Nat.zero_le _, by omega, rfl, Below.refl _ _⟩
  case round =>
    obtain ⟨k, hk, hk40, rfl, hbel⟩ := hrel
    by_cases hlt : k < len ∧ k < 40
    · obtain ⟨hlt, hlt40⟩ := hlt
      obtain ⟨hc, hby⟩ := (unhide HC) k hlt
      have hcr := (hbel.cell (p := ⟨b, off + k * 2 + 1, none⟩) (cell_lt hc)).trans hc
      have hbl := cell_lt hc
      have hsz := hbel.size
      have HY : Hid (Byt wr (vs k) (bs k)) := hby.below hbel
      clear hc hby
      generalize vs k = v at hcr HY
      generalize bs k = l at HY
      have hgr : Hid (Laid wr) := (unhide HG).below hbel (unhide HG).pos
      have hBel := hide hbel
      clear hbel
      go_wp2_with fail
      refine (get_any v l _ (unhide HY)).mono ?_
      rintro e w1 ⟨E, rfl, hE, hb1⟩
      have hcr1 : w1.cell? ⟨b, off + k * 2 + 1, none⟩ = some v := by rw [hb1.cell (p := ⟨b, off + k * 2 + 1, none⟩) (by simp at hbl ⊢; omega)]; exact hcr
      have HY1 : Hid (Byt w1 v l) := (unhide HY).below hb1
      have hs1 := hb1.size
      have HE := hide hE
      have HB1 := hide hb1
      clear hb1 hE
      have HR := hide (rget_any v l w1 (unhide HY1))
      generalize vget l = g at HE HR ⊢
      obtain ⟨n, s, er⟩ := g
      dsimp only at HE HR ⊢
      go_wp2_with fail
      refine (unhide HR).mono ?_
      rintro e w2 ⟨rfl, hb2⟩
      have HE2 : Hid (ErrIs w2 E er) := (unhide HE).below hb2
      have hgr2 : Hid (Laid w2) := ((unhide hgr).below (unhide HB1) (unhide hgr).pos).below hb2 (by have := (unhide hgr).pos; omega)
      have hs2 := hb2.size
      have HB2 := hide hb2
      clear hb2 HR
      go_wp2_with fail
      refine (numl_any _ er _ (unhide hgr2) (unhide HE2)).mono ?_
      rintro e w3 ⟨rfl, hb3⟩
      have HB3 := hide hb3
      clear hb3
      go_wp2
      go_roundw
      case rel => exact ⟨k + 1, by omega, by omega, by go_num, (unhide hBel).trans (((unhide HB1).trans (((unhide HB2).mono hs1).trans ((unhide HB3).mono (by omega)))).mono hsz)⟩
      case measure => simp [intOf]; omega
    · have hBel := hide hbel
      have hsz := hbel.size
      clear hbel
      by_cases hlt1 : k < len
      · have h40 : k = 40 := by omega
        subst h40
        go_wp2_with fail
        refine (wakes_any _).mono ?_
        rintro e w2 ⟨rfl, hb2⟩
        go_wp2
        go_ret
        exact ⟨rfl, (unhide hBel).trans (hb2.mono hsz)⟩
      · go_wp2_with fail
        refine (wakes_any _).mono ?_
        rintro e w2 ⟨rfl, hb2⟩
        go_wp2
        go_ret
        exact ⟨rfl, (unhide hBel).trans (hb2.mono hsz)⟩

theorem gets_walk0 (ao : Option Addr) (cap : Nat) (w : World) :
    Calls Tryd.prog 4 #[.slice ao 0 cap] w fun e w' => e = .returned (.bool true) ∧ Below w.heap.size w w' := by
  go_enter Tryd.func4, Tryd.ntmps4
  go_wp2
  refine wp_loop_rounds 1 ?_
  rw [rounds_succ]
  go_wp2_with fail
  refine (wakes_any _).mono ?_
  rintro e w2 ⟨rfl, hb2⟩
  go_wp2
  go_ret
  exact ⟨rfl, hb2⟩
end Go.Proofs.YtecapdonfilkpaaDoor
