/- Proved here: the statement VarintPuts, called in any world whose errors.errorType is as laid, on any slice that reads, tells true and changes nothing that was there. -/
import Derived.Test.YtecapdonfilkpaaDoorWakes
namespace Go.Proofs.YtecapdonfilkpaaDoor
open Go.RowKit

set_option maxHeartbeats 2000000 in
theorem puts_walk (b off len cap : Nat) (ns : Nat → Int) (w : World) (hlen : len ≤ maxLen) (hg : Laid w)
    (hc : ∀ k, k < len → w.cell? ⟨b, off + k * 2, none⟩ = some (.int .i64 (ns k))) :
    Calls Tryd.prog 3 #[.slice (some ⟨b, off, none⟩) len cap] w fun e w' => e = .returned (.bool true) ∧ Below w.heap.size w w' := by
  unfold maxLen at hlen
  have HC := hide hc
  have HG := hide hg
  clear hc hg
  go_enter Tryd.func3, Tryd.ntmps3
  go_wp2
  go_loopw [3] (fun i wr => ∃ k : Nat, k ≤ len ∧ k ≤ 40 ∧ i = .int .i64 k ∧ Below w.heap.size w wr) (fun i _ => 40 - (intOf i).toNat)
  case atStart => exact ⟨0, Nat.zero_le _, by omega, rfl, Below.refl _ _⟩
  case round =>
    obtain ⟨k, hk, hk40, rfl, hbel⟩ := hrel
    by_cases hlt : k < len ∧ k < 40
    · obtain ⟨hlt, hlt40⟩ := hlt
      have hc := (unhide HC) k hlt
      have hcr := (hbel.cell (p := ⟨b, off + k * 2, none⟩) (cell_lt hc)).trans hc
      have hbl := cell_lt hc
      have hsz := hbel.size
      clear hc
      generalize ns k = x at hcr
      have hgr : Hid (Laid wr) := (unhide HG).below hbel (unhide HG).pos
      have hBel := hide hbel
      clear hbel
      by_cases hbad : x < 0 ∨ 268435455 < x
      · have hcr1 : (wr.alloc (.cells #[.string ⟨#[118, 97, 114, 105, 110, 116]⟩, .iface 42 (.int .i64 1)] 49)).cell? ⟨b, off + k * 2, none⟩ = some (.int .i64 x) := by
          rw [World.cell?_alloc_lt _ _ ⟨b, off + k * 2, none⟩ (by simp at hbl ⊢; omega)]; exact hcr
        have hb1 : Hid (Below wr.heap.size wr (wr.alloc (.cells #[.string ⟨#[118, 97, 114, 105, 110, 116]⟩, .iface 42 (.int .i64 1)] 49))) := (Below.refl _ _).alloc (Nat.le_refl _) _
        have he : Hid (ErrIs (wr.alloc (.cells #[.string ⟨#[118, 97, 114, 105, 110, 116]⟩, .iface 42 (.int .i64 1)] 49)) (.iface 47 (.pointer (some ⟨wr.heap.size, 0, none⟩))) 1) := .inr ⟨_, rfl, by simp⟩
        have hg1 : Hid (Laid (wr.alloc (.cells #[.string ⟨#[118, 97, 114, 105, 110, 116]⟩, .iface 42 (.int .i64 1)] 49))) := (unhide hgr).below (unhide hb1) (unhide hgr).pos
        have HB := hide hbad
        clear hbad
        rcases (unhide HB) with hneg | hbig
        · go_wp2_with fail
          refine (put_bad x _ (unhide HB)).mono ?_
          rintro e w' ⟨rfl, rfl⟩
          go_wp2_with fail
          refine (numl_any _ 1 _ (unhide hg1) (unhide he)).mono ?_
          rintro e w2 ⟨rfl, hb2⟩
          have hb2 := hide hb2
          go_wp2
          go_roundw
          case rel => exact ⟨k + 1, by omega, by omega, by go_num, (unhide hBel).trans (((unhide hb1).trans ((unhide hb2).mono (by simp))).mono hsz)⟩
          case measure => simp [intOf]; omega
        · have hneg : ¬ x < 0 := by omega
          go_wp2_with fail
          refine (put_bad x _ (unhide HB)).mono ?_
          rintro e w' ⟨rfl, rfl⟩
          go_wp2_with fail
          refine (numl_any _ 1 _ (unhide hg1) (unhide he)).mono ?_
          rintro e w2 ⟨rfl, hb2⟩
          have hb2 := hide hb2
          go_wp2
          go_roundw
          case rel => exact ⟨k + 1, by omega, by omega, by go_num, (unhide hBel).trans (((unhide hb1).trans ((unhide hb2).mono (by simp))).mono hsz)⟩
          case measure => simp [intOf]; omega
      · have h0 : 0 ≤ x := by omega
        have h1 : x ≤ 268435455 := by omega
        clear hbad
        go_wp2_with fail
        refine (put_use x _ h0 h1).mono ?_
        rintro e w1 ⟨n, hn, rfl, hown, hb1⟩
        have hcr1 : w1.cell? ⟨b, off + k * 2, none⟩ = some (.int .i64 x) := by rw [hb1.cell (p := ⟨b, off + k * 2, none⟩) (by simp at hbl ⊢; omega)]; exact hcr
        have hs1 := hb1.size
        have HB1 := hide hb1
        clear hb1
        go_wp2_with fail
        refine (numl_nil _).mono ?_
        rintro e w' ⟨rfl, rfl⟩
        go_wp2_with fail
        refine (rput_any x _ h0 h1).mono ?_
        rintro e w2 ⟨v2, rfl, hown2, hb2⟩
        have hown1 : Hid (w2.ownsRow wr.heap.size 5 1 (.slice (some ⟨wr.heap.size, 0, none⟩) n n) n ((put x).map (Value.int .u8))) := owns_below (unhide hown) hb2
        have ha : Hid (Byt w2 (.slice (some ⟨wr.heap.size, 0, none⟩) n n) (put x)) := byt_of_owns (unhide hown1) (put_range x h0 h1)
        have hbb : Hid (Byt w2 v2 (put x)) := byt_of_owns hown2 (put_range x h0 h1)
        have hs2 := hb2.size
        have HB2 := hide hb2
        clear hb2 hown2
        go_wp2_with fail
        refine (eq_any _ _ (put x) (put x) _ (unhide ha) (unhide hbb)).mono ?_
        rintro e w' ⟨rfl, q, rfl⟩
        have hq : decide (put x = put x) = true := by simp
        go_wp2_with fail
        refine (bytes_any wr.heap.size wr.heap.size n n (put x) _ (by simp; omega) (by have := put_len x; have := unhide hn; omega) (by exact unhide hown1)).mono ?_
        rintro e w3 ⟨rfl, hb3⟩
        have HB3 := hide hb3
        clear hb3
        go_wp2
        go_roundw
        case rel => exact ⟨k + 1, by omega, by omega, by go_num, (unhide hBel).trans ((((unhide HB1).trans (below_drewN ((unhide HB2).mono hs1) q)).trans (unhide HB3)).mono hsz)⟩
        case measure => simp [intOf]; omega
    · have hgr : Hid (Laid wr) := (unhide HG).below hbel (unhide HG).pos
      have hBel := hide hbel
      have hsz := hbel.size
      clear hbel
      by_cases hlt1 : k < len
      · have h40 : k = 40 := by omega
        subst h40
        go_wp2_with fail
        refine (wakes_any _).mono ?_
        rintro e w2 ⟨rfl, hb2⟩
        go_wp2
        go_ret
        exact ⟨rfl, (unhide hBel).trans (hb2.mono hsz)⟩
      · go_wp2_with fail
        refine (wakes_any _).mono ?_
        rintro e w2 ⟨rfl, hb2⟩
        go_wp2
        go_ret
        exact ⟨rfl, (unhide hBel).trans (hb2.mono hsz)⟩

theorem puts_walk0 (ao : Option Addr) (cap : Nat) (w : World) :
    Calls Tryd.prog 3 #[.slice ao 0 cap] w fun e w' => e = .returned (.bool true) ∧ Below w.heap.size w w' := by
  go_enter Tryd.func3, Tryd.ntmps3
  go_wp2
  refine wp_loop_rounds 1 ?_
  rw [rounds_succ]
  go_wp2_with fail
  refine (wakes_any _).mono ?_
  rintro e w2 ⟨rfl, hb2⟩
  go_wp2
  go_ret
  exact ⟨rfl, hb2⟩
end Go.Proofs.YtecapdonfilkpaaDoor
