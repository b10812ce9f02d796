/- Proved here: the walk of TrieOrders at no acts: it answers true. -/
import Derived.Test.YtdjpllmgjmnolaaGreatDoorZYOb
namespace Go.Proofs.YtdjpllmgjmnolaaGreatDoor.Y
open Go.RowKit Go.Maps
set_option maxRecDepth 100000

set_option maxHeartbeats 4000000 in
theorem or_nil (ao : Option Addr) (cap : Nat) (w : World) (hg : Laid2 w) : Calls Tryz.prog 4 #[.slice ao 0 cap] w fun e w' => e = .returned (.bool true) ∧ Below w.heap.size w w' := by
  have HH := hide (heavy_nil ao cap (fun _ => default) w)
  have HG := hide hg
  clear hg
  go_enter Tryz.func4, Tryz.ntmps4
  go_wp2_with fail
  refine (unhide HH).mono ?_
  rintro e w1 ⟨rr, rfl, _, hb1⟩
  have HB1 := hide hb1
  clear hb1 HH
  cases rr with
  | true =>
    go_wp2
    go_ret
    exact ⟨rfl, unhide HB1⟩
  | false =>
    go_wp2_with fail
    refine (new_any w1).mono ?_
    rintro e w2 ⟨rfl, HT1, hb2⟩
    have HB2 := hide ((unhide HB1).trans (hb2.mono (unhide HB1).size))
    clear hb2 HB1
    go_wp2_with fail
    refine (new_any w2).mono ?_
    rintro e w3 ⟨rfl, HT2, hb3⟩
    have HB3 := hide ((unhide HB2).trans (hb3.mono (unhide HB2).size))
    have HT3 := hide ((unhide HT1).below hb3)
    generalize w1.heap.size = T1 at HT3 ⊢
    generalize w2.heap.size = T2 at HT2 ⊢
    clear hb3 HB2 HT1
    have HC1 := hide (count_any (unhide HT3))
    have HC2 := hide (count_any (unhide HT2))
    have HM := hide (match_yes (w := w3) (T := T1) (R := []) ⟨#[97]⟩ (by decide) ((unhide HG).up (unhide HB3)).2 (unhide HT3) (fun x => by simp) List.Pairwise.nil (by decide) (by decide))
    go_wp2_with fail
    refine wp_loop_rounds 1 ?_
    rw [rounds_succ]
    go_wp2_with fail
    refine (unhide HC1).mono ?_
    rintro e wc ⟨rfl, hwc⟩
    obtain rfl := hwc.symm
    go_wp2_with fail
    refine (unhide HC2).mono ?_
    rintro e wc ⟨rfl, hwc⟩
    obtain rfl := hwc.symm
    go_wp2_with fail
    refine wp_loop_rounds 1 ?_
    rw [rounds_succ]
    go_wp2_with fail
    refine wp_loop_rounds 1 ?_
    rw [rounds_succ]
    go_wp2_with fail
    refine (unhide HM).mono ?_
    rintro e w6 ⟨hv, rfl, HO6, hb6⟩
    have HB6 := hide ((unhide HB3).trans (hb6.mono (unhide HB3).size))
    have HC := hide (count_any ((unhide HT3).below hb6))
    obtain ⟨ao2, cp, rfl, _, _⟩ := rows_in rfl (unhide HO6)
    clear hb6 HM HO6 HC1 HC2 HT2 HT3 HB3
    simp only [List.filter_nil, List.length_nil]
    go_wp2_with fail
    refine (unhide HC).mono ?_
    rintro e wc ⟨rfl, hwc⟩
    obtain rfl := hwc.symm
    have HN := hide (num7 .nilIface 0 w6 ((unhide HG).up (unhide HB6)).1 (.inl ⟨rfl, rfl⟩))
    clear HC
    go_wp2_with fail
    refine (unhide HN).mono ?_
    rintro e w8 ⟨rfl, hb8⟩
    have HB8 := hide ((unhide HB6).trans (hb8.mono (unhide HB6).size))
    have HW := hide (wakes7 w8 ((unhide HG).up (unhide HB8)))
    clear hb8 HN HB6
    go_wp2_with fail
    refine (unhide HW).mono ?_
    rintro e w9 ⟨rfl, hb9⟩
    have HB9 := hide ((unhide HB8).trans (hb9.mono (unhide HB8).size))
    clear hb9 HW
    go_wp2
    go_ret
    exact ⟨rfl, unhide HB9⟩
end Go.Proofs.YtdjpllmgjmnolaaGreatDoor.Y
