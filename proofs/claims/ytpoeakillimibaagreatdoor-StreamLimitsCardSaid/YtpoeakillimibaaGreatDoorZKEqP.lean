/- Proved here: dovecoteref0.EqProps tells whether two lists of properties are one. Helper contract. -/
import Derived.Test.YtpoeakillimibaaGreatDoorM26
namespace Go.Proofs.YtpoeakillimibaaGreatDoor.K
open Go.RowKit

theorem eqp_any (va vb : Value) (l m : List Pr) (w : World) (ha : Prp w va l) (hb : Prp w vb m) (hmx : l.length ≤ 1000000000) :
    Calls Tryz.prog 64 #[va, vb] w fun e w' => (∃ b, e = .returned (.bool b) ∧ (b = true ↔ l = m)) ∧ ∃ k, w' = w.drewN k := by
  obtain ⟨ao, ca, rfl, ha⟩ := ha
  obtain ⟨bo, cb, rfl, hb⟩ := hb
  by_cases hl : l.length = m.length
  · rcases ha with rfl | ⟨ba, oa, rfl, hca⟩
    · obtain rfl : m = [] := List.length_eq_zero_iff.1 hl.symm
      refine (eqp_nil _ _ _ _ _).mono ?_
      rintro e w' ⟨rfl, rfl⟩
      exact ⟨⟨true, rfl, by simp⟩, 0, rfl⟩
    · rcases hb with rfl | ⟨bb, ob, rfl, hcb⟩
      · obtain rfl : l = [] := List.length_eq_zero_iff.1 hl
        refine (eqp_nil _ _ _ _ _).mono ?_
        rintro e w' ⟨rfl, rfl⟩
        exact ⟨⟨true, rfl, by simp⟩, 0, rfl⟩
      · rw [← hl]
        refine (eqp_core ba oa bb ob ca cb l m l.length w rfl hl.symm hmx hca hcb).mono ?_
        rintro e w' ⟨⟨b, rfl, hbb⟩, k, rfl⟩
        exact ⟨⟨b, rfl, hbb.trans ⟨fun h => at0_ext hl h, fun h j _ => by rw [h]⟩⟩, k, rfl⟩
  · refine (eqp_len ao bo l.length m.length ca cb w hl).mono ?_
    rintro e w' ⟨rfl, rfl⟩
    exact ⟨⟨false, rfl, by constructor; (intro h; cases h); (intro h; exact absurd (by rw [h]) hl)⟩, 0, rfl⟩
end Go.Proofs.YtpoeakillimibaaGreatDoor.K
