/- Proved here: dovecoteref1.Utf tells whether bytes are UTF-8 as the chapter has it. Helper contract. -/
import Derived.Test.YtdjpllmgjmnolaaGreatDoorZTRefPoint
namespace Go.Proofs.YtdjpllmgjmnolaaGreatDoor
open Go.RowKit

set_option maxRecDepth 100000 in
set_option maxHeartbeats 1000000 in
theorem rutf_any (v : Value) (l : List Int) (w : World) (hv : Byt w v l) : Calls Tryz.prog 45 #[v] w fun e w' => e = .returned (.bool (utf l)) ∧ w' = w := by
  go_enter Tryz.func45, Tryz.ntmps45
  go_wp2
  go_loop [0] (fun b => ∃ k : Nat, k ≤ l.length ∧ Hid (Byt w b (l.drop k)) ∧ Hid (utf (l.drop k) = utf l)) (fun b => match b with | .slice _ n _ => n | _ => 0)
  case atStart => exact ⟨0, Nat.zero_le _, hv, rfl⟩
  case round =>
    obtain ⟨k, hk, hby, hu⟩ := hrel
    by_cases hlt : k < l.length
    · obtain ⟨b, off, cap, rfl, hc1, hc2⟩ := (unhide hby).form1 (by rw [List.length_drop]; omega)
      have hps := hide (rp_any _ _ w (unhide hby) (by intro h; have := congrArg List.length h; simp at this; omega))
      have h4 := pt_le (l.drop k)
      have hnot := hide (utf_not l k hlt)
      have hyes := hide (utf_drop l k hlt)
      have hdr := hide (fun p => (unhide hby).drop' p)
      rw [List.length_drop] at h4 hc1 hps hdr ⊢
      have hdd : Hid (∀ p, (l.drop k).drop p = l.drop (k + p)) := fun p => List.drop_drop
      generalize pt (l.drop k) = p at hps h4 hnot hyes
      generalize hm : l.length - k = m at hps h4 hc1 hdr
      unfold maxLen at hc2
      by_cases hp : p = 0
      · subst hp
        have hf := hide ((unhide hnot) rfl)
        go_wp2_with (go_at_call 64; refine (unhide hps).mono ?_; rintro e w' ⟨rfl, rfl⟩)
        go_ret
        exact ⟨ret_bool (by rw [← unhide hu, unhide hf]), rfl⟩
      · have hp0 : ((p : Int) == 0) = false := beq_eq_false_iff_ne.2 (by omega)
        go_wp2_with (go_at_call 64; refine (unhide hps).mono ?_; rintro e w' ⟨rfl, rfl⟩)
        go_round
        case rel => exact ⟨k + p, by omega, by show Byt _ _ _; rw [← (unhide hdd) p]; exact (unhide hdr) p h4, by show _ = _; rw [← (unhide hyes) hp]; exact unhide hu⟩
        case measure => simp; omega
    · obtain rfl : k = l.length := by omega
      have hn : l.drop l.length = [] := List.drop_of_length_le (Nat.le_refl _)
      rw [hn] at hby hu
      obtain ⟨ao, cap, rfl, _⟩ := (unhide hby).form
      have hu' : Hid (utf l = true) := (unhide hu).symm
      clear hn hu
      go_wp2
      go_ret
      exact ⟨ret_bool (unhide hu').symm, rfl⟩
end Go.Proofs.YtdjpllmgjmnolaaGreatDoor
