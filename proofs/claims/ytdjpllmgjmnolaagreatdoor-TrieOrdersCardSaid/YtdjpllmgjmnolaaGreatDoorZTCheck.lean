/- Proved here: text.Check tells nil, or a Fault around ErrForm where a text is no UTF-8, around ErrLimit where it is too long. Helper contracts. -/
import Derived.Test.YtdjpllmgjmnolaaGreatDoorZTSize
import Derived.Test.YtdjpllmgjmnolaaGreatDoorZErrNum
namespace Go.Proofs.YtdjpllmgjmnolaaGreatDoor
open Go.RowKit

/-- the world behind a new Fault around the number n -/
abbrev faultW (n : Int) (w : World) : World := w.alloc (.cells #[.string ⟨#[116, 101, 120, 116]⟩, .iface 81 (.int .i64 n)] 88)
theorem fault_any (n : Int) (w : World) : Calls Tryz.prog 58 #[.int .i64 n] w fun e w' => e = .returned (.iface 86 (.pointer (some ⟨w.heap.size, 0, none⟩))) ∧ w' = faultW n w := by
  go_enter Tryz.func58, Tryz.ntmps58
  go_wp2
  go_ret
  exact ⟨rfl, rfl⟩
theorem fault_is (n : Int) (w : World) : ErrIs (faultW n w) (.iface 86 (.pointer (some ⟨w.heap.size, 0, none⟩))) n := .inr ⟨_, rfl, by simp⟩
theorem fault_below (n : Int) (w : World) : Below w.heap.size w (faultW n w) := (Below.refl _ _).alloc (Nat.le_refl _) _

def ChkPost (l : List Int) (w : World) (e : Ending) (w' : World) : Prop :=
  (chk l = 0 ∧ e = .returned .nilIface ∧ w' = w) ∨ (∃ n, chk l = n ∧ n ≠ 0 ∧ e = .returned (.iface 86 (.pointer (some ⟨w.heap.size, 0, none⟩))) ∧ w' = faultW n w)

set_option maxRecDepth 100000 in
set_option maxHeartbeats 1000000 in
theorem check_core (s : ByteArray) (w : World) (hs : s.size ≤ 4611686018427387904) : Calls Tryz.prog 39 #[.string s] w (ChkPost (sb s) w) := by
  have HL := hide (sb_length s)
  go_enter Tryz.func39, Tryz.ntmps39
  go_wp2
  go_loop [3] (fun i => ∃ k : Nat, k ≤ s.size ∧ i = .int .i64 k ∧ Hid (utf ((sb s).drop k) = utf (sb s))) (fun i => s.size - (intOf i).toNat)
  case atStart => exact ⟨0, Nat.zero_le _, rfl, rfl⟩
  case round =>
    obtain ⟨k, hk, rfl, hu⟩ := hrel
    by_cases hlt : k < s.size
    · have hps : ∀ w, Calls Tryz.prog 57 #[.string (s.extract k s.size)] w fun e w' => e = .returned (.int .i64 (pt ((sb s).drop k))) ∧ w' = w := fun w => by
        rw [← sb_drop]
        exact ps_any _ w (by rw [ByteArray.size_extract]; omega)
      have HPS := hide hps
      clear hps
      have h4 := pt_le4 ((sb s).drop k)
      have hle : pt ((sb s).drop k) + k ≤ s.size := by
        have := pt_le ((sb s).drop k)
        rw [List.length_drop, unhide HL] at this
        omega
      have hnot := hide (utf_not (sb s) k (by rw [unhide HL]; exact hlt))
      have hyes := hide (utf_drop (sb s) k (by rw [unhide HL]; exact hlt))
      generalize pt ((sb s).drop k) = p at HPS h4 hle hnot hyes
      by_cases hp : p = 0
      · subst hp
        have hc : Hid (chk (sb s) = 1) := by show _ = _; unfold chk; rw [if_neg]; rw [← unhide hu, (unhide hnot) rfl]; simp
        clear hyes
        go_wp2_with (first | (go_at_call 57; refine ((unhide HPS) _).mono ?_; rintro e w' ⟨rfl, rfl⟩) | (go_at_call 58; refine (fault_any _ _).mono ?_; rintro e w' ⟨rfl, rfl⟩))
        go_ret
        exact .inr ⟨1, unhide hc, by omega, rfl, rfl⟩
      · have hp0 : ((p : Int) == 0) = false := beq_eq_false_iff_ne.2 (by omega)
        have hu' : Hid (utf ((sb s).drop (k + p)) = utf (sb s)) := by show _ = _; rw [← (unhide hyes) hp]; exact unhide hu
        clear hnot hyes
        go_wp2_with (first | (go_at_call 57; refine ((unhide HPS) _).mono ?_; rintro e w' ⟨rfl, rfl⟩))
        go_round
        case rel => exact ⟨k + p, by omega, by go_num, hu'⟩
        case measure => simp [intOf]; omega
    · obtain rfl : k = s.size := by omega
      have ht : utf (sb s) = true := by rw [← unhide hu, List.drop_of_length_le (by rw [unhide HL]; exact Nat.le_refl _)]; rfl
      by_cases hm : s.size ≤ 65535
      · have hc : Hid (chk (sb s) = 0) := by show _ = _; unfold chk; rw [if_pos ht, if_pos (by rw [unhide HL]; exact hm)]
        clear ht
        go_wp2
        go_ret
        exact .inl ⟨unhide hc, rfl, rfl⟩
      · have hc : Hid (chk (sb s) = 2) := by show _ = _; unfold chk; rw [if_pos ht, if_neg (by rw [unhide HL]; exact hm)]
        clear ht
        go_wp2_with (go_at_call 58; refine (fault_any _ _).mono ?_; rintro e w' ⟨rfl, rfl⟩)
        go_ret
        exact .inr ⟨2, unhide hc, by omega, rfl, rfl⟩
theorem check_ok (s : ByteArray) (w : World) (hs : s.size ≤ 4611686018427387904) (h : chk (sb s) = 0) : Calls Tryz.prog 39 #[.string s] w fun e w' => e = .returned .nilIface ∧ w' = w := by
  refine (check_core s w hs).mono ?_
  rintro e w' (⟨_, h1⟩ | ⟨n, h1, h2, _⟩)
  · exact h1
  · exact absurd (h1.symm.trans h) h2
theorem check_bad (s : ByteArray) (n : Int) (w : World) (hs : s.size ≤ 4611686018427387904) (h : chk (sb s) = n) (h0 : n ≠ 0) : Calls Tryz.prog 39 #[.string s] w fun e w' => e = .returned (.iface 86 (.pointer (some ⟨w.heap.size, 0, none⟩))) ∧ w' = faultW n w := by
  refine (check_core s w hs).mono ?_
  rintro e w' (⟨h1, _⟩ | ⟨m, h1, _, h3⟩)
  · exact absurd (h.symm.trans h1) h0
  · obtain rfl : m = n := h1.symm.trans h
    exact h3
/-- Check's answer, as a caller uses it that holds its number alone -/
theorem check_num (s : ByteArray) (w : World) (hs : s.size ≤ 4611686018427387904) : Calls Tryz.prog 39 #[.string s] w fun e w' => ∃ E, e = .returned E ∧ Hid (ErrIs w' E (chk (sb s))) ∧ Below w.heap.size w w' := by
  refine (check_core s w hs).mono ?_
  rintro e w' (⟨h, rfl, rfl⟩ | ⟨n, h, h0, rfl, rfl⟩)
  · exact ⟨_, rfl, .inl ⟨h, rfl⟩, Below.refl _ _⟩
  · exact ⟨_, rfl, by rw [h]; exact fault_is n w, fault_below n w⟩
end Go.Proofs.YtdjpllmgjmnolaaGreatDoor
