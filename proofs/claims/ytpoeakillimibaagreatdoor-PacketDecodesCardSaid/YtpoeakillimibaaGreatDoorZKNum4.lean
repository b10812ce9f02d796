/- Proved here: dovecotelaw4's num and wakes. Helper contracts. -/
import Derived.Test.YtpoeakillimibaaGreatDoorZKPing
import Derived.Test.YtpoeakillimibaaGreatDoorM14
import Derived.Test.YtpoeakillimibaaGreatDoorZEq
namespace Go.Proofs.YtpoeakillimibaaGreatDoor.K
open Go.RowKit
set_option maxRecDepth 100000

theorem num4 (v : Value) (n : Int) (w : World) (hg : Laid w) (hv : ErrX w v n) : Calls Tryz.prog 28 #[v] w fun e w' => e = .returned (.int .i64 n) ∧ Below w.heap.size w w' := by
  have HG := hide hg
  have HV := hide hv
  clear hg hv
  go_enter Tryz.func28, Tryz.ntmps28
  go_wp2_with (go_at_call 63; refine (numx v n _ (unhide HG) (unhide HV)).mono ?_; rintro e w' ⟨rfl, hb⟩)
  go_ret
  exact ⟨rfl, hb⟩
theorem num4_nil (w : World) : Calls Tryz.prog 28 #[.nilIface] w fun e w' => e = .returned (.int .i64 0) ∧ w' = w := by
  go_enter Tryz.func28, Tryz.ntmps28
  go_wp2_with (go_at_call 63; refine (num_nil _).mono ?_; rintro e w' ⟨rfl, rfl⟩)
  go_ret
  exact ⟨rfl, rfl⟩
theorem two_byt (w : World) : Byt (w.alloc (.cells #[.int .u8 192, .int .u8 0] 5)) (.slice (some ⟨w.heap.size, 0, none⟩) 2 2) [192, 0] := by
  refine ⟨_, 2, rfl, ⟨by simp, by unfold maxLen; simp⟩, ?_, .inr ⟨w.heap.size, 0, rfl, ?_⟩⟩
  · intro j; rcases j with _ | _ | j <;> simp
  · intro j hj; rcases j with _ | _ | j
    · simp
    · simp
    · simp at hj; omega
set_option maxHeartbeats 2000000 in
theorem wakes4 (w : World) : Calls Tryz.prog 31 #[] w fun e w' => e = .returned (.bool true) ∧ Below w.heap.size w w' := by
  have HEN : Hid (∀ W : World, Calls Tryz.prog 26 #[.agg #[.int .i64 12, .bool false, .int .i64 0, .bool false, .string ⟨#[]⟩, .int .i64 0, .string ⟨#[]⟩, .slice none 0 0, .string ⟨#[]⟩, .bool false, .int .i64 0, .slice none 0 0, .slice none 0 0, .slice none 0 0, .int .i64 0, .bool false, .slice none 0 0, .slice none 0 0, .slice none 0 0]] W fun e w' => ∃ v, e = .returned (.tuple #[v, .nilIface]) ∧ Hid (Byt w' v [192, 0]) ∧ Below W.heap.size W w') := fun W => enc_ping W
  go_enter Tryz.func31, Tryz.ntmps31
  go_wp2_with fail
  refine ((unhide HEN) w).mono ?_
  rintro e w1 ⟨v, rfl, hy, hb1⟩
  have ha : Hid (Byt (w1.alloc (.cells #[.int .u8 192, .int .u8 0] 5)) v [192, 0]) := (unhide hy).below ((Below.refl _ _).alloc (Nat.le_refl _) _)
  have hbb := hide (two_byt w1)
  have HB1 := hide hb1
  clear hb1 hy
  go_wp2_with (first | (go_at_call 28; refine (num4_nil _).mono ?_; rintro e w' ⟨rfl, hw⟩; obtain rfl := hw.symm; clear hw) | (go_at_call 29; refine (eq_any _ _ [192, 0] [192, 0] _ (unhide ha) (unhide hbb)).mono ?_; rintro e w' ⟨rfl, q, rfl⟩))
  go_ret
  exact ⟨rfl, below_drewN ((unhide HB1).alloc (unhide HB1).size _) _⟩
end Go.Proofs.YtpoeakillimibaaGreatDoor.K
