/- Proved here: dovecotelaw2.num is dovecotelaw0.Num; wakes tells true; heavy tells whether a text or bytes are long; dovecotelaw0.Bytes at nil. Helper contracts. -/
import Derived.Test.YtckdmknmhjdicaaDoorTSpoil
import Derived.Test.YtckdmknmhjdicaaDoorEq
namespace Go.Proofs.YtckdmknmhjdicaaDoor
open Go.RowKit

theorem numl_any (v : Value) (n : Int) (w : World) (hg : Laid w) (hv : ErrIs w v n) :
    Calls Tryd.prog 11 #[v] w fun e w' => e = .returned (.int .i64 n) ∧ Below w.heap.size w w' := by
  go_enter Tryd.func11, Tryd.ntmps11
  go_wp2_with (go_at_call 24; refine (num_any v n _ hg hv).mono ?_; rintro e w' ⟨rfl, hb⟩)
  go_ret
  exact ⟨rfl, hb⟩
theorem numl_nil (w : World) : Calls Tryd.prog 11 #[.nilIface] w fun e w' => e = .returned (.int .i64 0) ∧ w' = w := by
  go_enter Tryd.func11, Tryd.ntmps11
  go_wp2_with (go_at_call 24; refine (num_nil _).mono ?_; rintro e w' ⟨rfl, rfl⟩)
  go_ret
  exact ⟨rfl, rfl⟩
theorem four_byt (w : World) : Byt (w.alloc (.cells #[.int .u8 0, .int .u8 2, .int .u8 97, .int .u8 98] 5)) (.slice (some ⟨w.heap.size, 0, none⟩) 4 4) [0, 2, 97, 98] := by
  refine ⟨_, _, rfl, ⟨by simp, by unfold maxLen; simp⟩, ?_, .inr ⟨_, _, rfl, ?_⟩⟩
  · intro j; rcases j with _ | _ | _ | _ | j <;> simp
  · intro j hj; rcases j with _ | _ | _ | _ | j
    · simp
    · simp
    · simp
    · simp
    · simp at hj; omega
theorem chk_ab : chk (sb ⟨#[97, 98]⟩) = 0 := by decide
theorem tx_ab : tx ⟨#[97, 98]⟩ = [0, 2, 97, 98] := by decide
theorem wakes_any (w : World) : Calls Tryd.prog 15 #[] w fun e w' => e = .returned (.bool true) ∧ Below w.heap.size w w' := by
  go_enter Tryd.func15, Tryd.ntmps15
  go_wp2_with fail
  refine (put_ok _ _ chk_ab).mono ?_
  rintro e w1 ⟨v, rfl, hown, hb1⟩
  have ha : Hid (Byt (w1.alloc (.cells #[.int .u8 0, .int .u8 2, .int .u8 97, .int .u8 98] 5)) v [0, 2, 97, 98]) := by
    have h := byt_of_owns (unhide hown) (tx_range _ (by decide))
    rw [tx_ab] at h
    exact h.below ((Below.refl _ _).alloc (Nat.le_refl _) _)
  have hbb := hide (four_byt w1)
  have HB1 := hide hb1
  clear hb1 hown
  go_wp2_with (first | (go_at_call 11; refine (numl_nil _).mono ?_; rintro e w' ⟨rfl, hw⟩; obtain rfl := hw.symm; clear hw) | (go_at_call 13; refine (eq_any _ _ [0, 2, 97, 98] [0, 2, 97, 98] _ (unhide ha) (unhide hbb)).mono ?_; rintro e w' ⟨rfl, q, rfl⟩))
  go_ret
  exact ⟨rfl, below_drewN ((unhide HB1).alloc (unhide HB1).size _) _⟩

theorem heavy_any (s : ByteArray) (ao : Option Addr) (n cap : Nat) (w : World) (b : Bool) (hb : Hid (b = (decide (70000 < s.size) || decide (5000 < n)))) :
    Calls Tryd.prog 6 #[.agg #[.string s, .slice ao n cap]] w fun e w' => e = .returned (.bool b) ∧ w' = w.alloc (.cells #[.string s, .slice ao n cap] 26) := by
  by_cases h1 : 70000 < s.size
  · obtain rfl : b = true := by rw [unhide hb]; simp [h1]
    go_enter Tryd.func6, Tryd.ntmps6
    go_wp2
    go_ret
    exact ⟨rfl, rfl⟩
  · by_cases h2 : 5000 < n
    · obtain rfl : b = true := by rw [unhide hb]; simp [h2]
      go_enter Tryd.func6, Tryd.ntmps6
      go_wp2
      go_ret
      exact ⟨ret_bool (by simp; omega), rfl⟩
    · obtain rfl : b = false := by rw [unhide hb]; simp [h1, h2]
      go_enter Tryd.func6, Tryd.ntmps6
      go_wp2
      go_ret
      exact ⟨ret_bool (by simp; omega), rfl⟩

theorem heavy_use (s : ByteArray) (ao : Option Addr) (n cap : Nat) (w : World) (b : Bool) (hb : Hid (b = (decide (70000 < s.size) || decide (5000 < n)))) :
    Calls Tryd.prog 6 #[.agg #[.string s, .slice ao n cap]] w fun e w' => e = .returned (.bool b) ∧ Below w.heap.size w w' := by
  refine (heavy_any s ao n cap w b hb).mono ?_
  rintro e w' ⟨rfl, rfl⟩
  exact ⟨rfl, (Below.refl _ _).alloc (Nat.le_refl _) _⟩
theorem not_heavy {s : ByteArray} {n : Nat} (h : ¬ (decide (70000 < s.size) || decide (5000 < n)) = true) : s.size ≤ 70000 ∧ n ≤ 5000 ∧ Hid (false = (decide (70000 < s.size) || decide (5000 < n))) := by
  have h' : (decide (70000 < s.size) || decide (5000 < n)) = false := by simpa only [Bool.not_eq_true] using h
  have h2 := h'
  simp only [Bool.or_eq_false_iff, decide_eq_false_iff_not] at h2
  exact ⟨by omega, by omega, h'.symm⟩

theorem bytes_nil (w : World) : Calls Tryd.prog 14 #[.slice none 0 0] w fun e w' => e = .returned (.tuple #[]) ∧ Below w.heap.size w w' := by
  obtain ⟨i0, hi, hz0, hz1, hz2⟩ := info_parts Tryd.infoU8
  go_enter Tryd.func14, Tryd.ntmps14
  go_wp2
  refine wp_loop_rounds 1 ?_
  rw [rounds_succ]
  go_wp2_with (first
    | (at_builtin; refine wpList_append_own _ rfl _ _ 24 rfl w.heap.size 5 i0 (.int .u8 0) 1 1 Tryd.underlying24 hi hz0 hz1 hz2 rfl (by decide) _ 0 [] rfl (World.ownsRow_nil _ _ _ _) ⟨w.heap.size, 0, none⟩ 1 1 [.int .u8 5] rfl rfl (one_cell _ _ _) (one_one _ _) (by unfold maxLen; omega) (by omega) (by simp) ?_)
    | go_in)
  intro v' w1 hown' hgrow _
  have hb1 : Below w.heap.size w w1 := ((Below.refl _ _).alloc (Nat.le_refl _) _).grown hgrow (by simp) (fun k hk => by cases hk)
  clear hgrow hown'
  go_wp2
  go_end0
  exact ⟨rfl, hb1⟩
end Go.Proofs.YtckdmknmhjdicaaDoor
