/- Proved here: eight steps of the register by one look at a table: plain arithmetic, no code. Helpers. -/
import Derived.Test.YtlomlhnmkhngjaaZCPlain
namespace Go.Proofs.Ytlomlhnmkhngjaa.C
set_option maxRecDepth 100000

theorem xor_half (a b : Nat) : (a ^^^ b) / 2 = a / 2 ^^^ b / 2 := by
  apply Nat.eq_of_testBit_eq
  intro i
  rw [Nat.testBit_xor, Nat.testBit_div_two, Nat.testBit_div_two, Nat.testBit_div_two, Nat.testBit_xor]
theorem xor_odd (a b : Nat) : ((a ^^^ b) % 2 = 1) ↔ ((a % 2 = 1) ≠ (b % 2 = 1)) := by
  have h := Nat.testBit_xor a b 0
  simp only [Nat.testBit_zero] at h
  by_cases h1 : a % 2 = 1 <;> by_cases h2 : b % 2 = 1 <;> simp_all
/-- a step is linear -/
theorem st_xor (a b : Nat) : st (a ^^^ b) = st a ^^^ st b := by
  unfold st
  rw [xor_half]
  have h := xor_odd a b
  by_cases h1 : a % 2 = 1 <;> by_cases h2 : b % 2 = 1
  · rw [if_neg (fun e => by simp_all), if_pos h1, if_pos h2, Nat.xor_assoc, Nat.xor_comm 3988292384, Nat.xor_assoc, Nat.xor_self, Nat.xor_zero]
  · rw [if_pos (h.2 (by simp [h1, h2])), if_pos h1, if_neg h2, Nat.xor_assoc, Nat.xor_comm (b / 2), Nat.xor_assoc]
  · rw [if_pos (h.2 (by simp [h1, h2])), if_neg h1, if_pos h2, Nat.xor_assoc]
  · rw [if_neg (fun e => by simp_all), if_neg h1, if_neg h2]
theorem st_even (m : Nat) : st (2 * m) = m := by
  unfold st
  rw [if_neg (by omega)]
  omega
end Go.Proofs.Ytlomlhnmkhngjaa.C
