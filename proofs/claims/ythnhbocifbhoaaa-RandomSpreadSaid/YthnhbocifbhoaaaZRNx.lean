/- Proved here: contracts of random's Next and Below and of the page's. Helper contracts. -/
import Derived.Test.YthnhbocifbhoaaaProg
import Derived.Test.YthnhbocifbhoaaaZRPl
import Derived.Laws.BitsAllLaws
import Derived.Handy
namespace Go.Proofs.Ythnhbocifbhoaaa.R
open Go.RowKit
set_option maxRecDepth 100000

/-- the step, as the model tells it -/
def gx (s : Int) : Int :=
  bits .xor .u64 (bits .xor .u64 (bits .xor .u64 s (IntKind.u64.wrap (s * 8192))) (bits .xor .u64 s (IntKind.u64.wrap (s * 8192)) / 128)) (IntKind.u64.wrap (bits .xor .u64 (bits .xor .u64 s (IntKind.u64.wrap (s * 8192))) (bits .xor .u64 s (IntKind.u64.wrap (s * 8192)) / 128) * 131072))
theorem wrap_up (x k : Nat) : IntKind.u64.wrap ((x : Int) * ((2 ^ k : Nat) : Int)) = ((up k x : Nat) : Int) := by
  rw [IntKind.wrap_u64, ← Int.natCast_mul]
  unfold up
  rw [Nat.shiftLeft_eq]
  rfl
theorem two64 : (2 : Nat) ^ 64 = 18446744073709551616 := rfl
theorem gx_eq (s : Nat) (hs : s < 2 ^ 64) : gx (s : Int) = ((xs s : Nat) : Int) := by
  have e1 : IntKind.u64.wrap ((s : Int) * 8192) = ((up 13 s : Nat) : Int) := wrap_up s 13
  have h1 := up_lt 13 s
  have h2 : s ^^^ up 13 s < 2 ^ 64 := Nat.xor_lt_two_pow hs h1
  have e2 : bits .xor .u64 (s : Int) ((up 13 s : Nat) : Int) = ((s ^^^ up 13 s : Nat) : Int) := u64_xor_nat _ _ (two64 ▸ hs) (two64 ▸ h1)
  have e3 : ((s ^^^ up 13 s : Nat) : Int) / (128 : Int) = (((s ^^^ up 13 s) >>> 7 : Nat) : Int) := by
    rw [Nat.shiftRight_eq_div_pow, Int.natCast_ediv]; rfl
  have h3 : (s ^^^ up 13 s) >>> 7 < 2 ^ 64 := by
    rw [Nat.shiftRight_eq_div_pow]
    exact Nat.lt_of_le_of_lt (Nat.div_le_self _ _) h2
  have e4 : bits .xor .u64 ((s ^^^ up 13 s : Nat) : Int) (((s ^^^ up 13 s) >>> 7 : Nat) : Int) = ((s ^^^ up 13 s ^^^ (s ^^^ up 13 s) >>> 7 : Nat) : Int) := u64_xor_nat _ _ (two64 ▸ h2) (two64 ▸ h3)
  have h4 : s ^^^ up 13 s ^^^ (s ^^^ up 13 s) >>> 7 < 2 ^ 64 := Nat.xor_lt_two_pow h2 h3
  unfold gx
  rw [e1, e2, e3, e4]
  have e5 : IntKind.u64.wrap (((s ^^^ up 13 s ^^^ (s ^^^ up 13 s) >>> 7 : Nat) : Int) * 131072) = ((up 17 (s ^^^ up 13 s ^^^ (s ^^^ up 13 s) >>> 7) : Nat) : Int) := wrap_up _ 17
  rw [e5]
  exact u64_xor_nat _ _ (two64 ▸ h4) (two64 ▸ up_lt _ _)
theorem gx_zero : gx 11400714819323198485 = ((nx 0 : Nat) : Int) := gx_eq 11400714819323198485 (by decide)
theorem gx_nx {s : Nat} (hs : s < 2 ^ 64) (h0 : s ≠ 0) : gx (s : Int) = ((nx s : Nat) : Int) := by rw [nx_of_ne h0]; exact gx_eq s hs
set_option maxHeartbeats 4000000 in
theorem rnext_any (s : Nat) (w : World) (hs : s < 2 ^ 64) : Calls Try.prog 9 #[.int .u64 s] w fun e w' => e = .returned (.int .u64 (nx s : Nat)) ∧ w' = w := by
  by_cases h0 : s = 0
  · subst h0
    go_enter Try.func9, Try.ntmps9
    go_wp2
    go_ret
    exact ⟨congrArg (fun z => Ending.returned (.int .u64 z)) gx_zero, rfl⟩
  · have HE := hide (gx_nx hs h0)
    go_enter Try.func9, Try.ntmps9
    go_wp2
    go_ret
    exact ⟨congrArg (fun z => Ending.returned (.int .u64 z)) (unhide HE), rfl⟩
set_option maxHeartbeats 4000000 in
theorem next_any (s : Nat) (w : World) (hs : s < 2 ^ 64) : Calls Try.prog 8 #[.int .u64 s] w fun e w' => e = .returned (.int .u64 (nx s : Nat)) ∧ w' = w := by
  by_cases h0 : s = 0
  · subst h0
    go_enter Try.func8, Try.ntmps8
    go_wp2
    go_ret
    exact ⟨congrArg (fun z => Ending.returned (.int .u64 z)) gx_zero, rfl⟩
  · have HE := hide (gx_nx hs h0)
    go_enter Try.func8, Try.ntmps8
    go_wp2
    go_ret
    exact ⟨congrArg (fun z => Ending.returned (.int .u64 z)) (unhide HE), rfl⟩
/-- what Below tells beside -/
def bl (t : Nat) (n : Int) : Int := if n < 1 then 0 else ((t % n.toNat : Nat) : Int)
theorem bl_pos {t : Nat} {n : Int} (h : 1 ≤ n) : bl t n = ((t % n.toNat : Nat) : Int) := by unfold bl; rw [if_neg (by omega)]
theorem bl_neg {t : Nat} {n : Int} (h : n < 1) : bl t n = 0 := by unfold bl; rw [if_pos h]
theorem bl_range {t : Nat} {n : Int} (h : 1 ≤ n) : 0 ≤ bl t n ∧ bl t n < n := by
  rw [bl_pos h]
  have := Nat.mod_lt t (show 0 < n.toNat by omega)
  omega
theorem rem_eq {t : Nat} {n : Int} (h : 1 ≤ n) (hn : n < 9223372036854775808) : wrap64 ((t : Int) % n) = bl t n := by
  obtain ⟨m, rfl⟩ := Int.eq_ofNat_of_zero_le (show 0 ≤ n by omega)
  rw [bl_pos h, Int.toNat_natCast, ← Int.natCast_emod]
  have := Nat.mod_lt t (show 0 < m by omega)
  unfold wrap64
  omega
set_option maxHeartbeats 4000000 in
theorem below_any (s : Nat) (n : Int) (w : World) (hs : s < 2 ^ 64) (hn : n < 9223372036854775808) : Calls Try.prog 6 #[.int .u64 s, .int .i64 n] w fun e w' => e = .returned (.tuple #[.int .u64 (nx s : Nat), .int .i64 (bl (nx s) n)]) ∧ ∃ m, w' = w.drewN m := by
  have HN := hide (next_any s w hs)
  have hlt := nx_lt hs
  generalize nx s = t at HN hlt ⊢
  by_cases h1 : n < 1
  · have HE := hide (bl_neg (t := t) h1)
    generalize bl t n = r at HE ⊢
    go_enter Try.func6, Try.ntmps6
    go_wp2_with fail
    refine (unhide HN).mono ?_
    rintro e w1 ⟨rfl, hw⟩
    obtain rfl := hw.symm
    go_wp2
    go_returns
    rw [unhide HE]
    exact ⟨rfl, 0, rfl⟩
  · have HE := hide (rem_eq (t := t) (n := n) (by omega) hn)
    have hu : IntKind.u64.wrap n = n := by rw [IntKind.wrap_u64]; omega
    generalize bl t n = r at HE ⊢
    go_enter Try.func6, Try.ntmps6
    go_wp2_with fail
    refine (unhide HN).mono ?_
    rintro e w1 ⟨rfl, hw⟩
    obtain rfl := hw.symm
    go_wp2
    go_quiet (fail)
    go_wp2
    go_returns
    rw [unhide HE]
    exact ⟨rfl, _, rfl⟩
set_option maxHeartbeats 4000000 in
theorem rbelow_any (s : Nat) (n : Int) (w : World) (hs : s < 2 ^ 64) (hn : n < 9223372036854775808) : Calls Try.prog 7 #[.int .u64 s, .int .i64 n] w fun e w' => e = .returned (.tuple #[.int .u64 (nx s : Nat), .int .i64 (bl (nx s) n)]) ∧ ∃ m, w' = w.drewN m := by
  have HN := hide (rnext_any s w hs)
  have hlt := nx_lt hs
  generalize nx s = t at HN hlt ⊢
  by_cases h1 : n < 1
  · have HE := hide (bl_neg (t := t) h1)
    generalize bl t n = r at HE ⊢
    go_enter Try.func7, Try.ntmps7
    go_wp2_with fail
    refine (unhide HN).mono ?_
    rintro e w1 ⟨rfl, hw⟩
    obtain rfl := hw.symm
    go_wp2
    go_returns
    rw [unhide HE]
    exact ⟨rfl, 0, rfl⟩
  · have HE := hide (rem_eq (t := t) (n := n) (by omega) hn)
    have hu : IntKind.u64.wrap n = n := by rw [IntKind.wrap_u64]; omega
    generalize bl t n = r at HE ⊢
    go_enter Try.func7, Try.ntmps7
    go_wp2_with fail
    refine (unhide HN).mono ?_
    rintro e w1 ⟨rfl, hw⟩
    obtain rfl := hw.symm
    go_wp2
    go_quiet (fail)
    go_wp2
    go_returns
    rw [unhide HE]
    exact ⟨rfl, _, rfl⟩
theorem wakes13 (w : World) : Calls Try.prog 10 #[] w fun e w' => e = .returned (.bool true) ∧ w' = w := by
  have HN := hide (next_any 1 w (by decide))
  rw [nx_1] at HN
  go_enter Try.func10, Try.ntmps10
  go_wp2_with fail
  refine (unhide HN).mono ?_
  rintro e w1 ⟨rfl, hw⟩
  obtain rfl := hw.symm
  go_wp2
  go_ret
  exact ⟨rfl, rfl⟩
end Go.Proofs.Ythnhbocifbhoaaa.R
