/- Proved here: contracts of net's divided and of the page's Mod and Div: one and the same rounding down; of Within. Helper contracts. -/
import Derived.Test.YtfgelagmjjjlgaaZNFr
namespace Go.Proofs.Ytfgelagmjjjlgaa.Nt
open Go.RowKit
set_option maxRecDepth 100000

/-- rounded down, and what is left, from 0 on -/
def dq (p n : Int) : Int := if p.tmod n < 0 then wrap64 (wrap64 (p.tdiv n) - 1) else wrap64 (p.tdiv n)
def dr (p n : Int) : Int := if p.tmod n < 0 then p.tmod n + n else p.tmod n
theorem dr_range {p n : Int} (hn : 0 < n) : 0 ≤ dr p n ∧ dr p n < n := by
  unfold dr
  have h1 := Int.tmod_lt_of_pos p hn
  have h2 : -n < p.tmod n := by
    have := Int.lt_tmod_of_pos p hn
    exact this
  by_cases h : p.tmod n < 0
  · rw [if_pos h]; omega
  · rw [if_neg h]; omega
set_option maxHeartbeats 1000000 in
theorem dv_any (p n : Int) (w : World) (hn : 0 < n) (h8 : n ≤ 8) : Calls Try.prog 30 #[.int .i64 p, .int .i64 n] w fun e w' => e = .returned (.tuple #[.int .i64 (dq p n), .int .i64 (dr p n)]) ∧ ∃ k, w' = w.drewN k := by
  have hn0 : n ≠ 0 := by omega
  have hnb : (n == 0) = false := beq_false_of_ne hn0
  have h1 := Int.tmod_lt_of_pos p hn
  have h2 : -n < p.tmod n := Int.lt_tmod_of_pos p hn
  have hw : wrap64 (p.tmod n) = p.tmod n := by unfold wrap64; omega
  have HQ : Hid (dq p n = if p.tmod n < 0 then wrap64 (wrap64 (p.tdiv n) - 1) else wrap64 (p.tdiv n)) := rfl
  have HR : Hid (dr p n = if p.tmod n < 0 then p.tmod n + n else p.tmod n) := rfl
  generalize dq p n = q at HQ ⊢
  generalize dr p n = r at HR ⊢
  go_enter Try.func30, Try.ntmps30
  go_wp2_with fail
  go_quiet (fail)
  have hw2 : p.tmod n < 0 → wrap64 (p.tmod n + n) = p.tmod n + n := fun h => by unfold wrap64; omega
  have HW2 := hide hw2
  clear hw2
  by_cases hm : p.tmod n < 0
  · rw [if_pos hm] at HQ HR
    go_wp2
    go_returns
    refine ⟨?_, nq, rfl⟩
    rw [unhide HQ, unhide HR, ← (unhide HW2) hm]; rfl
  · rw [if_neg hm] at HQ HR
    go_wp2
    go_returns
    refine ⟨?_, nq, rfl⟩
    rw [unhide HQ, unhide HR]; rfl
set_option maxHeartbeats 1000000 in
theorem mod_any (p n : Int) (w : World) (hn : 0 < n) (h8 : n ≤ 8) : Calls Try.prog 21 #[.int .i64 p, .int .i64 n] w fun e w' => e = .returned (.int .i64 (dr p n)) ∧ ∃ k, w' = w.drewN k := by
  have hn0 : n ≠ 0 := by omega
  have hnb : (n == 0) = false := beq_false_of_ne hn0
  have h1 := Int.tmod_lt_of_pos p hn
  have h2 : -n < p.tmod n := Int.lt_tmod_of_pos p hn
  have hw : wrap64 (p.tmod n) = p.tmod n := by unfold wrap64; omega
  have HR : Hid (dr p n = if p.tmod n < 0 then p.tmod n + n else p.tmod n) := rfl
  generalize dr p n = r at HR ⊢
  go_enter Try.func21, Try.ntmps21
  have hw2 : p.tmod n < 0 → wrap64 (p.tmod n + n) = p.tmod n + n := fun h => by unfold wrap64; omega
  have HW2 := hide hw2
  clear hw2
  by_cases hm : p.tmod n < 0
  · rw [if_pos hm] at HR
    go_wp2
    go_ret
    refine ⟨?_, 0, rfl⟩
    rw [unhide HR, ← (unhide HW2) hm]; rfl
  · rw [if_neg hm] at HR
    go_wp2
    go_ret
    refine ⟨?_, 0, rfl⟩
    rw [unhide HR]; rfl
set_option maxHeartbeats 1000000 in
theorem div_any (p n : Int) (w : World) (hn : 0 < n) (h8 : n ≤ 8) : Calls Try.prog 32 #[.int .i64 p, .int .i64 n] w fun e w' => e = .returned (.int .i64 (dq p n)) ∧ ∃ k, w' = w.drewN k := by
  have hn0 : n ≠ 0 := by omega
  have hnb : (n == 0) = false := beq_false_of_ne hn0
  have h1 := Int.tmod_lt_of_pos p hn
  have h2 : -n < p.tmod n := Int.lt_tmod_of_pos p hn
  have hw : wrap64 (p.tmod n) = p.tmod n := by unfold wrap64; omega
  have HQ : Hid (dq p n = if p.tmod n < 0 then wrap64 (wrap64 (p.tdiv n) - 1) else wrap64 (p.tdiv n)) := rfl
  generalize dq p n = q at HQ ⊢
  go_enter Try.func32, Try.ntmps32
  have hw2 : p.tmod n < 0 → wrap64 (p.tmod n + n) = p.tmod n + n := fun h => by unfold wrap64; omega
  have HW2 := hide hw2
  clear hw2
  by_cases hm : p.tmod n < 0
  · rw [if_pos hm] at HQ
    go_wp2
    go_ret
    refine ⟨?_, 0, rfl⟩
    rw [unhide HQ]; rfl
  · rw [if_neg hm] at HQ
    go_wp2
    go_ret
    refine ⟨?_, 0, rfl⟩
    rw [unhide HQ]; rfl
def wth (i : Int) (n : Nat) : Nat := (i % 18446744073709551616).toNat % n
theorem within_any (i : Int) (n : Nat) (w : World) (hn : 1 ≤ n) (hn2 : n ≤ 9223372036854775807) : Calls Try.prog 8 #[.int .i64 i, .int .i64 n] w fun e w' => e = .returned (.int .i64 ((wth i n : Nat) : Int)) ∧ w' = w := by
  have h0 : 0 ≤ i % 18446744073709551616 := Int.emod_nonneg _ (by decide)
  have h1 : i % 18446744073709551616 < 18446744073709551616 := Int.emod_lt_of_pos _ (by decide)
  have hw : wrap64 ((IntKind.u64.wrap i).tmod (n : Int)) = ((wth i n : Nat) : Int) := by
    have hlt : wth i n < n := Nat.mod_lt _ (by omega)
    rw [IntKind.wrap_u64, Int.tmod_eq_emod_of_nonneg h0]
    have e : (i % 18446744073709551616) % (n : Int) = ((wth i n : Nat) : Int) := by
      unfold wth
      rw [Int.natCast_emod, Int.toNat_of_nonneg h0]
    rw [e]
    unfold wrap64
    omega
  have hnz : ¬ (n : Int) = 0 := by omega
  generalize wth i n = z at hw
  go_enter Try.func8, Try.ntmps8
  go_wp2
  go_ret
  exact ⟨by first | rfl | (rw [← hw]; rfl), rfl⟩
end Go.Proofs.Ytfgelagmjjjlgaa.Nt
