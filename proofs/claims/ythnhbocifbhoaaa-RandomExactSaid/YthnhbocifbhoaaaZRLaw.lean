/- Proved here: the walks of dovecotelaw13.RandomExact and RandomRuns: at any asks they return true. -/
import Derived.Test.YthnhbocifbhoaaaZRNx
namespace Go.Proofs.Ythnhbocifbhoaaa.R
open Go.RowKit
set_option maxRecDepth 100000

/-- an ask: a seed and a bound -/
structure Ak where
  s : Nat
  n : Int
instance : Inhabited Ak := ⟨⟨0, 0⟩⟩
def AkIs (w : World) (b off : Nat) (a : Ak) : Prop := w.cell? ⟨b, off, none⟩ = some (.int .u64 (a.s : Int)) ∧ w.cell? ⟨b, off + 1, none⟩ = some (.int .i64 a.n) ∧ a.s < 2 ^ 64 ∧ a.n < 9223372036854775808 ∧ -9223372036854775808 ≤ a.n
def AsksIn (w : World) (b off : Nat) (aks : Nat → Ak) (len : Nat) : Prop := ∀ k, k < len → AkIs w b (off + k * 2) (aks k)
theorem quiet1 {w wr : World} (h : ∃ q, wr = w.drewN q) (a : Nat) : Hid (∃ q, wr.drewN a = w.drewN q) := by
  obtain ⟨q, rfl⟩ := h
  exact ⟨q + a, by rw [drewN_drewN]⟩
theorem quietB {w wr : World} (h : ∃ q, wr = w.drewN q) : Below w.heap.size w wr := by
  obtain ⟨q, rfl⟩ := h
  exact below_drewN (Below.refl _ _) _
set_option maxHeartbeats 8000000 in
theorem exact13_walk (b off len cap : Nat) (aks : Nat → Ak) (w : World) (hlen : len ≤ maxLen) (hk : AsksIn w b off aks len) : Calls Try.prog 3 #[.slice (some ⟨b, off, none⟩) len cap] w fun e w' => e = .returned (.bool true) ∧ Below w.heap.size w w' := by
  have HA := hide hk
  clear hk
  go_enter Try.func3, Try.ntmps3
  go_wp2
  go_loopw [3] (fun i wr => ∃ (k : Nat), k ≤ len ∧ k ≤ 40 ∧ i = .int .i64 k ∧ Hid (∃ q, wr = w.drewN q)) (fun i _ => 40 - (intOf i).toNat)
  case atStart => exact ⟨0, Nat.zero_le _, by omega, rfl, ⟨0, rfl⟩⟩
  case round =>
    obtain ⟨k, hk, hk6, rfl, HQ⟩ := hrel
    by_cases hlt : k < len ∧ k < 40
    · obtain ⟨hlt, hlt6⟩ := hlt
      obtain ⟨c0, c1, hs, hn, hn0⟩ : AkIs wr b (off + k * 2) (aks k) := by
        obtain ⟨q, e⟩ := unhide HQ
        rw [e]
        exact (unhide HA) k hlt
      generalize aks k = ak at c0 c1 hs hn hn0
      obtain ⟨s, n⟩ := ak
      dsimp only at c0 c1 hs hn hn0
      have HB : Hid (∀ W, Calls Try.prog 6 #[.int .u64 s, .int .i64 n] W fun e w' => e = .returned (.tuple #[.int .u64 (nx s : Nat), .int .i64 (bl (nx s) n)]) ∧ ∃ m, w' = W.drewN m) := fun W => below_any s n W hs hn
      have HR : Hid (∀ W, Calls Try.prog 7 #[.int .u64 s, .int .i64 n] W fun e w' => e = .returned (.tuple #[.int .u64 (nx s : Nat), .int .i64 (bl (nx s) n)]) ∧ ∃ m, w' = W.drewN m) := fun W => rbelow_any s n W hs hn
      have HN : Hid (∀ W, Calls Try.prog 8 #[.int .u64 s] W fun e w' => e = .returned (.int .u64 (nx s : Nat)) ∧ w' = W) := fun W => next_any s W hs
      have HP : Hid (∀ W, Calls Try.prog 9 #[.int .u64 s] W fun e w' => e = .returned (.int .u64 (nx s : Nat)) ∧ w' = W) := fun W => rnext_any s W hs
      generalize bl (nx s) n = r at HB HR
      generalize nx s = t at HB HR HN HP
      clear hs hn hn0 HA
      go_wp2
      go_quiet (refine Calls.quiet_of ((unhide HB) _))
      have HQ2 : Hid (∃ q, wr.drewN nq = w.drewN q) := quiet1 (unhide HQ) nq
      have c02 : (wr.drewN nq).cell? ⟨b, off + k * 2, none⟩ = some (.int .u64 (s : Int)) := c0
      have c12 : (wr.drewN nq).cell? ⟨b, off + k * 2 + 1, none⟩ = some (.int .i64 n) := c1
      generalize wr.drewN nq = w2 at HQ2 c02 c12 ⊢
      clear HQ c0 c1
      go_wp2
      go_quiet (refine Calls.quiet_of ((unhide HR) _))
      have HQ3 : Hid (∃ q, w2.drewN nq = w.drewN q) := quiet1 (unhide HQ2) nq
      have c03 : (w2.drewN nq).cell? ⟨b, off + k * 2, none⟩ = some (.int .u64 (s : Int)) := c02
      have c13 : (w2.drewN nq).cell? ⟨b, off + k * 2 + 1, none⟩ = some (.int .i64 n) := c12
      generalize w2.drewN nq = w3 at HQ3 c03 c13 ⊢
      clear HQ2 c02 c12
      go_wp2
      go_quiet (first | (refine Calls.quiet_of_same ((unhide HN) _)) | (refine Calls.quiet_of_same ((unhide HP) _)))
      go_wp2
      go_roundw
      case rel => exact ⟨k + 1, by omega, by omega, by go_num, quiet1 (unhide HQ3) _⟩
      case measure => simp [intOf] <;> omega
    · by_cases h1 : k < len
      · obtain rfl : k = 40 := by omega
        go_wp2_with (go_at_call 10; refine (wakes13 _).mono ?_; rintro e w2 ⟨rfl, hw2⟩; obtain rfl := hw2.symm)
        go_ret
        exact ⟨rfl, quietB (unhide HQ)⟩
      · obtain rfl : k = len := by omega
        go_wp2_with (go_at_call 10; refine (wakes13 _).mono ?_; rintro e w2 ⟨rfl, hw2⟩; obtain rfl := hw2.symm)
        go_ret
        exact ⟨rfl, quietB (unhide HQ)⟩
set_option maxHeartbeats 8000000 in
theorem runs13_walk (b off len cap : Nat) (aks : Nat → Ak) (w : World) (hlen : len ≤ maxLen) (hk : AsksIn w b off aks len) : Calls Try.prog 4 #[.slice (some ⟨b, off, none⟩) len cap] w fun e w' => e = .returned (.bool true) ∧ Below w.heap.size w w' := by
  have HA := hide hk
  clear hk
  go_enter Try.func4, Try.ntmps4
  go_wp2
  go_loopw [3] (fun i wr => ∃ (k : Nat), k ≤ len ∧ k ≤ 40 ∧ i = .int .i64 k ∧ Hid (∃ q, wr = w.drewN q)) (fun i _ => 40 - (intOf i).toNat)
  case atStart => exact ⟨0, Nat.zero_le _, by omega, rfl, ⟨0, rfl⟩⟩
  case round =>
    obtain ⟨k, hk, hk6, rfl, HQ⟩ := hrel
    obtain ⟨wo, hwo⟩ : ∃ wo, wo = wr := ⟨wr, rfl⟩
    subst hwo
    by_cases hlt : k < len ∧ k < 40
    · obtain ⟨hlt, hlt6⟩ := hlt
      have hi1 : (k : Int) < len := by omega
      have hi2 : (k : Int) < 40 := by omega
      obtain ⟨c0, c1, hs, hn, hn0⟩ : AkIs wo b (off + k * 2) (aks k) := by
        obtain ⟨q, e⟩ := unhide HQ
        rw [e]
        exact (unhide HA) k hlt
      have HC : Hid (∀ W, (∃ q, W = w.drewN q) → W.cell? ⟨b, off + k * 2 + 1, none⟩ = some (.int .i64 (aks k).n)) := by
        rintro W ⟨q, rfl⟩
        exact ((unhide HA) k hlt).2.1
      generalize aks k = ak at c0 c1 hs hn hn0 HC
      obtain ⟨s, n⟩ := ak
      dsimp only at c0 c1 hs hn hn0 HC
      clear HA
      go_wp2
      go_loopw [4, 5] (fun s i wr => ∃ (x j : Nat), s = .int .u64 (x : Int) ∧ i = .int .i64 j ∧ j ≤ 20 ∧ Hid (x < 2 ^ 64) ∧ Hid (∃ q, wr = w.drewN q)) (fun _ i _ => 20 - (intOf i).toNat)
      case atStart => exact ⟨s, 0, rfl, rfl, by omega, hs, HQ⟩
      case round =>
        obtain ⟨x, j, rfl, rfl, hj, HX, HQ2⟩ := hrel
        clear c0 c1 hs
        by_cases hj2 : j < 20
        · have HN : Hid (∀ W, Calls Try.prog 8 #[.int .u64 x] W fun e w' => e = .returned (.int .u64 (nx x : Nat)) ∧ w' = W) := fun W => next_any x W (unhide HX)
          have HB : Hid (∀ W, Calls Try.prog 6 #[.int .u64 x, .int .i64 n] W fun e w' => e = .returned (.tuple #[.int .u64 (nx x : Nat), .int .i64 (bl (nx x) n)]) ∧ ∃ m, w' = W.drewN m) := fun W => below_any x n W (unhide HX) hn
          have c1 := (unhide HC) wr (unhide HQ2)
          have ne0 : (((nx x : Nat) : Int) == 0) = false := beq_false_of_ne (fun e => nx_ne0 (unhide HX) (by omega))
          have nes : (((nx x : Nat) : Int) == (x : Int)) = false := beq_false_of_ne (fun e => nx_ne (unhide HX) (by omega))
          have HX2 := hide (nx_lt (unhide HX))
          by_cases h1 : 1 ≤ n
          · have hr := bl_range (t := nx x) h1
            generalize bl (nx x) n = r at HB hr
            generalize nx x = t at HN HB ne0 nes HX2
            go_wp2_with fail
            refine ((unhide HN) _).mono ?_
            rintro e w1 ⟨rfl, hw1⟩
            obtain rfl := hw1.symm
            go_wp2_with fail
            refine ((unhide HB) _).mono ?_
            rintro e w2 ⟨rfl, hw2⟩
            have HQ3 : Hid (∃ q, w2 = w.drewN q) := by obtain ⟨m, rfl⟩ := hw2; exact quiet1 (unhide HQ2) m
            have c2 := (unhide HC) w2 (unhide HQ3)
            clear hw2 c1
            go_wp2
            go_roundw
            case rel => exact ⟨t, j + 1, rfl, by go_num, by omega, HX2, HQ3⟩
            case measure => simp [intOf] <;> omega
          · have hr := bl_neg (t := nx x) (n := n) (by omega)
            rw [hr] at HB
            clear hr
            generalize nx x = t at HN HB ne0 nes HX2
            go_wp2_with fail
            refine ((unhide HN) _).mono ?_
            rintro e w1 ⟨rfl, hw1⟩
            obtain rfl := hw1.symm
            go_wp2_with fail
            refine ((unhide HB) _).mono ?_
            rintro e w2 ⟨rfl, hw2⟩
            have HQ3 : Hid (∃ q, w2 = w.drewN q) := by obtain ⟨m, rfl⟩ := hw2; exact quiet1 (unhide HQ2) m
            have c2 := (unhide HC) w2 (unhide HQ3)
            clear hw2 c1
            go_wp2
            go_roundw
            case rel => exact ⟨t, j + 1, rfl, by go_num, by omega, HX2, HQ3⟩
            case measure => simp [intOf] <;> omega
        · obtain rfl : j = 20 := by omega
          go_wp2
          go_roundw
          case rel => exact ⟨k + 1, by omega, by omega, by go_num, HQ2⟩
          case measure => simp [intOf] <;> omega
    · by_cases h1 : k < len
      · obtain rfl : k = 40 := by omega
        go_wp2_with (go_at_call 10; refine (wakes13 _).mono ?_; rintro e w2 ⟨rfl, hw2⟩; obtain rfl := hw2.symm)
        go_ret
        exact ⟨rfl, quietB (unhide HQ)⟩
      · obtain rfl : k = len := by omega
        go_wp2_with (go_at_call 10; refine (wakes13 _).mono ?_; rintro e w2 ⟨rfl, hw2⟩; obtain rfl := hw2.symm)
        go_ret
        exact ⟨rfl, quietB (unhide HQ)⟩
theorem runs13_walk0 (ao : Option Addr) (cap : Nat) (w : World) : Calls Try.prog 4 #[.slice ao 0 cap] w fun e w' => e = .returned (.bool true) ∧ Below w.heap.size w w' := by
  go_enter Try.func4, Try.ntmps4
  go_wp2
  go_loop [3] (fun i => i = .int .i64 0) (fun _ => 0)
  case atStart => rfl
  case round =>
    subst hrel
    go_wp2_with (go_at_call 10; refine (wakes13 _).mono ?_; rintro e w2 ⟨rfl, hw2⟩; obtain rfl := hw2.symm)
    go_ret
    exact ⟨rfl, Below.refl _ _⟩
theorem exact13_walk0 (ao : Option Addr) (cap : Nat) (w : World) : Calls Try.prog 3 #[.slice ao 0 cap] w fun e w' => e = .returned (.bool true) ∧ Below w.heap.size w w' := by
  go_enter Try.func3, Try.ntmps3
  go_wp2
  go_loop [3] (fun i => i = .int .i64 0) (fun _ => 0)
  case atStart => rfl
  case round =>
    subst hrel
    go_wp2_with (go_at_call 10; refine (wakes13 _).mono ?_; rintro e w2 ⟨rfl, hw2⟩; obtain rfl := hw2.symm)
    go_ret
    exact ⟨rfl, Below.refl _ _⟩
end Go.Proofs.Ythnhbocifbhoaaa.R
