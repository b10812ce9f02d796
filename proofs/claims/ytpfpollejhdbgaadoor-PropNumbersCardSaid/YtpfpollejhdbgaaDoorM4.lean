/- Proved here: helpers, one text behind the other. -/
import Derived.Test.YtpfpollejhdbgaaDoorM3
import Derived.Handy
import Derived.Test.YtpfpollejhdbgaaDoorM2
import Derived.Laws.AppendOwnNone
import Derived.Deep.RegionHeld3
import Derived.Deep.AppendLies
import Derived.Laws.IdiomStrings
import Derived.Test.YtpfpollejhdbgaaDoorZPTake
/- Proved here: prop.putNumber tells a number's bytes, the highest first. Helper contracts. -/
namespace Go.Proofs.YtpfpollejhdbgaaDoor
open Go.RowKit
set_option maxRecDepth 100000

/-- a number in so many bytes, the highest first -/
def nbs (k n : Int) : List Int := if k = 1 then [n] else if k = 2 then [n / 256, n % 256] else [n / 16777216, n / 65536 % 256, n / 256 % 256, n % 256]
def NumPost (k n : Int) (w : World) (e : Ending) (w' : World) : Prop :=
  ∃ v, e = .returned v ∧ Hid (w'.ownsRow w.heap.size 5 1 v (nbs k n).length ((nbs k n).map (Value.int .u8))) ∧ Below w.heap.size w w'
theorem num_1 (n : Int) (w : World) (h0 : 0 ≤ n) (h1 : n ≤ 1) : Calls Tryd.prog 68 #[.int .i64 n, .int .i64 1] w (NumPost 1 n w) := by
  unfold NumPost
  have m1 := V.make1
  have hx : n % 256 = n := by omega
  go_enter Tryd.func68, Tryd.ntmps68
  go_wp2
  refine wp_loop_rounds 2 ?_
  rw [rounds_succ]
  go_wp2
  rw [rounds_succ]
  go_wp2
  go_ret
  exact ⟨_, rfl, World.ownsRow_lit w _ _ (Nat.le_refl _) (by unfold maxLen; omega) (by simp), by go_grown⟩
theorem num_2 (n : Int) (w : World) (h0 : 0 ≤ n) (h1 : n ≤ 65535) : Calls Tryd.prog 68 #[.int .i64 n, .int .i64 2] w (NumPost 2 n w) := by
  unfold NumPost
  have m1 := V.make2
  have hx : n / 256 % 256 = n / 256 := by omega
  go_enter Tryd.func68, Tryd.ntmps68
  go_wp2
  refine wp_loop_rounds 3 ?_
  rw [rounds_succ]
  go_wp2
  rw [rounds_succ]
  go_wp2
  rw [rounds_succ]
  go_wp2
  go_ret
  exact ⟨_, rfl, World.ownsRow_lit w _ _ (Nat.le_refl _) (by unfold maxLen; omega) (by simp), by go_grown⟩
theorem num_4 (n : Int) (w : World) (h0 : 0 ≤ n) (h1 : n ≤ 4294967295) : Calls Tryd.prog 68 #[.int .i64 n, .int .i64 4] w (NumPost 4 n w) := by
  unfold NumPost
  have m1 := V.make4
  have hx : n / 256 / 256 / 256 = n / 16777216 := by omega
  have hy : n / 256 / 256 % 256 = n / 65536 % 256 := by omega
  go_enter Tryd.func68, Tryd.ntmps68
  go_wp2
  refine wp_loop_rounds 5 ?_
  rw [rounds_succ]
  go_wp2
  rw [rounds_succ]
  go_wp2
  rw [rounds_succ]
  go_wp2
  rw [rounds_succ]
  go_wp2
  rw [rounds_succ]
  go_wp2
  go_ret
  exact ⟨_, rfl, World.ownsRow_lit w _ _ (Nat.le_refl _) (by unfold maxLen; omega) (by simp), by go_grown⟩
end Go.Proofs.YtpfpollejhdbgaaDoor
/- Proved here: dovecoteref1.point tells how many bytes the code point has with which bytes begin, or 0. Helper contracts. -/
namespace Go.Proofs.YtpfpollejhdbgaaDoor
open Go.RowKit

/-- the code point as far as k bytes more than the first tell it -/
def acc (m : Int) (l : List Int) : Nat → Int
  | 0 => l.getD 0 0 % m
  | k + 1 => acc m l k * 64 + l.getD (k + 1) 0 % 64
theorem acc_pos (m : Int) (l : List Int) (hm : 0 < m) : ∀ k, 0 ≤ acc m l k
  | 0 => Int.emod_nonneg _ (by omega)
  | k + 1 => by have := acc_pos m l hm k; simp only [acc]; omega
theorem acc_lt (m : Int) (l : List Int) (hm : 0 < m) (h32 : m ≤ 32) (k : Nat) (hk : k ≤ 3) : acc m l k < 8388608 := by
  have h0 : acc m l 0 < 32 := by have := Int.emod_lt_of_pos (l.getD 0 0) hm; simp only [acc]; omega
  have h1 : acc m l 1 < 2048 := by simp only [acc] at h0 ⊢; omega
  have h2 : acc m l 2 < 131072 := by simp only [acc] at h0 h1 ⊢; omega
  have h3 : acc m l 3 < 8388608 := by simp only [acc] at h0 h1 h2 ⊢; omega
  obtain rfl | rfl | rfl | rfl : k = 0 ∨ k = 1 ∨ k = 2 ∨ k = 3 := by omega
  all_goals omega
/-- bytes in memory, as point's walk wants them -/
def Mem (w : World) (b off len : Nat) (l : List Int) : Prop := l.length = len ∧ (∀ j, j < len → w.cell? ⟨b, off + j, none⟩ = some (.int .u8 (l.getD j 0))) ∧ ∀ j, 0 ≤ l.getD j 0 ∧ l.getD j 0 ≤ 255
theorem Mem.len {w : World} {b off len : Nat} {l : List Int} (h : Mem w b off len l) : l.length = len := h.1
theorem Mem.cell {w : World} {b off len : Nat} {l : List Int} (h : Mem w b off len l) : ∀ j, j < len → w.cell? ⟨b, off + j, none⟩ = some (.int .u8 (l.getD j 0)) := h.2.1
theorem Mem.range {w : World} {b off len : Nat} {l : List Int} (h : Mem w b off len l) : ∀ j, 0 ≤ l.getD j 0 ∧ l.getD j 0 ≤ 255 := h.2.2
theorem Mem.cell0 {w : World} {b off len : Nat} {l : List Int} (h : Mem w b off len l) (h0 : 0 < len) : w.cell? ⟨b, off, none⟩ = some (.int .u8 (l.getD 0 0)) := h.cell 0 h0

theorem rp_lone (b off len cap : Nat) (l : List Int) (w : World) (h0 : 0 < len) (hm : Mem w b off len l) (h1 : 128 ≤ l.getD 0 0) (h2 : l.getD 0 0 < 192) : Calls Tryd.prog 66 #[.slice (some ⟨b, off, none⟩) len cap] w fun e w' => e = .returned (.int .i64 (pt l)) ∧ w' = w := by
  have hc := hm.cell0 h0
  have hp : Hid (pt l = 0) := pt_0 l (by rcases szf_cases (l.getD 0 0) with h | h | h | h | h | h <;> omega)
  have hr := hm.range 0
  have HM := hide hm
  clear hm
  generalize l.getD 0 0 = c at hc hr h1 h2
  go_enter Tryd.func66, Tryd.ntmps66
  go_wp2
  go_ret
  refine ⟨ret_int ?_, rfl⟩
  rw [unhide hp]
  rfl
theorem rp_high (b off len cap : Nat) (l : List Int) (w : World) (h0 : 0 < len) (hm : Mem w b off len l) (h1 : 248 ≤ l.getD 0 0) : Calls Tryd.prog 66 #[.slice (some ⟨b, off, none⟩) len cap] w fun e w' => e = .returned (.int .i64 (pt l)) ∧ w' = w := by
  have hc := hm.cell0 h0
  have hp : Hid (pt l = 0) := pt_0 l (by rcases szf_cases (l.getD 0 0) with h | h | h | h | h | h <;> omega)
  have hr := hm.range 0
  have HM := hide hm
  clear hm
  generalize l.getD 0 0 = c at hc hr h1 
  go_enter Tryd.func66, Tryd.ntmps66
  go_wp2
  go_ret
  refine ⟨ret_int ?_, rfl⟩
  rw [unhide hp]
  rfl
theorem rp_1 (b off len cap : Nat) (l : List Int) (w : World) (h0 : 0 < len) (hm : Mem w b off len l) (h2 : l.getD 0 0 < 128) : Calls Tryd.prog 66 #[.slice (some ⟨b, off, none⟩) len cap] w fun e w' => e = .returned (.int .i64 (pt l)) ∧ w' = w := by
  have hc := hm.cell0 h0
  have hp := hide (pt_1 l h2)
  have hr := hm.range 0
  have HM := hide hm
  clear hm
  generalize l.getD 0 0 = c at hc hr h2 hp
  by_cases hz : 0 < c
  · have hp' : Hid (pt l = 1) := by show _ = _; rw [unhide hp, if_pos hz]
    go_enter Tryd.func66, Tryd.ntmps66
    go_wp2
    refine wp_loop_rounds 1 ?_
    rw [rounds_succ]
    go_wp2
    go_ret
    refine ⟨ret_int ?_, rfl⟩
    rw [unhide hp']
    rfl
  · have hp' : Hid (pt l = 0) := by show _ = _; rw [unhide hp, if_neg hz]
    go_enter Tryd.func66, Tryd.ntmps66
    go_wp2
    refine wp_loop_rounds 1 ?_
    rw [rounds_succ]
    go_wp2
    go_ret
    refine ⟨ret_int ?_, rfl⟩
    rw [unhide hp']
    rfl
theorem rp_short2 (b off len cap : Nat) (l : List Int) (w : World) (h0 : 0 < len) (hm : Mem w b off len l) (h1 : 192 ≤ l.getD 0 0) (h2 : l.getD 0 0 < 224) (hs : len < 2) : Calls Tryd.prog 66 #[.slice (some ⟨b, off, none⟩) len cap] w fun e w' => e = .returned (.int .i64 (pt l)) ∧ w' = w := by
  have hc := hm.cell0 h0
  have hp : Hid (pt l = 0) := pt_short l 2 (by rcases szf_cases (l.getD 0 0) with h | h | h | h | h | h <;> omega) (by rw [hm.len]; exact h0) (by rw [hm.len]; exact hs)
  have hr := hm.range 0
  have HM := hide hm
  clear hm
  generalize l.getD 0 0 = c at hc hr h1 h2
  go_enter Tryd.func66, Tryd.ntmps66
  go_wp2
  go_ret
  refine ⟨ret_int ?_, rfl⟩
  rw [unhide hp]
  rfl
set_option maxRecDepth 100000 in
set_option maxHeartbeats 1000000 in
theorem rp_2 (b off len cap : Nat) (l : List Int) (w : World) (h0 : 0 < len) (hm : Mem w b off len l) (h1 : 192 ≤ l.getD 0 0) (h2 : l.getD 0 0 < 224) (hs : 2 ≤ len) : Calls Tryd.prog 66 #[.slice (some ⟨b, off, none⟩) len cap] w fun e w' => e = .returned (.int .i64 (pt l)) ∧ w' = w := by
  have hc := hm.cell0 h0
  have hz : Hid (szf (l.getD 0 0) = 2) := by show _ = _; rcases szf_cases (l.getD 0 0) with h | h | h | h | h | h <;> omega
  have hz2 : Hid (szf (l.getD 0 0) = 2) := unhide hz
  have HZ : Hid (∀ z : Nat, z = 2 → szf (l.getD 0 0) = z) := fun z h => by rw [unhide hz2, h]; rfl
  clear hz hz2
  have hr := hm.range 0
  have ha : bits .and .i64 (l.getD 0 0) 31 = l.getD 0 0 % 32 := a31 _ hr.1 hr.2
  have h00 : Hid (l.getD 0 0 % 32 = acc 32 l 0) := rfl
  have HM := hide hm
  clear hm
  generalize l.getD 0 0 = c at hc hr h1 h2 ha h00
  go_enter Tryd.func66, Tryd.ntmps66
  go_wp2
  go_loop [4, 6] (fun p i => ∃ k : Nat, 1 ≤ k ∧ k ≤ 2 ∧ i = .int .i64 k ∧ p = .int .i64 (acc 32 l (k - 1)) ∧ Hid (∀ j, 1 ≤ j → j < k → cont (l.getD j 0) = true)) (fun _ i => 2 - (intOf i).toNat)
  case atStart => exact ⟨1, by omega, by omega, rfl, by rw [unhide h00], fun j h1 h2 => by omega⟩
  case round =>
    obtain ⟨k, hk1, hkn, rfl, rfl, hall⟩ := hrel
    by_cases hlt : k < 2
    · have hck := (unhide HM).cell k (by omega)
      have hrk := (unhide HM).range k
      have hstep : Hid (acc 32 l k = acc 32 l (k - 1) * 64 + l.getD k 0 % 64) := by
        obtain ⟨q, rfl⟩ : ∃ q, k = q + 1 := ⟨k - 1, by omega⟩
        rfl
      have hp0 := acc_pos 32 l (by omega) (k - 1)
      have hp1 := acc_lt 32 l (by omega) (by omega) (k - 1) (by omega)
      have hcs : Hid ((bits .and .u8 (l.getD k 0) 192 == 128) = cont (l.getD k 0)) := a192 _ hrk.1 hrk.2
      have hcont := hide (pt_cont l 2 ((unhide HZ) 2 rfl) k hk1 hlt)
      have ha63 : bits .and .u8 (l.getD k 0) 63 = l.getD k 0 % 64 := a63 _ hrk.1 hrk.2
      have hor : bits .or .i64 (acc 32 l (k - 1) * 64) (l.getD k 0 % 64) = acc 32 l (k - 1) * 64 + l.getD k 0 % 64 := or_i64 _ _ 6 (by omega) (by omega) (by omega) (by omega) (by omega) (by omega)
      generalize hx : l.getD k 0 = x at hck hrk hstep hcs hcont ha63 hor
      generalize hpp : acc 32 l (k - 1) = p at hp0 hp1 hstep hor
      have HX := hide hx
      have HPP := hide hpp
      clear hx hpp
      by_cases hct : cont x = true
      · have hb : (bits .and .u8 x 192 == 128) = true := (unhide hcs).trans hct
        have HC := hide hct
        clear hct hcont
        go_wp2
        go_round
        case rel => exact ⟨k + 1, by omega, by omega, by go_num, by rw [Nat.add_sub_cancel, unhide hstep], fun j h1 h2 => by
          rcases Nat.lt_succ_iff_lt_or_eq.1 h2 with h | h
          · exact (unhide hall) j h1 h
          · rw [h, unhide HX]; exact unhide HC⟩
        case measure => simp [intOf]; omega
      · have hb : (bits .and .u8 x 192 == 128) = false := by rw [unhide hcs]; simpa using hct
        have hp : Hid (pt l = 0) := (unhide hcont) (by simpa using hct)
        clear hct hcont
        go_wp2
        go_ret
        refine ⟨ret_int ?_, rfl⟩
        rw [unhide hp]
        rfl
    · obtain rfl : k = 2 := by omega
      have hpt : Hid (pt l = if mbn 2 l = true then 2 else 0) := pt_mb l 2 ((unhide HZ) 2 rfl) (by omega) (by rw [(unhide HM).len]; exact hs) (unhide hall)
      have hpv : Hid (pvn 2 l = acc 32 l (2 - 1)) := rfl
      have hp0 := acc_pos 32 l (by omega) (2 - 1)
      have hp1 := acc_lt 32 l (by omega) (by omega) (2 - 1) (by omega)
      have yes : Hid (∀ P, acc 32 l (2 - 1) = P → 128 ≤ P → P ≤ 1114111 → (P < 55296 ∨ 57343 < P) → pt l = 2) := by
        intro P hP a1 a2 a3
        rw [unhide hpt, if_pos]
        unfold mbn
        rw [unhide hpv, hP]
        have : lstn 2 = 128 := rfl
        simp only [this, Bool.and_eq_true, Bool.not_eq_true', Bool.and_eq_false_iff, decide_eq_true_eq, decide_eq_false_iff_not]
        omega
      have no : Hid (∀ P, acc 32 l (2 - 1) = P → (P < 128 ∨ 1114111 < P ∨ (55296 ≤ P ∧ P ≤ 57343)) → pt l = 0) := by
        intro P hP a1
        rw [unhide hpt, if_neg]
        unfold mbn
        rw [unhide hpv, hP]
        have : lstn 2 = 128 := rfl
        simp only [this, Bool.and_eq_true, Bool.not_eq_true', Bool.and_eq_false_iff, decide_eq_true_eq, decide_eq_false_iff_not]
        omega
      generalize hP : acc 32 l (2 - 1) = P at hp0 hp1
      have HP := hide hP
      clear hP hpt hpv
      by_cases q1 : P < 128
      · have hp : Hid (pt l = 0) := (unhide no) P (unhide HP) (.inl q1)
        go_wp2
        go_ret
        refine ⟨ret_int ?_, rfl⟩
        rw [unhide hp]
        rfl
      · by_cases q2 : 1114111 < P
        · have hp : Hid (pt l = 0) := (unhide no) P (unhide HP) (.inr (.inl q2))
          go_wp2
          go_ret
          refine ⟨ret_int ?_, rfl⟩
          rw [unhide hp]
          rfl
        · by_cases q3 : 55296 ≤ P
          · by_cases q4 : P ≤ 57343
            · have hp : Hid (pt l = 0) := (unhide no) P (unhide HP) (.inr (.inr ⟨q3, q4⟩))
              go_wp2
              go_ret
              refine ⟨ret_int ?_, rfl⟩
              rw [unhide hp]
              rfl
            · have hp : Hid (pt l = 2) := (unhide yes) P (unhide HP) (by omega) (by omega) (by omega)
              go_wp2
              go_ret
              refine ⟨ret_int ?_, rfl⟩
              rw [unhide hp]
              rfl
          · have hp : Hid (pt l = 2) := (unhide yes) P (unhide HP) (by omega) (by omega) (by omega)
            go_wp2
            go_ret
            refine ⟨ret_int ?_, rfl⟩
            rw [unhide hp]
            rfl
theorem rp_short3 (b off len cap : Nat) (l : List Int) (w : World) (h0 : 0 < len) (hm : Mem w b off len l) (h1 : 224 ≤ l.getD 0 0) (h2 : l.getD 0 0 < 240) (hs : len < 3) : Calls Tryd.prog 66 #[.slice (some ⟨b, off, none⟩) len cap] w fun e w' => e = .returned (.int .i64 (pt l)) ∧ w' = w := by
  have hc := hm.cell0 h0
  have hp : Hid (pt l = 0) := pt_short l 3 (by rcases szf_cases (l.getD 0 0) with h | h | h | h | h | h <;> omega) (by rw [hm.len]; exact h0) (by rw [hm.len]; exact hs)
  have hr := hm.range 0
  have HM := hide hm
  clear hm
  generalize l.getD 0 0 = c at hc hr h1 h2
  go_enter Tryd.func66, Tryd.ntmps66
  go_wp2
  go_ret
  refine ⟨ret_int ?_, rfl⟩
  rw [unhide hp]
  rfl
set_option maxRecDepth 100000 in
set_option maxHeartbeats 1000000 in
theorem rp_3 (b off len cap : Nat) (l : List Int) (w : World) (h0 : 0 < len) (hm : Mem w b off len l) (h1 : 224 ≤ l.getD 0 0) (h2 : l.getD 0 0 < 240) (hs : 3 ≤ len) : Calls Tryd.prog 66 #[.slice (some ⟨b, off, none⟩) len cap] w fun e w' => e = .returned (.int .i64 (pt l)) ∧ w' = w := by
  have hc := hm.cell0 h0
  have hz : Hid (szf (l.getD 0 0) = 3) := by show _ = _; rcases szf_cases (l.getD 0 0) with h | h | h | h | h | h <;> omega
  have hz2 : Hid (szf (l.getD 0 0) = 3) := unhide hz
  have HZ : Hid (∀ z : Nat, z = 3 → szf (l.getD 0 0) = z) := fun z h => by rw [unhide hz2, h]; rfl
  clear hz hz2
  have hr := hm.range 0
  have ha : bits .and .i64 (l.getD 0 0) 15 = l.getD 0 0 % 16 := a15 _ hr.1 hr.2
  have h00 : Hid (l.getD 0 0 % 16 = acc 16 l 0) := rfl
  have HM := hide hm
  clear hm
  generalize l.getD 0 0 = c at hc hr h1 h2 ha h00
  go_enter Tryd.func66, Tryd.ntmps66
  go_wp2
  go_loop [4, 6] (fun p i => ∃ k : Nat, 1 ≤ k ∧ k ≤ 3 ∧ i = .int .i64 k ∧ p = .int .i64 (acc 16 l (k - 1)) ∧ Hid (∀ j, 1 ≤ j → j < k → cont (l.getD j 0) = true)) (fun _ i => 3 - (intOf i).toNat)
  case atStart => exact ⟨1, by omega, by omega, rfl, by rw [unhide h00], fun j h1 h2 => by omega⟩
  case round =>
    obtain ⟨k, hk1, hkn, rfl, rfl, hall⟩ := hrel
    by_cases hlt : k < 3
    · have hck := (unhide HM).cell k (by omega)
      have hrk := (unhide HM).range k
      have hstep : Hid (acc 16 l k = acc 16 l (k - 1) * 64 + l.getD k 0 % 64) := by
        obtain ⟨q, rfl⟩ : ∃ q, k = q + 1 := ⟨k - 1, by omega⟩
        rfl
      have hp0 := acc_pos 16 l (by omega) (k - 1)
      have hp1 := acc_lt 16 l (by omega) (by omega) (k - 1) (by omega)
      have hcs : Hid ((bits .and .u8 (l.getD k 0) 192 == 128) = cont (l.getD k 0)) := a192 _ hrk.1 hrk.2
      have hcont := hide (pt_cont l 3 ((unhide HZ) 3 rfl) k hk1 hlt)
      have ha63 : bits .and .u8 (l.getD k 0) 63 = l.getD k 0 % 64 := a63 _ hrk.1 hrk.2
      have hor : bits .or .i64 (acc 16 l (k - 1) * 64) (l.getD k 0 % 64) = acc 16 l (k - 1) * 64 + l.getD k 0 % 64 := or_i64 _ _ 6 (by omega) (by omega) (by omega) (by omega) (by omega) (by omega)
      generalize hx : l.getD k 0 = x at hck hrk hstep hcs hcont ha63 hor
      generalize hpp : acc 16 l (k - 1) = p at hp0 hp1 hstep hor
      have HX := hide hx
      have HPP := hide hpp
      clear hx hpp
      by_cases hct : cont x = true
      · have hb : (bits .and .u8 x 192 == 128) = true := (unhide hcs).trans hct
        have HC := hide hct
        clear hct hcont
        go_wp2
        go_round
        case rel => exact ⟨k + 1, by omega, by omega, by go_num, by rw [Nat.add_sub_cancel, unhide hstep], fun j h1 h2 => by
          rcases Nat.lt_succ_iff_lt_or_eq.1 h2 with h | h
          · exact (unhide hall) j h1 h
          · rw [h, unhide HX]; exact unhide HC⟩
        case measure => simp [intOf]; omega
      · have hb : (bits .and .u8 x 192 == 128) = false := by rw [unhide hcs]; simpa using hct
        have hp : Hid (pt l = 0) := (unhide hcont) (by simpa using hct)
        clear hct hcont
        go_wp2
        go_ret
        refine ⟨ret_int ?_, rfl⟩
        rw [unhide hp]
        rfl
    · obtain rfl : k = 3 := by omega
      have hpt : Hid (pt l = if mbn 3 l = true then 3 else 0) := pt_mb l 3 ((unhide HZ) 3 rfl) (by omega) (by rw [(unhide HM).len]; exact hs) (unhide hall)
      have hpv : Hid (pvn 3 l = acc 16 l (3 - 1)) := rfl
      have hp0 := acc_pos 16 l (by omega) (3 - 1)
      have hp1 := acc_lt 16 l (by omega) (by omega) (3 - 1) (by omega)
      have yes : Hid (∀ P, acc 16 l (3 - 1) = P → 2048 ≤ P → P ≤ 1114111 → (P < 55296 ∨ 57343 < P) → pt l = 3) := by
        intro P hP a1 a2 a3
        rw [unhide hpt, if_pos]
        unfold mbn
        rw [unhide hpv, hP]
        have : lstn 3 = 2048 := rfl
        simp only [this, Bool.and_eq_true, Bool.not_eq_true', Bool.and_eq_false_iff, decide_eq_true_eq, decide_eq_false_iff_not]
        omega
      have no : Hid (∀ P, acc 16 l (3 - 1) = P → (P < 2048 ∨ 1114111 < P ∨ (55296 ≤ P ∧ P ≤ 57343)) → pt l = 0) := by
        intro P hP a1
        rw [unhide hpt, if_neg]
        unfold mbn
        rw [unhide hpv, hP]
        have : lstn 3 = 2048 := rfl
        simp only [this, Bool.and_eq_true, Bool.not_eq_true', Bool.and_eq_false_iff, decide_eq_true_eq, decide_eq_false_iff_not]
        omega
      generalize hP : acc 16 l (3 - 1) = P at hp0 hp1
      have HP := hide hP
      clear hP hpt hpv
      by_cases q1 : P < 2048
      · have hp : Hid (pt l = 0) := (unhide no) P (unhide HP) (.inl q1)
        go_wp2
        go_ret
        refine ⟨ret_int ?_, rfl⟩
        rw [unhide hp]
        rfl
      · by_cases q2 : 1114111 < P
        · have hp : Hid (pt l = 0) := (unhide no) P (unhide HP) (.inr (.inl q2))
          go_wp2
          go_ret
          refine ⟨ret_int ?_, rfl⟩
          rw [unhide hp]
          rfl
        · by_cases q3 : 55296 ≤ P
          · by_cases q4 : P ≤ 57343
            · have hp : Hid (pt l = 0) := (unhide no) P (unhide HP) (.inr (.inr ⟨q3, q4⟩))
              go_wp2
              go_ret
              refine ⟨ret_int ?_, rfl⟩
              rw [unhide hp]
              rfl
            · have hp : Hid (pt l = 3) := (unhide yes) P (unhide HP) (by omega) (by omega) (by omega)
              go_wp2
              go_ret
              refine ⟨ret_int ?_, rfl⟩
              rw [unhide hp]
              rfl
          · have hp : Hid (pt l = 3) := (unhide yes) P (unhide HP) (by omega) (by omega) (by omega)
            go_wp2
            go_ret
            refine ⟨ret_int ?_, rfl⟩
            rw [unhide hp]
            rfl
theorem rp_short4 (b off len cap : Nat) (l : List Int) (w : World) (h0 : 0 < len) (hm : Mem w b off len l) (h1 : 240 ≤ l.getD 0 0) (h2 : l.getD 0 0 < 248) (hs : len < 4) : Calls Tryd.prog 66 #[.slice (some ⟨b, off, none⟩) len cap] w fun e w' => e = .returned (.int .i64 (pt l)) ∧ w' = w := by
  have hc := hm.cell0 h0
  have hp : Hid (pt l = 0) := pt_short l 4 (by rcases szf_cases (l.getD 0 0) with h | h | h | h | h | h <;> omega) (by rw [hm.len]; exact h0) (by rw [hm.len]; exact hs)
  have hr := hm.range 0
  have HM := hide hm
  clear hm
  generalize l.getD 0 0 = c at hc hr h1 h2
  go_enter Tryd.func66, Tryd.ntmps66
  go_wp2
  go_ret
  refine ⟨ret_int ?_, rfl⟩
  rw [unhide hp]
  rfl
set_option maxRecDepth 100000 in
set_option maxHeartbeats 1000000 in
theorem rp_4 (b off len cap : Nat) (l : List Int) (w : World) (h0 : 0 < len) (hm : Mem w b off len l) (h1 : 240 ≤ l.getD 0 0) (h2 : l.getD 0 0 < 248) (hs : 4 ≤ len) : Calls Tryd.prog 66 #[.slice (some ⟨b, off, none⟩) len cap] w fun e w' => e = .returned (.int .i64 (pt l)) ∧ w' = w := by
  have hc := hm.cell0 h0
  have hz : Hid (szf (l.getD 0 0) = 4) := by show _ = _; rcases szf_cases (l.getD 0 0) with h | h | h | h | h | h <;> omega
  have hz2 : Hid (szf (l.getD 0 0) = 4) := unhide hz
  have HZ : Hid (∀ z : Nat, z = 4 → szf (l.getD 0 0) = z) := fun z h => by rw [unhide hz2, h]; rfl
  clear hz hz2
  have hr := hm.range 0
  have ha : bits .and .i64 (l.getD 0 0) 7 = l.getD 0 0 % 8 := a7 _ hr.1 hr.2
  have h00 : Hid (l.getD 0 0 % 8 = acc 8 l 0) := rfl
  have HM := hide hm
  clear hm
  generalize l.getD 0 0 = c at hc hr h1 h2 ha h00
  go_enter Tryd.func66, Tryd.ntmps66
  go_wp2
  go_loop [4, 6] (fun p i => ∃ k : Nat, 1 ≤ k ∧ k ≤ 4 ∧ i = .int .i64 k ∧ p = .int .i64 (acc 8 l (k - 1)) ∧ Hid (∀ j, 1 ≤ j → j < k → cont (l.getD j 0) = true)) (fun _ i => 4 - (intOf i).toNat)
  case atStart => exact ⟨1, by omega, by omega, rfl, by rw [unhide h00], fun j h1 h2 => by omega⟩
  case round =>
    obtain ⟨k, hk1, hkn, rfl, rfl, hall⟩ := hrel
    by_cases hlt : k < 4
    · have hck := (unhide HM).cell k (by omega)
      have hrk := (unhide HM).range k
      have hstep : Hid (acc 8 l k = acc 8 l (k - 1) * 64 + l.getD k 0 % 64) := by
        obtain ⟨q, rfl⟩ : ∃ q, k = q + 1 := ⟨k - 1, by omega⟩
        rfl
      have hp0 := acc_pos 8 l (by omega) (k - 1)
      have hp1 := acc_lt 8 l (by omega) (by omega) (k - 1) (by omega)
      have hcs : Hid ((bits .and .u8 (l.getD k 0) 192 == 128) = cont (l.getD k 0)) := a192 _ hrk.1 hrk.2
      have hcont := hide (pt_cont l 4 ((unhide HZ) 4 rfl) k hk1 hlt)
      have ha63 : bits .and .u8 (l.getD k 0) 63 = l.getD k 0 % 64 := a63 _ hrk.1 hrk.2
      have hor : bits .or .i64 (acc 8 l (k - 1) * 64) (l.getD k 0 % 64) = acc 8 l (k - 1) * 64 + l.getD k 0 % 64 := or_i64 _ _ 6 (by omega) (by omega) (by omega) (by omega) (by omega) (by omega)
      generalize hx : l.getD k 0 = x at hck hrk hstep hcs hcont ha63 hor
      generalize hpp : acc 8 l (k - 1) = p at hp0 hp1 hstep hor
      have HX := hide hx
      have HPP := hide hpp
      clear hx hpp
      by_cases hct : cont x = true
      · have hb : (bits .and .u8 x 192 == 128) = true := (unhide hcs).trans hct
        have HC := hide hct
        clear hct hcont
        go_wp2
        go_round
        case rel => exact ⟨k + 1, by omega, by omega, by go_num, by rw [Nat.add_sub_cancel, unhide hstep], fun j h1 h2 => by
          rcases Nat.lt_succ_iff_lt_or_eq.1 h2 with h | h
          · exact (unhide hall) j h1 h
          · rw [h, unhide HX]; exact unhide HC⟩
        case measure => simp [intOf]; omega
      · have hb : (bits .and .u8 x 192 == 128) = false := by rw [unhide hcs]; simpa using hct
        have hp : Hid (pt l = 0) := (unhide hcont) (by simpa using hct)
        clear hct hcont
        go_wp2
        go_ret
        refine ⟨ret_int ?_, rfl⟩
        rw [unhide hp]
        rfl
    · obtain rfl : k = 4 := by omega
      have hpt : Hid (pt l = if mbn 4 l = true then 4 else 0) := pt_mb l 4 ((unhide HZ) 4 rfl) (by omega) (by rw [(unhide HM).len]; exact hs) (unhide hall)
      have hpv : Hid (pvn 4 l = acc 8 l (4 - 1)) := rfl
      have hp0 := acc_pos 8 l (by omega) (4 - 1)
      have hp1 := acc_lt 8 l (by omega) (by omega) (4 - 1) (by omega)
      have yes : Hid (∀ P, acc 8 l (4 - 1) = P → 65536 ≤ P → P ≤ 1114111 → (P < 55296 ∨ 57343 < P) → pt l = 4) := by
        intro P hP a1 a2 a3
        rw [unhide hpt, if_pos]
        unfold mbn
        rw [unhide hpv, hP]
        have : lstn 4 = 65536 := rfl
        simp only [this, Bool.and_eq_true, Bool.not_eq_true', Bool.and_eq_false_iff, decide_eq_true_eq, decide_eq_false_iff_not]
        omega
      have no : Hid (∀ P, acc 8 l (4 - 1) = P → (P < 65536 ∨ 1114111 < P ∨ (55296 ≤ P ∧ P ≤ 57343)) → pt l = 0) := by
        intro P hP a1
        rw [unhide hpt, if_neg]
        unfold mbn
        rw [unhide hpv, hP]
        have : lstn 4 = 65536 := rfl
        simp only [this, Bool.and_eq_true, Bool.not_eq_true', Bool.and_eq_false_iff, decide_eq_true_eq, decide_eq_false_iff_not]
        omega
      generalize hP : acc 8 l (4 - 1) = P at hp0 hp1
      have HP := hide hP
      clear hP hpt hpv
      by_cases q1 : P < 65536
      · have hp : Hid (pt l = 0) := (unhide no) P (unhide HP) (.inl q1)
        go_wp2
        go_ret
        refine ⟨ret_int ?_, rfl⟩
        rw [unhide hp]
        rfl
      · by_cases q2 : 1114111 < P
        · have hp : Hid (pt l = 0) := (unhide no) P (unhide HP) (.inr (.inl q2))
          go_wp2
          go_ret
          refine ⟨ret_int ?_, rfl⟩
          rw [unhide hp]
          rfl
        · by_cases q3 : 55296 ≤ P
          · by_cases q4 : P ≤ 57343
            · have hp : Hid (pt l = 0) := (unhide no) P (unhide HP) (.inr (.inr ⟨q3, q4⟩))
              go_wp2
              go_ret
              refine ⟨ret_int ?_, rfl⟩
              rw [unhide hp]
              rfl
            · have hp : Hid (pt l = 4) := (unhide yes) P (unhide HP) (by omega) (by omega) (by omega)
              go_wp2
              go_ret
              refine ⟨ret_int ?_, rfl⟩
              rw [unhide hp]
              rfl
          · have hp : Hid (pt l = 4) := (unhide yes) P (unhide HP) (by omega) (by omega) (by omega)
            go_wp2
            go_ret
            refine ⟨ret_int ?_, rfl⟩
            rw [unhide hp]
            rfl
theorem rp_any (v : Value) (l : List Int) (w : World) (hv : Byt w v l) (h0 : l ≠ []) : Calls Tryd.prog 66 #[v] w fun e w' => e = .returned (.int .i64 (pt l)) ∧ w' = w := by
  obtain ⟨ao, cap, rfl, hlen, hr, hcase⟩ := hv
  rcases hcase with rfl | ⟨b, off, rfl, hc⟩
  · exact absurd rfl h0
  · have hm : Mem w b off l.length l := ⟨rfl, hc, hr⟩
    have hp : 0 < l.length := by rcases l with _ | ⟨a, r⟩; exact absurd rfl h0; simp
    by_cases a1 : l.getD 0 0 < 128
    · exact rp_1 b off _ cap l w hp hm a1
    · by_cases a2 : l.getD 0 0 < 192
      · exact rp_lone b off _ cap l w hp hm (by omega) a2
      · by_cases a3 : l.getD 0 0 < 224
        · by_cases hs : l.length < 2
          · exact rp_short2 b off _ cap l w hp hm (by omega) a3 hs
          · exact rp_2 b off _ cap l w hp hm (by omega) a3 (by omega)
        · by_cases a4 : l.getD 0 0 < 240
          · by_cases hs : l.length < 3
            · exact rp_short3 b off _ cap l w hp hm (by omega) a4 hs
            · exact rp_3 b off _ cap l w hp hm (by omega) a4 (by omega)
          · by_cases a5 : l.getD 0 0 < 248
            · by_cases hs : l.length < 4
              · exact rp_short4 b off _ cap l w hp hm (by omega) a5 hs
              · exact rp_4 b off _ cap l w hp hm (by omega) a5 (by omega)
            · exact rp_high b off _ cap l w hp hm (by omega)
end Go.Proofs.YtpfpollejhdbgaaDoor
/- Proved here: dovecoteref1.Utf tells whether bytes are UTF-8 as the chapter has it. Helper contract. -/
namespace Go.Proofs.YtpfpollejhdbgaaDoor
open Go.RowKit

theorem Byt.drop {w : World} {b off n cap : Nat} {l : List Int} (h : Byt w (.slice (some ⟨b, off, none⟩) n cap) l) (p : Nat) (hp : p ≤ n) : Byt w (.slice (some ⟨b, off + p, none⟩) (n - p) (cap - p)) (l.drop p) := by
  obtain ⟨ao', cap', e, ⟨h1, h2⟩, hr, hcase⟩ := h
  simp only [Value.slice.injEq] at e
  obtain ⟨rfl, rfl, rfl⟩ := e
  have hl : (l.drop p).length = l.length - p := List.length_drop
  refine ⟨_, _, by rw [hl], ⟨by rw [hl]; omega, by omega⟩, ?_, ?_⟩
  · intro j
    rw [List.getD_eq_getElem?_getD, List.getElem?_drop, ← List.getD_eq_getElem?_getD]
    exact hr _
  · rcases hcase with rfl | ⟨b', off', e, hc⟩
    · exact .inl (by simp)
    · simp only [Option.some.injEq, Addr.mk.injEq] at e
      obtain ⟨rfl, rfl, _⟩ := e
      refine .inr ⟨b, off + p, rfl, fun j hj => ?_⟩
      rw [Nat.add_assoc, hc (p + j) (by omega), List.getD_eq_getElem?_getD, List.getD_eq_getElem?_getD, List.getElem?_drop]
theorem Byt.drop' {w : World} {b off n cap : Nat} {l : List Int} (h : Byt w (.slice (some ⟨b, off, none⟩) n cap) l) (p : Nat) (hp : p ≤ n) : Byt w (.slice (if cap = p then some ⟨b, off, none⟩ else some ⟨b, off + p, none⟩) (n - p) (cap - p)) (l.drop p) := by
  by_cases hc : cap = p
  · rw [if_pos hc]
    obtain ⟨ao', cap', e, ⟨h1, h2⟩, hr, hcase⟩ := h
    simp only [Value.slice.injEq] at e
    obtain ⟨rfl, rfl, rfl⟩ := e
    have hl : l.drop p = [] := List.drop_of_length_le (by omega)
    rw [hl]
    refine ⟨_, _, by rw [show l.length - p = ([] : List Int).length from by simp; omega], ⟨by simp, by omega⟩, by intro j; simp, .inl rfl⟩
  · rw [if_neg hc]
    exact h.drop p hp
set_option maxRecDepth 100000 in
set_option maxHeartbeats 1000000 in
theorem rutf_any (v : Value) (l : List Int) (w : World) (hv : Byt w v l) : Calls Tryd.prog 53 #[v] w fun e w' => e = .returned (.bool (utf l)) ∧ w' = w := by
  go_enter Tryd.func53, Tryd.ntmps53
  go_wp2
  go_loop [0] (fun b => ∃ k : Nat, k ≤ l.length ∧ Hid (Byt w b (l.drop k)) ∧ Hid (utf (l.drop k) = utf l)) (fun b => match b with | .slice _ n _ => n | _ => 0)
  case atStart => exact ⟨0, Nat.zero_le _, hv, rfl⟩
  case round =>
    obtain ⟨k, hk, hby, hu⟩ := hrel
    by_cases hlt : k < l.length
    · obtain ⟨b, off, cap, rfl, hc1, hc2⟩ := (unhide hby).form1 (by rw [List.length_drop]; omega)
      have hps := hide (rp_any _ _ w (unhide hby) (by intro h; have := congrArg List.length h; simp at this; omega))
      have h4 := pt_le (l.drop k)
      have hnot := hide (utf_not l k hlt)
      have hyes := hide (utf_drop l k hlt)
      have hdr := hide (fun p => (unhide hby).drop' p)
      rw [List.length_drop] at h4 hc1 hps hdr ⊢
      have hdd : Hid (∀ p, (l.drop k).drop p = l.drop (k + p)) := fun p => List.drop_drop
      generalize pt (l.drop k) = p at hps h4 hnot hyes
      generalize hm : l.length - k = m at hps h4 hc1 hdr
      unfold maxLen at hc2
      by_cases hp : p = 0
      · subst hp
        have hf := hide ((unhide hnot) rfl)
        go_wp2_with (go_at_call 66; refine (unhide hps).mono ?_; rintro e w' ⟨rfl, rfl⟩)
        go_ret
        exact ⟨ret_bool (by rw [← unhide hu, unhide hf]), rfl⟩
      · have hp0 : ((p : Int) == 0) = false := beq_eq_false_iff_ne.2 (by omega)
        go_wp2_with (go_at_call 66; refine (unhide hps).mono ?_; rintro e w' ⟨rfl, rfl⟩)
        go_round
        case rel => exact ⟨k + p, by omega, by show Byt _ _ _; rw [← (unhide hdd) p]; exact (unhide hdr) p h4, by show _ = _; rw [← (unhide hyes) hp]; exact unhide hu⟩
        case measure => simp; omega
    · obtain rfl : k = l.length := by omega
      have hn : l.drop l.length = [] := List.drop_of_length_le (Nat.le_refl _)
      rw [hn] at hby hu
      obtain ⟨ao, cap, rfl, _⟩ := (unhide hby).form
      have hu' : Hid (utf l = true) := (unhide hu).symm
      clear hn hu
      go_wp2
      go_ret
      exact ⟨ret_bool (unhide hu').symm, rfl⟩
end Go.Proofs.YtpfpollejhdbgaaDoor
/- Proved here: dovecoteref0.CopyBytes tells the same bytes in memory of its own; what append does to bytes of the caller's own, whatever bytes come behind. Helper contracts. -/
namespace Go.Proofs.YtpfpollejhdbgaaDoor
open Go.RowKit

theorem take_snoc_getD (xs : List Int) (k : Nat) (h : k < xs.length) : xs.take k ++ [xs.getD k 0] = xs.take (k + 1) := by
  rw [List.take_succ_eq_append_getElem h, List.getD_eq_getElem?_getD, List.getElem?_eq_getElem h]; rfl

set_option maxHeartbeats 1000000 in
theorem copy_core (b off n cap : Nat) (xs : List Int) (w : World) (hn : xs.length = n) (hb : n ≤ 140737488355328)
    (hc : ∀ j, j < n → w.cell? ⟨b, off + j, none⟩ = some (.int .u8 (xs.getD j 0))) :
    Calls Tryd.prog 20 #[.slice (some ⟨b, off, none⟩) n cap] w fun e w' => ∃ v, e = .returned v ∧ w'.ownsRow w.heap.size 5 1 v n (xs.map (Value.int .u8)) ∧ Below w.heap.size w w' := by
  obtain ⟨i0, hi, hz0, hz1, hz2⟩ := info_parts Tryd.infoU8
  have HC := hide hc
  have HN := hide hn
  clear hc hn
  go_enter Tryd.func20, Tryd.ntmps20
  go_wp2
  go_loopw [3, 4] (fun m i wr => ∃ k : Nat, k ≤ n ∧ i = .int .i64 k ∧ wr.ownsRow w.heap.size 5 1 m k ((xs.take k).map (Value.int .u8)) ∧ Below w.heap.size w wr) (fun _ i _ => n - (intOf i).toNat)
  case atStart => exact ⟨0, Nat.zero_le _, rfl, World.ownsRow_nil _ _ _ _, Below.refl _ _⟩
  case round =>
    obtain ⟨k, hk, rfl, hown, hbel⟩ := hrel
    by_cases hlt : k < n
    · have hc0 := (unhide HC) k hlt
      have hc1 := (hbel.cell (p := ⟨b, off + k, none⟩) (cell_lt hc0)).trans hc0
      clear hc0
      have ht := hide (take_snoc_getD xs k (by have := unhide HN; omega))
      generalize xs.getD k 0 = x at hc1 ht
      go_wp2_with (first
        | (at_builtin; refine wpList_append_own _ rfl _ _ 24 rfl w.heap.size 5 i0 (.int .u8 0) 1 1 Tryd.underlying24 hi hz0 hz1 hz2 rfl (by decide) _ _ _ rfl (hown.alloc _) ⟨wr.heap.size, 0, none⟩ 1 1 [.int .u8 x] rfl rfl (one_cell _ _ _) (one_one _ _) (by unfold maxLen; omega) (by omega) (by have := hbel.size; simp; omega) ?_)
        | go_in)
      intro v' w1 hown' hgrow _
      have hb1 : Below w.heap.size w w1 := (hbel.alloc hbel.size _).grown hgrow (by have := hbel.size; simp; omega) (fun k hk => (hown.lt k hk).1)
      clear hgrow hown hbel
      go_wp2
      go_roundw
      case rel => exact ⟨k + 1, by omega, by go_num, by rw [← unhide ht, List.map_append, List.map_take]; exact hown', hb1⟩
      case measure => simp [intOf]; omega
    · go_wp2
      go_ret
      have hk' : k = n := by omega
      subst hk'
      rw [List.take_of_length_le (by have := unhide HN; omega)] at hown
      exact ⟨_, rfl, hown, hbel⟩

theorem addr_add (b off j : Nat) : (⟨b, off, none⟩ : Addr).add j = ⟨b, off + j, none⟩ := by unfold Addr.add; split <;> simp_all

/-- append of any bytes to bytes of the caller's own -/
theorem run_append_byt (w : World) (base : Nat) (ty : TypeId) (v : Value) (n : Nat) (xs : List Int) (hown : w.ownsRow base 5 1 v n (xs.map (Value.int .u8))) (vx : Value) (ys : List Int) (hy : Byt w vx ys)
    (hbytes : n + ys.length ≤ 140737488355328) (hbase : base ≤ w.heap.size) :
    ∃ v' w', (Builtin.append_ #[24, 24] ty #[v, vx]).run Tryd.prog w = .ok v' w' ∧ w'.ownsRow base 5 1 v' (n + ys.length) ((xs ++ ys).map (Value.int .u8)) ∧ w.grownBy w' v.ownBlock := by
  obtain ⟨i0, hi, hz0, hz1, hz2⟩ := info_parts Tryd.infoU8
  obtain ⟨ao, cap, rfl, hlen, hr, hcase⟩ := hy
  have key : ∀ (a : Addr), (∀ j, j < ys.length → w.cell? (a.add j) = some (.int .u8 (ys.getD j 0))) → ∃ v' w', (Builtin.append_ #[24, 24] ty #[v, .slice (some a) ys.length cap]).run Tryd.prog w = .ok v' w' ∧ w'.ownsRow base 5 1 v' (n + ys.length) ((xs ++ ys).map (Value.int .u8)) ∧ w.grownBy w' v.ownBlock := by
    intro a ha
    obtain ⟨v', w', h1, h2, h3, _⟩ := run_append_own (P := Tryd.prog) w base 24 ty 5 i0 (.int .u8 0) 1 1 Tryd.underlying24 hi hz0 hz1 hz2 rfl (by decide) v n _ hown a ys.length cap (ys.map (Value.int .u8)) (by simp)
      (fun j u hj => by
        rw [List.getElem?_map] at hj
        by_cases hjl : j < ys.length
        · rw [ha j hjl]
          rw [List.getElem?_eq_getElem hjl] at hj
          rw [List.getD_eq_getElem?_getD, List.getElem?_eq_getElem hjl]
          exact hj
        · rw [List.getElem?_eq_none (by omega)] at hj; cases hj)
      (fun u hu => by obtain ⟨_, _, rfl⟩ := List.mem_map.1 hu; rfl) (by unfold maxLen; omega) (by omega) hbase
    exact ⟨v', w', h1, by rw [List.map_append]; exact h2, h3⟩
  rcases hcase with rfl | ⟨b, off, rfl, hc⟩
  · cases ao with
    | none =>
      refine ⟨v, w, ?_, ?_, ⟨rfl, rfl, rfl, Nat.le_refl _, fun _ _ _ => rfl⟩⟩
      · rcases hown.2 with ⟨rfl, rfl⟩ | ⟨g, cap', cur, rfl, _, _, hnc, _⟩
        · simp [Builtin.append_, run_underlying Tryd.underlying24, sizeOf, typeInfo, hi, Builtin.lenOf, Builtin.firstCells]
        · simp [Builtin.append_, run_underlying Tryd.underlying24, sizeOf, typeInfo, hi, Builtin.lenOf, Builtin.firstCells, hnc, storeCells]
      · simpa using hown
    | some a => exact key a (fun j hj => by simp at hj)
  · exact key ⟨b, off, none⟩ (fun j hj => by rw [addr_add]; exact hc j hj)

/-- the same, at a step of a region that draws its order -/
theorem step_append_byt {w : World} {ops : Array Oper} {o : Oper} {a : Act} {K : Act → World → Prop} {Q : Exit → Act → World → Prop} {E : Prop} (hgd : o.guard = none) (s x : Operand)
    (ho : o.op = .call { callee := .builtin .append, args := #[s, x], argTypes := #[24, 24] })
    (base : Nat) (v : Value) (n : Nat) (xs : List Int) (hs : a.eval s = v) (hown : w.ownsRow base 5 1 v n (xs.map (Value.int .u8))) (vx : Value) (ys : List Int) (hx : a.eval x = vx) (hy : Byt w vx ys)
    (hbytes : n + ys.length ≤ 140737488355328) (hbase : base ≤ w.heap.size)
    (h : ∀ v' w', w'.ownsRow base 5 1 v' (n + ys.length) ((xs ++ ys).map (Value.int .u8)) → w.grownBy w' v.ownBlock → K (a.put o.dst v') w') :
    if Region.wanted o (yielded ops a.tmps) = true then Oper.wp Tryd.prog o a w K Q else E := by
  have hw : Region.wanted o (yielded ops a.tmps) = true := by simp [Region.wanted, hgd]
  rw [if_pos hw]
  obtain ⟨v', w', hr, h2, h3⟩ := run_append_byt w base o.type v n xs hown vx ys hy hbytes hbase
  unfold Oper.wp execOp
  simp only [ho, resolve, invoke, builtin, Sem.run_bind, Sem.run_pure, Result.andThen_ok, List.map_toArray, List.map_cons, List.map_nil, hs, hx, hr]
  exact h v' w' h2 h3
end Go.Proofs.YtpfpollejhdbgaaDoor
/- Proved here: dovecoteref1.Check and Bin tell what text.Check and PutBin tell. Helper contracts. -/
namespace Go.Proofs.YtpfpollejhdbgaaDoor
open Go.RowKit

/-- a text turned into bytes -/
theorem conv_str (s : ByteArray) (hs : s.size ≤ maxLen) (w : World) : ∃ v w1, (convert 9 24 (.string s)).run Tryd.prog w = .ok v w1 ∧ Byt w1 v (sb s) ∧ Below w.heap.size w w1 := by
  refine ⟨_, _, run_bytes_of_string w 9 24 5 s Tryd.underlying9 Tryd.underlying24 Tryd.underlying5, ?_, ?_⟩
  · refine ⟨_, _, by rw [sb_length], ⟨by rw [sb_length]; exact grownCap_ge _ _ _ _, grownCap_le_maxLen _ _ _ _ hs⟩, sb_range s, .inr ⟨_, _, rfl, fun j hj => ?_⟩⟩
    rw [sb_length] at hj
    have h1 := World.cell?_alloc_mark w.drew (bytesRow s (grownCap w s.size 0 5)) 5 ((bytesRow s (grownCap w s.size 0 5)).size, (bytesRow s (grownCap w s.size 0 5)).size + 1) j
    rw [Nat.zero_add]
    refine h1.trans ?_
    rw [bytesRow_at s _ j hj, ← sb_get s j hj]
    rfl
  · exact (below_drewN (Below.refl _ _) 1).alloc (Nat.le_refl _) _
set_option maxRecDepth 100000 in
theorem rcheck_any (s : ByteArray) (w : World) (hs : s.size ≤ 4611686018427387904) : Calls Tryd.prog 40 #[.string s] w fun e w' => e = .returned (.int .i64 (chk (sb s))) ∧ Below w.heap.size w w' := by
  obtain ⟨v, w1, hrun, hby, hb⟩ := conv_str s (by unfold maxLen; omega) w
  have HBY := hide hby
  have HB := hide hb
  have HL := hide (sb_length s)
  clear hby hb
  by_cases hu : utf (sb s) = true
  · by_cases hm : s.size ≤ 65535
    · have hc : Hid (chk (sb s) = 0) := by show _ = _; unfold chk; rw [if_pos hu, if_pos (by rw [unhide HL]; exact hm)]
      go_enter Tryd.func40, Tryd.ntmps40
      go_wp2_with (go_at_call 53; refine (rutf_any v (sb s) _ (unhide HBY)).mono ?_; rintro e w' ⟨rfl, rfl⟩)
      go_ret
      exact ⟨ret_int (unhide hc).symm, unhide HB⟩
    · have hc : Hid (chk (sb s) = 2) := by show _ = _; unfold chk; rw [if_pos hu, if_neg (by rw [unhide HL]; exact hm)]
      go_enter Tryd.func40, Tryd.ntmps40
      go_wp2_with (go_at_call 53; refine (rutf_any v (sb s) _ (unhide HBY)).mono ?_; rintro e w' ⟨rfl, rfl⟩)
      go_ret
      exact ⟨ret_int (unhide hc).symm, unhide HB⟩
  · have hc : Hid (chk (sb s) = 1) := by show _ = _; unfold chk; rw [if_neg hu]
    have hu' : utf (sb s) = false := by simpa using hu
    go_enter Tryd.func40, Tryd.ntmps40
    go_wp2_with (go_at_call 53; refine (rutf_any v (sb s) _ (unhide HBY)).mono ?_; rintro e w' ⟨rfl, rfl⟩)
    go_ret
    exact ⟨ret_int (unhide hc).symm, unhide HB⟩

/-- append of any bytes to bytes of the caller's own, at an operation of a walk -/
theorem wpList_append_byt (w : World) {ops : Array Oper} {rest : List Oper} {o : Oper} {a : Act} {Q : Exit → Act → World → Prop} (hgd : o.guard = none) (s x : Operand)
    (ho : o.op = .call { callee := .builtin .append, args := #[s, x], argTypes := #[24, 24] })
    (base : Nat) (v : Value) (n : Nat) (xs : List Int) (hs : a.eval s = v) (hown : w.ownsRow base 5 1 v n (xs.map (Value.int .u8))) (vx : Value) (ys : List Int) (hx : a.eval x = vx) (hy : Byt w vx ys)
    (hbytes : n + ys.length ≤ 140737488355328) (hbase : base ≤ w.heap.size)
    (h : ∀ v' w', w'.ownsRow base 5 1 v' (n + ys.length) ((xs ++ ys).map (Value.int .u8)) → w.grownBy w' v.ownBlock → wpList Tryd.prog ops Q rest (a.put o.dst v') w') : wpList Tryd.prog ops Q (o :: rest) a w := by
  refine wpList_plain hgd fun K hK => ?_
  obtain ⟨v', w', hr, h2, h3⟩ := run_append_byt w base o.type v n xs hown vx ys hy hbytes hbase
  unfold Oper.wp execOp
  simp only [ho, resolve, invoke, builtin, Sem.run_bind, Sem.run_pure, Result.andThen_ok, List.map_toArray, List.map_cons, List.map_nil, hs, hx, hr]
  exact hK _ _ (h v' w' h2 h3)

set_option maxRecDepth 100000 in
set_option maxHeartbeats 1000000 in
theorem bin_any (s : ByteArray) (w : World) (hs : s.size ≤ 65535) : Calls Tryd.prog 42 #[.string s] w fun e w' => ∃ v, e = .returned v ∧ Hid (w'.ownsRow w.heap.size 5 1 v (2 + s.size) ((tx s).map (Value.int .u8))) ∧ Below w.heap.size w w' := by
  obtain ⟨v, w1, hrun, hby, hb⟩ := conv_str s (by unfold maxLen; omega) (w.alloc (.cells #[.int .u8 ((s.size : Int) / 256), .int .u8 ((s.size : Int) % 256)] 5))
  have hb0 : Below w.heap.size w w1 := ((Below.refl _ _).alloc (Nat.le_refl _) _).trans (hb.mono (by simp))
  have hown : Hid (w1.ownsRow w.heap.size 5 1 (.slice (some ⟨w.heap.size, 0, none⟩) 2 2) 2 ([(s.size : Int) / 256, (s.size : Int) % 256].map (Value.int .u8))) :=
    owns_below (World.ownsRow_lit w _ _ (Nat.le_refl _) (by unfold maxLen; omega) (by simp)) hb
  have HBY := hide hby
  have HL := hide (sb_length s)
  have HB := hide hb0
  clear hby hb hb0
  go_enter Tryd.func42, Tryd.ntmps42
  go_wp2_with (first
    | (at_builtin; refine wpList_append_byt _ rfl _ _ rfl w.heap.size _ 2 [(s.size : Int) / 256, (s.size : Int) % 256] rfl (unhide hown) v (sb s) rfl (unhide HBY) (by rw [unhide HL]; omega) (unhide HB).size ?_)
    | go_in)
  intro v2 w2 hown2 hgrow2
  have hb2 : Below w.heap.size w w2 := (unhide HB).grown hgrow2 (unhide HB).size (fun k hk => ((unhide hown).lt k hk).1)
  have hown3 : Hid (w2.ownsRow w.heap.size 5 1 v2 (2 + s.size) ((tx s).map (Value.int .u8))) := by rw [unhide HL] at hown2; exact hown2
  clear hgrow2 hown2
  go_wp2
  go_ret
  exact ⟨_, rfl, hown3, hb2⟩
end Go.Proofs.YtpfpollejhdbgaaDoor
/- Proved here: prop's putPair, putValue and putOne tell one property's bytes, or an error of below. Helper contracts. -/
namespace Go.Proofs.YtpfpollejhdbgaaDoor
open Go.RowKit
set_option maxRecDepth 100000

/-- bytes l, and no error -/
def ValOk (l : List Int) (w : World) (e : Ending) (w' : World) : Prop := ∃ v, e = .returned (.tuple #[v, .nilIface]) ∧ Hid (Byt w' v l) ∧ Below w.heap.size w w'
/-- an error of below -/
def ValBad (w : World) (e : Ending) (w' : World) : Prop := ∃ t x n, e = .returned (.tuple #[.slice none 0 0, .iface t x]) ∧ Hid (Inn w' (.iface t x) n) ∧ Below w.heap.size w w'
theorem range_app {xs ys : List Int} (hx : ∀ j, 0 ≤ xs.getD j 0 ∧ xs.getD j 0 ≤ 255) (hy : ∀ j, 0 ≤ ys.getD j 0 ∧ ys.getD j 0 ≤ 255) : ∀ j, 0 ≤ (xs ++ ys).getD j 0 ∧ (xs ++ ys).getD j 0 ≤ 255 := by
  intro j
  rcases Nat.lt_or_ge j xs.length with h | h
  · rw [List.getD_eq_getElem?_getD, List.getElem?_append_left h, ← List.getD_eq_getElem?_getD]; exact hx j
  · rw [List.getD_eq_getElem?_getD, List.getElem?_append_right h, ← List.getD_eq_getElem?_getD]; exact hy _
theorem tput_ok (s : ByteArray) (w : World) (hc : chk (sb s) = 0) : Calls Tryd.prog 69 #[.string s] w (fun e w' => ∃ v, e = .returned (.tuple #[v, .nilIface]) ∧ Hid (w'.ownsRow w.heap.size 5 1 v (2 + s.size) ((tx s).map (Value.int .u8))) ∧ Hid (Byt w' v (tx s)) ∧ Below w.heap.size w w') := by
  refine (put_ok s w hc).mono ?_
  rintro e w' ⟨v, rfl, hown, hb⟩
  exact ⟨v, rfl, hown, byt_of_owns (unhide hown) (tx_range s (by have := chk_0 hc; rw [sb_length] at this; exact this)), hb⟩
theorem tput_bad (s : ByteArray) (w : World) (hs : s.size ≤ 4611686018427387904) (hc : chk (sb s) ≠ 0) : Calls Tryd.prog 69 #[.string s] w (fun e w' => ∃ x n, e = .returned (.tuple #[.slice none 0 0, .iface 79 x]) ∧ Hid (Inn w' (.iface 79 x) n) ∧ Below w.heap.size w w') := by
  refine (put_bad s _ w hs rfl hc).mono ?_
  rintro e w' ⟨rfl, rfl⟩
  exact ⟨_, chk (sb s), rfl, .inr ⟨_, rfl, by simp⟩, fault_below _ _⟩
set_option maxHeartbeats 1000000 in
theorem pair_ok (s t : ByteArray) (w : World) (hs : chk (sb s) = 0) (ht : chk (sb t) = 0) : Calls Tryd.prog 71 #[.string s, .string t] w (ValOk (tx s ++ tx t) w) := by
  have ls : s.size ≤ 65535 := by have := chk_0 hs; rw [sb_length] at this; exact this
  have lt : t.size ≤ 65535 := by have := chk_0 ht; rw [sb_length] at this; exact this
  have HS := hide hs
  have HT := hide ht
  clear hs ht
  go_enter Tryd.func71, Tryd.ntmps71
  go_wp2_with fail
  refine (tput_ok s _ (unhide HS)).mono ?_
  rintro e w1 ⟨v1, rfl, hown1, -, hb1⟩
  have HB1 := hide hb1
  clear hb1
  go_wp2_with fail
  refine (tput_ok t _ (unhide HT)).mono ?_
  rintro e w2 ⟨v2, rfl, -, hy2, hb2⟩
  have HO2 : Hid (w2.ownsRow w.heap.size 5 1 v1 (2 + s.size) ((tx s).map (Value.int .u8))) := owns_below (unhide hown1) hb2
  have HB2 : Hid (Below w.heap.size w w2) := (unhide HB1).trans (hb2.mono (unhide HB1).size)
  clear hb2 HB1 hown1
  go_wp2_with (first
    | (at_builtin; refine wpList_append_byt _ rfl _ _ rfl w.heap.size _ (2 + s.size) (tx s) rfl (unhide HO2) v2 (tx t) rfl (unhide hy2) (by rw [tx_length]; omega) (unhide HB2).size ?_)
    | go_in)
  intro v3 w3 hown3 hgrow3
  have hb3 : Below w.heap.size w w3 := (unhide HB2).grown hgrow3 (unhide HB2).size (fun k hk => ((unhide HO2).lt k hk).1)
  have HY3 : Hid (Byt w3 v3 (tx s ++ tx t)) := byt_of_owns (by rw [List.map_append]; exact hown3) (range_app (tx_range s ls) (tx_range t lt))
  clear hown3 hgrow3
  go_wp2
  go_ret2
  exact ⟨_, rfl, HY3, hb3⟩
theorem pair_bad1 (s t : ByteArray) (w : World) (hl : s.size ≤ 4611686018427387904) (hs : chk (sb s) ≠ 0) : Calls Tryd.prog 71 #[.string s, .string t] w (ValBad w) := by
  have HS := hide hs
  clear hs
  go_enter Tryd.func71, Tryd.ntmps71
  go_wp2_with fail
  refine (tput_bad s _ hl (unhide HS)).mono ?_
  rintro e w1 ⟨x, n, rfl, hi, hb1⟩
  go_wp2
  go_ret2
  exact ⟨_, _, _, rfl, hi, hb1⟩
theorem pair_bad2 (s t : ByteArray) (w : World) (hl : t.size ≤ 4611686018427387904) (hs : chk (sb s) = 0) (ht : chk (sb t) ≠ 0) : Calls Tryd.prog 71 #[.string s, .string t] w (ValBad w) := by
  have HS := hide hs
  have HT := hide ht
  clear hs ht
  go_enter Tryd.func71, Tryd.ntmps71
  go_wp2_with fail
  refine (tput_ok s _ (unhide HS)).mono ?_
  rintro e w1 ⟨v1, rfl, -, -, hb1⟩
  have HB1 := hide hb1
  clear hb1
  go_wp2_with fail
  refine (tput_bad t _ hl (unhide HT)).mono ?_
  rintro e w2 ⟨x, n, rfl, hi, hb2⟩
  go_wp2
  go_ret2
  exact ⟨_, _, _, rfl, hi, (unhide HB1).trans (hb2.mono (unhide HB1).size)⟩
theorem vput_use (n : Int) (w : World) (h0 : 0 ≤ n) (h1 : n ≤ 268435455) : Calls Tryd.prog 30 #[.int .i64 n] w (fun e w' => ∃ v, e = .returned (.tuple #[v, .nilIface]) ∧ Hid (w'.ownsRow w.heap.size 5 1 v (V.put n).length ((V.put n).map (Value.int .u8))) ∧ Hid (Byt w' v (V.put n)) ∧ Below w.heap.size w w') := by
  refine (V.put_use n w h0 h1).mono ?_
  rintro e w' ⟨m, rfl, rfl, hown, hb⟩
  exact ⟨_, rfl, hown, byt_of_owns (unhide hown) (V.put_range n h0 h1), hb⟩
theorem nbs_range (k n : Int) (hk : k = 1 ∧ n ≤ 1 ∨ k = 2 ∧ n ≤ 65535 ∨ k = 4 ∧ n ≤ 4294967295) (h0 : 0 ≤ n) : ∀ j, 0 ≤ (nbs k n).getD j 0 ∧ (nbs k n).getD j 0 ≤ 255 := by
  intro j
  unfold nbs
  rcases hk with ⟨rfl, h⟩ | ⟨rfl, h⟩ | ⟨rfl, h⟩
  · rw [if_pos rfl]
    rcases j with _ | j <;> simp <;> omega
  · rw [if_neg (by omega), if_pos rfl]
    rcases j with _ | _ | j <;> simp <;> omega
  · rw [if_neg (by omega), if_neg (by omega)]
    rcases j with _ | _ | _ | _ | j <;> simp <;> omega
/-- putNumber's answer, as a caller uses it -/
theorem number_use (k n : Int) (w : World) (hk : k = 1 ∧ n ≤ 1 ∨ k = 2 ∧ n ≤ 65535 ∨ k = 4 ∧ n ≤ 4294967295) (h0 : 0 ≤ n) : Calls Tryd.prog 68 #[.int .i64 n, .int .i64 k] w (fun e w' => ∃ v, e = .returned v ∧ Hid (Byt w' v (nbs k n)) ∧ Below w.heap.size w w') := by
  have hr := nbs_range k n hk h0
  have key : ∀ e w', NumPost k n w e w' → ∃ v, e = .returned v ∧ Hid (Byt w' v (nbs k n)) ∧ Below w.heap.size w w' := by
    rintro e w' ⟨v, rfl, hown, hb⟩
    exact ⟨v, rfl, byt_of_owns (unhide hown) hr, hb⟩
  rcases hk with ⟨rfl, h⟩ | ⟨rfl, h⟩ | ⟨rfl, h⟩
  · exact (num_1 n w h0 h).mono key
  · exact (num_2 n w h0 h).mono key
  · exact (num_4 n w h0 h).mono key
def numK (k n : Int) : Prop := k = 1 ∧ n ≤ 1 ∨ k = 2 ∧ n ≤ 65535 ∨ k = 4 ∧ n ≤ 4294967295
theorem value_num (id n k : Int) (s t : ByteArray) (w : World) (lo hi : Int) (hsh : shv id = .agg #[.int .i64 1, .int .i64 k, .int .i64 lo, .int .i64 hi]) (hk : numK k n) (h0 : 0 ≤ n) :
    Calls Tryd.prog 58 #[.agg #[.int .i64 id, .int .i64 n, .string s, .string t]] w (ValOk (nbs k n) w) := by
  have HSH := hide hsh
  have HK := hide hk
  clear hsh hk
  go_enter Tryd.func58, Tryd.ntmps58
  go_wp2_with fail
  refine (shape_use id 1 k lo hi (unhide HSH) _).mono ?_
  rintro e w1 ⟨rfl, hb1⟩
  have HB1 : Hid (Below w.heap.size w w1) := ((Below.refl _ _).alloc (Nat.le_refl _) _).trans (hb1.mono (by simp))
  have c1 : w1.cell? ⟨w.heap.size, 1, none⟩ = some (.int .i64 n) := (hb1.cell (p := ⟨w.heap.size, 1, none⟩) (by simp)).trans (by simp)
  have c2 : w1.cell? ⟨w.heap.size, 2, none⟩ = some (.string s) := (hb1.cell (p := ⟨w.heap.size, 2, none⟩) (by simp)).trans (by simp)
  have c3 : w1.cell? ⟨w.heap.size, 3, none⟩ = some (.string t) := (hb1.cell (p := ⟨w.heap.size, 3, none⟩) (by simp)).trans (by simp)
  have hlt : w.heap.size < w1.heap.size := cell_lt c1
  clear hb1
  go_wp2_with fail
  refine (number_use k n _ (unhide HK) h0).mono ?_
  rintro e w2 ⟨v, rfl, hy, hb2⟩
  go_wp2
  go_ret2
  exact ⟨_, rfl, hy, (((unhide HB1).alloc (unhide HB1).size _).trans (hb2.mono (by simp; omega)))⟩
set_option maxHeartbeats 1000000 in
theorem value_var (id n : Int) (s t : ByteArray) (w : World) (wd lo hi : Int) (hsh : shv id = .agg #[.int .i64 2, .int .i64 wd, .int .i64 lo, .int .i64 hi]) (h0 : 0 ≤ n) (h1 : n ≤ 268435455) :
    Calls Tryd.prog 58 #[.agg #[.int .i64 id, .int .i64 n, .string s, .string t]] w (ValOk (V.put n) w) := by
  have HSH := hide hsh
  clear hsh
  go_enter Tryd.func58, Tryd.ntmps58
  go_wp2_with fail
  refine (shape_use id 2 wd lo hi (unhide HSH) _).mono ?_
  rintro e w1 ⟨rfl, hb1⟩
  have HB1 : Hid (Below w.heap.size w w1) := ((Below.refl _ _).alloc (Nat.le_refl _) _).trans (hb1.mono (by simp))
  have c1 : w1.cell? ⟨w.heap.size, 1, none⟩ = some (.int .i64 n) := (hb1.cell (p := ⟨w.heap.size, 1, none⟩) (by simp)).trans (by simp)
  have c2 : w1.cell? ⟨w.heap.size, 2, none⟩ = some (.string s) := (hb1.cell (p := ⟨w.heap.size, 2, none⟩) (by simp)).trans (by simp)
  have c3 : w1.cell? ⟨w.heap.size, 3, none⟩ = some (.string t) := (hb1.cell (p := ⟨w.heap.size, 3, none⟩) (by simp)).trans (by simp)
  have hlt : w.heap.size < w1.heap.size := cell_lt c1
  clear hb1
  go_wp2_with fail
  refine (vput_use n _ h0 h1).mono ?_
  rintro e w2 ⟨v, rfl, -, hy, hb2⟩
  go_wp2
  go_ret2
  exact ⟨_, rfl, hy, (((unhide HB1).alloc (unhide HB1).size _).trans (hb2.mono (by simp; omega)))⟩
set_option maxHeartbeats 1000000 in
theorem value_text (id n : Int) (s t : ByteArray) (w : World) (wd lo hi : Int) (hsh : shv id = .agg #[.int .i64 3, .int .i64 wd, .int .i64 lo, .int .i64 hi]) (hc : chk (sb s) = 0) :
    Calls Tryd.prog 58 #[.agg #[.int .i64 id, .int .i64 n, .string s, .string t]] w (ValOk (tx s) w) := by
  have HSH := hide hsh
  clear hsh
  have Hhc := hide hc
  clear hc
  go_enter Tryd.func58, Tryd.ntmps58
  go_wp2_with fail
  refine (shape_use id 3 wd lo hi (unhide HSH) _).mono ?_
  rintro e w1 ⟨rfl, hb1⟩
  have HB1 : Hid (Below w.heap.size w w1) := ((Below.refl _ _).alloc (Nat.le_refl _) _).trans (hb1.mono (by simp))
  have c1 : w1.cell? ⟨w.heap.size, 1, none⟩ = some (.int .i64 n) := (hb1.cell (p := ⟨w.heap.size, 1, none⟩) (by simp)).trans (by simp)
  have c2 : w1.cell? ⟨w.heap.size, 2, none⟩ = some (.string s) := (hb1.cell (p := ⟨w.heap.size, 2, none⟩) (by simp)).trans (by simp)
  have c3 : w1.cell? ⟨w.heap.size, 3, none⟩ = some (.string t) := (hb1.cell (p := ⟨w.heap.size, 3, none⟩) (by simp)).trans (by simp)
  have hlt : w.heap.size < w1.heap.size := cell_lt c1
  clear hb1
  go_wp2_with fail
  refine (tput_ok s _ (unhide Hhc)).mono ?_
  rintro e w2 ⟨v, rfl, -, hy, hb2⟩
  go_wp2
  go_ret2
  exact ⟨_, rfl, hy, (((unhide HB1).alloc (unhide HB1).size _).trans (hb2.mono (by simp; omega)))⟩
set_option maxHeartbeats 1000000 in
theorem value_text_bad (id n : Int) (s t : ByteArray) (w : World) (wd lo hi : Int) (hsh : shv id = .agg #[.int .i64 3, .int .i64 wd, .int .i64 lo, .int .i64 hi]) (hl : s.size ≤ 4611686018427387904) (hc : chk (sb s) ≠ 0) :
    Calls Tryd.prog 58 #[.agg #[.int .i64 id, .int .i64 n, .string s, .string t]] w (ValBad w) := by
  have HSH := hide hsh
  clear hsh
  have Hhc := hide hc
  clear hc
  go_enter Tryd.func58, Tryd.ntmps58
  go_wp2_with fail
  refine (shape_use id 3 wd lo hi (unhide HSH) _).mono ?_
  rintro e w1 ⟨rfl, hb1⟩
  have HB1 : Hid (Below w.heap.size w w1) := ((Below.refl _ _).alloc (Nat.le_refl _) _).trans (hb1.mono (by simp))
  have c1 : w1.cell? ⟨w.heap.size, 1, none⟩ = some (.int .i64 n) := (hb1.cell (p := ⟨w.heap.size, 1, none⟩) (by simp)).trans (by simp)
  have c2 : w1.cell? ⟨w.heap.size, 2, none⟩ = some (.string s) := (hb1.cell (p := ⟨w.heap.size, 2, none⟩) (by simp)).trans (by simp)
  have c3 : w1.cell? ⟨w.heap.size, 3, none⟩ = some (.string t) := (hb1.cell (p := ⟨w.heap.size, 3, none⟩) (by simp)).trans (by simp)
  have hlt : w.heap.size < w1.heap.size := cell_lt c1
  clear hb1
  go_wp2_with fail
  refine (tput_bad s _ hl (unhide Hhc)).mono ?_
  rintro e w2 ⟨x, m, rfl, hy, hb2⟩
  go_wp2
  go_ret2
  exact ⟨_, _, _, rfl, hy, (((unhide HB1).alloc (unhide HB1).size _).trans (hb2.mono (by simp; omega)))⟩
set_option maxHeartbeats 1000000 in
theorem value_bin (id n : Int) (s t : ByteArray) (w : World) (wd lo hi : Int) (hsh : shv id = .agg #[.int .i64 4, .int .i64 wd, .int .i64 lo, .int .i64 hi]) (hc : s.size ≤ 65535) :
    Calls Tryd.prog 58 #[.agg #[.int .i64 id, .int .i64 n, .string s, .string t]] w (ValOk (tx s) w) := by
  have HSH := hide hsh
  clear hsh
  go_enter Tryd.func58, Tryd.ntmps58
  go_wp2_with fail
  refine (shape_use id 4 wd lo hi (unhide HSH) _).mono ?_
  rintro e w1 ⟨rfl, hb1⟩
  have HB1 : Hid (Below w.heap.size w w1) := ((Below.refl _ _).alloc (Nat.le_refl _) _).trans (hb1.mono (by simp))
  have c1 : w1.cell? ⟨w.heap.size, 1, none⟩ = some (.int .i64 n) := (hb1.cell (p := ⟨w.heap.size, 1, none⟩) (by simp)).trans (by simp)
  have c2 : w1.cell? ⟨w.heap.size, 2, none⟩ = some (.string s) := (hb1.cell (p := ⟨w.heap.size, 2, none⟩) (by simp)).trans (by simp)
  have c3 : w1.cell? ⟨w.heap.size, 3, none⟩ = some (.string t) := (hb1.cell (p := ⟨w.heap.size, 3, none⟩) (by simp)).trans (by simp)
  have hlt : w.heap.size < w1.heap.size := cell_lt c1
  clear hb1
  go_wp2_with fail
  refine (putBin_ok s _ hc).mono ?_
  rintro e w2 ⟨v, rfl, hown, hb2⟩
  have hy : Hid (Byt w2 v (tx s)) := byt_of_owns (unhide hown) (tx_range s hc)
  go_wp2
  go_ret2
  exact ⟨_, rfl, hy, (((unhide HB1).alloc (unhide HB1).size _).trans (hb2.mono (by simp; omega)))⟩
set_option maxHeartbeats 1000000 in
theorem value_bin_bad (id n : Int) (s t : ByteArray) (w : World) (wd lo hi : Int) (hsh : shv id = .agg #[.int .i64 4, .int .i64 wd, .int .i64 lo, .int .i64 hi]) (hc : 65535 < s.size) :
    Calls Tryd.prog 58 #[.agg #[.int .i64 id, .int .i64 n, .string s, .string t]] w (ValBad w) := by
  have HSH := hide hsh
  clear hsh
  go_enter Tryd.func58, Tryd.ntmps58
  go_wp2_with fail
  refine (shape_use id 4 wd lo hi (unhide HSH) _).mono ?_
  rintro e w1 ⟨rfl, hb1⟩
  have HB1 : Hid (Below w.heap.size w w1) := ((Below.refl _ _).alloc (Nat.le_refl _) _).trans (hb1.mono (by simp))
  have c1 : w1.cell? ⟨w.heap.size, 1, none⟩ = some (.int .i64 n) := (hb1.cell (p := ⟨w.heap.size, 1, none⟩) (by simp)).trans (by simp)
  have c2 : w1.cell? ⟨w.heap.size, 2, none⟩ = some (.string s) := (hb1.cell (p := ⟨w.heap.size, 2, none⟩) (by simp)).trans (by simp)
  have c3 : w1.cell? ⟨w.heap.size, 3, none⟩ = some (.string t) := (hb1.cell (p := ⟨w.heap.size, 3, none⟩) (by simp)).trans (by simp)
  have hlt : w.heap.size < w1.heap.size := cell_lt c1
  clear hb1
  go_wp2_with fail
  refine (putBin_bad s _ hc).mono ?_
  rintro e w2 ⟨rfl, hw2⟩
  have hb2 : Below _ _ w2 := hw2 ▸ fault_below 2 _
  have hy : Hid (Inn w2 (.iface 79 (.pointer (some ⟨w1.heap.size + 1, 0, none⟩))) 2) := .inr ⟨_, rfl, by rw [hw2]; simp⟩
  clear hw2
  go_wp2
  go_ret2
  exact ⟨_, _, _, rfl, hy, (((unhide HB1).alloc (unhide HB1).size _).trans (hb2.mono (by simp; omega)))⟩
set_option maxHeartbeats 1000000 in
theorem value_pair (id n : Int) (s t : ByteArray) (w : World) (wd lo hi : Int) (hsh : shv id = .agg #[.int .i64 5, .int .i64 wd, .int .i64 lo, .int .i64 hi]) (hc : chk (sb s) = 0) (hd : chk (sb t) = 0) :
    Calls Tryd.prog 58 #[.agg #[.int .i64 id, .int .i64 n, .string s, .string t]] w (ValOk (tx s ++ tx t) w) := by
  have HSH := hide hsh
  clear hsh
  have Hhc := hide hc
  clear hc
  have Hhd := hide hd
  clear hd
  go_enter Tryd.func58, Tryd.ntmps58
  go_wp2_with fail
  refine (shape_use id 5 wd lo hi (unhide HSH) _).mono ?_
  rintro e w1 ⟨rfl, hb1⟩
  have HB1 : Hid (Below w.heap.size w w1) := ((Below.refl _ _).alloc (Nat.le_refl _) _).trans (hb1.mono (by simp))
  have c1 : w1.cell? ⟨w.heap.size, 1, none⟩ = some (.int .i64 n) := (hb1.cell (p := ⟨w.heap.size, 1, none⟩) (by simp)).trans (by simp)
  have c2 : w1.cell? ⟨w.heap.size, 2, none⟩ = some (.string s) := (hb1.cell (p := ⟨w.heap.size, 2, none⟩) (by simp)).trans (by simp)
  have c3 : w1.cell? ⟨w.heap.size, 3, none⟩ = some (.string t) := (hb1.cell (p := ⟨w.heap.size, 3, none⟩) (by simp)).trans (by simp)
  have hlt : w.heap.size < w1.heap.size := cell_lt c1
  clear hb1
  go_wp2_with fail
  refine (pair_ok s t _ (unhide Hhc) (unhide Hhd)).mono ?_
  rintro e w2 ⟨v, rfl, hy, hb2⟩
  go_wp2
  go_ret2
  exact ⟨_, rfl, hy, (((unhide HB1).alloc (unhide HB1).size _).trans (hb2.mono (by simp; omega)))⟩
set_option maxHeartbeats 1000000 in
theorem value_pair_bad1 (id n : Int) (s t : ByteArray) (w : World) (wd lo hi : Int) (hsh : shv id = .agg #[.int .i64 5, .int .i64 wd, .int .i64 lo, .int .i64 hi]) (hl : s.size ≤ 4611686018427387904) (hc : chk (sb s) ≠ 0) :
    Calls Tryd.prog 58 #[.agg #[.int .i64 id, .int .i64 n, .string s, .string t]] w (ValBad w) := by
  have HSH := hide hsh
  clear hsh
  have Hhc := hide hc
  clear hc
  go_enter Tryd.func58, Tryd.ntmps58
  go_wp2_with fail
  refine (shape_use id 5 wd lo hi (unhide HSH) _).mono ?_
  rintro e w1 ⟨rfl, hb1⟩
  have HB1 : Hid (Below w.heap.size w w1) := ((Below.refl _ _).alloc (Nat.le_refl _) _).trans (hb1.mono (by simp))
  have c1 : w1.cell? ⟨w.heap.size, 1, none⟩ = some (.int .i64 n) := (hb1.cell (p := ⟨w.heap.size, 1, none⟩) (by simp)).trans (by simp)
  have c2 : w1.cell? ⟨w.heap.size, 2, none⟩ = some (.string s) := (hb1.cell (p := ⟨w.heap.size, 2, none⟩) (by simp)).trans (by simp)
  have c3 : w1.cell? ⟨w.heap.size, 3, none⟩ = some (.string t) := (hb1.cell (p := ⟨w.heap.size, 3, none⟩) (by simp)).trans (by simp)
  have hlt : w.heap.size < w1.heap.size := cell_lt c1
  clear hb1
  go_wp2_with fail
  refine (pair_bad1 s t _ hl (unhide Hhc)).mono ?_
  rintro e w2 ⟨t', x, m, rfl, hy, hb2⟩
  go_wp2
  go_ret2
  exact ⟨_, _, _, rfl, hy, (((unhide HB1).alloc (unhide HB1).size _).trans (hb2.mono (by simp; omega)))⟩
set_option maxHeartbeats 1000000 in
theorem value_pair_bad2 (id n : Int) (s t : ByteArray) (w : World) (wd lo hi : Int) (hsh : shv id = .agg #[.int .i64 5, .int .i64 wd, .int .i64 lo, .int .i64 hi]) (hl : t.size ≤ 4611686018427387904) (hc : chk (sb s) = 0) (hd : chk (sb t) ≠ 0) :
    Calls Tryd.prog 58 #[.agg #[.int .i64 id, .int .i64 n, .string s, .string t]] w (ValBad w) := by
  have HSH := hide hsh
  clear hsh
  have Hhc := hide hc
  clear hc
  have Hhd := hide hd
  clear hd
  go_enter Tryd.func58, Tryd.ntmps58
  go_wp2_with fail
  refine (shape_use id 5 wd lo hi (unhide HSH) _).mono ?_
  rintro e w1 ⟨rfl, hb1⟩
  have HB1 : Hid (Below w.heap.size w w1) := ((Below.refl _ _).alloc (Nat.le_refl _) _).trans (hb1.mono (by simp))
  have c1 : w1.cell? ⟨w.heap.size, 1, none⟩ = some (.int .i64 n) := (hb1.cell (p := ⟨w.heap.size, 1, none⟩) (by simp)).trans (by simp)
  have c2 : w1.cell? ⟨w.heap.size, 2, none⟩ = some (.string s) := (hb1.cell (p := ⟨w.heap.size, 2, none⟩) (by simp)).trans (by simp)
  have c3 : w1.cell? ⟨w.heap.size, 3, none⟩ = some (.string t) := (hb1.cell (p := ⟨w.heap.size, 3, none⟩) (by simp)).trans (by simp)
  have hlt : w.heap.size < w1.heap.size := cell_lt c1
  clear hb1
  go_wp2_with fail
  refine (pair_bad2 s t _ hl (unhide Hhc) (unhide Hhd)).mono ?_
  rintro e w2 ⟨t', x, m, rfl, hy, hb2⟩
  go_wp2
  go_ret2
  exact ⟨_, _, _, rfl, hy, (((unhide HB1).alloc (unhide HB1).size _).trans (hb2.mono (by simp; omega)))⟩
end Go.Proofs.YtpfpollejhdbgaaDoor
