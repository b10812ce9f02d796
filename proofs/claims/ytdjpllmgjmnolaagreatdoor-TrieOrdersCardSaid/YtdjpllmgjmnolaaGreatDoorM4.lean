/- Proved here: helpers, one text behind the other. -/
import Derived.Test.YtdjpllmgjmnolaaGreatDoorZTSize
/- Proved here: dovecoteref1.point tells how many bytes the code point has with which bytes begin, or 0. Helper contracts. -/
namespace Go.Proofs.YtdjpllmgjmnolaaGreatDoor
open Go.RowKit

/-- the code point as far as k bytes more than the first tell it -/
def acc (m : Int) (l : List Int) : Nat → Int
  | 0 => l.getD 0 0 % m
  | k + 1 => acc m l k * 64 + l.getD (k + 1) 0 % 64
theorem acc_pos (m : Int) (l : List Int) (hm : 0 < m) : ∀ k, 0 ≤ acc m l k
  | 0 => Int.emod_nonneg _ (by omega)
  | k + 1 => by have := acc_pos m l hm k; simp only [acc]; omega
theorem acc_lt (m : Int) (l : List Int) (hm : 0 < m) (h32 : m ≤ 32) (k : Nat) (hk : k ≤ 3) : acc m l k < 8388608 := by
  have h0 : acc m l 0 < 32 := by have := Int.emod_lt_of_pos (l.getD 0 0) hm; simp only [acc]; omega
  have h1 : acc m l 1 < 2048 := by simp only [acc] at h0 ⊢; omega
  have h2 : acc m l 2 < 131072 := by simp only [acc] at h0 h1 ⊢; omega
  have h3 : acc m l 3 < 8388608 := by simp only [acc] at h0 h1 h2 ⊢; omega
  obtain rfl | rfl | rfl | rfl : k = 0 ∨ k = 1 ∨ k = 2 ∨ k = 3 := by omega
  all_goals omega
/-- bytes in memory, as point's walk wants them -/
def Mem (w : World) (b off len : Nat) (l : List Int) : Prop := l.length = len ∧ (∀ j, j < len → w.cell? ⟨b, off + j, none⟩ = some (.int .u8 (l.getD j 0))) ∧ ∀ j, 0 ≤ l.getD j 0 ∧ l.getD j 0 ≤ 255
theorem Mem.len {w : World} {b off len : Nat} {l : List Int} (h : Mem w b off len l) : l.length = len := h.1
theorem Mem.cell {w : World} {b off len : Nat} {l : List Int} (h : Mem w b off len l) : ∀ j, j < len → w.cell? ⟨b, off + j, none⟩ = some (.int .u8 (l.getD j 0)) := h.2.1
theorem Mem.range {w : World} {b off len : Nat} {l : List Int} (h : Mem w b off len l) : ∀ j, 0 ≤ l.getD j 0 ∧ l.getD j 0 ≤ 255 := h.2.2
theorem Mem.cell0 {w : World} {b off len : Nat} {l : List Int} (h : Mem w b off len l) (h0 : 0 < len) : w.cell? ⟨b, off, none⟩ = some (.int .u8 (l.getD 0 0)) := h.cell 0 h0

theorem rp_lone (b off len cap : Nat) (l : List Int) (w : World) (h0 : 0 < len) (hm : Mem w b off len l) (h1 : 128 ≤ l.getD 0 0) (h2 : l.getD 0 0 < 192) : Calls Tryz.prog 64 #[.slice (some ⟨b, off, none⟩) len cap] w fun e w' => e = .returned (.int .i64 (pt l)) ∧ w' = w := by
  have hc := hm.cell0 h0
  have hp : Hid (pt l = 0) := pt_0 l (by rcases szf_cases (l.getD 0 0) with h | h | h | h | h | h <;> omega)
  have hr := hm.range 0
  have HM := hide hm
  clear hm
  generalize l.getD 0 0 = c at hc hr h1 h2
  go_enter Tryz.func64, Tryz.ntmps64
  go_wp2
  go_ret
  refine ⟨ret_int ?_, rfl⟩
  rw [unhide hp]
  rfl
theorem rp_high (b off len cap : Nat) (l : List Int) (w : World) (h0 : 0 < len) (hm : Mem w b off len l) (h1 : 248 ≤ l.getD 0 0) : Calls Tryz.prog 64 #[.slice (some ⟨b, off, none⟩) len cap] w fun e w' => e = .returned (.int .i64 (pt l)) ∧ w' = w := by
  have hc := hm.cell0 h0
  have hp : Hid (pt l = 0) := pt_0 l (by rcases szf_cases (l.getD 0 0) with h | h | h | h | h | h <;> omega)
  have hr := hm.range 0
  have HM := hide hm
  clear hm
  generalize l.getD 0 0 = c at hc hr h1 
  go_enter Tryz.func64, Tryz.ntmps64
  go_wp2
  go_ret
  refine ⟨ret_int ?_, rfl⟩
  rw [unhide hp]
  rfl
theorem rp_1 (b off len cap : Nat) (l : List Int) (w : World) (h0 : 0 < len) (hm : Mem w b off len l) (h2 : l.getD 0 0 < 128) : Calls Tryz.prog 64 #[.slice (some ⟨b, off, none⟩) len cap] w fun e w' => e = .returned (.int .i64 (pt l)) ∧ w' = w := by
  have hc := hm.cell0 h0
  have hp := hide (pt_1 l h2)
  have hr := hm.range 0
  have HM := hide hm
  clear hm
  generalize l.getD 0 0 = c at hc hr h2 hp
  by_cases hz : 0 < c
  · have hp' : Hid (pt l = 1) := by show _ = _; rw [unhide hp, if_pos hz]
    go_enter Tryz.func64, Tryz.ntmps64
    go_wp2
    refine wp_loop_rounds 1 ?_
    rw [rounds_succ]
    go_wp2
    go_ret
    refine ⟨ret_int ?_, rfl⟩
    rw [unhide hp']
    rfl
  · have hp' : Hid (pt l = 0) := by show _ = _; rw [unhide hp, if_neg hz]
    go_enter Tryz.func64, Tryz.ntmps64
    go_wp2
    refine wp_loop_rounds 1 ?_
    rw [rounds_succ]
    go_wp2
    go_ret
    refine ⟨ret_int ?_, rfl⟩
    rw [unhide hp']
    rfl
theorem rp_short2 (b off len cap : Nat) (l : List Int) (w : World) (h0 : 0 < len) (hm : Mem w b off len l) (h1 : 192 ≤ l.getD 0 0) (h2 : l.getD 0 0 < 224) (hs : len < 2) : Calls Tryz.prog 64 #[.slice (some ⟨b, off, none⟩) len cap] w fun e w' => e = .returned (.int .i64 (pt l)) ∧ w' = w := by
  have hc := hm.cell0 h0
  have hp : Hid (pt l = 0) := pt_short l 2 (by rcases szf_cases (l.getD 0 0) with h | h | h | h | h | h <;> omega) (by rw [hm.len]; exact h0) (by rw [hm.len]; exact hs)
  have hr := hm.range 0
  have HM := hide hm
  clear hm
  generalize l.getD 0 0 = c at hc hr h1 h2
  go_enter Tryz.func64, Tryz.ntmps64
  go_wp2
  go_ret
  refine ⟨ret_int ?_, rfl⟩
  rw [unhide hp]
  rfl
set_option maxRecDepth 100000 in
set_option maxHeartbeats 1000000 in
theorem rp_2 (b off len cap : Nat) (l : List Int) (w : World) (h0 : 0 < len) (hm : Mem w b off len l) (h1 : 192 ≤ l.getD 0 0) (h2 : l.getD 0 0 < 224) (hs : 2 ≤ len) : Calls Tryz.prog 64 #[.slice (some ⟨b, off, none⟩) len cap] w fun e w' => e = .returned (.int .i64 (pt l)) ∧ w' = w := by
  have hc := hm.cell0 h0
  have hz : Hid (szf (l.getD 0 0) = 2) := by show _ = _; rcases szf_cases (l.getD 0 0) with h | h | h | h | h | h <;> omega
  have hz2 : Hid (szf (l.getD 0 0) = 2) := unhide hz
  have HZ : Hid (∀ z : Nat, z = 2 → szf (l.getD 0 0) = z) := fun z h => by rw [unhide hz2, h]; rfl
  clear hz hz2
  have hr := hm.range 0
  have ha : bits .and .i64 (l.getD 0 0) 31 = l.getD 0 0 % 32 := a31 _ hr.1 hr.2
  have h00 : Hid (l.getD 0 0 % 32 = acc 32 l 0) := rfl
  have HM := hide hm
  clear hm
  generalize l.getD 0 0 = c at hc hr h1 h2 ha h00
  go_enter Tryz.func64, Tryz.ntmps64
  go_wp2
  go_loop [4, 6] (fun p i => ∃ k : Nat, 1 ≤ k ∧ k ≤ 2 ∧ i = .int .i64 k ∧ p = .int .i64 (acc 32 l (k - 1)) ∧ Hid (∀ j, 1 ≤ j → j < k → cont (l.getD j 0) = true)) (fun _ i => 2 - (intOf i).toNat)
  case atStart => exact ⟨1, by omega, by omega, rfl, by rw [unhide h00], fun j h1 h2 => by omega⟩
  case round =>
    obtain ⟨k, hk1, hkn, rfl, rfl, hall⟩ := hrel
    by_cases hlt : k < 2
    · have hck := (unhide HM).cell k (by omega)
      have hrk := (unhide HM).range k
      have hstep : Hid (acc 32 l k = acc 32 l (k - 1) * 64 + l.getD k 0 % 64) := by
        obtain ⟨q, rfl⟩ : ∃ q, k = q + 1 := ⟨k - 1, by omega⟩
        rfl
      have hp0 := acc_pos 32 l (by omega) (k - 1)
      have hp1 := acc_lt 32 l (by omega) (by omega) (k - 1) (by omega)
      have hcs : Hid ((bits .and .u8 (l.getD k 0) 192 == 128) = cont (l.getD k 0)) := a192 _ hrk.1 hrk.2
      have hcont := hide (pt_cont l 2 ((unhide HZ) 2 rfl) k hk1 hlt)
      have ha63 : bits .and .u8 (l.getD k 0) 63 = l.getD k 0 % 64 := a63 _ hrk.1 hrk.2
      have hor : bits .or .i64 (acc 32 l (k - 1) * 64) (l.getD k 0 % 64) = acc 32 l (k - 1) * 64 + l.getD k 0 % 64 := or_i64 _ _ 6 (by omega) (by omega) (by omega) (by omega) (by omega) (by omega)
      generalize hx : l.getD k 0 = x at hck hrk hstep hcs hcont ha63 hor
      generalize hpp : acc 32 l (k - 1) = p at hp0 hp1 hstep hor
      have HX := hide hx
      have HPP := hide hpp
      clear hx hpp
      by_cases hct : cont x = true
      · have hb : (bits .and .u8 x 192 == 128) = true := (unhide hcs).trans hct
        have HC := hide hct
        clear hct hcont
        go_wp2
        go_round
        case rel => exact ⟨k + 1, by omega, by omega, by go_num, by rw [Nat.add_sub_cancel, unhide hstep], fun j h1 h2 => by
          rcases Nat.lt_succ_iff_lt_or_eq.1 h2 with h | h
          · exact (unhide hall) j h1 h
          · rw [h, unhide HX]; exact unhide HC⟩
        case measure => simp [intOf]; omega
      · have hb : (bits .and .u8 x 192 == 128) = false := by rw [unhide hcs]; simpa using hct
        have hp : Hid (pt l = 0) := (unhide hcont) (by simpa using hct)
        clear hct hcont
        go_wp2
        go_ret
        refine ⟨ret_int ?_, rfl⟩
        rw [unhide hp]
        rfl
    · obtain rfl : k = 2 := by omega
      have hpt : Hid (pt l = if mbn 2 l = true then 2 else 0) := pt_mb l 2 ((unhide HZ) 2 rfl) (by omega) (by rw [(unhide HM).len]; exact hs) (unhide hall)
      have hpv : Hid (pvn 2 l = acc 32 l (2 - 1)) := rfl
      have hp0 := acc_pos 32 l (by omega) (2 - 1)
      have hp1 := acc_lt 32 l (by omega) (by omega) (2 - 1) (by omega)
      have yes : Hid (∀ P, acc 32 l (2 - 1) = P → 128 ≤ P → P ≤ 1114111 → (P < 55296 ∨ 57343 < P) → pt l = 2) := by
        intro P hP a1 a2 a3
        rw [unhide hpt, if_pos]
        unfold mbn
        rw [unhide hpv, hP]
        have : lstn 2 = 128 := rfl
        simp only [this, Bool.and_eq_true, Bool.not_eq_true', Bool.and_eq_false_iff, decide_eq_true_eq, decide_eq_false_iff_not]
        omega
      have no : Hid (∀ P, acc 32 l (2 - 1) = P → (P < 128 ∨ 1114111 < P ∨ (55296 ≤ P ∧ P ≤ 57343)) → pt l = 0) := by
        intro P hP a1
        rw [unhide hpt, if_neg]
        unfold mbn
        rw [unhide hpv, hP]
        have : lstn 2 = 128 := rfl
        simp only [this, Bool.and_eq_true, Bool.not_eq_true', Bool.and_eq_false_iff, decide_eq_true_eq, decide_eq_false_iff_not]
        omega
      generalize hP : acc 32 l (2 - 1) = P at hp0 hp1
      have HP := hide hP
      clear hP hpt hpv
      by_cases q1 : P < 128
      · have hp : Hid (pt l = 0) := (unhide no) P (unhide HP) (.inl q1)
        go_wp2
        go_ret
        refine ⟨ret_int ?_, rfl⟩
        rw [unhide hp]
        rfl
      · by_cases q2 : 1114111 < P
        · have hp : Hid (pt l = 0) := (unhide no) P (unhide HP) (.inr (.inl q2))
          go_wp2
          go_ret
          refine ⟨ret_int ?_, rfl⟩
          rw [unhide hp]
          rfl
        · by_cases q3 : 55296 ≤ P
          · by_cases q4 : P ≤ 57343
            · have hp : Hid (pt l = 0) := (unhide no) P (unhide HP) (.inr (.inr ⟨q3, q4⟩))
              go_wp2
              go_ret
              refine ⟨ret_int ?_, rfl⟩
              rw [unhide hp]
              rfl
            · have hp : Hid (pt l = 2) := (unhide yes) P (unhide HP) (by omega) (by omega) (by omega)
              go_wp2
              go_ret
              refine ⟨ret_int ?_, rfl⟩
              rw [unhide hp]
              rfl
          · have hp : Hid (pt l = 2) := (unhide yes) P (unhide HP) (by omega) (by omega) (by omega)
            go_wp2
            go_ret
            refine ⟨ret_int ?_, rfl⟩
            rw [unhide hp]
            rfl
theorem rp_short3 (b off len cap : Nat) (l : List Int) (w : World) (h0 : 0 < len) (hm : Mem w b off len l) (h1 : 224 ≤ l.getD 0 0) (h2 : l.getD 0 0 < 240) (hs : len < 3) : Calls Tryz.prog 64 #[.slice (some ⟨b, off, none⟩) len cap] w fun e w' => e = .returned (.int .i64 (pt l)) ∧ w' = w := by
  have hc := hm.cell0 h0
  have hp : Hid (pt l = 0) := pt_short l 3 (by rcases szf_cases (l.getD 0 0) with h | h | h | h | h | h <;> omega) (by rw [hm.len]; exact h0) (by rw [hm.len]; exact hs)
  have hr := hm.range 0
  have HM := hide hm
  clear hm
  generalize l.getD 0 0 = c at hc hr h1 h2
  go_enter Tryz.func64, Tryz.ntmps64
  go_wp2
  go_ret
  refine ⟨ret_int ?_, rfl⟩
  rw [unhide hp]
  rfl
set_option maxRecDepth 100000 in
set_option maxHeartbeats 1000000 in
theorem rp_3 (b off len cap : Nat) (l : List Int) (w : World) (h0 : 0 < len) (hm : Mem w b off len l) (h1 : 224 ≤ l.getD 0 0) (h2 : l.getD 0 0 < 240) (hs : 3 ≤ len) : Calls Tryz.prog 64 #[.slice (some ⟨b, off, none⟩) len cap] w fun e w' => e = .returned (.int .i64 (pt l)) ∧ w' = w := by
  have hc := hm.cell0 h0
  have hz : Hid (szf (l.getD 0 0) = 3) := by show _ = _; rcases szf_cases (l.getD 0 0) with h | h | h | h | h | h <;> omega
  have hz2 : Hid (szf (l.getD 0 0) = 3) := unhide hz
  have HZ : Hid (∀ z : Nat, z = 3 → szf (l.getD 0 0) = z) := fun z h => by rw [unhide hz2, h]; rfl
  clear hz hz2
  have hr := hm.range 0
  have ha : bits .and .i64 (l.getD 0 0) 15 = l.getD 0 0 % 16 := a15 _ hr.1 hr.2
  have h00 : Hid (l.getD 0 0 % 16 = acc 16 l 0) := rfl
  have HM := hide hm
  clear hm
  generalize l.getD 0 0 = c at hc hr h1 h2 ha h00
  go_enter Tryz.func64, Tryz.ntmps64
  go_wp2
  go_loop [4, 6] (fun p i => ∃ k : Nat, 1 ≤ k ∧ k ≤ 3 ∧ i = .int .i64 k ∧ p = .int .i64 (acc 16 l (k - 1)) ∧ Hid (∀ j, 1 ≤ j → j < k → cont (l.getD j 0) = true)) (fun _ i => 3 - (intOf i).toNat)
  case atStart => exact ⟨1, by omega, by omega, rfl, by rw [unhide h00], fun j h1 h2 => by omega⟩
  case round =>
    obtain ⟨k, hk1, hkn, rfl, rfl, hall⟩ := hrel
    by_cases hlt : k < 3
    · have hck := (unhide HM).cell k (by omega)
      have hrk := (unhide HM).range k
      have hstep : Hid (acc 16 l k = acc 16 l (k - 1) * 64 + l.getD k 0 % 64) := by
        obtain ⟨q, rfl⟩ : ∃ q, k = q + 1 := ⟨k - 1, by omega⟩
        rfl
      have hp0 := acc_pos 16 l (by omega) (k - 1)
      have hp1 := acc_lt 16 l (by omega) (by omega) (k - 1) (by omega)
      have hcs : Hid ((bits .and .u8 (l.getD k 0) 192 == 128) = cont (l.getD k 0)) := a192 _ hrk.1 hrk.2
      have hcont := hide (pt_cont l 3 ((unhide HZ) 3 rfl) k hk1 hlt)
      have ha63 : bits .and .u8 (l.getD k 0) 63 = l.getD k 0 % 64 := a63 _ hrk.1 hrk.2
      have hor : bits .or .i64 (acc 16 l (k - 1) * 64) (l.getD k 0 % 64) = acc 16 l (k - 1) * 64 + l.getD k 0 % 64 := or_i64 _ _ 6 (by omega) (by omega) (by omega) (by omega) (by omega) (by omega)
      generalize hx : l.getD k 0 = x at hck hrk hstep hcs hcont ha63 hor
      generalize hpp : acc 16 l (k - 1) = p at hp0 hp1 hstep hor
      have HX := hide hx
      have HPP := hide hpp
      clear hx hpp
      by_cases hct : cont x = true
      · have hb : (bits .and .u8 x 192 == 128) = true := (unhide hcs).trans hct
        have HC := hide hct
        clear hct hcont
        go_wp2
        go_round
        case rel => exact ⟨k + 1, by omega, by omega, by go_num, by rw [Nat.add_sub_cancel, unhide hstep], fun j h1 h2 => by
          rcases Nat.lt_succ_iff_lt_or_eq.1 h2 with h | h
          · exact (unhide hall) j h1 h
          · rw [h, unhide HX]; exact unhide HC⟩
        case measure => simp [intOf]; omega
      · have hb : (bits .and .u8 x 192 == 128) = false := by rw [unhide hcs]; simpa using hct
        have hp : Hid (pt l = 0) := (unhide hcont) (by simpa using hct)
        clear hct hcont
        go_wp2
        go_ret
        refine ⟨ret_int ?_, rfl⟩
        rw [unhide hp]
        rfl
    · obtain rfl : k = 3 := by omega
      have hpt : Hid (pt l = if mbn 3 l = true then 3 else 0) := pt_mb l 3 ((unhide HZ) 3 rfl) (by omega) (by rw [(unhide HM).len]; exact hs) (unhide hall)
      have hpv : Hid (pvn 3 l = acc 16 l (3 - 1)) := rfl
      have hp0 := acc_pos 16 l (by omega) (3 - 1)
      have hp1 := acc_lt 16 l (by omega) (by omega) (3 - 1) (by omega)
      have yes : Hid (∀ P, acc 16 l (3 - 1) = P → 2048 ≤ P → P ≤ 1114111 → (P < 55296 ∨ 57343 < P) → pt l = 3) := by
        intro P hP a1 a2 a3
        rw [unhide hpt, if_pos]
        unfold mbn
        rw [unhide hpv, hP]
        have : lstn 3 = 2048 := rfl
        simp only [this, Bool.and_eq_true, Bool.not_eq_true', Bool.and_eq_false_iff, decide_eq_true_eq, decide_eq_false_iff_not]
        omega
      have no : Hid (∀ P, acc 16 l (3 - 1) = P → (P < 2048 ∨ 1114111 < P ∨ (55296 ≤ P ∧ P ≤ 57343)) → pt l = 0) := by
        intro P hP a1
        rw [unhide hpt, if_neg]
        unfold mbn
        rw [unhide hpv, hP]
        have : lstn 3 = 2048 := rfl
        simp only [this, Bool.and_eq_true, Bool.not_eq_true', Bool.and_eq_false_iff, decide_eq_true_eq, decide_eq_false_iff_not]
        omega
      generalize hP : acc 16 l (3 - 1) = P at hp0 hp1
      have HP := hide hP
      clear hP hpt hpv
      by_cases q1 : P < 2048
      · have hp : Hid (pt l = 0) := (unhide no) P (unhide HP) (.inl q1)
        go_wp2
        go_ret
        refine ⟨ret_int ?_, rfl⟩
        rw [unhide hp]
        rfl
      · by_cases q2 : 1114111 < P
        · have hp : Hid (pt l = 0) := (unhide no) P (unhide HP) (.inr (.inl q2))
          go_wp2
          go_ret
          refine ⟨ret_int ?_, rfl⟩
          rw [unhide hp]
          rfl
        · by_cases q3 : 55296 ≤ P
          · by_cases q4 : P ≤ 57343
            · have hp : Hid (pt l = 0) := (unhide no) P (unhide HP) (.inr (.inr ⟨q3, q4⟩))
              go_wp2
              go_ret
              refine ⟨ret_int ?_, rfl⟩
              rw [unhide hp]
              rfl
            · have hp : Hid (pt l = 3) := (unhide yes) P (unhide HP) (by omega) (by omega) (by omega)
              go_wp2
              go_ret
              refine ⟨ret_int ?_, rfl⟩
              rw [unhide hp]
              rfl
          · have hp : Hid (pt l = 3) := (unhide yes) P (unhide HP) (by omega) (by omega) (by omega)
            go_wp2
            go_ret
            refine ⟨ret_int ?_, rfl⟩
            rw [unhide hp]
            rfl
theorem rp_short4 (b off len cap : Nat) (l : List Int) (w : World) (h0 : 0 < len) (hm : Mem w b off len l) (h1 : 240 ≤ l.getD 0 0) (h2 : l.getD 0 0 < 248) (hs : len < 4) : Calls Tryz.prog 64 #[.slice (some ⟨b, off, none⟩) len cap] w fun e w' => e = .returned (.int .i64 (pt l)) ∧ w' = w := by
  have hc := hm.cell0 h0
  have hp : Hid (pt l = 0) := pt_short l 4 (by rcases szf_cases (l.getD 0 0) with h | h | h | h | h | h <;> omega) (by rw [hm.len]; exact h0) (by rw [hm.len]; exact hs)
  have hr := hm.range 0
  have HM := hide hm
  clear hm
  generalize l.getD 0 0 = c at hc hr h1 h2
  go_enter Tryz.func64, Tryz.ntmps64
  go_wp2
  go_ret
  refine ⟨ret_int ?_, rfl⟩
  rw [unhide hp]
  rfl
set_option maxRecDepth 100000 in
set_option maxHeartbeats 1000000 in
theorem rp_4 (b off len cap : Nat) (l : List Int) (w : World) (h0 : 0 < len) (hm : Mem w b off len l) (h1 : 240 ≤ l.getD 0 0) (h2 : l.getD 0 0 < 248) (hs : 4 ≤ len) : Calls Tryz.prog 64 #[.slice (some ⟨b, off, none⟩) len cap] w fun e w' => e = .returned (.int .i64 (pt l)) ∧ w' = w := by
  have hc := hm.cell0 h0
  have hz : Hid (szf (l.getD 0 0) = 4) := by show _ = _; rcases szf_cases (l.getD 0 0) with h | h | h | h | h | h <;> omega
  have hz2 : Hid (szf (l.getD 0 0) = 4) := unhide hz
  have HZ : Hid (∀ z : Nat, z = 4 → szf (l.getD 0 0) = z) := fun z h => by rw [unhide hz2, h]; rfl
  clear hz hz2
  have hr := hm.range 0
  have ha : bits .and .i64 (l.getD 0 0) 7 = l.getD 0 0 % 8 := a7 _ hr.1 hr.2
  have h00 : Hid (l.getD 0 0 % 8 = acc 8 l 0) := rfl
  have HM := hide hm
  clear hm
  generalize l.getD 0 0 = c at hc hr h1 h2 ha h00
  go_enter Tryz.func64, Tryz.ntmps64
  go_wp2
  go_loop [4, 6] (fun p i => ∃ k : Nat, 1 ≤ k ∧ k ≤ 4 ∧ i = .int .i64 k ∧ p = .int .i64 (acc 8 l (k - 1)) ∧ Hid (∀ j, 1 ≤ j → j < k → cont (l.getD j 0) = true)) (fun _ i => 4 - (intOf i).toNat)
  case atStart => exact ⟨1, by omega, by omega, rfl, by rw [unhide h00], fun j h1 h2 => by omega⟩
  case round =>
    obtain ⟨k, hk1, hkn, rfl, rfl, hall⟩ := hrel
    by_cases hlt : k < 4
    · have hck := (unhide HM).cell k (by omega)
      have hrk := (unhide HM).range k
      have hstep : Hid (acc 8 l k = acc 8 l (k - 1) * 64 + l.getD k 0 % 64) := by
        obtain ⟨q, rfl⟩ : ∃ q, k = q + 1 := ⟨k - 1, by omega⟩
        rfl
      have hp0 := acc_pos 8 l (by omega) (k - 1)
      have hp1 := acc_lt 8 l (by omega) (by omega) (k - 1) (by omega)
      have hcs : Hid ((bits .and .u8 (l.getD k 0) 192 == 128) = cont (l.getD k 0)) := a192 _ hrk.1 hrk.2
      have hcont := hide (pt_cont l 4 ((unhide HZ) 4 rfl) k hk1 hlt)
      have ha63 : bits .and .u8 (l.getD k 0) 63 = l.getD k 0 % 64 := a63 _ hrk.1 hrk.2
      have hor : bits .or .i64 (acc 8 l (k - 1) * 64) (l.getD k 0 % 64) = acc 8 l (k - 1) * 64 + l.getD k 0 % 64 := or_i64 _ _ 6 (by omega) (by omega) (by omega) (by omega) (by omega) (by omega)
      generalize hx : l.getD k 0 = x at hck hrk hstep hcs hcont ha63 hor
      generalize hpp : acc 8 l (k - 1) = p at hp0 hp1 hstep hor
      have HX := hide hx
      have HPP := hide hpp
      clear hx hpp
      by_cases hct : cont x = true
      · have hb : (bits .and .u8 x 192 == 128) = true := (unhide hcs).trans hct
        have HC := hide hct
        clear hct hcont
        go_wp2
        go_round
        case rel => exact ⟨k + 1, by omega, by omega, by go_num, by rw [Nat.add_sub_cancel, unhide hstep], fun j h1 h2 => by
          rcases Nat.lt_succ_iff_lt_or_eq.1 h2 with h | h
          · exact (unhide hall) j h1 h
          · rw [h, unhide HX]; exact unhide HC⟩
        case measure => simp [intOf]; omega
      · have hb : (bits .and .u8 x 192 == 128) = false := by rw [unhide hcs]; simpa using hct
        have hp : Hid (pt l = 0) := (unhide hcont) (by simpa using hct)
        clear hct hcont
        go_wp2
        go_ret
        refine ⟨ret_int ?_, rfl⟩
        rw [unhide hp]
        rfl
    · obtain rfl : k = 4 := by omega
      have hpt : Hid (pt l = if mbn 4 l = true then 4 else 0) := pt_mb l 4 ((unhide HZ) 4 rfl) (by omega) (by rw [(unhide HM).len]; exact hs) (unhide hall)
      have hpv : Hid (pvn 4 l = acc 8 l (4 - 1)) := rfl
      have hp0 := acc_pos 8 l (by omega) (4 - 1)
      have hp1 := acc_lt 8 l (by omega) (by omega) (4 - 1) (by omega)
      have yes : Hid (∀ P, acc 8 l (4 - 1) = P → 65536 ≤ P → P ≤ 1114111 → (P < 55296 ∨ 57343 < P) → pt l = 4) := by
        intro P hP a1 a2 a3
        rw [unhide hpt, if_pos]
        unfold mbn
        rw [unhide hpv, hP]
        have : lstn 4 = 65536 := rfl
        simp only [this, Bool.and_eq_true, Bool.not_eq_true', Bool.and_eq_false_iff, decide_eq_true_eq, decide_eq_false_iff_not]
        omega
      have no : Hid (∀ P, acc 8 l (4 - 1) = P → (P < 65536 ∨ 1114111 < P ∨ (55296 ≤ P ∧ P ≤ 57343)) → pt l = 0) := by
        intro P hP a1
        rw [unhide hpt, if_neg]
        unfold mbn
        rw [unhide hpv, hP]
        have : lstn 4 = 65536 := rfl
        simp only [this, Bool.and_eq_true, Bool.not_eq_true', Bool.and_eq_false_iff, decide_eq_true_eq, decide_eq_false_iff_not]
        omega
      generalize hP : acc 8 l (4 - 1) = P at hp0 hp1
      have HP := hide hP
      clear hP hpt hpv
      by_cases q1 : P < 65536
      · have hp : Hid (pt l = 0) := (unhide no) P (unhide HP) (.inl q1)
        go_wp2
        go_ret
        refine ⟨ret_int ?_, rfl⟩
        rw [unhide hp]
        rfl
      · by_cases q2 : 1114111 < P
        · have hp : Hid (pt l = 0) := (unhide no) P (unhide HP) (.inr (.inl q2))
          go_wp2
          go_ret
          refine ⟨ret_int ?_, rfl⟩
          rw [unhide hp]
          rfl
        · by_cases q3 : 55296 ≤ P
          · by_cases q4 : P ≤ 57343
            · have hp : Hid (pt l = 0) := (unhide no) P (unhide HP) (.inr (.inr ⟨q3, q4⟩))
              go_wp2
              go_ret
              refine ⟨ret_int ?_, rfl⟩
              rw [unhide hp]
              rfl
            · have hp : Hid (pt l = 4) := (unhide yes) P (unhide HP) (by omega) (by omega) (by omega)
              go_wp2
              go_ret
              refine ⟨ret_int ?_, rfl⟩
              rw [unhide hp]
              rfl
          · have hp : Hid (pt l = 4) := (unhide yes) P (unhide HP) (by omega) (by omega) (by omega)
            go_wp2
            go_ret
            refine ⟨ret_int ?_, rfl⟩
            rw [unhide hp]
            rfl
theorem rp_any (v : Value) (l : List Int) (w : World) (hv : Byt w v l) (h0 : l ≠ []) : Calls Tryz.prog 64 #[v] w fun e w' => e = .returned (.int .i64 (pt l)) ∧ w' = w := by
  obtain ⟨ao, cap, rfl, hlen, hr, hcase⟩ := hv
  rcases hcase with rfl | ⟨b, off, rfl, hc⟩
  · exact absurd rfl h0
  · have hm : Mem w b off l.length l := ⟨rfl, hc, hr⟩
    have hp : 0 < l.length := by rcases l with _ | ⟨a, r⟩; exact absurd rfl h0; simp
    by_cases a1 : l.getD 0 0 < 128
    · exact rp_1 b off _ cap l w hp hm a1
    · by_cases a2 : l.getD 0 0 < 192
      · exact rp_lone b off _ cap l w hp hm (by omega) a2
      · by_cases a3 : l.getD 0 0 < 224
        · by_cases hs : l.length < 2
          · exact rp_short2 b off _ cap l w hp hm (by omega) a3 hs
          · exact rp_2 b off _ cap l w hp hm (by omega) a3 (by omega)
        · by_cases a4 : l.getD 0 0 < 240
          · by_cases hs : l.length < 3
            · exact rp_short3 b off _ cap l w hp hm (by omega) a4 hs
            · exact rp_3 b off _ cap l w hp hm (by omega) a4 (by omega)
          · by_cases a5 : l.getD 0 0 < 248
            · by_cases hs : l.length < 4
              · exact rp_short4 b off _ cap l w hp hm (by omega) a5 hs
              · exact rp_4 b off _ cap l w hp hm (by omega) a5 (by omega)
            · exact rp_high b off _ cap l w hp hm (by omega)
end Go.Proofs.YtdjpllmgjmnolaaGreatDoor
/- Proved here: dovecoteref1.Utf tells whether bytes are UTF-8 as the chapter has it. Helper contract. -/
namespace Go.Proofs.YtdjpllmgjmnolaaGreatDoor
open Go.RowKit

set_option maxRecDepth 100000 in
set_option maxHeartbeats 1000000 in
theorem rutf_any (v : Value) (l : List Int) (w : World) (hv : Byt w v l) : Calls Tryz.prog 45 #[v] w fun e w' => e = .returned (.bool (utf l)) ∧ w' = w := by
  go_enter Tryz.func45, Tryz.ntmps45
  go_wp2
  go_loop [0] (fun b => ∃ k : Nat, k ≤ l.length ∧ Hid (Byt w b (l.drop k)) ∧ Hid (utf (l.drop k) = utf l)) (fun b => match b with | .slice _ n _ => n | _ => 0)
  case atStart => exact ⟨0, Nat.zero_le _, hv, rfl⟩
  case round =>
    obtain ⟨k, hk, hby, hu⟩ := hrel
    by_cases hlt : k < l.length
    · obtain ⟨b, off, cap, rfl, hc1, hc2⟩ := (unhide hby).form1 (by rw [List.length_drop]; omega)
      have hps := hide (rp_any _ _ w (unhide hby) (by intro h; have := congrArg List.length h; simp at this; omega))
      have h4 := pt_le (l.drop k)
      have hnot := hide (utf_not l k hlt)
      have hyes := hide (utf_drop l k hlt)
      have hdr := hide (fun p => (unhide hby).drop' p)
      rw [List.length_drop] at h4 hc1 hps hdr ⊢
      have hdd : Hid (∀ p, (l.drop k).drop p = l.drop (k + p)) := fun p => List.drop_drop
      generalize pt (l.drop k) = p at hps h4 hnot hyes
      generalize hm : l.length - k = m at hps h4 hc1 hdr
      unfold maxLen at hc2
      by_cases hp : p = 0
      · subst hp
        have hf := hide ((unhide hnot) rfl)
        go_wp2_with (go_at_call 64; refine (unhide hps).mono ?_; rintro e w' ⟨rfl, rfl⟩)
        go_ret
        exact ⟨ret_bool (by rw [← unhide hu, unhide hf]), rfl⟩
      · have hp0 : ((p : Int) == 0) = false := beq_eq_false_iff_ne.2 (by omega)
        go_wp2_with (go_at_call 64; refine (unhide hps).mono ?_; rintro e w' ⟨rfl, rfl⟩)
        go_round
        case rel => exact ⟨k + p, by omega, by show Byt _ _ _; rw [← (unhide hdd) p]; exact (unhide hdr) p h4, by show _ = _; rw [← (unhide hyes) hp]; exact unhide hu⟩
        case measure => simp; omega
    · obtain rfl : k = l.length := by omega
      have hn : l.drop l.length = [] := List.drop_of_length_le (Nat.le_refl _)
      rw [hn] at hby hu
      obtain ⟨ao, cap, rfl, _⟩ := (unhide hby).form
      have hu' : Hid (utf l = true) := (unhide hu).symm
      clear hn hu
      go_wp2
      go_ret
      exact ⟨ret_bool (unhide hu').symm, rfl⟩
end Go.Proofs.YtdjpllmgjmnolaaGreatDoor
