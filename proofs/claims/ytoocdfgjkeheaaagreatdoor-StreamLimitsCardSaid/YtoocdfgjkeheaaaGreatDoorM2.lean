/- Proved here: helpers, one text behind the other. -/
import Derived.Test.YtoocdfgjkeheaaaGreatDoorM1
import Derived.Lib.AppendStr
import Derived.Laws.AppendOwnNone
import Derived.Deep.RegionHeld3
import Derived.Deep.AppendLies
import Derived.Laws.IdiomStrings
import Derived.Test.YtoocdfgjkeheaaaGreatDoorProg
import Derived.Lib.BitFns
import Derived.Lib.Walk
import Derived.Laws.BitsAllLaws
import Derived.Handy
/- Proved here: dovecoteref1.point tells how many bytes the code point has with which bytes begin, or 0. Helper contracts. -/
namespace Go.Proofs.YtoocdfgjkeheaaaGreatDoor
open Go.RowKit

/-- the code point as far as k bytes more than the first tell it -/
def acc (m : Int) (l : List Int) : Nat → Int
  | 0 => l.getD 0 0 % m
  | k + 1 => acc m l k * 64 + l.getD (k + 1) 0 % 64
theorem acc_pos (m : Int) (l : List Int) (hm : 0 < m) : ∀ k, 0 ≤ acc m l k
  | 0 => Int.emod_nonneg _ (by omega)
  | k + 1 => by have := acc_pos m l hm k; simp only [acc]; omega
theorem acc_lt (m : Int) (l : List Int) (hm : 0 < m) (h32 : m ≤ 32) (k : Nat) (hk : k ≤ 3) : acc m l k < 8388608 := by
  have h0 : acc m l 0 < 32 := by have := Int.emod_lt_of_pos (l.getD 0 0) hm; simp only [acc]; omega
  have h1 : acc m l 1 < 2048 := by simp only [acc] at h0 ⊢; omega
  have h2 : acc m l 2 < 131072 := by simp only [acc] at h0 h1 ⊢; omega
  have h3 : acc m l 3 < 8388608 := by simp only [acc] at h0 h1 h2 ⊢; omega
  obtain rfl | rfl | rfl | rfl : k = 0 ∨ k = 1 ∨ k = 2 ∨ k = 3 := by omega
  all_goals omega
/-- bytes in memory, as point's walk wants them -/
def Mem (w : World) (b off len : Nat) (l : List Int) : Prop := l.length = len ∧ (∀ j, j < len → w.cell? ⟨b, off + j, none⟩ = some (.int .u8 (l.getD j 0))) ∧ ∀ j, 0 ≤ l.getD j 0 ∧ l.getD j 0 ≤ 255
theorem Mem.len {w : World} {b off len : Nat} {l : List Int} (h : Mem w b off len l) : l.length = len := h.1
theorem Mem.cell {w : World} {b off len : Nat} {l : List Int} (h : Mem w b off len l) : ∀ j, j < len → w.cell? ⟨b, off + j, none⟩ = some (.int .u8 (l.getD j 0)) := h.2.1
theorem Mem.range {w : World} {b off len : Nat} {l : List Int} (h : Mem w b off len l) : ∀ j, 0 ≤ l.getD j 0 ∧ l.getD j 0 ≤ 255 := h.2.2
theorem Mem.cell0 {w : World} {b off len : Nat} {l : List Int} (h : Mem w b off len l) (h0 : 0 < len) : w.cell? ⟨b, off, none⟩ = some (.int .u8 (l.getD 0 0)) := h.cell 0 h0

theorem rp_lone (b off len cap : Nat) (l : List Int) (w : World) (h0 : 0 < len) (hm : Mem w b off len l) (h1 : 128 ≤ l.getD 0 0) (h2 : l.getD 0 0 < 192) : Calls Tryz.prog 203 #[.slice (some ⟨b, off, none⟩) len cap] w fun e w' => e = .returned (.int .i64 (pt l)) ∧ w' = w := by
  have hc := hm.cell0 h0
  have hp : Hid (pt l = 0) := pt_0 l (by rcases szf_cases (l.getD 0 0) with h | h | h | h | h | h <;> omega)
  have hr := hm.range 0
  have HM := hide hm
  clear hm
  generalize l.getD 0 0 = c at hc hr h1 h2
  go_enter Tryz.func203, Tryz.ntmps203
  go_wp2
  go_ret
  refine ⟨ret_int ?_, rfl⟩
  rw [unhide hp]
  rfl
theorem rp_high (b off len cap : Nat) (l : List Int) (w : World) (h0 : 0 < len) (hm : Mem w b off len l) (h1 : 248 ≤ l.getD 0 0) : Calls Tryz.prog 203 #[.slice (some ⟨b, off, none⟩) len cap] w fun e w' => e = .returned (.int .i64 (pt l)) ∧ w' = w := by
  have hc := hm.cell0 h0
  have hp : Hid (pt l = 0) := pt_0 l (by rcases szf_cases (l.getD 0 0) with h | h | h | h | h | h <;> omega)
  have hr := hm.range 0
  have HM := hide hm
  clear hm
  generalize l.getD 0 0 = c at hc hr h1 
  go_enter Tryz.func203, Tryz.ntmps203
  go_wp2
  go_ret
  refine ⟨ret_int ?_, rfl⟩
  rw [unhide hp]
  rfl
theorem rp_1 (b off len cap : Nat) (l : List Int) (w : World) (h0 : 0 < len) (hm : Mem w b off len l) (h2 : l.getD 0 0 < 128) : Calls Tryz.prog 203 #[.slice (some ⟨b, off, none⟩) len cap] w fun e w' => e = .returned (.int .i64 (pt l)) ∧ w' = w := by
  have hc := hm.cell0 h0
  have hp := hide (pt_1 l h2)
  have hr := hm.range 0
  have HM := hide hm
  clear hm
  generalize l.getD 0 0 = c at hc hr h2 hp
  by_cases hz : 0 < c
  · have hp' : Hid (pt l = 1) := by show _ = _; rw [unhide hp, if_pos hz]
    go_enter Tryz.func203, Tryz.ntmps203
    go_wp2
    refine wp_loop_rounds 1 ?_
    rw [rounds_succ]
    go_wp2
    go_ret
    refine ⟨ret_int ?_, rfl⟩
    rw [unhide hp']
    rfl
  · have hp' : Hid (pt l = 0) := by show _ = _; rw [unhide hp, if_neg hz]
    go_enter Tryz.func203, Tryz.ntmps203
    go_wp2
    refine wp_loop_rounds 1 ?_
    rw [rounds_succ]
    go_wp2
    go_ret
    refine ⟨ret_int ?_, rfl⟩
    rw [unhide hp']
    rfl
theorem rp_short2 (b off len cap : Nat) (l : List Int) (w : World) (h0 : 0 < len) (hm : Mem w b off len l) (h1 : 192 ≤ l.getD 0 0) (h2 : l.getD 0 0 < 224) (hs : len < 2) : Calls Tryz.prog 203 #[.slice (some ⟨b, off, none⟩) len cap] w fun e w' => e = .returned (.int .i64 (pt l)) ∧ w' = w := by
  have hc := hm.cell0 h0
  have hp : Hid (pt l = 0) := pt_short l 2 (by rcases szf_cases (l.getD 0 0) with h | h | h | h | h | h <;> omega) (by rw [hm.len]; exact h0) (by rw [hm.len]; exact hs)
  have hr := hm.range 0
  have HM := hide hm
  clear hm
  generalize l.getD 0 0 = c at hc hr h1 h2
  go_enter Tryz.func203, Tryz.ntmps203
  go_wp2
  go_ret
  refine ⟨ret_int ?_, rfl⟩
  rw [unhide hp]
  rfl
set_option maxRecDepth 100000 in
set_option maxHeartbeats 1000000 in
theorem rp_2 (b off len cap : Nat) (l : List Int) (w : World) (h0 : 0 < len) (hm : Mem w b off len l) (h1 : 192 ≤ l.getD 0 0) (h2 : l.getD 0 0 < 224) (hs : 2 ≤ len) : Calls Tryz.prog 203 #[.slice (some ⟨b, off, none⟩) len cap] w fun e w' => e = .returned (.int .i64 (pt l)) ∧ w' = w := by
  have hc := hm.cell0 h0
  have hz : Hid (szf (l.getD 0 0) = 2) := by show _ = _; rcases szf_cases (l.getD 0 0) with h | h | h | h | h | h <;> omega
  have hz2 : Hid (szf (l.getD 0 0) = 2) := unhide hz
  have HZ : Hid (∀ z : Nat, z = 2 → szf (l.getD 0 0) = z) := fun z h => by rw [unhide hz2, h]; rfl
  clear hz hz2
  have hr := hm.range 0
  have ha : bits .and .i64 (l.getD 0 0) 31 = l.getD 0 0 % 32 := a31 _ hr.1 hr.2
  have h00 : Hid (l.getD 0 0 % 32 = acc 32 l 0) := rfl
  have HM := hide hm
  clear hm
  generalize l.getD 0 0 = c at hc hr h1 h2 ha h00
  go_enter Tryz.func203, Tryz.ntmps203
  go_wp2
  go_loop [4, 6] (fun p i => ∃ k : Nat, 1 ≤ k ∧ k ≤ 2 ∧ i = .int .i64 k ∧ p = .int .i64 (acc 32 l (k - 1)) ∧ Hid (∀ j, 1 ≤ j → j < k → cont (l.getD j 0) = true)) (fun _ i => 2 - (intOf i).toNat)
  case atStart => exact ⟨1, by omega, by omega, rfl, by rw [unhide h00], fun j h1 h2 => by omega⟩
  case round =>
    obtain ⟨k, hk1, hkn, rfl, rfl, hall⟩ := hrel
    by_cases hlt : k < 2
    · have hck := (unhide HM).cell k (by omega)
      have hrk := (unhide HM).range k
      have hstep : Hid (acc 32 l k = acc 32 l (k - 1) * 64 + l.getD k 0 % 64) := by
        obtain ⟨q, rfl⟩ : ∃ q, k = q + 1 := ⟨k - 1, by omega⟩
        rfl
      have hp0 := acc_pos 32 l (by omega) (k - 1)
      have hp1 := acc_lt 32 l (by omega) (by omega) (k - 1) (by omega)
      have hcs : Hid ((bits .and .u8 (l.getD k 0) 192 == 128) = cont (l.getD k 0)) := a192 _ hrk.1 hrk.2
      have hcont := hide (pt_cont l 2 ((unhide HZ) 2 rfl) k hk1 hlt)
      have ha63 : bits .and .u8 (l.getD k 0) 63 = l.getD k 0 % 64 := a63 _ hrk.1 hrk.2
      have hor : bits .or .i64 (acc 32 l (k - 1) * 64) (l.getD k 0 % 64) = acc 32 l (k - 1) * 64 + l.getD k 0 % 64 := or_i64 _ _ 6 (by omega) (by omega) (by omega) (by omega) (by omega) (by omega)
      generalize hx : l.getD k 0 = x at hck hrk hstep hcs hcont ha63 hor
      generalize hpp : acc 32 l (k - 1) = p at hp0 hp1 hstep hor
      have HX := hide hx
      have HPP := hide hpp
      clear hx hpp
      by_cases hct : cont x = true
      · have hb : (bits .and .u8 x 192 == 128) = true := (unhide hcs).trans hct
        have HC := hide hct
        clear hct hcont
        go_wp2
        go_round
        case rel => exact ⟨k + 1, by omega, by omega, by go_num, by rw [Nat.add_sub_cancel, unhide hstep], fun j h1 h2 => by
          rcases Nat.lt_succ_iff_lt_or_eq.1 h2 with h | h
          · exact (unhide hall) j h1 h
          · rw [h, unhide HX]; exact unhide HC⟩
        case measure => simp [intOf]; omega
      · have hb : (bits .and .u8 x 192 == 128) = false := by rw [unhide hcs]; simpa using hct
        have hp : Hid (pt l = 0) := (unhide hcont) (by simpa using hct)
        clear hct hcont
        go_wp2
        go_ret
        refine ⟨ret_int ?_, rfl⟩
        rw [unhide hp]
        rfl
    · obtain rfl : k = 2 := by omega
      have hpt : Hid (pt l = if mbn 2 l = true then 2 else 0) := pt_mb l 2 ((unhide HZ) 2 rfl) (by omega) (by rw [(unhide HM).len]; exact hs) (unhide hall)
      have hpv : Hid (pvn 2 l = acc 32 l (2 - 1)) := rfl
      have hp0 := acc_pos 32 l (by omega) (2 - 1)
      have hp1 := acc_lt 32 l (by omega) (by omega) (2 - 1) (by omega)
      have yes : Hid (∀ P, acc 32 l (2 - 1) = P → 128 ≤ P → P ≤ 1114111 → (P < 55296 ∨ 57343 < P) → pt l = 2) := by
        intro P hP a1 a2 a3
        rw [unhide hpt, if_pos]
        unfold mbn
        rw [unhide hpv, hP]
        have : lstn 2 = 128 := rfl
        simp only [this, Bool.and_eq_true, Bool.not_eq_true', Bool.and_eq_false_iff, decide_eq_true_eq, decide_eq_false_iff_not]
        omega
      have no : Hid (∀ P, acc 32 l (2 - 1) = P → (P < 128 ∨ 1114111 < P ∨ (55296 ≤ P ∧ P ≤ 57343)) → pt l = 0) := by
        intro P hP a1
        rw [unhide hpt, if_neg]
        unfold mbn
        rw [unhide hpv, hP]
        have : lstn 2 = 128 := rfl
        simp only [this, Bool.and_eq_true, Bool.not_eq_true', Bool.and_eq_false_iff, decide_eq_true_eq, decide_eq_false_iff_not]
        omega
      generalize hP : acc 32 l (2 - 1) = P at hp0 hp1
      have HP := hide hP
      clear hP hpt hpv
      by_cases q1 : P < 128
      · have hp : Hid (pt l = 0) := (unhide no) P (unhide HP) (.inl q1)
        go_wp2
        go_ret
        refine ⟨ret_int ?_, rfl⟩
        rw [unhide hp]
        rfl
      · by_cases q2 : 1114111 < P
        · have hp : Hid (pt l = 0) := (unhide no) P (unhide HP) (.inr (.inl q2))
          go_wp2
          go_ret
          refine ⟨ret_int ?_, rfl⟩
          rw [unhide hp]
          rfl
        · by_cases q3 : 55296 ≤ P
          · by_cases q4 : P ≤ 57343
            · have hp : Hid (pt l = 0) := (unhide no) P (unhide HP) (.inr (.inr ⟨q3, q4⟩))
              go_wp2
              go_ret
              refine ⟨ret_int ?_, rfl⟩
              rw [unhide hp]
              rfl
            · have hp : Hid (pt l = 2) := (unhide yes) P (unhide HP) (by omega) (by omega) (by omega)
              go_wp2
              go_ret
              refine ⟨ret_int ?_, rfl⟩
              rw [unhide hp]
              rfl
          · have hp : Hid (pt l = 2) := (unhide yes) P (unhide HP) (by omega) (by omega) (by omega)
            go_wp2
            go_ret
            refine ⟨ret_int ?_, rfl⟩
            rw [unhide hp]
            rfl
theorem rp_short3 (b off len cap : Nat) (l : List Int) (w : World) (h0 : 0 < len) (hm : Mem w b off len l) (h1 : 224 ≤ l.getD 0 0) (h2 : l.getD 0 0 < 240) (hs : len < 3) : Calls Tryz.prog 203 #[.slice (some ⟨b, off, none⟩) len cap] w fun e w' => e = .returned (.int .i64 (pt l)) ∧ w' = w := by
  have hc := hm.cell0 h0
  have hp : Hid (pt l = 0) := pt_short l 3 (by rcases szf_cases (l.getD 0 0) with h | h | h | h | h | h <;> omega) (by rw [hm.len]; exact h0) (by rw [hm.len]; exact hs)
  have hr := hm.range 0
  have HM := hide hm
  clear hm
  generalize l.getD 0 0 = c at hc hr h1 h2
  go_enter Tryz.func203, Tryz.ntmps203
  go_wp2
  go_ret
  refine ⟨ret_int ?_, rfl⟩
  rw [unhide hp]
  rfl
set_option maxRecDepth 100000 in
set_option maxHeartbeats 1000000 in
theorem rp_3 (b off len cap : Nat) (l : List Int) (w : World) (h0 : 0 < len) (hm : Mem w b off len l) (h1 : 224 ≤ l.getD 0 0) (h2 : l.getD 0 0 < 240) (hs : 3 ≤ len) : Calls Tryz.prog 203 #[.slice (some ⟨b, off, none⟩) len cap] w fun e w' => e = .returned (.int .i64 (pt l)) ∧ w' = w := by
  have hc := hm.cell0 h0
  have hz : Hid (szf (l.getD 0 0) = 3) := by show _ = _; rcases szf_cases (l.getD 0 0) with h | h | h | h | h | h <;> omega
  have hz2 : Hid (szf (l.getD 0 0) = 3) := unhide hz
  have HZ : Hid (∀ z : Nat, z = 3 → szf (l.getD 0 0) = z) := fun z h => by rw [unhide hz2, h]; rfl
  clear hz hz2
  have hr := hm.range 0
  have ha : bits .and .i64 (l.getD 0 0) 15 = l.getD 0 0 % 16 := a15 _ hr.1 hr.2
  have h00 : Hid (l.getD 0 0 % 16 = acc 16 l 0) := rfl
  have HM := hide hm
  clear hm
  generalize l.getD 0 0 = c at hc hr h1 h2 ha h00
  go_enter Tryz.func203, Tryz.ntmps203
  go_wp2
  go_loop [4, 6] (fun p i => ∃ k : Nat, 1 ≤ k ∧ k ≤ 3 ∧ i = .int .i64 k ∧ p = .int .i64 (acc 16 l (k - 1)) ∧ Hid (∀ j, 1 ≤ j → j < k → cont (l.getD j 0) = true)) (fun _ i => 3 - (intOf i).toNat)
  case atStart => exact ⟨1, by omega, by omega, rfl, by rw [unhide h00], fun j h1 h2 => by omega⟩
  case round =>
    obtain ⟨k, hk1, hkn, rfl, rfl, hall⟩ := hrel
    by_cases hlt : k < 3
    · have hck := (unhide HM).cell k (by omega)
      have hrk := (unhide HM).range k
      have hstep : Hid (acc 16 l k = acc 16 l (k - 1) * 64 + l.getD k 0 % 64) := by
        obtain ⟨q, rfl⟩ : ∃ q, k = q + 1 := ⟨k - 1, by omega⟩
        rfl
      have hp0 := acc_pos 16 l (by omega) (k - 1)
      have hp1 := acc_lt 16 l (by omega) (by omega) (k - 1) (by omega)
      have hcs : Hid ((bits .and .u8 (l.getD k 0) 192 == 128) = cont (l.getD k 0)) := a192 _ hrk.1 hrk.2
      have hcont := hide (pt_cont l 3 ((unhide HZ) 3 rfl) k hk1 hlt)
      have ha63 : bits .and .u8 (l.getD k 0) 63 = l.getD k 0 % 64 := a63 _ hrk.1 hrk.2
      have hor : bits .or .i64 (acc 16 l (k - 1) * 64) (l.getD k 0 % 64) = acc 16 l (k - 1) * 64 + l.getD k 0 % 64 := or_i64 _ _ 6 (by omega) (by omega) (by omega) (by omega) (by omega) (by omega)
      generalize hx : l.getD k 0 = x at hck hrk hstep hcs hcont ha63 hor
      generalize hpp : acc 16 l (k - 1) = p at hp0 hp1 hstep hor
      have HX := hide hx
      have HPP := hide hpp
      clear hx hpp
      by_cases hct : cont x = true
      · have hb : (bits .and .u8 x 192 == 128) = true := (unhide hcs).trans hct
        have HC := hide hct
        clear hct hcont
        go_wp2
        go_round
        case rel => exact ⟨k + 1, by omega, by omega, by go_num, by rw [Nat.add_sub_cancel, unhide hstep], fun j h1 h2 => by
          rcases Nat.lt_succ_iff_lt_or_eq.1 h2 with h | h
          · exact (unhide hall) j h1 h
          · rw [h, unhide HX]; exact unhide HC⟩
        case measure => simp [intOf]; omega
      · have hb : (bits .and .u8 x 192 == 128) = false := by rw [unhide hcs]; simpa using hct
        have hp : Hid (pt l = 0) := (unhide hcont) (by simpa using hct)
        clear hct hcont
        go_wp2
        go_ret
        refine ⟨ret_int ?_, rfl⟩
        rw [unhide hp]
        rfl
    · obtain rfl : k = 3 := by omega
      have hpt : Hid (pt l = if mbn 3 l = true then 3 else 0) := pt_mb l 3 ((unhide HZ) 3 rfl) (by omega) (by rw [(unhide HM).len]; exact hs) (unhide hall)
      have hpv : Hid (pvn 3 l = acc 16 l (3 - 1)) := rfl
      have hp0 := acc_pos 16 l (by omega) (3 - 1)
      have hp1 := acc_lt 16 l (by omega) (by omega) (3 - 1) (by omega)
      have yes : Hid (∀ P, acc 16 l (3 - 1) = P → 2048 ≤ P → P ≤ 1114111 → (P < 55296 ∨ 57343 < P) → pt l = 3) := by
        intro P hP a1 a2 a3
        rw [unhide hpt, if_pos]
        unfold mbn
        rw [unhide hpv, hP]
        have : lstn 3 = 2048 := rfl
        simp only [this, Bool.and_eq_true, Bool.not_eq_true', Bool.and_eq_false_iff, decide_eq_true_eq, decide_eq_false_iff_not]
        omega
      have no : Hid (∀ P, acc 16 l (3 - 1) = P → (P < 2048 ∨ 1114111 < P ∨ (55296 ≤ P ∧ P ≤ 57343)) → pt l = 0) := by
        intro P hP a1
        rw [unhide hpt, if_neg]
        unfold mbn
        rw [unhide hpv, hP]
        have : lstn 3 = 2048 := rfl
        simp only [this, Bool.and_eq_true, Bool.not_eq_true', Bool.and_eq_false_iff, decide_eq_true_eq, decide_eq_false_iff_not]
        omega
      generalize hP : acc 16 l (3 - 1) = P at hp0 hp1
      have HP := hide hP
      clear hP hpt hpv
      by_cases q1 : P < 2048
      · have hp : Hid (pt l = 0) := (unhide no) P (unhide HP) (.inl q1)
        go_wp2
        go_ret
        refine ⟨ret_int ?_, rfl⟩
        rw [unhide hp]
        rfl
      · by_cases q2 : 1114111 < P
        · have hp : Hid (pt l = 0) := (unhide no) P (unhide HP) (.inr (.inl q2))
          go_wp2
          go_ret
          refine ⟨ret_int ?_, rfl⟩
          rw [unhide hp]
          rfl
        · by_cases q3 : 55296 ≤ P
          · by_cases q4 : P ≤ 57343
            · have hp : Hid (pt l = 0) := (unhide no) P (unhide HP) (.inr (.inr ⟨q3, q4⟩))
              go_wp2
              go_ret
              refine ⟨ret_int ?_, rfl⟩
              rw [unhide hp]
              rfl
            · have hp : Hid (pt l = 3) := (unhide yes) P (unhide HP) (by omega) (by omega) (by omega)
              go_wp2
              go_ret
              refine ⟨ret_int ?_, rfl⟩
              rw [unhide hp]
              rfl
          · have hp : Hid (pt l = 3) := (unhide yes) P (unhide HP) (by omega) (by omega) (by omega)
            go_wp2
            go_ret
            refine ⟨ret_int ?_, rfl⟩
            rw [unhide hp]
            rfl
theorem rp_short4 (b off len cap : Nat) (l : List Int) (w : World) (h0 : 0 < len) (hm : Mem w b off len l) (h1 : 240 ≤ l.getD 0 0) (h2 : l.getD 0 0 < 248) (hs : len < 4) : Calls Tryz.prog 203 #[.slice (some ⟨b, off, none⟩) len cap] w fun e w' => e = .returned (.int .i64 (pt l)) ∧ w' = w := by
  have hc := hm.cell0 h0
  have hp : Hid (pt l = 0) := pt_short l 4 (by rcases szf_cases (l.getD 0 0) with h | h | h | h | h | h <;> omega) (by rw [hm.len]; exact h0) (by rw [hm.len]; exact hs)
  have hr := hm.range 0
  have HM := hide hm
  clear hm
  generalize l.getD 0 0 = c at hc hr h1 h2
  go_enter Tryz.func203, Tryz.ntmps203
  go_wp2
  go_ret
  refine ⟨ret_int ?_, rfl⟩
  rw [unhide hp]
  rfl
set_option maxRecDepth 100000 in
set_option maxHeartbeats 1000000 in
theorem rp_4 (b off len cap : Nat) (l : List Int) (w : World) (h0 : 0 < len) (hm : Mem w b off len l) (h1 : 240 ≤ l.getD 0 0) (h2 : l.getD 0 0 < 248) (hs : 4 ≤ len) : Calls Tryz.prog 203 #[.slice (some ⟨b, off, none⟩) len cap] w fun e w' => e = .returned (.int .i64 (pt l)) ∧ w' = w := by
  have hc := hm.cell0 h0
  have hz : Hid (szf (l.getD 0 0) = 4) := by show _ = _; rcases szf_cases (l.getD 0 0) with h | h | h | h | h | h <;> omega
  have hz2 : Hid (szf (l.getD 0 0) = 4) := unhide hz
  have HZ : Hid (∀ z : Nat, z = 4 → szf (l.getD 0 0) = z) := fun z h => by rw [unhide hz2, h]; rfl
  clear hz hz2
  have hr := hm.range 0
  have ha : bits .and .i64 (l.getD 0 0) 7 = l.getD 0 0 % 8 := a7 _ hr.1 hr.2
  have h00 : Hid (l.getD 0 0 % 8 = acc 8 l 0) := rfl
  have HM := hide hm
  clear hm
  generalize l.getD 0 0 = c at hc hr h1 h2 ha h00
  go_enter Tryz.func203, Tryz.ntmps203
  go_wp2
  go_loop [4, 6] (fun p i => ∃ k : Nat, 1 ≤ k ∧ k ≤ 4 ∧ i = .int .i64 k ∧ p = .int .i64 (acc 8 l (k - 1)) ∧ Hid (∀ j, 1 ≤ j → j < k → cont (l.getD j 0) = true)) (fun _ i => 4 - (intOf i).toNat)
  case atStart => exact ⟨1, by omega, by omega, rfl, by rw [unhide h00], fun j h1 h2 => by omega⟩
  case round =>
    obtain ⟨k, hk1, hkn, rfl, rfl, hall⟩ := hrel
    by_cases hlt : k < 4
    · have hck := (unhide HM).cell k (by omega)
      have hrk := (unhide HM).range k
      have hstep : Hid (acc 8 l k = acc 8 l (k - 1) * 64 + l.getD k 0 % 64) := by
        obtain ⟨q, rfl⟩ : ∃ q, k = q + 1 := ⟨k - 1, by omega⟩
        rfl
      have hp0 := acc_pos 8 l (by omega) (k - 1)
      have hp1 := acc_lt 8 l (by omega) (by omega) (k - 1) (by omega)
      have hcs : Hid ((bits .and .u8 (l.getD k 0) 192 == 128) = cont (l.getD k 0)) := a192 _ hrk.1 hrk.2
      have hcont := hide (pt_cont l 4 ((unhide HZ) 4 rfl) k hk1 hlt)
      have ha63 : bits .and .u8 (l.getD k 0) 63 = l.getD k 0 % 64 := a63 _ hrk.1 hrk.2
      have hor : bits .or .i64 (acc 8 l (k - 1) * 64) (l.getD k 0 % 64) = acc 8 l (k - 1) * 64 + l.getD k 0 % 64 := or_i64 _ _ 6 (by omega) (by omega) (by omega) (by omega) (by omega) (by omega)
      generalize hx : l.getD k 0 = x at hck hrk hstep hcs hcont ha63 hor
      generalize hpp : acc 8 l (k - 1) = p at hp0 hp1 hstep hor
      have HX := hide hx
      have HPP := hide hpp
      clear hx hpp
      by_cases hct : cont x = true
      · have hb : (bits .and .u8 x 192 == 128) = true := (unhide hcs).trans hct
        have HC := hide hct
        clear hct hcont
        go_wp2
        go_round
        case rel => exact ⟨k + 1, by omega, by omega, by go_num, by rw [Nat.add_sub_cancel, unhide hstep], fun j h1 h2 => by
          rcases Nat.lt_succ_iff_lt_or_eq.1 h2 with h | h
          · exact (unhide hall) j h1 h
          · rw [h, unhide HX]; exact unhide HC⟩
        case measure => simp [intOf]; omega
      · have hb : (bits .and .u8 x 192 == 128) = false := by rw [unhide hcs]; simpa using hct
        have hp : Hid (pt l = 0) := (unhide hcont) (by simpa using hct)
        clear hct hcont
        go_wp2
        go_ret
        refine ⟨ret_int ?_, rfl⟩
        rw [unhide hp]
        rfl
    · obtain rfl : k = 4 := by omega
      have hpt : Hid (pt l = if mbn 4 l = true then 4 else 0) := pt_mb l 4 ((unhide HZ) 4 rfl) (by omega) (by rw [(unhide HM).len]; exact hs) (unhide hall)
      have hpv : Hid (pvn 4 l = acc 8 l (4 - 1)) := rfl
      have hp0 := acc_pos 8 l (by omega) (4 - 1)
      have hp1 := acc_lt 8 l (by omega) (by omega) (4 - 1) (by omega)
      have yes : Hid (∀ P, acc 8 l (4 - 1) = P → 65536 ≤ P → P ≤ 1114111 → (P < 55296 ∨ 57343 < P) → pt l = 4) := by
        intro P hP a1 a2 a3
        rw [unhide hpt, if_pos]
        unfold mbn
        rw [unhide hpv, hP]
        have : lstn 4 = 65536 := rfl
        simp only [this, Bool.and_eq_true, Bool.not_eq_true', Bool.and_eq_false_iff, decide_eq_true_eq, decide_eq_false_iff_not]
        omega
      have no : Hid (∀ P, acc 8 l (4 - 1) = P → (P < 65536 ∨ 1114111 < P ∨ (55296 ≤ P ∧ P ≤ 57343)) → pt l = 0) := by
        intro P hP a1
        rw [unhide hpt, if_neg]
        unfold mbn
        rw [unhide hpv, hP]
        have : lstn 4 = 65536 := rfl
        simp only [this, Bool.and_eq_true, Bool.not_eq_true', Bool.and_eq_false_iff, decide_eq_true_eq, decide_eq_false_iff_not]
        omega
      generalize hP : acc 8 l (4 - 1) = P at hp0 hp1
      have HP := hide hP
      clear hP hpt hpv
      by_cases q1 : P < 65536
      · have hp : Hid (pt l = 0) := (unhide no) P (unhide HP) (.inl q1)
        go_wp2
        go_ret
        refine ⟨ret_int ?_, rfl⟩
        rw [unhide hp]
        rfl
      · by_cases q2 : 1114111 < P
        · have hp : Hid (pt l = 0) := (unhide no) P (unhide HP) (.inr (.inl q2))
          go_wp2
          go_ret
          refine ⟨ret_int ?_, rfl⟩
          rw [unhide hp]
          rfl
        · by_cases q3 : 55296 ≤ P
          · by_cases q4 : P ≤ 57343
            · have hp : Hid (pt l = 0) := (unhide no) P (unhide HP) (.inr (.inr ⟨q3, q4⟩))
              go_wp2
              go_ret
              refine ⟨ret_int ?_, rfl⟩
              rw [unhide hp]
              rfl
            · have hp : Hid (pt l = 4) := (unhide yes) P (unhide HP) (by omega) (by omega) (by omega)
              go_wp2
              go_ret
              refine ⟨ret_int ?_, rfl⟩
              rw [unhide hp]
              rfl
          · have hp : Hid (pt l = 4) := (unhide yes) P (unhide HP) (by omega) (by omega) (by omega)
            go_wp2
            go_ret
            refine ⟨ret_int ?_, rfl⟩
            rw [unhide hp]
            rfl
theorem rp_any (v : Value) (l : List Int) (w : World) (hv : Byt w v l) (h0 : l ≠ []) : Calls Tryz.prog 203 #[v] w fun e w' => e = .returned (.int .i64 (pt l)) ∧ w' = w := by
  obtain ⟨ao, cap, rfl, hlen, hr, hcase⟩ := hv
  rcases hcase with rfl | ⟨b, off, rfl, hc⟩
  · exact absurd rfl h0
  · have hm : Mem w b off l.length l := ⟨rfl, hc, hr⟩
    have hp : 0 < l.length := by rcases l with _ | ⟨a, r⟩; exact absurd rfl h0; simp
    by_cases a1 : l.getD 0 0 < 128
    · exact rp_1 b off _ cap l w hp hm a1
    · by_cases a2 : l.getD 0 0 < 192
      · exact rp_lone b off _ cap l w hp hm (by omega) a2
      · by_cases a3 : l.getD 0 0 < 224
        · by_cases hs : l.length < 2
          · exact rp_short2 b off _ cap l w hp hm (by omega) a3 hs
          · exact rp_2 b off _ cap l w hp hm (by omega) a3 (by omega)
        · by_cases a4 : l.getD 0 0 < 240
          · by_cases hs : l.length < 3
            · exact rp_short3 b off _ cap l w hp hm (by omega) a4 hs
            · exact rp_3 b off _ cap l w hp hm (by omega) a4 (by omega)
          · by_cases a5 : l.getD 0 0 < 248
            · by_cases hs : l.length < 4
              · exact rp_short4 b off _ cap l w hp hm (by omega) a5 hs
              · exact rp_4 b off _ cap l w hp hm (by omega) a5 (by omega)
            · exact rp_high b off _ cap l w hp hm (by omega)
end Go.Proofs.YtoocdfgjkeheaaaGreatDoor
/- Proved here: dovecoteref1.Utf tells whether bytes are UTF-8 as the chapter has it. Helper contract. -/
namespace Go.Proofs.YtoocdfgjkeheaaaGreatDoor
open Go.RowKit

set_option maxRecDepth 100000 in
set_option maxHeartbeats 1000000 in
theorem rutf_any (v : Value) (l : List Int) (w : World) (hv : Byt w v l) : Calls Tryz.prog 183 #[v] w fun e w' => e = .returned (.bool (utf l)) ∧ w' = w := by
  go_enter Tryz.func183, Tryz.ntmps183
  go_wp2
  go_loop [0] (fun b => ∃ k : Nat, k ≤ l.length ∧ Hid (Byt w b (l.drop k)) ∧ Hid (utf (l.drop k) = utf l)) (fun b => match b with | .slice _ n _ => n | _ => 0)
  case atStart => exact ⟨0, Nat.zero_le _, hv, rfl⟩
  case round =>
    obtain ⟨k, hk, hby, hu⟩ := hrel
    by_cases hlt : k < l.length
    · obtain ⟨b, off, cap, rfl, hc1, hc2⟩ := (unhide hby).form1 (by rw [List.length_drop]; omega)
      have hps := hide (rp_any _ _ w (unhide hby) (by intro h; have := congrArg List.length h; simp at this; omega))
      have h4 := pt_le (l.drop k)
      have hnot := hide (utf_not l k hlt)
      have hyes := hide (utf_drop l k hlt)
      have hdr := hide (fun p => (unhide hby).drop' p)
      rw [List.length_drop] at h4 hc1 hps hdr ⊢
      have hdd : Hid (∀ p, (l.drop k).drop p = l.drop (k + p)) := fun p => List.drop_drop
      generalize pt (l.drop k) = p at hps h4 hnot hyes
      generalize hm : l.length - k = m at hps h4 hc1 hdr
      unfold maxLen at hc2
      by_cases hp : p = 0
      · subst hp
        have hf := hide ((unhide hnot) rfl)
        go_wp2_with (go_at_call 203; refine (unhide hps).mono ?_; rintro e w' ⟨rfl, rfl⟩)
        go_ret
        exact ⟨ret_bool (by rw [← unhide hu, unhide hf]), rfl⟩
      · have hp0 : ((p : Int) == 0) = false := beq_eq_false_iff_ne.2 (by omega)
        go_wp2_with (go_at_call 203; refine (unhide hps).mono ?_; rintro e w' ⟨rfl, rfl⟩)
        go_round
        case rel => exact ⟨k + p, by omega, by show Byt _ _ _; rw [← (unhide hdd) p]; exact (unhide hdr) p h4, by show _ = _; rw [← (unhide hyes) hp]; exact unhide hu⟩
        case measure => simp; omega
    · obtain rfl : k = l.length := by omega
      have hn : l.drop l.length = [] := List.drop_of_length_le (Nat.le_refl _)
      rw [hn] at hby hu
      obtain ⟨ao, cap, rfl, _⟩ := (unhide hby).form
      have hu' : Hid (utf l = true) := (unhide hu).symm
      clear hn hu
      go_wp2
      go_ret
      exact ⟨ret_bool (unhide hu').symm, rfl⟩
end Go.Proofs.YtoocdfgjkeheaaaGreatDoor
/- Proved here: text.Check tells nil, or a Fault around ErrForm where a text is no UTF-8, around ErrLimit where it is too long. Helper contracts. -/
namespace Go.Proofs.YtoocdfgjkeheaaaGreatDoor
open Go.RowKit

/-- the world behind a new Fault around the number n -/
abbrev faultW (n : Int) (w : World) : World := w.alloc (.cells #[.string ⟨#[116, 101, 120, 116]⟩, .iface 84 (.int .i64 n)] 151)
theorem fault_any (n : Int) (w : World) : Calls Tryz.prog 199 #[.int .i64 n] w fun e w' => e = .returned (.iface 149 (.pointer (some ⟨w.heap.size, 0, none⟩))) ∧ w' = faultW n w := by
  go_enter Tryz.func199, Tryz.ntmps199
  go_wp2
  go_ret
  exact ⟨rfl, rfl⟩
theorem fault_is (n : Int) (w : World) : ErrIs (faultW n w) (.iface 149 (.pointer (some ⟨w.heap.size, 0, none⟩))) n := .inr ⟨_, rfl, by simp⟩
theorem fault_below (n : Int) (w : World) : Below w.heap.size w (faultW n w) := (Below.refl _ _).alloc (Nat.le_refl _) _

def ChkPost (l : List Int) (w : World) (e : Ending) (w' : World) : Prop :=
  (chk l = 0 ∧ e = .returned .nilIface ∧ w' = w) ∨ (∃ n, chk l = n ∧ n ≠ 0 ∧ e = .returned (.iface 149 (.pointer (some ⟨w.heap.size, 0, none⟩))) ∧ w' = faultW n w)

set_option maxRecDepth 100000 in
set_option maxHeartbeats 1000000 in
theorem check_core (s : ByteArray) (w : World) (hs : s.size ≤ 4611686018427387904) : Calls Tryz.prog 197 #[.string s] w (ChkPost (sb s) w) := by
  have HL := hide (sb_length s)
  go_enter Tryz.func197, Tryz.ntmps197
  go_wp2
  go_loop [3] (fun i => ∃ k : Nat, k ≤ s.size ∧ i = .int .i64 k ∧ Hid (utf ((sb s).drop k) = utf (sb s))) (fun i => s.size - (intOf i).toNat)
  case atStart => exact ⟨0, Nat.zero_le _, rfl, rfl⟩
  case round =>
    obtain ⟨k, hk, rfl, hu⟩ := hrel
    by_cases hlt : k < s.size
    · have hps : ∀ w, Calls Tryz.prog 205 #[.string (s.extract k s.size)] w fun e w' => e = .returned (.int .i64 (pt ((sb s).drop k))) ∧ w' = w := fun w => by
        rw [← sb_drop]
        exact ps_any _ w (by rw [ByteArray.size_extract]; omega)
      have HPS := hide hps
      clear hps
      have h4 := pt_le4 ((sb s).drop k)
      have hle : pt ((sb s).drop k) + k ≤ s.size := by
        have := pt_le ((sb s).drop k)
        rw [List.length_drop, unhide HL] at this
        omega
      have hnot := hide (utf_not (sb s) k (by rw [unhide HL]; exact hlt))
      have hyes := hide (utf_drop (sb s) k (by rw [unhide HL]; exact hlt))
      generalize pt ((sb s).drop k) = p at HPS h4 hle hnot hyes
      by_cases hp : p = 0
      · subst hp
        have hc : Hid (chk (sb s) = 1) := by show _ = _; unfold chk; rw [if_neg]; rw [← unhide hu, (unhide hnot) rfl]; simp
        clear hyes
        go_wp2_with (first | (go_at_call 205; refine ((unhide HPS) _).mono ?_; rintro e w' ⟨rfl, rfl⟩) | (go_at_call 199; refine (fault_any _ _).mono ?_; rintro e w' ⟨rfl, rfl⟩))
        go_ret
        exact .inr ⟨1, unhide hc, by omega, rfl, rfl⟩
      · have hp0 : ((p : Int) == 0) = false := beq_eq_false_iff_ne.2 (by omega)
        have hu' : Hid (utf ((sb s).drop (k + p)) = utf (sb s)) := by show _ = _; rw [← (unhide hyes) hp]; exact unhide hu
        clear hnot hyes
        go_wp2_with (first | (go_at_call 205; refine ((unhide HPS) _).mono ?_; rintro e w' ⟨rfl, rfl⟩))
        go_round
        case rel => exact ⟨k + p, by omega, by go_num, hu'⟩
        case measure => simp [intOf]; omega
    · obtain rfl : k = s.size := by omega
      have ht : utf (sb s) = true := by rw [← unhide hu, List.drop_of_length_le (by rw [unhide HL]; exact Nat.le_refl _)]; rfl
      by_cases hm : s.size ≤ 65535
      · have hc : Hid (chk (sb s) = 0) := by show _ = _; unfold chk; rw [if_pos ht, if_pos (by rw [unhide HL]; exact hm)]
        clear ht
        go_wp2
        go_ret
        exact .inl ⟨unhide hc, rfl, rfl⟩
      · have hc : Hid (chk (sb s) = 2) := by show _ = _; unfold chk; rw [if_pos ht, if_neg (by rw [unhide HL]; exact hm)]
        clear ht
        go_wp2_with (go_at_call 199; refine (fault_any _ _).mono ?_; rintro e w' ⟨rfl, rfl⟩)
        go_ret
        exact .inr ⟨2, unhide hc, by omega, rfl, rfl⟩
theorem check_ok (s : ByteArray) (w : World) (hs : s.size ≤ 4611686018427387904) (h : chk (sb s) = 0) : Calls Tryz.prog 197 #[.string s] w fun e w' => e = .returned .nilIface ∧ w' = w := by
  refine (check_core s w hs).mono ?_
  rintro e w' (⟨_, h1⟩ | ⟨n, h1, h2, _⟩)
  · exact h1
  · exact absurd (h1.symm.trans h) h2
theorem check_bad (s : ByteArray) (n : Int) (w : World) (hs : s.size ≤ 4611686018427387904) (h : chk (sb s) = n) (h0 : n ≠ 0) : Calls Tryz.prog 197 #[.string s] w fun e w' => e = .returned (.iface 149 (.pointer (some ⟨w.heap.size, 0, none⟩))) ∧ w' = faultW n w := by
  refine (check_core s w hs).mono ?_
  rintro e w' (⟨h1, _⟩ | ⟨m, h1, _, h3⟩)
  · exact absurd (h.symm.trans h1) h0
  · obtain rfl : m = n := h1.symm.trans h
    exact h3
/-- Check's answer, as a caller uses it that holds its number alone -/
theorem check_num (s : ByteArray) (w : World) (hs : s.size ≤ 4611686018427387904) : Calls Tryz.prog 197 #[.string s] w fun e w' => ∃ E, e = .returned E ∧ Hid (ErrIs w' E (chk (sb s))) ∧ Below w.heap.size w w' := by
  refine (check_core s w hs).mono ?_
  rintro e w' (⟨h, rfl, rfl⟩ | ⟨n, h, h0, rfl, rfl⟩)
  · exact ⟨_, rfl, .inl ⟨h, rfl⟩, Below.refl _ _⟩
  · exact ⟨_, rfl, by rw [h]; exact fault_is n w, fault_below n w⟩
end Go.Proofs.YtoocdfgjkeheaaaGreatDoor
/- Proved here: text.Put and PutBin tell a text's length in two bytes and its bytes behind, in memory of their own, or a Fault. Helper contracts. -/
namespace Go.Proofs.YtoocdfgjkeheaaaGreatDoor
open Go.RowKit

theorem Tryz.infoU8 : (Tryz.prog.info? 5).map (fun i => (i.zero, i.size, i.bytes)) = some (some (.int .u8 0), 1, 1) := by kernel_rfl
theorem strCells_sb (s : ByteArray) : Lib.strCells s = (sb s).map (Value.int .u8) := by unfold Lib.strCells sb; rw [List.map_map]; rfl
/-- a text's bytes with their length ahead -/
def tx (s : ByteArray) : List Int := [(s.size : Int) / 256, (s.size : Int) % 256] ++ sb s
theorem tx_length (s : ByteArray) : (tx s).length = 2 + s.size := by unfold tx; rw [List.length_append, sb_length]; rfl
theorem two_cell (w : World) (y z : Value) (t : TypeId) : ∀ j u, [y, z][j]? = some u → (w.alloc (.cells #[y, z] t)).cell? ((⟨w.heap.size, 0, none⟩ : Addr).add j) = some u := by
  intro j u hj
  match j, hj with
  | 0, hj => simp at hj; subst hj; simp [Addr.add]
  | 1, hj => simp at hj; subst hj; simp [Addr.add]
theorem two_one (k : IntKind) (y z : Int) : ∀ u ∈ [Value.int k y, Value.int k z], u.oneCell' = true := by
  intro u hu; simp at hu; rcases hu with rfl | rfl <;> rfl

set_option maxRecDepth 100000 in
set_option maxHeartbeats 1000000 in
theorem wl_any (s : ByteArray) (w : World) (hs : s.size ≤ 65535) : Calls Tryz.prog 198 #[.string s] w fun e w' => ∃ v, e = .returned v ∧ Hid (w'.ownsRow w.heap.size 5 1 v (2 + s.size) ((tx s).map (Value.int .u8))) ∧ Below w.heap.size w w' := by
  obtain ⟨i0, hi, hz0, hz1, hz2⟩ := info_parts Tryz.infoU8
  go_enter Tryz.func198, Tryz.ntmps198
  go_wp2_with (first
    | (at_make; refine wpList_make_own _ rfl _ _ 31 rfl w.heap.size 5 i0 (.int .u8 0) 1 Tryz.underlying31 hi hz0 hz1 .i64 .i64 _ (2 + s.size) rfl rfl (by omega) (by rw [hz2]; omega) (by unfold maxLen; omega) (Nat.le_refl _) ?_; intro w0 hown0 hgrow0)
    | (at_builtin; refine wpList_append_own _ rfl _ _ 31 rfl w.heap.size 5 i0 (.int .u8 0) 1 1 Tryz.underlying31 hi hz0 hz1 hz2 rfl (by decide) _ _ _ rfl (hown0.alloc _) ⟨w0.heap.size, 0, none⟩ 2 2 [.int .u8 ((s.size : Int) / 256), .int .u8 ((s.size : Int) % 256)] rfl rfl (two_cell _ _ _ _) (two_one _ _ _) (by unfold maxLen; omega) (by omega) (by have := hgrow0.size; simp; omega) ?_)
    | go_in)
  intro v1 w1 hown1 hgrow1 _
  have hb0 : Below w.heap.size w w0 := (Below.refl _ _).grown hgrow0 (Nat.le_refl _) (fun k hk => by cases hk)
  have hb1 : Below w.heap.size w w1 := (hb0.alloc hb0.size _).grown hgrow1 (by have := hb0.size; simp; omega) (fun k hk => (hown0.lt k hk).1)
  clear hgrow0 hgrow1 hown0 hb0
  go_wp2_with (first
    | (at_builtin; refine Lib.wpList_append_own_string _ rfl _ _ 31 9 rfl w.heap.size 5 i0 Tryz.underlying31 Tryz.underlying9 hi hz0 hz1 hz2 _ _ _ rfl hown1 s rfl (by unfold maxLen; omega) (by omega) hb1.size ?_)
    | go_in)
  intro v2 w2 hown2 hgrow2 _
  have hb2 : Below w.heap.size w w2 := hb1.grown hgrow2 hb1.size (fun k hk => (hown1.lt k hk).1)
  have hown3 : Hid (w2.ownsRow w.heap.size 5 1 v2 (2 + s.size) ((tx s).map (Value.int .u8))) := by
    unfold tx
    rw [List.map_append, ← strCells_sb]
    show World.ownsRow _ _ _ _ _ _ _
    simpa using hown2
  clear hgrow2 hown1 hb1 hown2
  go_wp2
  go_ret
  exact ⟨_, rfl, hown3, hb2⟩

/-- what Put and PutBin tell of a text that may be told -/
def TxPost (s : ByteArray) (w : World) (e : Ending) (w' : World) : Prop :=
  ∃ v, e = .returned (.tuple #[v, .nilIface]) ∧ Hid (w'.ownsRow w.heap.size 5 1 v (2 + s.size) ((tx s).map (Value.int .u8))) ∧ Below w.heap.size w w'
/-- .. and of one that may not -/
def FaPost (n : Int) (w : World) (e : Ending) (w' : World) : Prop :=
  e = .returned (.tuple #[.slice none 0 0, .iface 149 (.pointer (some ⟨w.heap.size, 0, none⟩))]) ∧ w' = faultW n w

theorem chk_0 {l : List Int} (h : chk l = 0) : l.length ≤ 65535 := by
  unfold chk at h
  by_cases h1 : utf l = true
  · rw [if_pos h1] at h
    by_cases h2 : l.length ≤ 65535
    · exact h2
    · rw [if_neg h2] at h; omega
  · rw [if_neg h1] at h; omega
theorem put_ok (s : ByteArray) (w : World) (hc : chk (sb s) = 0) : Calls Tryz.prog 175 #[.string s] w (TxPost s w) := by
  have hs : s.size ≤ 65535 := by have := chk_0 hc; rw [sb_length] at this; exact this
  unfold TxPost
  have HC := hide hc
  clear hc
  go_enter Tryz.func175, Tryz.ntmps175
  go_wp2_with (first | (go_at_call 197; refine (check_ok s _ (by omega) (unhide HC)).mono ?_; rintro e w' ⟨rfl, rfl⟩) | (go_at_call 198; refine (wl_any s _ hs).mono ?_; rintro e w' ⟨v, rfl, hown, hb⟩))
  go_ret2
  exact ⟨_, rfl, hown, hb⟩
theorem put_bad (s : ByteArray) (n : Int) (w : World) (hs : s.size ≤ 4611686018427387904) (hc : chk (sb s) = n) (hn : n ≠ 0) : Calls Tryz.prog 175 #[.string s] w (FaPost n w) := by
  unfold FaPost
  have HC := hide hc
  clear hc
  go_enter Tryz.func175, Tryz.ntmps175
  go_wp2_with (first | (go_at_call 197; refine (check_bad s n _ hs (unhide HC) hn).mono ?_; rintro e w' ⟨rfl, rfl⟩))
  go_ret2
  exact ⟨rfl, rfl⟩
theorem putBin_ok (s : ByteArray) (w : World) (hs : s.size ≤ 65535) : Calls Tryz.prog 176 #[.string s] w (TxPost s w) := by
  unfold TxPost
  go_enter Tryz.func176, Tryz.ntmps176
  go_wp2_with (go_at_call 198; refine (wl_any s _ hs).mono ?_; rintro e w' ⟨v, rfl, hown, hb⟩)
  go_ret2
  exact ⟨_, rfl, hown, hb⟩
theorem putBin_bad (s : ByteArray) (w : World) (hs : 65535 < s.size) : Calls Tryz.prog 176 #[.string s] w (FaPost 2 w) := by
  unfold FaPost
  go_enter Tryz.func176, Tryz.ntmps176
  go_wp2_with (go_at_call 199; refine (fault_any _ _).mono ?_; rintro e w' ⟨rfl, rfl⟩)
  go_ret2
  exact ⟨rfl, rfl⟩
theorem tx_range (s : ByteArray) (hs : s.size ≤ 65535) : ∀ j, 0 ≤ (tx s).getD j 0 ∧ (tx s).getD j 0 ≤ 255 := by
  intro j
  unfold tx
  rcases j with _ | _ | j
  · simp; omega
  · simp; omega
  · simpa using sb_range s j
end Go.Proofs.YtoocdfgjkeheaaaGreatDoor
/- Proved here: dovecoteref0.CopyBytes tells the same bytes in memory of its own; what append does to bytes of the caller's own, whatever bytes come behind. Helper contracts. -/
namespace Go.Proofs.YtoocdfgjkeheaaaGreatDoor
open Go.RowKit

theorem take_snoc_getD (xs : List Int) (k : Nat) (h : k < xs.length) : xs.take k ++ [xs.getD k 0] = xs.take (k + 1) := by
  rw [List.take_succ_eq_append_getElem h, List.getD_eq_getElem?_getD, List.getElem?_eq_getElem h]; rfl

set_option maxHeartbeats 1000000 in
theorem copy_core (b off n cap : Nat) (xs : List Int) (w : World) (hn : xs.length = n) (hb : n ≤ 140737488355328)
    (hc : ∀ j, j < n → w.cell? ⟨b, off + j, none⟩ = some (.int .u8 (xs.getD j 0))) :
    Calls Tryz.prog 32 #[.slice (some ⟨b, off, none⟩) n cap] w fun e w' => ∃ v, e = .returned v ∧ w'.ownsRow w.heap.size 5 1 v n (xs.map (Value.int .u8)) ∧ Below w.heap.size w w' := by
  obtain ⟨i0, hi, hz0, hz1, hz2⟩ := info_parts Tryz.infoU8
  have HC := hide hc
  have HN := hide hn
  clear hc hn
  go_enter Tryz.func32, Tryz.ntmps32
  go_wp2
  go_loopw [3, 4] (fun m i wr => ∃ k : Nat, k ≤ n ∧ i = .int .i64 k ∧ wr.ownsRow w.heap.size 5 1 m k ((xs.take k).map (Value.int .u8)) ∧ Below w.heap.size w wr) (fun _ i _ => n - (intOf i).toNat)
  case atStart => exact ⟨0, Nat.zero_le _, rfl, World.ownsRow_nil _ _ _ _, Below.refl _ _⟩
  case round =>
    obtain ⟨k, hk, rfl, hown, hbel⟩ := hrel
    by_cases hlt : k < n
    · have hc0 := (unhide HC) k hlt
      have hc1 := (hbel.cell (p := ⟨b, off + k, none⟩) (cell_lt hc0)).trans hc0
      clear hc0
      have ht := hide (take_snoc_getD xs k (by have := unhide HN; omega))
      generalize xs.getD k 0 = x at hc1 ht
      go_wp2_with (first
        | (at_builtin; refine wpList_append_own _ rfl _ _ 31 rfl w.heap.size 5 i0 (.int .u8 0) 1 1 Tryz.underlying31 hi hz0 hz1 hz2 rfl (by decide) _ _ _ rfl (hown.alloc _) ⟨wr.heap.size, 0, none⟩ 1 1 [.int .u8 x] rfl rfl (one_cell _ _ _) (one_one _ _) (by unfold maxLen; omega) (by omega) (by have := hbel.size; simp; omega) ?_)
        | go_in)
      intro v' w1 hown' hgrow _
      have hb1 : Below w.heap.size w w1 := (hbel.alloc hbel.size _).grown hgrow (by have := hbel.size; simp; omega) (fun k hk => (hown.lt k hk).1)
      clear hgrow hown hbel
      go_wp2
      go_roundw
      case rel => exact ⟨k + 1, by omega, by go_num, by rw [← unhide ht, List.map_append, List.map_take]; exact hown', hb1⟩
      case measure => simp [intOf]; omega
    · go_wp2
      go_ret
      have hk' : k = n := by omega
      subst hk'
      rw [List.take_of_length_le (by have := unhide HN; omega)] at hown
      exact ⟨_, rfl, hown, hbel⟩

theorem addr_add (b off j : Nat) : (⟨b, off, none⟩ : Addr).add j = ⟨b, off + j, none⟩ := by unfold Addr.add; split <;> simp_all

/-- append of any bytes to bytes of the caller's own -/
theorem run_append_byt (w : World) (base : Nat) (ty : TypeId) (v : Value) (n : Nat) (xs : List Int) (hown : w.ownsRow base 5 1 v n (xs.map (Value.int .u8))) (vx : Value) (ys : List Int) (hy : Byt w vx ys)
    (hbytes : n + ys.length ≤ 140737488355328) (hbase : base ≤ w.heap.size) :
    ∃ v' w', (Builtin.append_ #[31, 31] ty #[v, vx]).run Tryz.prog w = .ok v' w' ∧ w'.ownsRow base 5 1 v' (n + ys.length) ((xs ++ ys).map (Value.int .u8)) ∧ w.grownBy w' v.ownBlock := by
  obtain ⟨i0, hi, hz0, hz1, hz2⟩ := info_parts Tryz.infoU8
  obtain ⟨ao, cap, rfl, hlen, hr, hcase⟩ := hy
  have key : ∀ (a : Addr), (∀ j, j < ys.length → w.cell? (a.add j) = some (.int .u8 (ys.getD j 0))) → ∃ v' w', (Builtin.append_ #[31, 31] ty #[v, .slice (some a) ys.length cap]).run Tryz.prog w = .ok v' w' ∧ w'.ownsRow base 5 1 v' (n + ys.length) ((xs ++ ys).map (Value.int .u8)) ∧ w.grownBy w' v.ownBlock := by
    intro a ha
    obtain ⟨v', w', h1, h2, h3, _⟩ := run_append_own (P := Tryz.prog) w base 31 ty 5 i0 (.int .u8 0) 1 1 Tryz.underlying31 hi hz0 hz1 hz2 rfl (by decide) v n _ hown a ys.length cap (ys.map (Value.int .u8)) (by simp)
      (fun j u hj => by
        rw [List.getElem?_map] at hj
        by_cases hjl : j < ys.length
        · rw [ha j hjl]
          rw [List.getElem?_eq_getElem hjl] at hj
          rw [List.getD_eq_getElem?_getD, List.getElem?_eq_getElem hjl]
          exact hj
        · rw [List.getElem?_eq_none (by omega)] at hj; cases hj)
      (fun u hu => by obtain ⟨_, _, rfl⟩ := List.mem_map.1 hu; rfl) (by unfold maxLen; omega) (by omega) hbase
    exact ⟨v', w', h1, by rw [List.map_append]; exact h2, h3⟩
  rcases hcase with rfl | ⟨b, off, rfl, hc⟩
  · cases ao with
    | none =>
      refine ⟨v, w, ?_, ?_, ⟨rfl, rfl, rfl, Nat.le_refl _, fun _ _ _ => rfl⟩⟩
      · rcases hown.2 with ⟨rfl, rfl⟩ | ⟨g, cap', cur, rfl, _, _, hnc, _⟩
        · simp [Builtin.append_, run_underlying Tryz.underlying31, sizeOf, typeInfo, hi, Builtin.lenOf, Builtin.firstCells]
        · simp [Builtin.append_, run_underlying Tryz.underlying31, sizeOf, typeInfo, hi, Builtin.lenOf, Builtin.firstCells, hnc, storeCells]
      · simpa using hown
    | some a => exact key a (fun j hj => by simp at hj)
  · exact key ⟨b, off, none⟩ (fun j hj => by rw [addr_add]; exact hc j hj)

/-- the same, at a step of a region that draws its order -/
theorem step_append_byt {w : World} {ops : Array Oper} {o : Oper} {a : Act} {K : Act → World → Prop} {Q : Exit → Act → World → Prop} {E : Prop} (hgd : o.guard = none) (s x : Operand)
    (ho : o.op = .call { callee := .builtin .append, args := #[s, x], argTypes := #[31, 31] })
    (base : Nat) (v : Value) (n : Nat) (xs : List Int) (hs : a.eval s = v) (hown : w.ownsRow base 5 1 v n (xs.map (Value.int .u8))) (vx : Value) (ys : List Int) (hx : a.eval x = vx) (hy : Byt w vx ys)
    (hbytes : n + ys.length ≤ 140737488355328) (hbase : base ≤ w.heap.size)
    (h : ∀ v' w', w'.ownsRow base 5 1 v' (n + ys.length) ((xs ++ ys).map (Value.int .u8)) → w.grownBy w' v.ownBlock → K (a.put o.dst v') w') :
    if Region.wanted o (yielded ops a.tmps) = true then Oper.wp Tryz.prog o a w K Q else E := by
  have hw : Region.wanted o (yielded ops a.tmps) = true := by simp [Region.wanted, hgd]
  rw [if_pos hw]
  obtain ⟨v', w', hr, h2, h3⟩ := run_append_byt w base o.type v n xs hown vx ys hy hbytes hbase
  unfold Oper.wp execOp
  simp only [ho, resolve, invoke, builtin, Sem.run_bind, Sem.run_pure, Result.andThen_ok, List.map_toArray, List.map_cons, List.map_nil, hs, hx, hr]
  exact h v' w' h2 h3
end Go.Proofs.YtoocdfgjkeheaaaGreatDoor
/- Proved here: dovecoteref1.Check and Bin tell what text.Check and PutBin tell. Helper contracts. -/
namespace Go.Proofs.YtoocdfgjkeheaaaGreatDoor
open Go.RowKit

/-- a text turned into bytes -/
theorem conv_str (s : ByteArray) (hs : s.size ≤ maxLen) (w : World) : ∃ v w1, (convert 9 31 (.string s)).run Tryz.prog w = .ok v w1 ∧ Byt w1 v (sb s) ∧ Below w.heap.size w w1 := by
  refine ⟨_, _, run_bytes_of_string w 9 31 5 s Tryz.underlying9 Tryz.underlying31 Tryz.underlying5, ?_, ?_⟩
  · refine ⟨_, _, by rw [sb_length], ⟨by rw [sb_length]; exact grownCap_ge _ _ _ _, grownCap_le_maxLen _ _ _ _ hs⟩, sb_range s, .inr ⟨_, _, rfl, fun j hj => ?_⟩⟩
    rw [sb_length] at hj
    have h1 := World.cell?_alloc_mark w.drew (bytesRow s (grownCap w s.size 0 5)) 5 ((bytesRow s (grownCap w s.size 0 5)).size, (bytesRow s (grownCap w s.size 0 5)).size + 1) j
    rw [Nat.zero_add]
    refine h1.trans ?_
    rw [bytesRow_at s _ j hj, ← sb_get s j hj]
    rfl
  · exact (below_drewN (Below.refl _ _) 1).alloc (Nat.le_refl _) _
set_option maxRecDepth 100000 in
theorem rcheck_any (s : ByteArray) (w : World) (hs : s.size ≤ 4611686018427387904) : Calls Tryz.prog 153 #[.string s] w fun e w' => e = .returned (.int .i64 (chk (sb s))) ∧ Below w.heap.size w w' := by
  obtain ⟨v, w1, hrun, hby, hb⟩ := conv_str s (by unfold maxLen; omega) w
  have HBY := hide hby
  have HB := hide hb
  have HL := hide (sb_length s)
  clear hby hb
  by_cases hu : utf (sb s) = true
  · by_cases hm : s.size ≤ 65535
    · have hc : Hid (chk (sb s) = 0) := by show _ = _; unfold chk; rw [if_pos hu, if_pos (by rw [unhide HL]; exact hm)]
      go_enter Tryz.func153, Tryz.ntmps153
      go_wp2_with (go_at_call 183; refine (rutf_any v (sb s) _ (unhide HBY)).mono ?_; rintro e w' ⟨rfl, rfl⟩)
      go_ret
      exact ⟨ret_int (unhide hc).symm, unhide HB⟩
    · have hc : Hid (chk (sb s) = 2) := by show _ = _; unfold chk; rw [if_pos hu, if_neg (by rw [unhide HL]; exact hm)]
      go_enter Tryz.func153, Tryz.ntmps153
      go_wp2_with (go_at_call 183; refine (rutf_any v (sb s) _ (unhide HBY)).mono ?_; rintro e w' ⟨rfl, rfl⟩)
      go_ret
      exact ⟨ret_int (unhide hc).symm, unhide HB⟩
  · have hc : Hid (chk (sb s) = 1) := by show _ = _; unfold chk; rw [if_neg hu]
    have hu' : utf (sb s) = false := by simpa using hu
    go_enter Tryz.func153, Tryz.ntmps153
    go_wp2_with (go_at_call 183; refine (rutf_any v (sb s) _ (unhide HBY)).mono ?_; rintro e w' ⟨rfl, rfl⟩)
    go_ret
    exact ⟨ret_int (unhide hc).symm, unhide HB⟩

/-- append of any bytes to bytes of the caller's own, at an operation of a walk -/
theorem wpList_append_byt (w : World) {ops : Array Oper} {rest : List Oper} {o : Oper} {a : Act} {Q : Exit → Act → World → Prop} (hgd : o.guard = none) (s x : Operand)
    (ho : o.op = .call { callee := .builtin .append, args := #[s, x], argTypes := #[31, 31] })
    (base : Nat) (v : Value) (n : Nat) (xs : List Int) (hs : a.eval s = v) (hown : w.ownsRow base 5 1 v n (xs.map (Value.int .u8))) (vx : Value) (ys : List Int) (hx : a.eval x = vx) (hy : Byt w vx ys)
    (hbytes : n + ys.length ≤ 140737488355328) (hbase : base ≤ w.heap.size)
    (h : ∀ v' w', w'.ownsRow base 5 1 v' (n + ys.length) ((xs ++ ys).map (Value.int .u8)) → w.grownBy w' v.ownBlock → wpList Tryz.prog ops Q rest (a.put o.dst v') w') : wpList Tryz.prog ops Q (o :: rest) a w := by
  refine wpList_plain hgd fun K hK => ?_
  obtain ⟨v', w', hr, h2, h3⟩ := run_append_byt w base o.type v n xs hown vx ys hy hbytes hbase
  unfold Oper.wp execOp
  simp only [ho, resolve, invoke, builtin, Sem.run_bind, Sem.run_pure, Result.andThen_ok, List.map_toArray, List.map_cons, List.map_nil, hs, hx, hr]
  exact hK _ _ (h v' w' h2 h3)

set_option maxRecDepth 100000 in
set_option maxHeartbeats 1000000 in
theorem bin_any (s : ByteArray) (w : World) (hs : s.size ≤ 65535) : Calls Tryz.prog 111 #[.string s] w fun e w' => ∃ v, e = .returned v ∧ Hid (w'.ownsRow w.heap.size 5 1 v (2 + s.size) ((tx s).map (Value.int .u8))) ∧ Below w.heap.size w w' := by
  obtain ⟨v, w1, hrun, hby, hb⟩ := conv_str s (by unfold maxLen; omega) (w.alloc (.cells #[.int .u8 ((s.size : Int) / 256), .int .u8 ((s.size : Int) % 256)] 5))
  have hb0 : Below w.heap.size w w1 := ((Below.refl _ _).alloc (Nat.le_refl _) _).trans (hb.mono (by simp))
  have hown : Hid (w1.ownsRow w.heap.size 5 1 (.slice (some ⟨w.heap.size, 0, none⟩) 2 2) 2 ([(s.size : Int) / 256, (s.size : Int) % 256].map (Value.int .u8))) :=
    owns_below (World.ownsRow_lit w _ _ (Nat.le_refl _) (by unfold maxLen; omega) (by simp)) hb
  have HBY := hide hby
  have HL := hide (sb_length s)
  have HB := hide hb0
  clear hby hb hb0
  go_enter Tryz.func111, Tryz.ntmps111
  go_wp2_with (first
    | (at_builtin; refine wpList_append_byt _ rfl _ _ rfl w.heap.size _ 2 [(s.size : Int) / 256, (s.size : Int) % 256] rfl (unhide hown) v (sb s) rfl (unhide HBY) (by rw [unhide HL]; omega) (unhide HB).size ?_)
    | go_in)
  intro v2 w2 hown2 hgrow2
  have hb2 : Below w.heap.size w w2 := (unhide HB).grown hgrow2 (unhide HB).size (fun k hk => ((unhide hown).lt k hk).1)
  have hown3 : Hid (w2.ownsRow w.heap.size 5 1 v2 (2 + s.size) ((tx s).map (Value.int .u8))) := by rw [unhide HL] at hown2; exact hown2
  clear hgrow2 hown2
  go_wp2
  go_ret
  exact ⟨_, rfl, hown3, hb2⟩
end Go.Proofs.YtoocdfgjkeheaaaGreatDoor
/- Proved here: text.GetBin and dovecoteref1.GetBin tell the bytes with which bytes begin, and how many they are with their length, or that they end too early. Helper contracts. -/
namespace Go.Proofs.YtoocdfgjkeheaaaGreatDoor
open Go.RowKit

/-- how many bytes the two first ones tell -/
def nb (l : List Int) : Nat := (l.getD 0 0 * 256 + l.getD 1 0).toNat
/-- the bytes themselves -/
def gbs (l : List Int) : ByteArray := bs ((l.drop 2).take (nb l))
theorem conv_bytes (w : World) (b off cap : Nat) (l : List Int) (hr : ∀ j, 0 ≤ l.getD j 0 ∧ l.getD j 0 ≤ 255) (hc : ∀ j, j < l.length → w.cell? ⟨b, off + j, none⟩ = some (.int .u8 (l.getD j 0))) :
    (convert 31 9 (.slice (some ⟨b, off, none⟩) l.length cap)).run Tryz.prog w = .ok (.string (bs l)) w := by
  have h := run_convert_bytes_back (P := Tryz.prog) w 31 9 5 ⟨b, off, none⟩ cap (l.map fun n => UInt8.ofNat n.toNat) Tryz.underlying31 Tryz.underlying5 Tryz.underlying9 (fun j hj => by
    rw [List.length_map] at hj
    have h1 := hr j
    rw [addr_add, hc j hj]
    rw [List.getD_eq_getElem?_getD, List.getElem?_eq_getElem hj] at h1 ⊢
    simp only [Option.getD_some] at h1
    simp only [Option.getD_some, List.getElem_map, UInt8.toNat_ofNat']
    congr 2
    omega)
  rw [List.length_map] at h
  exact h
/-- what two bytes ahead tell, as the walks want it -/
theorem nb_or (l : List Int) (h0 : 0 ≤ l.getD 0 0 ∧ l.getD 0 0 ≤ 255) (h1 : 0 ≤ l.getD 1 0 ∧ l.getD 1 0 ≤ 255) : bits .or .i64 (l.getD 0 0 * 256) (l.getD 1 0) = (nb l : Int) ∧ nb l ≤ 65535 := by
  rw [or_i64 _ _ 8 (by omega) (by omega) (by omega) (by omega) (by omega) (by omega)]
  unfold nb
  omega

theorem take_drop_length (l : List Int) (k n : Nat) (h : k + n ≤ l.length) : ((l.drop k).take n).length = n := by rw [List.length_take, List.length_drop]; omega
theorem take_drop_getD (l : List Int) (k n j : Nat) (hj : j < n) : ((l.drop k).take n).getD j 0 = l.getD (k + j) 0 := by
  rw [List.getD_eq_getElem?_getD, List.getElem?_take, if_pos hj, List.getElem?_drop, ← List.getD_eq_getElem?_getD]
theorem take_drop_range (l : List Int) (k n : Nat) (h : ∀ j, 0 ≤ l.getD j 0 ∧ l.getD j 0 ≤ 255) : ∀ j, 0 ≤ ((l.drop k).take n).getD j 0 ∧ ((l.drop k).take n).getD j 0 ≤ 255 := by
  intro j
  by_cases hj : j < n
  · rw [take_drop_getD l k n j hj]; exact h _
  · rw [List.getD_eq_getElem?_getD, List.getElem?_take, if_neg hj]; simp
/-- the bytes behind the length, turned into a text, in the forms that the walks meet -/
theorem gbs_conv (b off len cap : Nat) (l : List Int) (w : World) (hm : Mem w b off len l) (hl : 2 + nb l ≤ len) :
    ∀ q, (convert 31 9 (.slice (some ⟨b, off + 2, none⟩) (nb l) (cap - 2))).run Tryz.prog (w.drewN q) = .ok (.string (gbs l)) (w.drewN q) := by
  intro q
  have hlen := take_drop_length l 2 (nb l) (by rw [hm.len]; exact hl)
  have h := conv_bytes (w.drewN q) b (off + 2) (cap - 2) ((l.drop 2).take (nb l)) (take_drop_range l 2 _ hm.range) (fun j hj => by
    rw [hlen] at hj
    rw [World.cell?_drewN, take_drop_getD l 2 _ j hj, Nat.add_assoc]
    exact hm.cell (2 + j) (by omega))
  rw [hlen] at h
  exact h
theorem gbs_conv0 (b off : Nat) (l : List Int) (w : World) (h0 : nb l = 0) :
    ∀ q, (convert 31 9 (.slice (some ⟨b, off, none⟩) 0 0)).run Tryz.prog (w.drewN q) = .ok (.string (gbs l)) (w.drewN q) := by
  intro q
  have h := conv_bytes (w.drewN q) b off 0 [] (by intro j; simp) (by intro j hj; simp at hj)
  unfold gbs
  rw [h0]
  exact h

set_option maxRecDepth 100000 in
set_option maxHeartbeats 1000000 in
theorem gb_ok (b off len cap : Nat) (l : List Int) (w : World) (hm : Mem w b off len l) (hl2 : 2 ≤ len) (hl : 2 + nb l ≤ len) (hcap : len ≤ cap) (hcm : cap ≤ maxLen) :
    Calls Tryz.prog 192 #[.slice (some ⟨b, off, none⟩) len cap] w fun e w' => e = .returned (.tuple #[.string (gbs l), .int .i64 (2 + nb l : Nat), .nilIface]) ∧ ∃ q, w' = w.drewN q := by
  unfold maxLen at hcm
  have hc0 := hm.cell0 (by omega)
  have hc1 := hm.cell 1 (by omega)
  have hr0 := hm.range 0
  have hr1 := hm.range 1
  obtain ⟨hor, hn⟩ := nb_or l hr0 hr1
  have hconv := gbs_conv b off len cap l w hm hl
  have hconv0 := gbs_conv0 b off l w
  have HM := hide hm
  clear hm
  generalize hg : gbs l = g at hconv hconv0
  have HG := hide hg
  generalize hnn : nb l = n at hl hor hn hconv hconv0
  have HN := hide hnn
  generalize l.getD 0 0 = c0 at hc0 hr0 hor
  generalize l.getD 1 0 = c1 at hc1 hr1 hor
  clear hg hnn
  by_cases hc2 : cap = 2
  · subst hc2
    obtain rfl : n = 0 := by omega
    obtain rfl : len = 2 := by omega
    have hconv1 := hconv0 rfl
    clear hconv hconv0
    go_enter Tryz.func192, Tryz.ntmps192
    go_wp2
    go_quiet (fail)
    go_wp2
    go_ret3
    exact ⟨rfl, _, rfl⟩
  · clear hconv0
    go_enter Tryz.func192, Tryz.ntmps192
    go_wp2
    go_quiet (fail)
    go_wp2
    go_ret3
    exact ⟨rfl, _, rfl⟩
theorem gb_short2 (ao : Option Addr) (len cap : Nat) (w : World) (hl : len < 2) :
    Calls Tryz.prog 192 #[.slice ao len cap] w fun e w' => e = .returned (.tuple #[.string ⟨#[]⟩, .int .i64 0, .iface 149 (.pointer (some ⟨w.heap.size, 0, none⟩))]) ∧ w' = faultW 3 w := by
  go_enter Tryz.func192, Tryz.ntmps192
  go_wp2_with (go_at_call 199; refine (fault_any _ _).mono ?_; rintro e w' ⟨rfl, rfl⟩)
  go_ret3
  exact ⟨rfl, rfl⟩
set_option maxRecDepth 100000 in
theorem gb_short (b off len cap : Nat) (l : List Int) (w : World) (hm : Mem w b off len l) (hl2 : 2 ≤ len) (hl : len < 2 + nb l) :
    Calls Tryz.prog 192 #[.slice (some ⟨b, off, none⟩) len cap] w fun e w' => e = .returned (.tuple #[.string ⟨#[]⟩, .int .i64 0, .iface 149 (.pointer (some ⟨w.heap.size, 0, none⟩))]) ∧ ∃ q, w' = faultW 3 (w.drewN q) := by
  have hc0 := hm.cell0 (by omega)
  have hc1 := hm.cell 1 (by omega)
  have hr0 := hm.range 0
  have hr1 := hm.range 1
  obtain ⟨hor, hn⟩ := nb_or l hr0 hr1
  have HM := hide hm
  clear hm
  generalize hnn : nb l = n at hl hor hn
  have HN := hide hnn
  generalize l.getD 0 0 = c0 at hc0 hr0 hor
  generalize l.getD 1 0 = c1 at hc1 hr1 hor
  clear hnn
  go_enter Tryz.func192, Tryz.ntmps192
  go_wp2
  go_quiet (fail)
  go_wp2_with (go_at_call 199; refine (fault_any _ _).mono ?_; rintro e w' ⟨rfl, rfl⟩)
  go_ret3
  exact ⟨rfl, _, rfl⟩

set_option maxRecDepth 100000 in
set_option maxHeartbeats 1000000 in
theorem rgb_ok (b off len cap : Nat) (l : List Int) (w : World) (hm : Mem w b off len l) (hl2 : 2 ≤ len) (hl : 2 + nb l ≤ len) (hcap : len ≤ cap) (hcm : cap ≤ maxLen) :
    Calls Tryz.prog 195 #[.slice (some ⟨b, off, none⟩) len cap] w fun e w' => e = .returned (.tuple #[.string (gbs l), .int .i64 (2 + nb l : Nat), .int .i64 0]) ∧ ∃ q, w' = w.drewN q := by
  unfold maxLen at hcm
  have hc0 := hm.cell0 (by omega)
  have hc1 := hm.cell 1 (by omega)
  have hr0 := hm.range 0
  have hr1 := hm.range 1
  obtain ⟨hor, hn⟩ := nb_or l hr0 hr1
  have hconv := gbs_conv b off len cap l w hm hl
  have hconv0 := gbs_conv0 b off l w
  have HM := hide hm
  clear hm
  generalize hg : gbs l = g at hconv hconv0
  have HG := hide hg
  generalize hnn : nb l = n at hl hor hn hconv hconv0
  have HN := hide hnn
  generalize l.getD 0 0 = c0 at hc0 hr0 hor
  generalize l.getD 1 0 = c1 at hc1 hr1 hor
  clear hg hnn
  by_cases hc2 : cap = 2
  · subst hc2
    obtain rfl : n = 0 := by omega
    obtain rfl : len = 2 := by omega
    have hconv1 := hconv0 rfl
    clear hconv hconv0
    go_enter Tryz.func195, Tryz.ntmps195
    go_wp2
    go_quiet (fail)
    go_wp2
    go_ret3
    exact ⟨rfl, _, rfl⟩
  · clear hconv0
    go_enter Tryz.func195, Tryz.ntmps195
    go_wp2
    go_quiet (fail)
    go_wp2
    go_ret3
    exact ⟨rfl, _, rfl⟩
theorem rgb_short2 (ao : Option Addr) (len cap : Nat) (w : World) (hl : len < 2) :
    Calls Tryz.prog 195 #[.slice ao len cap] w fun e w' => e = .returned (.tuple #[.string ⟨#[]⟩, .int .i64 0, .int .i64 3]) ∧ w' = w := by
  go_enter Tryz.func195, Tryz.ntmps195
  go_wp2
  go_ret3
  exact ⟨rfl, rfl⟩
set_option maxRecDepth 100000 in
theorem rgb_short (b off len cap : Nat) (l : List Int) (w : World) (hm : Mem w b off len l) (hl2 : 2 ≤ len) (hl : len < 2 + nb l) :
    Calls Tryz.prog 195 #[.slice (some ⟨b, off, none⟩) len cap] w fun e w' => e = .returned (.tuple #[.string ⟨#[]⟩, .int .i64 0, .int .i64 3]) ∧ ∃ q, w' = w.drewN q := by
  have hc0 := hm.cell0 (by omega)
  have hc1 := hm.cell 1 (by omega)
  have hr0 := hm.range 0
  have hr1 := hm.range 1
  obtain ⟨hor, hn⟩ := nb_or l hr0 hr1
  have HM := hide hm
  clear hm
  generalize hnn : nb l = n at hl hor hn
  have HN := hide hnn
  generalize l.getD 0 0 = c0 at hc0 hr0 hor
  generalize l.getD 1 0 = c1 at hc1 hr1 hor
  clear hnn
  go_enter Tryz.func195, Tryz.ntmps195
  go_wp2
  go_quiet (fail)
  go_wp2
  go_ret3
  exact ⟨rfl, _, rfl⟩

/-- bytes are there in full -/
def full (l : List Int) : Bool := decide (2 ≤ l.length) && decide (2 + nb l ≤ l.length)
theorem gbin_ok (v : Value) (l : List Int) (w : World) (hv : Byt w v l) (h : full l = true) : Calls Tryz.prog 192 #[v] w fun e w' => e = .returned (.tuple #[.string (gbs l), .int .i64 (2 + nb l : Nat), .nilIface]) ∧ ∃ q, w' = w.drewN q := by
  simp only [full, Bool.and_eq_true, decide_eq_true_eq] at h
  obtain ⟨ao, cap, rfl, hlen, hr, hcase⟩ := hv
  rcases hcase with rfl | ⟨b, off, rfl, hc⟩
  · simp at h
  · exact gb_ok b off l.length cap l w ⟨rfl, hc, hr⟩ h.1 h.2 hlen.1 hlen.2
theorem rgbin_ok (v : Value) (l : List Int) (w : World) (hv : Byt w v l) (h : full l = true) : Calls Tryz.prog 195 #[v] w fun e w' => e = .returned (.tuple #[.string (gbs l), .int .i64 (2 + nb l : Nat), .int .i64 0]) ∧ ∃ q, w' = w.drewN q := by
  simp only [full, Bool.and_eq_true, decide_eq_true_eq] at h
  obtain ⟨ao, cap, rfl, hlen, hr, hcase⟩ := hv
  rcases hcase with rfl | ⟨b, off, rfl, hc⟩
  · simp at h
  · exact rgb_ok b off l.length cap l w ⟨rfl, hc, hr⟩ h.1 h.2 hlen.1 hlen.2
theorem gbin_short (v : Value) (l : List Int) (w : World) (hv : Byt w v l) (h : full l = false) : Calls Tryz.prog 192 #[v] w fun e w' => e = .returned (.tuple #[.string ⟨#[]⟩, .int .i64 0, .iface 149 (.pointer (some ⟨w.heap.size, 0, none⟩))]) ∧ ∃ q, w' = faultW 3 (w.drewN q) := by
  simp only [full, Bool.and_eq_false_iff, decide_eq_false_iff_not] at h
  obtain ⟨ao, cap, rfl, hlen, hr, hcase⟩ := hv
  by_cases h2 : l.length < 2
  · refine (gb_short2 ao l.length cap w h2).mono ?_
    rintro e w' ⟨rfl, rfl⟩
    exact ⟨rfl, 0, rfl⟩
  · rcases hcase with rfl | ⟨b, off, rfl, hc⟩
    · simp at h2
    · exact gb_short b off l.length cap l w ⟨rfl, hc, hr⟩ (by omega) (by omega)
theorem rgbin_short (v : Value) (l : List Int) (w : World) (hv : Byt w v l) (h : full l = false) : Calls Tryz.prog 195 #[v] w fun e w' => e = .returned (.tuple #[.string ⟨#[]⟩, .int .i64 0, .int .i64 3]) ∧ ∃ q, w' = w.drewN q := by
  simp only [full, Bool.and_eq_false_iff, decide_eq_false_iff_not] at h
  obtain ⟨ao, cap, rfl, hlen, hr, hcase⟩ := hv
  by_cases h2 : l.length < 2
  · refine (rgb_short2 ao l.length cap w h2).mono ?_
    rintro e w' ⟨rfl, rfl⟩
    exact ⟨rfl, 0, rfl⟩
  · rcases hcase with rfl | ⟨b, off, rfl, hc⟩
    · simp at h2
    · exact rgb_short b off l.length cap l w ⟨rfl, hc, hr⟩ (by omega) (by omega)
end Go.Proofs.YtoocdfgjkeheaaaGreatDoor
/- Proved here: text.Get and dovecoteref1.GetText tell the text with which bytes begin, and how many bytes it is with its length, or that it is none, or not all there. Helper contracts. -/
namespace Go.Proofs.YtoocdfgjkeheaaaGreatDoor
open Go.RowKit

/-- GetBin's answer: the bytes, how many with their length, the error's number -/
def gbn (l : List Int) : ByteArray × Int × Int := if full l = true then (gbs l, (2 + nb l : Nat), 0) else (⟨#[]⟩, 0, 3)
/-- Get's -/
def gt (l : List Int) : ByteArray × Int × Int := if full l = true then (if utf (sb (gbs l)) = true then (gbs l, (2 + nb l : Nat), 0) else (⟨#[]⟩, 0, 1)) else (⟨#[]⟩, 0, 3)
theorem gbs_size (l : List Int) (hr : ∀ j, 0 ≤ l.getD j 0 ∧ l.getD j 0 ≤ 255) : (gbs l).size ≤ 65535 := by
  rw [← sb_length]
  unfold gbs
  rw [sb_bs _ (take_drop_range l 2 _ hr), List.length_take]
  have := (nb_or l (hr 0) (hr 1)).2
  omega
theorem below_q {w : World} (q : Nat) : Below w.heap.size w (w.drewN q) := below_drewN (Below.refl _ _) q

theorem getBin_any (v : Value) (l : List Int) (w : World) (hv : Byt w v l) : Calls Tryz.prog 192 #[v] w fun e w' => ∃ E, e = .returned (.tuple #[.string (gbn l).1, .int .i64 (gbn l).2.1, E]) ∧ Hid (ErrIs w' E (gbn l).2.2) ∧ Below w.heap.size w w' := by
  by_cases hf : full l = true
  · unfold gbn
    rw [if_pos hf]
    refine (gbin_ok v l w hv hf).mono ?_
    rintro e w' ⟨rfl, q, rfl⟩
    exact ⟨_, rfl, .inl ⟨rfl, rfl⟩, below_q q⟩
  · unfold gbn
    rw [if_neg hf]
    refine (gbin_short v l w hv (by simpa using hf)).mono ?_
    rintro e w' ⟨rfl, q, rfl⟩
    exact ⟨_, rfl, fault_is 3 (w.drewN q), (below_q q).trans (fault_below 3 (w.drewN q))⟩
theorem rgetBin_any (v : Value) (l : List Int) (w : World) (hv : Byt w v l) : Calls Tryz.prog 195 #[v] w fun e w' => e = .returned (.tuple #[.string (gbn l).1, .int .i64 (gbn l).2.1, .int .i64 (gbn l).2.2]) ∧ Below w.heap.size w w' := by
  by_cases hf : full l = true
  · unfold gbn
    rw [if_pos hf]
    refine (rgbin_ok v l w hv hf).mono ?_
    rintro e w' ⟨rfl, q, rfl⟩
    exact ⟨rfl, below_q q⟩
  · unfold gbn
    rw [if_neg hf]
    refine (rgbin_short v l w hv (by simpa using hf)).mono ?_
    rintro e w' ⟨rfl, q, rfl⟩
    exact ⟨rfl, below_q q⟩

theorem get_short (v : Value) (l : List Int) (w : World) (hv : Byt w v l) (h : full l = false) : Calls Tryz.prog 191 #[v] w fun e w' => e = .returned (.tuple #[.string ⟨#[]⟩, .int .i64 0, .iface 149 (.pointer (some ⟨w.heap.size, 0, none⟩))]) ∧ ∃ q, w' = faultW 3 (w.drewN q) := by
  have HG := hide (gbin_short v l w hv h)
  have HV := hide hv
  clear hv
  go_enter Tryz.func191, Tryz.ntmps191
  go_wp2_with (go_at_call 192; refine (unhide HG).mono ?_; rintro e w' ⟨rfl, q, rfl⟩)
  go_ret3
  exact ⟨rfl, _, rfl⟩
theorem get_ok (v : Value) (l : List Int) (w : World) (hv : Byt w v l) (h : full l = true) (hu : utf (sb (gbs l)) = true) : Calls Tryz.prog 191 #[v] w fun e w' => e = .returned (.tuple #[.string (gbs l), .int .i64 (2 + nb l : Nat), .nilIface]) ∧ ∃ q, w' = w.drewN q := by
  have HG := hide (gbin_ok v l w hv h)
  have hz := gbs_size l hv.range
  have HC : Hid (chk (sb (gbs l)) = 0) := by show _ = _; unfold chk; rw [if_pos hu, if_pos (by rw [sb_length]; exact hz)]
  have hnb := (nb_or l (hv.range 0) (hv.range 1)).2
  have HV := hide hv
  have HU := hide hu
  clear hv hu
  generalize nb l = n at HG hnb
  generalize gbs l = g at HG hz HC
  go_enter Tryz.func191, Tryz.ntmps191
  go_wp2_with (first | (go_at_call 192; refine (unhide HG).mono ?_; rintro e w' ⟨rfl, q, rfl⟩) | (go_at_call 197; refine (check_ok g _ (by omega) (unhide HC)).mono ?_; rintro e w' ⟨rfl, rfl⟩))
  go_ret3
  exact ⟨rfl, _, rfl⟩
theorem get_form (v : Value) (l : List Int) (w : World) (hv : Byt w v l) (h : full l = true) (hu : utf (sb (gbs l)) = false) : Calls Tryz.prog 191 #[v] w fun e w' => e = .returned (.tuple #[.string ⟨#[]⟩, .int .i64 0, .iface 149 (.pointer (some ⟨w.heap.size, 0, none⟩))]) ∧ ∃ q, w' = faultW 1 (w.drewN q) := by
  have HG := hide (gbin_ok v l w hv h)
  have hz := gbs_size l hv.range
  have HC : Hid (chk (sb (gbs l)) = 1) := by show _ = _; unfold chk; rw [if_neg (by rw [hu]; simp)]
  have HV := hide hv
  have HU := hide hu
  clear hv hu
  generalize nb l = n at HG
  generalize gbs l = g at HG hz HC
  go_enter Tryz.func191, Tryz.ntmps191
  go_wp2_with (first | (go_at_call 192; refine (unhide HG).mono ?_; rintro e w' ⟨rfl, q, rfl⟩) | (go_at_call 197; refine (check_bad g 1 _ (by omega) (unhide HC) (by decide)).mono ?_; rintro e w' ⟨rfl, rfl⟩))
  go_ret3
  exact ⟨rfl, _, rfl⟩
theorem get_any (v : Value) (l : List Int) (w : World) (hv : Byt w v l) : Calls Tryz.prog 191 #[v] w fun e w' => ∃ E, e = .returned (.tuple #[.string (gt l).1, .int .i64 (gt l).2.1, E]) ∧ Hid (ErrIs w' E (gt l).2.2) ∧ Below w.heap.size w w' := by
  unfold gt
  by_cases hf : full l = true
  · rw [if_pos hf]
    by_cases hu : utf (sb (gbs l)) = true
    · rw [if_pos hu]
      refine (get_ok v l w hv hf hu).mono ?_
      rintro e w' ⟨rfl, q, rfl⟩
      exact ⟨_, rfl, .inl ⟨rfl, rfl⟩, below_q q⟩
    · rw [if_neg hu]
      refine (get_form v l w hv hf (by simpa using hu)).mono ?_
      rintro e w' ⟨rfl, q, rfl⟩
      exact ⟨_, rfl, fault_is 1 (w.drewN q), (below_q q).trans (fault_below 1 (w.drewN q))⟩
  · rw [if_neg hf]
    refine (get_short v l w hv (by simpa using hf)).mono ?_
    rintro e w' ⟨rfl, q, rfl⟩
    exact ⟨_, rfl, fault_is 3 (w.drewN q), (below_q q).trans (fault_below 3 (w.drewN q))⟩

theorem rget_short (v : Value) (l : List Int) (w : World) (hv : Byt w v l) (h : full l = false) : Calls Tryz.prog 172 #[v] w fun e w' => e = .returned (.tuple #[.string ⟨#[]⟩, .int .i64 0, .int .i64 3]) ∧ Below w.heap.size w w' := by
  have HG := hide (rgbin_short v l w hv h)
  have HV := hide hv
  clear hv
  go_enter Tryz.func172, Tryz.ntmps172
  go_wp2_with (go_at_call 195; refine (unhide HG).mono ?_; rintro e w' ⟨rfl, q, rfl⟩)
  go_ret3
  exact ⟨rfl, below_q q⟩
theorem rget_ok (v : Value) (l : List Int) (w : World) (hv : Byt w v l) (h : full l = true) (hu : utf (sb (gbs l)) = true) : Calls Tryz.prog 172 #[v] w fun e w' => e = .returned (.tuple #[.string (gbs l), .int .i64 (2 + nb l : Nat), .int .i64 0]) ∧ Below w.heap.size w w' := by
  have HG := hide (rgbin_ok v l w hv h)
  have hz := gbs_size l hv.range
  have HV := hide hv
  clear hv
  generalize nb l = n at HG
  generalize gbs l = g at HG hz hu
  go_enter Tryz.func172, Tryz.ntmps172
  go_wp2_with (first | (go_at_call 195; refine (unhide HG).mono ?_; rintro e w' ⟨rfl, q, rfl⟩; obtain ⟨v2, w2, hrun, hby, hb⟩ := conv_str g (by unfold maxLen; omega) (w.drewN q); have HBY := hide hby; have HB := hide hb; clear hby hb) | (go_at_call 183; refine (rutf_any v2 (sb g) _ (unhide HBY)).mono ?_; rintro e w' ⟨rfl, rfl⟩))
  go_ret3
  exact ⟨rfl, (below_q q).trans (unhide HB)⟩
theorem rget_form (v : Value) (l : List Int) (w : World) (hv : Byt w v l) (h : full l = true) (hu : utf (sb (gbs l)) = false) : Calls Tryz.prog 172 #[v] w fun e w' => e = .returned (.tuple #[.string ⟨#[]⟩, .int .i64 0, .int .i64 1]) ∧ Below w.heap.size w w' := by
  have HG := hide (rgbin_ok v l w hv h)
  have hz := gbs_size l hv.range
  have HV := hide hv
  clear hv
  generalize nb l = n at HG
  generalize gbs l = g at HG hz hu
  go_enter Tryz.func172, Tryz.ntmps172
  go_wp2_with (first | (go_at_call 195; refine (unhide HG).mono ?_; rintro e w' ⟨rfl, q, rfl⟩; obtain ⟨v2, w2, hrun, hby, hb⟩ := conv_str g (by unfold maxLen; omega) (w.drewN q); have HBY := hide hby; have HB := hide hb; clear hby hb) | (go_at_call 183; refine (rutf_any v2 (sb g) _ (unhide HBY)).mono ?_; rintro e w' ⟨rfl, rfl⟩))
  go_ret3
  exact ⟨rfl, (below_q q).trans (unhide HB)⟩
theorem rget_any (v : Value) (l : List Int) (w : World) (hv : Byt w v l) : Calls Tryz.prog 172 #[v] w fun e w' => e = .returned (.tuple #[.string (gt l).1, .int .i64 (gt l).2.1, .int .i64 (gt l).2.2]) ∧ Below w.heap.size w w' := by
  unfold gt
  by_cases hf : full l = true
  · rw [if_pos hf]
    by_cases hu : utf (sb (gbs l)) = true
    · rw [if_pos hu]
      exact rget_ok v l w hv hf hu
    · rw [if_neg hu]
      exact rget_form v l w hv hf (by simpa using hu)
  · rw [if_neg hf]
    exact rget_short v l w hv (by simpa using hf)
end Go.Proofs.YtoocdfgjkeheaaaGreatDoor
/- Proved here: packet's reader: must, one, two, id, text, bin as steps of a plain reader, which has bytes that are left or something was wrong. Helper contracts. -/
namespace Go.Proofs.YtoocdfgjkeheaaaGreatDoor.K
open Go.RowKit
set_option maxRecDepth 100000

/-- an error whose Faults lie outside of the blocks X -/
def ErO (w : World) (X : Nat → Prop) : Nat → Value → Int → Prop
  | 0, v, n => v = .iface 84 (.int .i64 n)
  | d + 1, v, n => ∃ b u, v = .iface 149 (.pointer (some ⟨b, 0, none⟩)) ∧ ¬ X b ∧ w.cell? ⟨b, 1, none⟩ = some u ∧ ErO w X d u n
theorem ErO.er {w : World} {X : Nat → Prop} : ∀ {d : Nat} {v : Value} {n : Int}, ErO w X d v n → Er w d v n
  | 0, _, _, h => h
  | _ + 1, _, _, ⟨b, u, h1, _, h2, h3⟩ => ⟨b, u, h1, h2, h3.er⟩
theorem ErO.bx {w w' : World} {R : Nat} {X : Nat → Prop} {may : Nat → Prop} (hx : BX R may w w') (hX : X R) : ∀ {d : Nat} {v : Value} {n : Int}, ErO w X d v n → ErO w' X d v n
  | 0, _, _, h => h
  | _ + 1, _, _, ⟨b, u, h1, hR, h2, h3⟩ => ⟨b, u, h1, hR, hx.far h2 (fun e => by simp only at e; subst e; exact hR hX), ErO.bx hx hX h3⟩
theorem ErO.of {w : World} {R : Nat} {c : Bool} (hR : w.cell? ⟨R, 1, none⟩ = some (.bool c)) : ∀ {d : Nat} {v : Value} {n : Int}, Er w d v n → ErO w (fun k => k = R) d v n
  | 0, _, _, h => h
  | 1, _, _, ⟨b, u, h1, h2, h3⟩ => ⟨b, u, h1, (fun e => by subst e; cases h3; rw [hR] at h2; cases h2), h2, h3⟩
  | _ + 2, _, _, ⟨b, u, h1, h2, h3⟩ => ⟨b, u, h1, (fun e => by subst e; obtain ⟨_, _, rfl, _⟩ := h3; rw [hR] at h2; cases h2), h2, ErO.of hR h3⟩
theorem ErO.weak {w : World} {X Y : Nat → Prop} (hXY : ∀ k, Y k → X k) : ∀ {d : Nat} {v : Value} {n : Int}, ErO w X d v n → ErO w Y d v n
  | 0, _, _, h => h
  | _ + 1, _, _, ⟨b, u, h1, hR, h2, h3⟩ => ⟨b, u, h1, fun e => hR (hXY b e), h2, ErO.weak hXY h3⟩
theorem ErO.iface {w : World} {X : Nat → Prop} {d : Nat} {v : Value} {n : Int} (h : ErO w X d v n) : ∃ t x, v = .iface t x := h.er.iface
/-- what a reader has: the bytes that are left (nothing was wrong so far), or none: something was wrong -/
def RSX (w0 w : World) (R : Nat) (X : Nat → Prop) (st : Option (List Int)) : Prop :=
  (X R ∧ ∀ k, X k → k < w.heap.size) ∧ (∃ x, w.cell? ⟨R, 1, none⟩ = some (.bool x)) ∧ ∃ bv l E, Rdr w R bv E ∧ Byt w0 bv l ∧ Below w0.heap.size w0 w ∧ w0.heap.size ≤ R ∧
    ((st = some l ∧ E = .nilIface) ∨ (st = none ∧ ∃ d n, d ≤ 2 ∧ ErO w X d E n))
theorem RSX.lt {w0 w : World} {R : Nat} {X : Nat → Prop} {st : Option (List Int)} (h : RSX w0 w R X st) : R < w.heap.size := by
  obtain ⟨_, ⟨x, h⟩, _⟩ := h
  exact cell_lt h
theorem RSX.keep {w0 w : World} {R : Nat} {X : Nat → Prop} {st : Option (List Int)} (h : RSX w0 w R X st) : Below w0.heap.size w0 w := by
  obtain ⟨_, _, _, _, _, _, _, h, _⟩ := h
  exact h
/-- a step that tells what f reads -/
def Stp {α : Type} (f : List Int → Option (α × List Int)) (st : Option (List Int)) (x : α) (st' : Option (List Int)) : Prop :=
  match st with
  | none => st' = none
  | some l => match f l with
    | none => st' = none
    | some (y, l') => x = y ∧ st' = some l'
/-- the same blocks stay away, as the world grows -/
theorem xs_grow {X : Nat → Prop} {R : Nat} {w w' : World} (h : X R ∧ ∀ k, X k → k < w.heap.size) (hs : w.heap.size ≤ w'.heap.size) : X R ∧ ∀ k, X k → k < w'.heap.size := ⟨h.1, fun k hk => Nat.lt_of_lt_of_le (h.2 k hk) hs⟩
theorem RSX.move {w0 w w' : World} {R : Nat} {X : Nat → Prop} {st : Option (List Int)} {may : Nat → Prop} (h : RSX w0 w R X st) (hx : BX R may w w') (h19 : ¬ may 19) (h20 : ¬ may 20) (h1 : ¬ may 1) : RSX w0 w' R X st := by
  obtain ⟨hX, ⟨x, hd⟩, bv, l, E, ⟨r1, r2, r3, r4⟩, hb, hw, hR, hst⟩ := h
  refine ⟨xs_grow hX hx.size, ⟨x, (hx.cell 1 h1).trans hd⟩, bv, l, E, ⟨(hx.cell 19 h19).trans r1, (hx.frozen 19).trans r2, (hx.cell 20 h20).trans r3, (hx.frozen 20).trans r4⟩, hb, hx.keep hw hR, hR, ?_⟩
  rcases hst with h | ⟨h, d, n, hd, he⟩
  · exact .inl h
  · exact .inr ⟨h, d, n, hd, he.bx hx hX.1⟩
theorem RSX.below {w0 w w' : World} {R : Nat} {X : Nat → Prop} {st : Option (List Int)} (h : RSX w0 w R X st) (hb : Below w.heap.size w w') : RSX w0 w' R X st := h.move (BX.of_below (may := fun _ => False) hb h.lt) (fun h => h) (fun h => h) (fun h => h)
/-- fewer blocks that are kept away from; with nothing wrong: other ones -/
theorem RSX.less {w0 w : World} {R : Nat} {X : Nat → Prop} {st : Option (List Int)} (h : RSX w0 w R X st) (Y : Nat → Prop) (hY : Y R) (hXY : ∀ k, Y k → X k) : RSX w0 w R Y st := by
  obtain ⟨hX, hd, bv, l, E, hr, hb, hw, hR, hst⟩ := h
  refine ⟨⟨hY, fun k hk => hX.2 k (hXY k hk)⟩, hd, bv, l, E, hr, hb, hw, hR, ?_⟩
  rcases hst with h | ⟨h, d, n, hd, he⟩
  · exact .inl h
  · exact .inr ⟨h, d, n, hd, he.weak hXY⟩
theorem RSX.good {w0 w : World} {R : Nat} {X : Nat → Prop} {l : List Int} (h : RSX w0 w R X (some l)) (Y : Nat → Prop) (hY : Y R ∧ ∀ k, Y k → k < w.heap.size) : RSX w0 w R Y (some l) := by
  obtain ⟨hX, hd, bv, l', E, hr, hb, hw, hR, hst⟩ := h
  refine ⟨hY, hd, bv, l', E, hr, hb, hw, hR, ?_⟩
  rcases hst with h | ⟨h, _⟩
  · exact .inl h
  · cases h
/-- what a reader has, whose error stays away from its own block -/
abbrev RS (w0 w : World) (R : Nat) (st : Option (List Int)) : Prop := RSX w0 w R (fun k => k = R) st
theorem isRE1 : ¬ isRE 1 := by unfold isRE; omega
/-- must -/
theorem must_anyX (R : Nat) (X : Nat → Prop) (b : Bool) (st : Option (List Int)) (w0 w : World) (h : RSX w0 w R X st) : Calls Tryz.prog 119 #[.pointer (some ⟨R, 0, none⟩), .bool b] w fun e w' => e = .returned (.tuple #[]) ∧ RSX w0 w' R X (if b then st else none) ∧ BX R isRE w w' := by
  obtain ⟨hX, ⟨x, hd⟩, bv, l, E, hr, hb, hw, hR, hst⟩ := h
  cases b
  · rcases hst with ⟨rfl, rfl⟩ | ⟨rfl, d, n, hd', he⟩
    · refine (must_false R bv w hr).mono ?_
      rintro e w' ⟨rfl, hr', hx⟩
      have hx' : BX R isRE w w' := hx.weak (fun j hj => .inr hj)
      exact ⟨rfl, ⟨xs_grow hX hx.size, ⟨x, (hx'.cell 1 isRE1).trans hd⟩, bv, l, _, hr', hb, hx.keep hw hR, hR, .inr ⟨rfl, 0, 1, by omega, rfl⟩⟩, hx'⟩
    · obtain ⟨t, y, rfl⟩ := he.iface
      refine (must_false2 R bv t y w hr).mono ?_
      rintro e w' ⟨rfl, rfl⟩
      exact ⟨rfl, ⟨hX, ⟨x, hd⟩, bv, l, _, hr, hb, hw, hR, .inr ⟨rfl, d, n, hd', he⟩⟩, BX.refl _ _ _⟩
  · refine (must_true R w).mono ?_
    rintro e w' ⟨rfl, rfl⟩
    exact ⟨rfl, ⟨hX, ⟨x, hd⟩, bv, l, E, hr, hb, hw, hR, hst⟩, BX.refl _ _ _⟩
theorem must_any (R : Nat) (b : Bool) (st : Option (List Int)) (w0 w : World) (h : RS w0 w R st) : Calls Tryz.prog 119 #[.pointer (some ⟨R, 0, none⟩), .bool b] w fun e w' => e = .returned (.tuple #[]) ∧ RS w0 w' R (if b then st else none) ∧ BX R isRE w w' := must_anyX R _ b st w0 w h
/-- a step that tells a number -/
def RdIX (w0 : World) (R : Nat) (X : Nat → Prop) (hi : Nat) (f : List Int → Option (Int × List Int)) (st : Option (List Int)) (w : World) (e : Ending) (w' : World) : Prop :=
  ∃ x st', e = .returned (.int .i64 x) ∧ (0 ≤ x ∧ x ≤ hi) ∧ Stp f st x st' ∧ RSX w0 w' R X st' ∧ BX R isRE w w'
abbrev RdI (w0 : World) (R hi : Nat) (f : List Int → Option (Int × List Int)) (st : Option (List Int)) (w : World) (e : Ending) (w' : World) : Prop := RdIX w0 R (fun k => k = R) hi f st w e w'
theorem int_any {fn : FuncId} (w0 : World) (R : Nat) (X : Nat → Prop) (hi : Nat) (f : List Int → Option (Int × List Int)) (st : Option (List Int)) (w : World) (h : RSX w0 w R X st)
    (hf : ∀ l x l', f l = some (x, l') → (∀ j, 0 ≤ l.getD j 0 ∧ l.getD j 0 ≤ 255) → 0 ≤ x ∧ x ≤ hi)
    (good : ∀ bv l, Rdr w R bv .nilIface → Byt w0 bv l → Below w0.heap.size w0 w → w0.heap.size ≤ R → Calls Tryz.prog fn #[.pointer (some ⟨R, 0, none⟩)] w (IntRes w0 R hi (f l) w))
    (bad : ∀ bv t z l, Rdr w R bv (.iface t z) → Byt w0 bv l → Below w0.heap.size w0 w → w0.heap.size ≤ R → Calls Tryz.prog fn #[.pointer (some ⟨R, 0, none⟩)] w (IntBad w0 R hi t z w)) :
    Calls Tryz.prog fn #[.pointer (some ⟨R, 0, none⟩)] w (RdIX w0 R X hi f st w) := by
  obtain ⟨hX, ⟨x, hd⟩, bv, l, E, hr, hb, hw, hR, hst⟩ := h
  rcases hst with ⟨rfl, rfl⟩ | ⟨rfl, d, n, hd', he⟩
  · refine (good bv l hr hb hw hR).mono ?_
    rintro e w' (⟨y, l', bv', h1, rfl, h3, h4, h5⟩ | ⟨h1, y, l', bv', n, rfl, h2, h3, h4, h5⟩)
    · exact ⟨y, some l', rfl, hf l y l' h1 hb.range, by simp [Stp, h1], ⟨xs_grow hX h5.size, ⟨x, (h5.cell 1 isRE1).trans hd⟩, bv', l', _, h4, h3, h5.keep hw hR, hR, .inl ⟨rfl, rfl⟩⟩, h5⟩
    · exact ⟨y, none, rfl, h2, by simp [Stp, h1], ⟨xs_grow hX h5.size, ⟨x, (h5.cell 1 isRE1).trans hd⟩, bv', l', _, h4, h3, h5.keep hw hR, hR, .inr ⟨rfl, 0, n, by omega, rfl⟩⟩, h5⟩
  · obtain ⟨t, z, rfl⟩ := he.iface
    refine (bad bv t z l hr hb hw hR).mono ?_
    rintro e w' ⟨y, l', bv', rfl, h2, h3, h4, h5⟩
    exact ⟨y, none, rfl, h2, rfl, ⟨xs_grow hX h5.size, ⟨x, (h5.cell 1 isRE1).trans hd⟩, bv', l', _, h4, h3, h5.keep hw hR, hR, .inr ⟨rfl, d, n, hd', he.bx h5 hX.1⟩⟩, h5⟩
theorem one?_hi (l : List Int) (x : Int) (l' : List Int) (h : one? l = some (x, l')) (hr : ∀ j, 0 ≤ l.getD j 0 ∧ l.getD j 0 ≤ 255) : 0 ≤ x ∧ x ≤ (255 : Nat) := by
  cases l with
  | nil => cases h
  | cons a t => simp [one?] at h; obtain ⟨rfl, _⟩ := h; simpa using hr 0
theorem two?_hi (l : List Int) (x : Int) (l' : List Int) (h : two? l = some (x, l')) (hr : ∀ j, 0 ≤ l.getD j 0 ∧ l.getD j 0 ≤ 255) : 0 ≤ x ∧ x ≤ (65535 : Nat) := by
  match l, h with
  | [], h => cases h
  | [a], h => cases h
  | a :: b :: t, h =>
    simp [two?] at h
    obtain ⟨rfl, _⟩ := h
    have h0 := hr 0
    have h1 := hr 1
    simp at h0 h1
    omega
theorem id?_hi (l : List Int) (x : Int) (l' : List Int) (h : id? l = some (x, l')) (hr : ∀ j, 0 ≤ l.getD j 0 ∧ l.getD j 0 ≤ 255) : 0 ≤ x ∧ x ≤ (65535 : Nat) := by
  unfold id? at h
  cases h2 : two? l with
  | none => rw [h2] at h; cases h
  | some p =>
    obtain ⟨y, t⟩ := p
    rw [h2] at h
    simp only at h
    split at h
    · cases h
    · simp at h
      obtain ⟨rfl, rfl⟩ := h
      exact two?_hi l y t h2 hr
theorem one_anyX (R : Nat) (X : Nat → Prop) (st : Option (List Int)) (w0 w : World) (h : RSX w0 w R X st) : Calls Tryz.prog 118 #[.pointer (some ⟨R, 0, none⟩)] w (RdIX w0 R X 255 one? st w) :=
  int_any w0 R X 255 one? st w h one?_hi (fun bv l h1 h2 h3 h4 => one_good R bv l w0 w h1 h2 h3 h4) (fun bv t z l h1 h2 h3 h4 => one_bad R bv t z l w0 w h1 h2 h3 h4)
theorem one_any (R : Nat) (st : Option (List Int)) (w0 w : World) (h : RS w0 w R st) : Calls Tryz.prog 118 #[.pointer (some ⟨R, 0, none⟩)] w (RdI w0 R 255 one? st w) := one_anyX R _ st w0 w h
theorem two_anyX (R : Nat) (X : Nat → Prop) (st : Option (List Int)) (w0 w : World) (h : RSX w0 w R X st) : Calls Tryz.prog 163 #[.pointer (some ⟨R, 0, none⟩)] w (RdIX w0 R X 65535 two? st w) :=
  int_any w0 R X 65535 two? st w h two?_hi (fun bv l h1 h2 h3 h4 => two_good R bv l w0 w h1 h2 h3 h4) (fun bv t z l h1 h2 h3 h4 => two_bad R bv t z l w0 w h1 h2 h3 h4)
theorem two_any (R : Nat) (st : Option (List Int)) (w0 w : World) (h : RS w0 w R st) : Calls Tryz.prog 163 #[.pointer (some ⟨R, 0, none⟩)] w (RdI w0 R 65535 two? st w) := two_anyX R _ st w0 w h
theorem id_anyX (R : Nat) (X : Nat → Prop) (st : Option (List Int)) (w0 w : World) (h : RSX w0 w R X st) : Calls Tryz.prog 122 #[.pointer (some ⟨R, 0, none⟩)] w (RdIX w0 R X 65535 id? st w) :=
  int_any w0 R X 65535 id? st w h id?_hi (fun bv l h1 h2 h3 h4 => id_good R bv l w0 w h1 h2 h3 h4) (fun bv t z l h1 h2 h3 h4 => id_bad R bv t z l w0 w h1 h2 h3 h4)
theorem id_any (R : Nat) (st : Option (List Int)) (w0 w : World) (h : RS w0 w R st) : Calls Tryz.prog 122 #[.pointer (some ⟨R, 0, none⟩)] w (RdI w0 R 65535 id? st w) := id_anyX R _ st w0 w h
/-- the first of two errors -/
def orE : Value → Value → Value
  | .nilIface, b => b
  | a, _ => a
theorem fail_any (R : Nat) (bv E F : Value) (w : World) (h : Rdr w R bv E) (hE : E = .nilIface ∨ ∃ t x, E = .iface t x) (hF : F = .nilIface ∨ ∃ t x, F = .iface t x) : Calls Tryz.prog 166 #[.pointer (some ⟨R, 0, none⟩), F] w fun e w' => e = .returned (.tuple #[]) ∧ Rdr w' R bv (orE E F) ∧ BX R isRE w w' := by
  rcases hE with rfl | ⟨t, x, rfl⟩
  · rcases hF with rfl | ⟨t, x, rfl⟩
    · refine (fail_nils R bv w h).mono ?_
      rintro e w' ⟨rfl, h1, h2⟩
      exact ⟨rfl, h1, h2.weak (fun j hj => .inr hj)⟩
    · refine (fail_nil R bv t x w h).mono ?_
      rintro e w' ⟨rfl, h1, h2⟩
      exact ⟨rfl, h1, h2.weak (fun j hj => .inr hj)⟩
  · refine (fail_set R bv F t x w h).mono ?_
    rintro e w' ⟨rfl, rfl⟩
    exact ⟨rfl, h, BX.refl _ _ _⟩
/-- an error of below: none, or a number with up to two Faults around it, which keep away from X -/
def Bel (w : World) (X : Nat → Prop) (v : Value) (n : Int) : Prop := (n = 0 ∧ v = .nilIface) ∨ (n ≠ 0 ∧ ∃ d, d ≤ 2 ∧ ErO w X d v n)
theorem Bel.form {w : World} {X : Nat → Prop} {v : Value} {n : Int} (h : Bel w X v n) : v = .nilIface ∨ ∃ t x, v = .iface t x := by
  rcases h with ⟨_, h⟩ | ⟨_, d, _, h⟩
  · exact .inl h
  · exact .inr h.iface
theorem er_of_is {w : World} {v : Value} {n : Int} (h : ErrIs w v n) : (n = 0 ∧ v = .nilIface) ∨ ∃ d, d ≤ 2 ∧ Er w d v n := by
  rcases h with h | ⟨b, h1, h2⟩
  · exact .inl h
  · exact .inr ⟨1, by omega, b, _, h1, h2, rfl⟩
theorem er_of_p {w : World} {v : Value} {n : Int} (h : ErrP w v n) : (n = 0 ∧ v = .nilIface) ∨ ∃ d, d ≤ 2 ∧ Er w d v n := by
  rcases h with h | ⟨b, c, h1, h2, h3⟩
  · exact er_of_is h
  · exact .inr ⟨2, by omega, b, _, h1, h2, c, _, rfl, h3, rfl⟩
/-- a new Fault keeps away from what was there -/
theorem bel_new {w w' : World} {X : Nat → Prop} {b : Nat} {n : Int} (hX : ∀ k, X k → k < w.heap.size) (hb : w.heap.size ≤ b) (h : ErrIs w' (.iface 149 (.pointer (some ⟨b, 0, none⟩))) n) (hn : n ≠ 0) : Bel w' X (.iface 149 (.pointer (some ⟨b, 0, none⟩))) n := by
  rcases h with ⟨h, _⟩ | ⟨b', h1, h2⟩
  · exact absurd h hn
  · cases h1
    exact .inr ⟨hn, 1, by omega, b, _, rfl, fun e => by have := hX b e; omega, h2, rfl⟩
/-- behind a part that Get read: fail, next -/
theorem after (w0 w w1 w2 w3 : World) (R : Nat) (X : Nat → Prop) (bv' E F : Value) (st : Option (List Int)) (l : List Int) (n : Nat) (m : Int) (c : Bool) (hX : X R ∧ ∀ k, X k → k < w.heap.size)
    (hd : w.cell? ⟨R, 1, none⟩ = some (.bool c)) (hw : Below w0.heap.size w0 w) (hR : w0.heap.size ≤ R) (hst : (st = some l ∧ E = .nilIface) ∨ (st = none ∧ ∃ d n, d ≤ 2 ∧ ErO w X d E n))
    (hB : Below w.heap.size w w1) (hF : Bel w1 X F m) (hx2 : BX R isRE w1 w2) (hx3 : BX R isRE w2 w3) (hb' : Byt w0 bv' (l.drop n)) (hr3 : Rdr w3 R bv' (orE E F)) :
    RSX w0 w3 R X (if m = 0 then st.map (fun l => l.drop n) else none) ∧ BX R isRE w w3 := by
  have hx1 : BX R isRE w w1 := BX.of_below hB (cell_lt hd)
  have hx : BX R isRE w w3 := (hx1.trans hx2).trans hx3
  refine ⟨⟨xs_grow hX hx.size, ⟨c, (hx.cell 1 isRE1).trans hd⟩, bv', l.drop n, orE E F, hr3, hb', hx.keep hw hR, hR, ?_⟩, hx⟩
  rcases hst with ⟨rfl, rfl⟩ | ⟨rfl, d, k, hd', he⟩
  · rcases hF with ⟨rfl, rfl⟩ | ⟨h0, d, hd', he⟩
    · exact .inl ⟨rfl, rfl⟩
    · obtain ⟨t, x, rfl⟩ := he.iface
      rw [if_neg h0]
      exact .inr ⟨rfl, d, m, hd', he.bx (hx2.trans hx3) hX.1⟩
  · obtain ⟨t, x, rfl⟩ := he.iface
    refine .inr ⟨?_, d, k, hd', he.bx hx hX.1⟩
    split <;> rfl
theorem Rdr.below {w w' : World} {R : Nat} {bv E : Value} (h : Rdr w R bv E) (hb : Below w.heap.size w w') : Rdr w' R bv E :=
  ⟨(hb.cell (p := ⟨R, 19, none⟩) h.lt).trans h.1, (hb.frozen (p := ⟨R, 19, none⟩) h.lt).trans h.2.1, (hb.cell (p := ⟨R, 20, none⟩) h.lt).trans h.2.2.1, (hb.frozen (p := ⟨R, 20, none⟩) h.lt).trans h.2.2.2⟩
theorem st_form {w : World} {X : Nat → Prop} {E : Value} {st : Option (List Int)} {l : List Int} (hst : (st = some l ∧ E = .nilIface) ∨ (st = none ∧ ∃ d n, d ≤ 2 ∧ ErO w X d E n)) : E = .nilIface ∨ ∃ t x, E = .iface t x := by
  rcases hst with ⟨_, h⟩ | ⟨_, d, n, _, h⟩
  · exact .inl h
  · exact .inr h.iface
theorem getx (X : Nat → Prop) (v : Value) (l : List Int) (w : World) (hX : ∀ k, X k → k < w.heap.size) (hv : Byt w v l) : Calls Tryz.prog 191 #[v] w fun e w' => ∃ E, e = .returned (.tuple #[.string (gt l).1, .int .i64 (gt l).2.1, E]) ∧ Hid (Bel w' X E (gt l).2.2) ∧ Below w.heap.size w w' := by
  unfold gt
  by_cases hf : full l = true
  · rw [if_pos hf]
    by_cases hu : utf (sb (gbs l)) = true
    · rw [if_pos hu]
      refine (get_ok v l w hv hf hu).mono ?_
      rintro e w' ⟨rfl, q, rfl⟩
      exact ⟨_, rfl, .inl ⟨rfl, rfl⟩, below_q q⟩
    · rw [if_neg hu]
      refine (get_form v l w hv hf (by simpa using hu)).mono ?_
      rintro e w' ⟨rfl, q, rfl⟩
      exact ⟨_, rfl, bel_new hX (Nat.le_refl _) (fault_is 1 (w.drewN q)) (by decide), (below_q q).trans (fault_below 1 (w.drewN q))⟩
  · rw [if_neg hf]
    refine (get_short v l w hv (by simpa using hf)).mono ?_
    rintro e w' ⟨rfl, q, rfl⟩
    exact ⟨_, rfl, bel_new hX (Nat.le_refl _) (fault_is 3 (w.drewN q)) (by decide), (below_q q).trans (fault_below 3 (w.drewN q))⟩
theorem getBinx (X : Nat → Prop) (v : Value) (l : List Int) (w : World) (hX : ∀ k, X k → k < w.heap.size) (hv : Byt w v l) : Calls Tryz.prog 192 #[v] w fun e w' => ∃ E, e = .returned (.tuple #[.string (gbn l).1, .int .i64 (gbn l).2.1, E]) ∧ Hid (Bel w' X E (gbn l).2.2) ∧ Below w.heap.size w w' := by
  by_cases hf : full l = true
  · unfold gbn
    rw [if_pos hf]
    refine (gbin_ok v l w hv hf).mono ?_
    rintro e w' ⟨rfl, q, rfl⟩
    exact ⟨_, rfl, .inl ⟨rfl, rfl⟩, below_q q⟩
  · unfold gbn
    rw [if_neg hf]
    refine (gbin_short v l w hv (by simpa using hf)).mono ?_
    rintro e w' ⟨rfl, q, rfl⟩
    exact ⟨_, rfl, bel_new hX (Nat.le_refl _) (fault_is 3 (w.drewN q)) (by decide), (below_q q).trans (fault_below 3 (w.drewN q))⟩
theorem full_len (l : List Int) (h : full l = true) : 2 + nb l ≤ l.length := by
  unfold full at h
  simp at h
  omega
theorem es_size : (⟨#[]⟩ : ByteArray).size ≤ 65535 := by decide
theorem gt_len (l : List Int) (hr : ∀ j, 0 ≤ l.getD j 0 ∧ l.getD j 0 ≤ 255) : ∃ N : Nat, (gt l).2.1 = (N : Int) ∧ N ≤ l.length ∧ (gt l).1.size ≤ 65535 := by
  unfold gt
  by_cases hf : full l = true
  · rw [if_pos hf]
    by_cases hu : utf (sb (gbs l)) = true
    · rw [if_pos hu]
      exact ⟨2 + nb l, rfl, full_len l hf, gbs_size l hr⟩
    · rw [if_neg hu]
      exact ⟨0, rfl, Nat.zero_le _, es_size⟩
  · rw [if_neg hf]
    exact ⟨0, rfl, Nat.zero_le _, es_size⟩
theorem gbn_len (l : List Int) (hr : ∀ j, 0 ≤ l.getD j 0 ∧ l.getD j 0 ≤ 255) : ∃ N : Nat, (gbn l).2.1 = (N : Int) ∧ N ≤ l.length ∧ (gbn l).1.size ≤ 65535 := by
  unfold gbn
  by_cases hf : full l = true
  · rw [if_pos hf]
    exact ⟨2 + nb l, rfl, full_len l hf, gbs_size l hr⟩
  · rw [if_neg hf]
    exact ⟨0, rfl, Nat.zero_le _, es_size⟩
def text? (l : List Int) : Option (ByteArray × List Int) := if (gt l).2.2 = 0 then some ((gt l).1, l.drop (gt l).2.1.toNat) else none
def bin? (l : List Int) : Option (ByteArray × List Int) := if (gbn l).2.2 = 0 then some ((gbn l).1, l.drop (gbn l).2.1.toNat) else none
/-- a step that tells a text -/
def RdSX (w0 : World) (R : Nat) (X : Nat → Prop) (f : List Int → Option (ByteArray × List Int)) (st : Option (List Int)) (w : World) (e : Ending) (w' : World) : Prop :=
  ∃ x st', e = .returned (.string x) ∧ x.size ≤ 65535 ∧ Stp f st x st' ∧ RSX w0 w' R X st' ∧ BX R isRE w w'
abbrev RdS (w0 : World) (R : Nat) (f : List Int → Option (ByteArray × List Int)) (st : Option (List Int)) (w : World) (e : Ending) (w' : World) : Prop := RdSX w0 R (fun k => k = R) f st w e w'
theorem stp_get {α : Type} (f : List Int → Option (α × List Int)) (st : Option (List Int)) (l : List Int) (x : α) (n : Nat) (m : Int) (hst : st = some l ∨ st = none) (hf : f l = if m = 0 then some (x, l.drop n) else none) : Stp f st x (if m = 0 then st.map (fun l => l.drop n) else none) := by
  rcases hst with rfl | rfl
  · unfold Stp
    simp only [hf]
    by_cases h : m = 0
    · simp [h]
    · simp [h]
  · show (if m = 0 then _ else _) = none
    split <;> rfl
set_option maxHeartbeats 1000000 in
theorem text_anyX (R : Nat) (X : Nat → Prop) (st : Option (List Int)) (w0 w : World) (h : RSX w0 w R X st) : Calls Tryz.prog 161 #[.pointer (some ⟨R, 0, none⟩)] w (RdSX w0 R X text? st w) := by
  obtain ⟨hX, ⟨c, hd⟩, bv, l, E, hr, hb, hw, hR, hst⟩ := h
  obtain ⟨n, hN, hn, hsz⟩ := gt_len l hb.range
  have HG := hide (getx X bv l w hX.2 (hb.below hw))
  have HQ : Hid (text? l = if (gt l).2.2 = 0 then some ((gt l).1, l.drop n) else none) := by
    show text? l = _
    unfold text?
    rw [hN, Int.toNat_natCast]
  rw [hN] at HG
  have hE := st_form hst
  have hst' : st = some l ∨ st = none := hst.imp And.left And.left
  have HR := hide hr
  have HB := hide hb
  have HA := hide (after w0 w)
  have HD := hide hd
  have HW := hide hw
  have HS := hide hst
  have HS' := hide hst'
  have HE := hide hE
  have HX := hide hX
  generalize (gt l).1 = g at HG HQ hsz
  generalize (gt l).2.2 = m at HG HQ
  obtain ⟨h1, h2, h3, h4⟩ := hr
  clear hN hd hb hw hst hst' hE h2 h3 h4 hX
  go_enter Tryz.func161, Tryz.ntmps161
  go_wp2_with fail
  refine (unhide HG).mono ?_
  rintro e w1 ⟨F, rfl, hF, hB⟩
  have HB1 := hide hB
  have HR1 := hide ((unhide HR).below hB)
  clear hB h1
  go_wp2_with fail
  refine (fail_any R bv E F w1 (unhide HR1) (unhide HE) (unhide hF).form).mono ?_
  rintro e w2 ⟨rfl, hr2, hx2⟩
  have HR2 := hide hr2
  have HX2 := hide hx2
  clear hr2 hx2
  go_wp2_with fail
  refine (next_ok R bv (orE E F) l n w0 w2 (unhide HR2) (unhide HB) hn).mono ?_
  rintro e w3 ⟨v, bv', rfl, hv, hbv, hr3, hx3⟩
  have HV := hide hbv
  have HR3 := hide hr3
  have HX3 := hide hx3
  clear hv hbv hr3 hx3
  go_wp2
  go_ret
  have k := (unhide HA) w1 w2 w3 R X bv' E F st l n m c (unhide HX) (unhide HD) (unhide HW) hR (unhide HS) (unhide HB1) (unhide hF) (unhide HX2) (unhide HX3) (unhide HV) (unhide HR3)
  exact ⟨g, _, rfl, hsz, stp_get text? st l g n m (unhide HS') (unhide HQ), k.1, k.2⟩
theorem text_any (R : Nat) (st : Option (List Int)) (w0 w : World) (h : RS w0 w R st) : Calls Tryz.prog 161 #[.pointer (some ⟨R, 0, none⟩)] w (RdS w0 R text? st w) := text_anyX R _ st w0 w h
set_option maxHeartbeats 1000000 in
theorem bin_anyX (R : Nat) (X : Nat → Prop) (st : Option (List Int)) (w0 w : World) (h : RSX w0 w R X st) : Calls Tryz.prog 164 #[.pointer (some ⟨R, 0, none⟩)] w (RdSX w0 R X bin? st w) := by
  obtain ⟨hX, ⟨c, hd⟩, bv, l, E, hr, hb, hw, hR, hst⟩ := h
  obtain ⟨n, hN, hn, hsz⟩ := gbn_len l hb.range
  have HG := hide (getBinx X bv l w hX.2 (hb.below hw))
  have HQ : Hid (bin? l = if (gbn l).2.2 = 0 then some ((gbn l).1, l.drop n) else none) := by
    show bin? l = _
    unfold bin?
    rw [hN, Int.toNat_natCast]
  rw [hN] at HG
  have hE := st_form hst
  have hst' : st = some l ∨ st = none := hst.imp And.left And.left
  have HR := hide hr
  have HB := hide hb
  have HA := hide (after w0 w)
  have HD := hide hd
  have HW := hide hw
  have HS := hide hst
  have HS' := hide hst'
  have HE := hide hE
  have HX := hide hX
  generalize (gbn l).1 = g at HG HQ hsz
  generalize (gbn l).2.2 = m at HG HQ
  obtain ⟨h1, h2, h3, h4⟩ := hr
  clear hN hd hb hw hst hst' hE h2 h3 h4 hX
  go_enter Tryz.func164, Tryz.ntmps164
  go_wp2_with fail
  refine (unhide HG).mono ?_
  rintro e w1 ⟨F, rfl, hF, hB⟩
  have HB1 := hide hB
  have HR1 := hide ((unhide HR).below hB)
  clear hB h1
  go_wp2_with fail
  refine (fail_any R bv E F w1 (unhide HR1) (unhide HE) (unhide hF).form).mono ?_
  rintro e w2 ⟨rfl, hr2, hx2⟩
  have HR2 := hide hr2
  have HX2 := hide hx2
  clear hr2 hx2
  go_wp2_with fail
  refine (next_ok R bv (orE E F) l n w0 w2 (unhide HR2) (unhide HB) hn).mono ?_
  rintro e w3 ⟨v, bv', rfl, hv, hbv, hr3, hx3⟩
  have HV := hide hbv
  have HR3 := hide hr3
  have HX3 := hide hx3
  clear hv hbv hr3 hx3
  go_wp2
  go_ret
  have k := (unhide HA) w1 w2 w3 R X bv' E F st l n m c (unhide HX) (unhide HD) (unhide HW) hR (unhide HS) (unhide HB1) (unhide hF) (unhide HX2) (unhide HX3) (unhide HV) (unhide HR3)
  exact ⟨g, _, rfl, hsz, stp_get bin? st l g n m (unhide HS') (unhide HQ), k.1, k.2⟩
theorem bin_any (R : Nat) (st : Option (List Int)) (w0 w : World) (h : RS w0 w R st) : Calls Tryz.prog 164 #[.pointer (some ⟨R, 0, none⟩)] w (RdS w0 R bin? st w) := bin_anyX R _ st w0 w h
end Go.Proofs.YtoocdfgjkeheaaaGreatDoor.K
/- Proved here: a packet's fields as cells of a block (Pk), and stores into them. Helpers that name no function. -/
namespace Go.Proofs.YtoocdfgjkeheaaaGreatDoor.K
open Go.RowKit
set_option maxRecDepth 100000

/-- a packet's cells -/
def Pkv.cell (p : Pkv) : Nat → Value
  | 0 => .int .i64 p.kind
  | 1 => .bool p.dup
  | 2 => .int .i64 p.qos
  | 3 => .bool p.retain
  | 4 => .string p.topic
  | 5 => .int .i64 p.id
  | 6 => .string p.payload
  | 7 => p.props.val
  | 8 => .string p.client
  | 9 => .bool p.clean
  | 10 => .int .i64 p.keep
  | 11 => p.wills.val
  | 12 => p.user.val
  | 13 => p.pass.val
  | 14 => .int .i64 p.code
  | 15 => .bool p.session
  | 16 => p.subs.val
  | 17 => p.filters.val
  | 18 => p.codes.val
  | _ => .nilIface
/-- the packet p lies at the beginning of the block R -/
def Pk (w : World) (R : Nat) (p : Pkv) : Prop := ∀ j, j < 19 → w.cell? ⟨R, j, none⟩ = some (p.cell j) ∧ w.frozen? ⟨R, j, none⟩ = false
abbrev isF (j : Nat) : Prop := j ≠ 1 ∧ j ≠ 19 ∧ j ≠ 20
abbrev isAny (_ : Nat) : Prop := True
theorem BX.any {R : Nat} {may : Nat → Prop} {a b : World} (h : BX R may a b) : BX R isAny a b := h.weak (fun _ _ => trivial)
theorem Pk.bx {w w' : World} {R : Nat} {p : Pkv} (h : Pk w R p) (hx : BX R isRE w w') : Pk w' R p := fun j hj =>
  ⟨(hx.cell j (by unfold isRE; omega)).trans (h j hj).1, (hx.frozen j).trans (h j hj).2⟩
theorem Pk.below {w w' : World} {R : Nat} {p : Pkv} (h : Pk w R p) (hb : Below w.heap.size w w') : Pk w' R p := h.bx (BX.of_below hb (cell_lt (h 0 (by omega)).1))
theorem Pk.set {w : World} {R : Nat} {p : Pkv} (h : Pk w R p) (q : Pkv) (i : Nat) (hi : i < 19) (hq : ∀ j, j ≠ i → q.cell j = p.cell j) : Pk (w.setCell ⟨R, i, none⟩ (q.cell i)) R q := fun j hj => by
  refine ⟨?_, by simpa using (h j hj).2⟩
  by_cases hji : j = i
  · subst hji
    exact World.cell?_setCell_same _ _ _ (h j hj).1
  · rw [World.cell?_setCell_other _ _ _ _ (by intro e; injection e with _ e; exact hji e.symm), hq j hji]
    exact (h j hj).1
theorem RSX.set {w0 w : World} {R : Nat} {X : Nat → Prop} {st : Option (List Int)} (h : RSX w0 w R X st) (j : Nat) (u : Value) (hj : isF j) : RSX w0 (w.setCell ⟨R, j, none⟩ u) R X st :=
  h.move (may := fun i => i = j) ((BX.refl _ _ _).set j u rfl) (fun e => hj.2.1 e.symm) (fun e => hj.2.2 e.symm) (fun e => hj.1 e.symm)
theorem BX.setOut {R : Nat} {may : Nat → Prop} {a b : World} (h : BX R may a b) (V j : Nat) (u : Value) (hV : a.heap.size ≤ V) (hR : R < a.heap.size) : BX R may a (b.setCell ⟨V, j, none⟩ u) :=
  h.trans' ⟨rfl, rfl, rfl, by simp [World.setCell], fun k hk _ => Below.heap_setCell _ _ _ _ (by show k ≠ V; omega), fun i _ => World.cell?_setCell_other _ _ _ _ (fun e => by injection e with e1 _; omega), fun i => World.frozen?_setCell ..⟩
theorem ErO.setOut {w : World} {X : Nat → Prop} {V j : Nat} {u : Value} (hV : ∀ t x, w.cell? ⟨V, 1, none⟩ ≠ some (.iface t x)) : ∀ {d : Nat} {v : Value} {n : Int}, ErO w X d v n → ErO (w.setCell ⟨V, j, none⟩ u) X d v n
  | 0, _, _, h => h
  | _ + 1, _, _, ⟨b, u', h1, hR, h2, h3⟩ => ⟨b, u', h1, hR, by
      rw [World.cell?_setCell_other _ _ _ _ (fun e => by
        injection e with e1 _
        subst e1
        obtain ⟨t, x, rfl⟩ := h3.iface
        exact hV t x h2)]
      exact h2, ErO.setOut hV h3⟩
theorem RSX.setOut {w0 w : World} {R : Nat} {X : Nat → Prop} {st : Option (List Int)} (h : RSX w0 w R X st) (V j : Nat) (u : Value) (hR : V ≠ R) (h0 : w0.heap.size ≤ V) (hV : ∀ t x, w.cell? ⟨V, 1, none⟩ ≠ some (.iface t x)) : RSX w0 (w.setCell ⟨V, j, none⟩ u) R X st := by
  obtain ⟨hX, ⟨x, hd⟩, bv, l, E, ⟨r1, r2, r3, r4⟩, hb, hw, hR0, hst⟩ := h
  have ne : ∀ i, (⟨V, j, none⟩ : Addr) ≠ ⟨R, i, none⟩ := fun i e => by injection e with e1 _; exact hR e1
  refine ⟨xs_grow hX (by simp [World.setCell]), ⟨x, (World.cell?_setCell_other _ _ _ _ (ne 1)).trans hd⟩, bv, l, E, ⟨(World.cell?_setCell_other _ _ _ _ (ne 19)).trans r1, by simpa using r2, (World.cell?_setCell_other _ _ _ _ (ne 20)).trans r3, by simpa using r4⟩, hb, ⟨hw.os, hw.tape, hw.output, by simpa [World.setCell] using hw.size, fun k hk => (Below.heap_setCell _ _ _ _ (by show k ≠ V; omega)).trans (hw.block k hk)⟩, hR0, ?_⟩
  rcases hst with h | ⟨h, d, n, hd, he⟩
  · exact .inl h
  · exact .inr ⟨h, d, n, hd, he.setOut hV⟩
theorem owns_bx {w w' : World} {R : Nat} {may : Nat → Prop} {B : Nat} {e : TypeId} {s : Nat} {v : Value} {n : Nat} {xs : List Value} (h : w.ownsRow B e s v n xs) (hx : BX R may w w') (hR : R < B) : w'.ownsRow B e s v n xs := by
  refine ⟨h.1, ?_⟩
  rcases h.2 with h1 | ⟨g, cap, cur, hv, hB, hg, rest⟩
  · exact .inl h1
  · exact .inr ⟨g, cap, cur, hv, hB, by rw [hx.block g (Array.getElem?_eq_some_iff.1 hg).1 (by omega)]; exact hg, rest⟩
theorem owns_sl {w : World} {B : Nat} {e : TypeId} {s : Nat} {v : Value} {n : Nat} {xs : List Value} (h : w.ownsRow B e s v n xs) : ∃ t : Sl, v = t.val ∧ t.n = n := by
  rcases h.2 with ⟨rfl, h1⟩ | ⟨g, cap, cur, hv, _⟩
  · exact ⟨⟨none, 0, 0⟩, rfl, h1.symm⟩
  · exact ⟨⟨_, n, cap⟩, hv, rfl⟩
theorem Pk.kind {w : World} {R : Nat} {p : Pkv} (h : Pk w R p) : w.cell? ⟨R, 0, none⟩ = some (.int .i64 p.kind) := (h 0 (by omega)).1
theorem Pk.kind_f {w : World} {R : Nat} {p : Pkv} (h : Pk w R p) : w.frozen? ⟨R, 0, none⟩ = false := (h 0 (by omega)).2
theorem Pk.dup {w : World} {R : Nat} {p : Pkv} (h : Pk w R p) : w.cell? ⟨R, 1, none⟩ = some (.bool p.dup) := (h 1 (by omega)).1
theorem Pk.dup_f {w : World} {R : Nat} {p : Pkv} (h : Pk w R p) : w.frozen? ⟨R, 1, none⟩ = false := (h 1 (by omega)).2
theorem Pk.set_dup {w : World} {R : Nat} {p : Pkv} (h : Pk w R p) (x : Bool) : Pk (w.setCell ⟨R, 1, none⟩ (.bool x)) R { p with dup := x } := h.set { p with dup := x } 1 (by omega) (fun j hj => by unfold Pkv.cell; split <;> first | rfl | exact absurd rfl hj)
theorem Pk.qos {w : World} {R : Nat} {p : Pkv} (h : Pk w R p) : w.cell? ⟨R, 2, none⟩ = some (.int .i64 p.qos) := (h 2 (by omega)).1
theorem Pk.qos_f {w : World} {R : Nat} {p : Pkv} (h : Pk w R p) : w.frozen? ⟨R, 2, none⟩ = false := (h 2 (by omega)).2
theorem Pk.set_qos {w : World} {R : Nat} {p : Pkv} (h : Pk w R p) (x : Int) : Pk (w.setCell ⟨R, 2, none⟩ (.int .i64 x)) R { p with qos := x } := h.set { p with qos := x } 2 (by omega) (fun j hj => by unfold Pkv.cell; split <;> first | rfl | exact absurd rfl hj)
theorem Pk.retain {w : World} {R : Nat} {p : Pkv} (h : Pk w R p) : w.cell? ⟨R, 3, none⟩ = some (.bool p.retain) := (h 3 (by omega)).1
theorem Pk.retain_f {w : World} {R : Nat} {p : Pkv} (h : Pk w R p) : w.frozen? ⟨R, 3, none⟩ = false := (h 3 (by omega)).2
theorem Pk.set_retain {w : World} {R : Nat} {p : Pkv} (h : Pk w R p) (x : Bool) : Pk (w.setCell ⟨R, 3, none⟩ (.bool x)) R { p with retain := x } := h.set { p with retain := x } 3 (by omega) (fun j hj => by unfold Pkv.cell; split <;> first | rfl | exact absurd rfl hj)
theorem Pk.topic {w : World} {R : Nat} {p : Pkv} (h : Pk w R p) : w.cell? ⟨R, 4, none⟩ = some (.string p.topic) := (h 4 (by omega)).1
theorem Pk.topic_f {w : World} {R : Nat} {p : Pkv} (h : Pk w R p) : w.frozen? ⟨R, 4, none⟩ = false := (h 4 (by omega)).2
theorem Pk.set_topic {w : World} {R : Nat} {p : Pkv} (h : Pk w R p) (x : ByteArray) : Pk (w.setCell ⟨R, 4, none⟩ (.string x)) R { p with topic := x } := h.set { p with topic := x } 4 (by omega) (fun j hj => by unfold Pkv.cell; split <;> first | rfl | exact absurd rfl hj)
theorem Pk.id {w : World} {R : Nat} {p : Pkv} (h : Pk w R p) : w.cell? ⟨R, 5, none⟩ = some (.int .i64 p.id) := (h 5 (by omega)).1
theorem Pk.id_f {w : World} {R : Nat} {p : Pkv} (h : Pk w R p) : w.frozen? ⟨R, 5, none⟩ = false := (h 5 (by omega)).2
theorem Pk.set_id {w : World} {R : Nat} {p : Pkv} (h : Pk w R p) (x : Int) : Pk (w.setCell ⟨R, 5, none⟩ (.int .i64 x)) R { p with id := x } := h.set { p with id := x } 5 (by omega) (fun j hj => by unfold Pkv.cell; split <;> first | rfl | exact absurd rfl hj)
theorem Pk.payload {w : World} {R : Nat} {p : Pkv} (h : Pk w R p) : w.cell? ⟨R, 6, none⟩ = some (.string p.payload) := (h 6 (by omega)).1
theorem Pk.payload_f {w : World} {R : Nat} {p : Pkv} (h : Pk w R p) : w.frozen? ⟨R, 6, none⟩ = false := (h 6 (by omega)).2
theorem Pk.set_payload {w : World} {R : Nat} {p : Pkv} (h : Pk w R p) (x : ByteArray) : Pk (w.setCell ⟨R, 6, none⟩ (.string x)) R { p with payload := x } := h.set { p with payload := x } 6 (by omega) (fun j hj => by unfold Pkv.cell; split <;> first | rfl | exact absurd rfl hj)
theorem Pk.props {w : World} {R : Nat} {p : Pkv} (h : Pk w R p) : w.cell? ⟨R, 7, none⟩ = some (p.props.val) := (h 7 (by omega)).1
theorem Pk.props_f {w : World} {R : Nat} {p : Pkv} (h : Pk w R p) : w.frozen? ⟨R, 7, none⟩ = false := (h 7 (by omega)).2
theorem Pk.set_props {w : World} {R : Nat} {p : Pkv} (h : Pk w R p) (x : Sl) : Pk (w.setCell ⟨R, 7, none⟩ (x.val)) R { p with props := x } := h.set { p with props := x } 7 (by omega) (fun j hj => by unfold Pkv.cell; split <;> first | rfl | exact absurd rfl hj)
theorem Pk.client {w : World} {R : Nat} {p : Pkv} (h : Pk w R p) : w.cell? ⟨R, 8, none⟩ = some (.string p.client) := (h 8 (by omega)).1
theorem Pk.client_f {w : World} {R : Nat} {p : Pkv} (h : Pk w R p) : w.frozen? ⟨R, 8, none⟩ = false := (h 8 (by omega)).2
theorem Pk.set_client {w : World} {R : Nat} {p : Pkv} (h : Pk w R p) (x : ByteArray) : Pk (w.setCell ⟨R, 8, none⟩ (.string x)) R { p with client := x } := h.set { p with client := x } 8 (by omega) (fun j hj => by unfold Pkv.cell; split <;> first | rfl | exact absurd rfl hj)
theorem Pk.clean {w : World} {R : Nat} {p : Pkv} (h : Pk w R p) : w.cell? ⟨R, 9, none⟩ = some (.bool p.clean) := (h 9 (by omega)).1
theorem Pk.clean_f {w : World} {R : Nat} {p : Pkv} (h : Pk w R p) : w.frozen? ⟨R, 9, none⟩ = false := (h 9 (by omega)).2
theorem Pk.set_clean {w : World} {R : Nat} {p : Pkv} (h : Pk w R p) (x : Bool) : Pk (w.setCell ⟨R, 9, none⟩ (.bool x)) R { p with clean := x } := h.set { p with clean := x } 9 (by omega) (fun j hj => by unfold Pkv.cell; split <;> first | rfl | exact absurd rfl hj)
theorem Pk.keep {w : World} {R : Nat} {p : Pkv} (h : Pk w R p) : w.cell? ⟨R, 10, none⟩ = some (.int .i64 p.keep) := (h 10 (by omega)).1
theorem Pk.keep_f {w : World} {R : Nat} {p : Pkv} (h : Pk w R p) : w.frozen? ⟨R, 10, none⟩ = false := (h 10 (by omega)).2
theorem Pk.set_keep {w : World} {R : Nat} {p : Pkv} (h : Pk w R p) (x : Int) : Pk (w.setCell ⟨R, 10, none⟩ (.int .i64 x)) R { p with keep := x } := h.set { p with keep := x } 10 (by omega) (fun j hj => by unfold Pkv.cell; split <;> first | rfl | exact absurd rfl hj)
theorem Pk.wills {w : World} {R : Nat} {p : Pkv} (h : Pk w R p) : w.cell? ⟨R, 11, none⟩ = some (p.wills.val) := (h 11 (by omega)).1
theorem Pk.wills_f {w : World} {R : Nat} {p : Pkv} (h : Pk w R p) : w.frozen? ⟨R, 11, none⟩ = false := (h 11 (by omega)).2
theorem Pk.set_wills {w : World} {R : Nat} {p : Pkv} (h : Pk w R p) (x : Sl) : Pk (w.setCell ⟨R, 11, none⟩ (x.val)) R { p with wills := x } := h.set { p with wills := x } 11 (by omega) (fun j hj => by unfold Pkv.cell; split <;> first | rfl | exact absurd rfl hj)
theorem Pk.user {w : World} {R : Nat} {p : Pkv} (h : Pk w R p) : w.cell? ⟨R, 12, none⟩ = some (p.user.val) := (h 12 (by omega)).1
theorem Pk.user_f {w : World} {R : Nat} {p : Pkv} (h : Pk w R p) : w.frozen? ⟨R, 12, none⟩ = false := (h 12 (by omega)).2
theorem Pk.set_user {w : World} {R : Nat} {p : Pkv} (h : Pk w R p) (x : Sl) : Pk (w.setCell ⟨R, 12, none⟩ (x.val)) R { p with user := x } := h.set { p with user := x } 12 (by omega) (fun j hj => by unfold Pkv.cell; split <;> first | rfl | exact absurd rfl hj)
theorem Pk.pass {w : World} {R : Nat} {p : Pkv} (h : Pk w R p) : w.cell? ⟨R, 13, none⟩ = some (p.pass.val) := (h 13 (by omega)).1
theorem Pk.pass_f {w : World} {R : Nat} {p : Pkv} (h : Pk w R p) : w.frozen? ⟨R, 13, none⟩ = false := (h 13 (by omega)).2
theorem Pk.set_pass {w : World} {R : Nat} {p : Pkv} (h : Pk w R p) (x : Sl) : Pk (w.setCell ⟨R, 13, none⟩ (x.val)) R { p with pass := x } := h.set { p with pass := x } 13 (by omega) (fun j hj => by unfold Pkv.cell; split <;> first | rfl | exact absurd rfl hj)
theorem Pk.code {w : World} {R : Nat} {p : Pkv} (h : Pk w R p) : w.cell? ⟨R, 14, none⟩ = some (.int .i64 p.code) := (h 14 (by omega)).1
theorem Pk.code_f {w : World} {R : Nat} {p : Pkv} (h : Pk w R p) : w.frozen? ⟨R, 14, none⟩ = false := (h 14 (by omega)).2
theorem Pk.set_code {w : World} {R : Nat} {p : Pkv} (h : Pk w R p) (x : Int) : Pk (w.setCell ⟨R, 14, none⟩ (.int .i64 x)) R { p with code := x } := h.set { p with code := x } 14 (by omega) (fun j hj => by unfold Pkv.cell; split <;> first | rfl | exact absurd rfl hj)
theorem Pk.session {w : World} {R : Nat} {p : Pkv} (h : Pk w R p) : w.cell? ⟨R, 15, none⟩ = some (.bool p.session) := (h 15 (by omega)).1
theorem Pk.session_f {w : World} {R : Nat} {p : Pkv} (h : Pk w R p) : w.frozen? ⟨R, 15, none⟩ = false := (h 15 (by omega)).2
theorem Pk.set_session {w : World} {R : Nat} {p : Pkv} (h : Pk w R p) (x : Bool) : Pk (w.setCell ⟨R, 15, none⟩ (.bool x)) R { p with session := x } := h.set { p with session := x } 15 (by omega) (fun j hj => by unfold Pkv.cell; split <;> first | rfl | exact absurd rfl hj)
theorem Pk.subs {w : World} {R : Nat} {p : Pkv} (h : Pk w R p) : w.cell? ⟨R, 16, none⟩ = some (p.subs.val) := (h 16 (by omega)).1
theorem Pk.subs_f {w : World} {R : Nat} {p : Pkv} (h : Pk w R p) : w.frozen? ⟨R, 16, none⟩ = false := (h 16 (by omega)).2
theorem Pk.set_subs {w : World} {R : Nat} {p : Pkv} (h : Pk w R p) (x : Sl) : Pk (w.setCell ⟨R, 16, none⟩ (x.val)) R { p with subs := x } := h.set { p with subs := x } 16 (by omega) (fun j hj => by unfold Pkv.cell; split <;> first | rfl | exact absurd rfl hj)
theorem Pk.filters {w : World} {R : Nat} {p : Pkv} (h : Pk w R p) : w.cell? ⟨R, 17, none⟩ = some (p.filters.val) := (h 17 (by omega)).1
theorem Pk.filters_f {w : World} {R : Nat} {p : Pkv} (h : Pk w R p) : w.frozen? ⟨R, 17, none⟩ = false := (h 17 (by omega)).2
theorem Pk.set_filters {w : World} {R : Nat} {p : Pkv} (h : Pk w R p) (x : Sl) : Pk (w.setCell ⟨R, 17, none⟩ (x.val)) R { p with filters := x } := h.set { p with filters := x } 17 (by omega) (fun j hj => by unfold Pkv.cell; split <;> first | rfl | exact absurd rfl hj)
theorem Pk.codes {w : World} {R : Nat} {p : Pkv} (h : Pk w R p) : w.cell? ⟨R, 18, none⟩ = some (p.codes.val) := (h 18 (by omega)).1
theorem Pk.codes_f {w : World} {R : Nat} {p : Pkv} (h : Pk w R p) : w.frozen? ⟨R, 18, none⟩ = false := (h 18 (by omega)).2
theorem Pk.set_codes {w : World} {R : Nat} {p : Pkv} (h : Pk w R p) (x : Sl) : Pk (w.setCell ⟨R, 18, none⟩ (x.val)) R { p with codes := x } := h.set { p with codes := x } 18 (by omega) (fun j hj => by unfold Pkv.cell; split <;> first | rfl | exact absurd rfl hj)
/-- what is left, as the walk reads it -/
theorem RSX.rest {w0 w : World} {R : Nat} {X : Nat → Prop} {st : Option (List Int)} (h : RSX w0 w R X st) : ∃ ao n cap, w.cell? ⟨R, 19, none⟩ = some (.slice ao n cap) ∧ (n ≤ cap ∧ cap ≤ maxLen) ∧ ∀ l, st = some l → l.length = n := by
  obtain ⟨_, _, bv, l, E, hr, hb, _, _, hst⟩ := h
  obtain ⟨ao, cap, rfl, hc⟩ := hb.form
  refine ⟨ao, l.length, cap, hr.1, hc, fun l' hl => ?_⟩
  rcases hst with ⟨rfl, _⟩ | ⟨rfl, _⟩
  · cases hl; rfl
  · cases hl
end Go.Proofs.YtoocdfgjkeheaaaGreatDoor.K
/- Proved here: varint.sizeOf tells how many groups of seven bits a number from 0 to 268435455 takes. Helper contracts. -/
namespace Go.Proofs.YtoocdfgjkeheaaaGreatDoor.V
open Go.RowKit
set_option maxRecDepth 100000

/-- how many groups -/
def sz (n : Int) : Int := if n < 128 then 1 else if n < 16384 then 2 else if n < 2097152 then 3 else 4

theorem bitLen_ge (k x : Nat) (h : 2 ^ k ≤ x) (hx : x < 2 ^ 64) : k + 1 ≤ Lib.bitLen x := by
  rw [Lib.bitLen_shift k x h hx]
  have h1 : x / 2 ^ k ≠ 0 := by
    have := Nat.div_pos h (Nat.two_pow_pos k); omega
  rw [Lib.bitLen_half _ h1 (Nat.lt_of_le_of_lt (Nat.div_le_self _ _) hx)]
  omega

theorem sz_of (n : Int) (h0 : 0 ≤ n) (h1 : n ≤ 268435455) : max 1 ((Lib.bitLen n.toNat + 6 : Int) / 7) = sz n := by
  unfold sz
  obtain ⟨m, rfl⟩ := Int.eq_ofNat_of_zero_le h0
  rw [Int.toNat_natCast]
  have hx : m < 2 ^ 64 := by omega
  by_cases a : m < 128
  · have := Lib.bitLen_le m 7 (by omega) a
    rw [if_pos (show (m : Int) < 128 by omega)]
    omega
  · by_cases b : m < 16384
    · have l := bitLen_ge 7 m (by omega) hx
      have u := Lib.bitLen_le m 14 (by omega) b
      rw [if_neg (show ¬ (m : Int) < 128 by omega), if_pos (show (m : Int) < 16384 by omega)]
      omega
    · by_cases c : m < 2097152
      · have l := bitLen_ge 14 m (by omega) hx
        have u := Lib.bitLen_le m 21 (by omega) c
        rw [if_neg (show ¬ (m : Int) < 128 by omega), if_neg (show ¬ (m : Int) < 16384 by omega), if_pos (show (m : Int) < 2097152 by omega)]
        omega
      · have l := bitLen_ge 21 m (by omega) hx
        have u := Lib.bitLen_le m 28 (by omega) (by omega)
        rw [if_neg (show ¬ (m : Int) < 128 by omega), if_neg (show ¬ (m : Int) < 16384 by omega), if_neg (show ¬ (m : Int) < 2097152 by omega)]
        omega

set_option maxHeartbeats 4000000 in
set_option maxRecDepth 100000 in
theorem len64_any (x : Int) (w : World) (h0 : 0 ≤ x) (h1 : x ≤ 268435455) :
    Calls Tryz.prog 182 #[.int .u64 x] w fun e w' => e = .returned (.int .i64 (Lib.bitLen x.toNat)) ∧ w' = w := by
  have t9 := Tryz.underlying9
  by_cases a : x ≤ 255
  · have l := Lib.bitLen_le8' x h0 a
    go_enter Tryz.func182, Tryz.ntmps182
    go_wp2
    go_ret
    refine ⟨congrArg Ending.returned (congrArg (Value.int IntKind.i64) ?_), rfl⟩
    rw [Lib.len8_of x h0 a]
    simp only [wrap64]
    omega
  · by_cases b : x ≤ 65535
    · have c0 : 0 ≤ x / 256 := by omega
      have c1 : x / 256 ≤ 255 := by omega
      have l := Lib.bitLen_le8' (x / 256) c0 c1
      have s := Lib.bitLen_shift8 x.toNat (by omega) (by omega)
      have S := hide s
      clear s
      go_enter Tryz.func182, Tryz.ntmps182
      go_wp2
      go_ret
      refine ⟨congrArg Ending.returned (congrArg (Value.int IntKind.i64) ?_), rfl⟩
      rw [Lib.len8_of (x / 256) c0 c1, unhide S, show (x / 256).toNat = x.toNat / 256 from by omega]
      rw [show (x / 256).toNat = x.toNat / 256 from by omega] at l
      simp only [wrap64]
      omega
    · by_cases c : x ≤ 16777215
      · have c0 : 0 ≤ x / 65536 := by omega
        have c1 : x / 65536 ≤ 255 := by omega
        have l := Lib.bitLen_le8' (x / 65536) c0 c1
        have s := Lib.bitLen_shift16 x.toNat (by omega) (by omega)
        have S := hide s
        clear s
        go_enter Tryz.func182, Tryz.ntmps182
        go_wp2
        go_ret
        refine ⟨congrArg Ending.returned (congrArg (Value.int IntKind.i64) ?_), rfl⟩
        rw [Lib.len8_of (x / 65536) c0 c1, unhide S, show (x / 65536).toNat = x.toNat / 65536 from by omega]
        rw [show (x / 65536).toNat = x.toNat / 65536 from by omega] at l
        simp only [wrap64]
        omega
      · have c0 : 0 ≤ x / 65536 / 256 := by omega
        have c1 : x / 65536 / 256 ≤ 255 := by omega
        have l := Lib.bitLen_le8' (x / 65536 / 256) c0 c1
        have s := Lib.bitLen_shift24 x.toNat (by omega) (by omega)
        have S := hide s
        clear s
        go_enter Tryz.func182, Tryz.ntmps182
        go_wp2
        go_ret
        refine ⟨congrArg Ending.returned (congrArg (Value.int IntKind.i64) ?_), rfl⟩
        rw [Lib.len8_of (x / 65536 / 256) c0 c1, unhide S, show (x / 65536 / 256).toNat = x.toNat / 16777216 from by omega]
        rw [show (x / 65536 / 256).toNat = x.toNat / 16777216 from by omega] at l
        simp only [wrap64]
        omega

theorem len_any (x : Int) (w : World) (h0 : 0 ≤ x) (h1 : x ≤ 268435455) :
    Calls Tryz.prog 152 #[.int .u64 x] w fun e w' => e = .returned (.int .i64 (Lib.bitLen x.toNat)) ∧ w' = w := by
  go_enter Tryz.func152, Tryz.ntmps152
  go_wp2_with (go_at_call 182; refine (len64_any _ _ h0 h1).mono ?_; rintro e w' ⟨rfl, rfl⟩)
  go_ret
  exact ⟨rfl, rfl⟩

theorem sizeOf_any (n : Int) (w : World) (h0 : 0 ≤ n) (h1 : n ≤ 268435455) :
    Calls Tryz.prog 100 #[.int .i64 n] w fun e w' => e = .returned (.int .i64 (sz n)) ∧ w' = w := by
  have hs := hide (sz_of n h0 h1)
  have hl := Lib.bitLen_le n.toNat 28 (by omega) (by omega)
  go_enter Tryz.func100, Tryz.ntmps100
  go_wp2_with (go_at_call 152; refine (len_any _ _ h0 h1).mono ?_; rintro e w' ⟨rfl, rfl⟩)
  go_ret
  exact ⟨congrArg Ending.returned (congrArg (Value.int IntKind.i64) (unhide hs)), rfl⟩
end Go.Proofs.YtoocdfgjkeheaaaGreatDoor.V
/- Proved here: varint.Put tells a number's groups of seven bits, the lowest first, or a Fault around ErrForm. Helper contracts. -/
namespace Go.Proofs.YtoocdfgjkeheaaaGreatDoor.V
open Go.RowKit
set_option maxRecDepth 100000

theorem fault_any (n : Int) (w : World) : Calls Tryz.prog 99 #[.int .i64 n] w fun e w' => e = .returned (.iface 149 (.pointer (some ⟨w.heap.size, 0, none⟩))) ∧ w' = w.alloc (.cells #[.string ⟨#[118, 97, 114, 105, 110, 116]⟩, .iface 84 (.int .i64 n)] 151) := by
  go_enter Tryz.func99, Tryz.ntmps99
  go_wp2
  go_ret
  exact ⟨rfl, rfl⟩

/-- the bytes of a number from 0 to 268435455 -/
def put (n : Int) : List Int :=
  if n < 128 then [n] else if n < 16384 then [n % 128 + 128, n / 128] else if n < 2097152 then [n % 128 + 128, n / 128 % 128 + 128, n / 16384]
  else [n % 128 + 128, n / 128 % 128 + 128, n / 16384 % 128 + 128, n / 2097152]

theorem put_bad (n : Int) (w : World) (h : n < 0 ∨ 268435455 < n) :
    Calls Tryz.prog 58 #[.int .i64 n] w fun e w' => e = .returned (.tuple #[.slice none 0 0, .iface 149 (.pointer (some ⟨w.heap.size, 0, none⟩))]) ∧ w' = w.alloc (.cells #[.string ⟨#[118, 97, 114, 105, 110, 116]⟩, .iface 84 (.int .i64 1)] 151) := by
  rcases h with h | h
  · go_enter Tryz.func58, Tryz.ntmps58
    go_wp2_with (go_at_call 99; refine (fault_any _ _).mono ?_; rintro e w' ⟨rfl, rfl⟩)
    go_ret2
    exact ⟨rfl, rfl⟩
  · have h' : ¬ n < 0 := by omega
    go_enter Tryz.func58, Tryz.ntmps58
    go_wp2_with (go_at_call 99; refine (fault_any _ _).mono ?_; rintro e w' ⟨rfl, rfl⟩)
    go_ret2
    exact ⟨rfl, rfl⟩

theorem make1 (w : World) : (Instr.makeSlice 31 (.int .i64 1) (.int .i64 1)).run Tryz.prog w = .ok (.slice (some ⟨w.heap.size, 0, none⟩) 1 1) (w.alloc (.cells #[.int .u8 0] 5)) := by kernel_rfl
theorem make2 (w : World) : (Instr.makeSlice 31 (.int .i64 2) (.int .i64 2)).run Tryz.prog w = .ok (.slice (some ⟨w.heap.size, 0, none⟩) 2 2) (w.alloc (.cells #[.int .u8 0, .int .u8 0] 5)) := by kernel_rfl
theorem make3 (w : World) : (Instr.makeSlice 31 (.int .i64 3) (.int .i64 3)).run Tryz.prog w = .ok (.slice (some ⟨w.heap.size, 0, none⟩) 3 3) (w.alloc (.cells #[.int .u8 0, .int .u8 0, .int .u8 0] 5)) := by kernel_rfl
theorem make4 (w : World) : (Instr.makeSlice 31 (.int .i64 4) (.int .i64 4)).run Tryz.prog w = .ok (.slice (some ⟨w.heap.size, 0, none⟩) 4 4) (w.alloc (.cells #[.int .u8 0, .int .u8 0, .int .u8 0, .int .u8 0] 5)) := by kernel_rfl

theorem or128_all : ∀ x : Fin 256, bits .or .u8 (x.val : Int) 128 = (x.val : Int) % 128 + 128 := by decide +kernel
theorem and127_all : ∀ x : Fin 256, bits .and .u8 (x.val : Int) 127 = (x.val : Int) % 128 := by decide +kernel
theorem and128_all : ∀ x : Fin 256, bits .and .u8 (x.val : Int) 128 = if (x.val : Int) < 128 then 0 else 128 := by decide +kernel
theorem or128 (x : Int) (h0 : 0 ≤ x) (h1 : x < 256) : bits .or .u8 x 128 = x % 128 + 128 := by
  have := or128_all ⟨x.toNat, by omega⟩
  simpa only [Int.toNat_of_nonneg h0] using this
theorem and127 (x : Int) (h0 : 0 ≤ x) (h1 : x < 256) : bits .and .u8 x 127 = x % 128 := by
  have := and127_all ⟨x.toNat, by omega⟩
  simpa only [Int.toNat_of_nonneg h0] using this
theorem and128 (x : Int) (h0 : 0 ≤ x) (h1 : x < 256) : bits .and .u8 x 128 = if x < 128 then 0 else 128 := by
  have := and128_all ⟨x.toNat, by omega⟩
  simpa only [Int.toNat_of_nonneg h0] using this
theorem last_of (x : Int) (h0 : 0 ≤ x) (h1 : x < 128) : bits .and .u8 (bits .or .u8 x 128) 127 = x := by
  rw [or128 x h0 (by omega), and127 _ (by omega) (by omega)]; omega
theorem more_of (x : Int) : bits .or .u8 (x % 256) 128 = x % 128 + 128 := by
  rw [or128 _ (by omega) (by omega)]; omega
theorem more_of' (x : Int) (h0 : 0 ≤ x) (h1 : x < 256) : bits .or .u8 x 128 = x % 128 + 128 := or128 x h0 h1

/-- Put's answer, exactly -/
def PutPost (n : Int) (w : World) (e : Ending) (w' : World) : Prop :=
  e = .returned (.tuple #[.slice (some ⟨w.heap.size, 0, none⟩) (put n).length (put n).length, .nilIface]) ∧ w' = w.alloc (.cells ((put n).map (Value.int .u8)).toArray 5)

theorem put_1 (n : Int) (w : World) (h0 : 0 ≤ n) (h1 : n < 128) : Calls Tryz.prog 58 #[.int .i64 n] w (PutPost n w) := by
  have hp : put n = [n] := by simp [put, h1]
  unfold PutPost
  rw [hp]
  clear hp
  have hm := make1 w
  have hs : sz n = 1 := by simp [sz, h1]
  go_enter Tryz.func58, Tryz.ntmps58
  go_wp2_with (go_at_call 100; refine (sizeOf_any _ _ h0 (by omega)).mono ?_; rintro e w' ⟨rfl, rfl⟩)
  go_ret2
  refine ⟨rfl, ?_⟩
  rw [last_of n h0 h1]
  rfl
theorem put_2 (n : Int) (w : World) (h0 : 128 ≤ n) (h1 : n < 16384) : Calls Tryz.prog 58 #[.int .i64 n] w (PutPost n w) := by
  have hp : put n = [n % 128 + 128, n / 128] := by unfold put; rw [if_neg (by omega), if_pos (by omega)]
  unfold PutPost
  rw [hp]
  clear hp
  have hm := make2 w
  have hs : sz n = 2 := by unfold sz; rw [if_neg (by omega), if_pos (by omega)]
  go_enter Tryz.func58, Tryz.ntmps58
  go_wp2_with (go_at_call 100; refine (sizeOf_any _ _ (by omega) (by omega)).mono ?_; rintro e w' ⟨rfl, rfl⟩)
  go_ret2
  refine ⟨rfl, ?_⟩
  rw [last_of (n / 128) (by omega) (by omega), more_of]
  rfl
theorem put_3 (n : Int) (w : World) (h0 : 16384 ≤ n) (h1 : n < 2097152) : Calls Tryz.prog 58 #[.int .i64 n] w (PutPost n w) := by
  have hp : put n = [n % 128 + 128, n / 128 % 128 + 128, n / 16384] := by unfold put; rw [if_neg (by omega), if_neg (by omega), if_pos (by omega)]
  unfold PutPost
  rw [hp]
  clear hp
  have hm := make3 w
  have hs : sz n = 3 := by unfold sz; rw [if_neg (by omega), if_neg (by omega), if_pos (by omega)]
  go_enter Tryz.func58, Tryz.ntmps58
  go_wp2_with (go_at_call 100; refine (sizeOf_any _ _ (by omega) (by omega)).mono ?_; rintro e w' ⟨rfl, rfl⟩)
  go_ret2
  refine ⟨rfl, ?_⟩
  rw [last_of (n / 16384) (by omega) (by omega), more_of, more_of]
  rfl
theorem put_4 (n : Int) (w : World) (h0 : 2097152 ≤ n) (h1 : n ≤ 268435455) : Calls Tryz.prog 58 #[.int .i64 n] w (PutPost n w) := by
  have hp : put n = [n % 128 + 128, n / 128 % 128 + 128, n / 16384 % 128 + 128, n / 2097152] := by unfold put; rw [if_neg (by omega), if_neg (by omega), if_neg (by omega)]
  unfold PutPost
  rw [hp]
  clear hp
  have hm := make4 w
  have hs : sz n = 4 := by unfold sz; rw [if_neg (by omega), if_neg (by omega), if_neg (by omega)]
  go_enter Tryz.func58, Tryz.ntmps58
  go_wp2_with (go_at_call 100; refine (sizeOf_any _ _ (by omega) (by omega)).mono ?_; rintro e w' ⟨rfl, rfl⟩)
  go_ret2
  refine ⟨rfl, ?_⟩
  rw [last_of (n / 2097152) (by omega) (by omega), more_of, more_of, more_of]
  rfl
theorem put_good (n : Int) (w : World) (h0 : 0 ≤ n) (h1 : n ≤ 268435455) : Calls Tryz.prog 58 #[.int .i64 n] w (PutPost n w) := by
  by_cases a : n < 128
  · exact put_1 n w h0 a
  · by_cases b : n < 16384
    · exact put_2 n w (by omega) b
    · by_cases c : n < 2097152
      · exact put_3 n w (by omega) c
      · exact put_4 n w (by omega) h1
theorem put_range (n : Int) (h0 : 0 ≤ n) (h1 : n ≤ 268435455) : ∀ j, 0 ≤ (put n).getD j 0 ∧ (put n).getD j 0 ≤ 255 := by
  intro j
  unfold put
  split
  · rcases j with _ | j <;> simp <;> omega
  · split
    · rcases j with _ | _ | j <;> simp <;> omega
    · split
      · rcases j with _ | _ | _ | j <;> simp <;> omega
      · rcases j with _ | _ | _ | _ | j <;> simp <;> omega
theorem put_len (n : Int) : 1 ≤ (put n).length ∧ (put n).length ≤ 4 := by
  unfold put
  split <;> (try split) <;> (try split) <;> simp
theorem put_byt (n : Int) (w : World) (h0 : 0 ≤ n) (h1 : n ≤ 268435455) : Byt (w.alloc (.cells ((put n).map (Value.int .u8)).toArray 5)) (.slice (some ⟨w.heap.size, 0, none⟩) (put n).length (put n).length) (put n) := by
  refine ⟨_, _, rfl, ⟨Nat.le_refl _, by have := put_len n; unfold maxLen; omega⟩, put_range n h0 h1, .inr ⟨_, _, rfl, fun j hj => ?_⟩⟩
  rw [World.cell?_alloc_at _ _ _ _ rfl]
  simp [hj]
/-- Put's answer, as a caller uses it -/
theorem put_use (x : Int) (w : World) (h0 : 0 ≤ x) (h1 : x ≤ 268435455) : Calls Tryz.prog 58 #[.int .i64 x] w fun e w' => ∃ n : Nat, Hid (n = (put x).length) ∧ e = .returned (.tuple #[.slice (some ⟨w.heap.size, 0, none⟩) n n, .nilIface]) ∧
    Hid (w'.ownsRow w.heap.size 5 1 (.slice (some ⟨w.heap.size, 0, none⟩) n n) n ((put x).map (Value.int .u8))) ∧ Below w.heap.size w w' := by
  refine (put_good x w h0 h1).mono ?_
  rintro e w' ⟨rfl, rfl⟩
  have hl := put_len x
  exact ⟨_, rfl, rfl, World.ownsRow_lit w _ _ (Nat.le_refl _) (by unfold maxLen; omega) (by simp), (Below.refl _ _).alloc (Nat.le_refl _) _⟩
end Go.Proofs.YtoocdfgjkeheaaaGreatDoor.V
/- Proved here: what a property is, where it may stand, which bytes it has, as plain functions; helpers that name no program's text. -/
namespace Go.Proofs.YtoocdfgjkeheaaaGreatDoor
open Go.RowKit

/-- a property: its ID, number, two texts -/
abbrev Pr := Int × Int × ByteArray × ByteArray
abbrev es : ByteArray := ⟨#[]⟩
/-- an empty text, as the walk tells it -/
abbrev emp (s : ByteArray) : Bool := s.toList.isEmpty
def p0 : Pr := (0, 0, es, es)
/-- an ID's kind: so many bytes of a number, 5 as varint, 6 a text, 7 bytes, 8 two texts, 0 none -/
def kd (id : Int) : Int :=
  if id = 1 ∨ id = 23 ∨ id = 25 ∨ id = 36 ∨ id = 37 ∨ id = 40 ∨ id = 41 ∨ id = 42 then 1
  else if id = 19 ∨ id = 33 ∨ id = 34 ∨ id = 35 then 2
  else if id = 2 ∨ id = 17 ∨ id = 24 ∨ id = 39 then 4
  else if id = 11 then 5
  else if id = 3 ∨ id = 8 ∨ id = 18 ∨ id = 21 ∨ id = 26 ∨ id = 28 ∨ id = 31 then 6
  else if id = 9 ∨ id = 22 then 7
  else if id = 38 then 8 else 0
/-- the least and the highest number of an ID -/
def lst (id : Int) : Int := if id = 11 ∨ id = 33 ∨ id = 35 ∨ id = 39 then 1 else 0
def mx (id : Int) : Int := if kd id = 1 then 1 else if kd id = 2 then 65535 else if kd id = 4 then 4294967295 else if kd id = 5 then 268435455 else 0
/-- where an ID may stand -/
def plc (id : Int) : List Int :=
  if id = 1 ∨ id = 2 ∨ id = 3 ∨ id = 8 ∨ id = 9 then [3, 16]
  else if id = 11 then [3, 8]
  else if id = 17 then [1, 2, 14]
  else if id = 18 ∨ id = 19 ∨ id = 26 ∨ id = 36 ∨ id = 37 ∨ id = 40 ∨ id = 41 ∨ id = 42 then [2]
  else if id = 21 ∨ id = 22 then [1, 2, 15]
  else if id = 23 ∨ id = 25 then [1]
  else if id = 24 then [16]
  else if id = 28 then [2, 14]
  else if id = 31 then [2, 4, 5, 6, 7, 9, 11, 14, 15]
  else if id = 33 ∨ id = 34 ∨ id = 39 then [1, 2]
  else if id = 35 then [3]
  else if id = 38 then [1, 2, 3, 4, 5, 6, 7, 8, 9, 10, 11, 14, 15, 16] else []
def mst (id place : Int) : Bool := decide (place ∈ plc id)
def rep (id place : Int) : Bool := decide (id = 38) || (decide (id = 11) && decide (place = 3))
/-- the number, and nothing beside what the ID has -/
def fit (p : Pr) : Bool := decide (lst p.1 ≤ p.2.1) && decide (p.2.1 ≤ mx p.1) &&
  (if kd p.1 = 8 then true else if kd p.1 = 6 ∨ kd p.1 = 7 then emp p.2.2.2 else emp p.2.2.1 && emp p.2.2.2)
/-- the texts -/
def txo (p : Pr) : Bool := if kd p.1 = 6 then decide (chk (sb p.2.2.1) = 0) else if kd p.1 = 7 then decide (p.2.2.1.size ≤ 65535) else if kd p.1 = 8 then decide (chk (sb p.2.2.1) = 0) && decide (chk (sb p.2.2.2) = 0) else decide (kd p.1 ≠ 0)
def may (p : Pr) : Bool := fit p && txo p
def at0 (l : List Pr) (i : Nat) : Pr := l.getD i p0
def seen (l : List Pr) (i : Nat) (id : Int) : Bool := (l.take i).any fun q => decide (q.1 = id)
def okAt (place : Int) (l : List Pr) (i : Nat) : Bool := mst (at0 l i).1 place && may (at0 l i) && (rep (at0 l i).1 place || !(seen l i (at0 l i).1))
/-- Check's number -/
def chkP (place : Int) (l : List Pr) : Int := if (∀ i, i < l.length → okAt place l i = true) then (if l.length ≤ 32 then 0 else 2) else 1
def pvb (p : Pr) : List Int :=
  if kd p.1 = 1 then [p.2.1] else if kd p.1 = 2 then [p.2.1 / 256, p.2.1 % 256]
  else if kd p.1 = 4 then [p.2.1 / 16777216, p.2.1 / 65536 % 256, p.2.1 / 256 % 256, p.2.1 % 256]
  else if kd p.1 = 5 then V.put p.2.1 else if kd p.1 = 8 then tx p.2.2.1 ++ tx p.2.2.2 else tx p.2.2.1
def pb (p : Pr) : List Int := V.put p.1 ++ pvb p
def body (l : List Pr) : List Int := l.flatMap pb
def pbs (l : List Pr) : List Int := V.put ((body l).length : Int) ++ body l

def pval (p : Pr) : Value := .agg #[.int .i64 p.1, .int .i64 p.2.1, .string p.2.2.1, .string p.2.2.2]
/-- one ID after the other -/
theorem id_cases {P : Int → Prop} (id : Int) (h1 : P 1) (h2 : P 2) (h3 : P 3) (h8 : P 8) (h9 : P 9) (h11 : P 11) (h17 : P 17) (h18 : P 18) (h19 : P 19) (h21 : P 21) (h22 : P 22) (h23 : P 23) (h24 : P 24) (h25 : P 25) (h26 : P 26) (h28 : P 28) (h31 : P 31) (h33 : P 33) (h34 : P 34) (h35 : P 35) (h36 : P 36) (h37 : P 37) (h38 : P 38) (h39 : P 39) (h40 : P 40) (h41 : P 41) (h42 : P 42) (hn : id ≠ 1 → id ≠ 2 → id ≠ 3 → id ≠ 8 → id ≠ 9 → id ≠ 11 → id ≠ 17 → id ≠ 18 → id ≠ 19 → id ≠ 21 → id ≠ 22 → id ≠ 23 → id ≠ 24 → id ≠ 25 → id ≠ 26 → id ≠ 28 → id ≠ 31 → id ≠ 33 → id ≠ 34 → id ≠ 35 → id ≠ 36 → id ≠ 37 → id ≠ 38 → id ≠ 39 → id ≠ 40 → id ≠ 41 → id ≠ 42 → P id) : P id := by
  by_cases e1 : id = 1
  · rw [e1]; exact h1
  by_cases e2 : id = 2
  · rw [e2]; exact h2
  by_cases e3 : id = 3
  · rw [e3]; exact h3
  by_cases e8 : id = 8
  · rw [e8]; exact h8
  by_cases e9 : id = 9
  · rw [e9]; exact h9
  by_cases e11 : id = 11
  · rw [e11]; exact h11
  by_cases e17 : id = 17
  · rw [e17]; exact h17
  by_cases e18 : id = 18
  · rw [e18]; exact h18
  by_cases e19 : id = 19
  · rw [e19]; exact h19
  by_cases e21 : id = 21
  · rw [e21]; exact h21
  by_cases e22 : id = 22
  · rw [e22]; exact h22
  by_cases e23 : id = 23
  · rw [e23]; exact h23
  by_cases e24 : id = 24
  · rw [e24]; exact h24
  by_cases e25 : id = 25
  · rw [e25]; exact h25
  by_cases e26 : id = 26
  · rw [e26]; exact h26
  by_cases e28 : id = 28
  · rw [e28]; exact h28
  by_cases e31 : id = 31
  · rw [e31]; exact h31
  by_cases e33 : id = 33
  · rw [e33]; exact h33
  by_cases e34 : id = 34
  · rw [e34]; exact h34
  by_cases e35 : id = 35
  · rw [e35]; exact h35
  by_cases e36 : id = 36
  · rw [e36]; exact h36
  by_cases e37 : id = 37
  · rw [e37]; exact h37
  by_cases e38 : id = 38
  · rw [e38]; exact h38
  by_cases e39 : id = 39
  · rw [e39]; exact h39
  by_cases e40 : id = 40
  · rw [e40]; exact h40
  by_cases e41 : id = 41
  · rw [e41]; exact h41
  by_cases e42 : id = 42
  · rw [e42]; exact h42
  exact hn e1 e2 e3 e8 e9 e11 e17 e18 e19 e21 e22 e23 e24 e25 e26 e28 e31 e33 e34 e35 e36 e37 e38 e39 e40 e41 e42
theorem kd_none (id : Int) (n1 : id ≠ 1) (n2 : id ≠ 2) (n3 : id ≠ 3) (n8 : id ≠ 8) (n9 : id ≠ 9) (n11 : id ≠ 11) (n17 : id ≠ 17) (n18 : id ≠ 18) (n19 : id ≠ 19) (n21 : id ≠ 21) (n22 : id ≠ 22) (n23 : id ≠ 23) (n24 : id ≠ 24) (n25 : id ≠ 25) (n26 : id ≠ 26) (n28 : id ≠ 28) (n31 : id ≠ 31) (n33 : id ≠ 33) (n34 : id ≠ 34) (n35 : id ≠ 35) (n36 : id ≠ 36) (n37 : id ≠ 37) (n38 : id ≠ 38) (n39 : id ≠ 39) (n40 : id ≠ 40) (n41 : id ≠ 41) (n42 : id ≠ 42) : kd id = 0 := by
  unfold kd
  simp only [n1, n2, n3, n8, n9, n11, n17, n18, n19, n21, n22, n23, n24, n25, n26, n28, n31, n33, n34, n35, n36, n37, n38, n39, n40, n41, n42, or_false, if_false]
theorem plc_none (id : Int) (n1 : id ≠ 1) (n2 : id ≠ 2) (n3 : id ≠ 3) (n8 : id ≠ 8) (n9 : id ≠ 9) (n11 : id ≠ 11) (n17 : id ≠ 17) (n18 : id ≠ 18) (n19 : id ≠ 19) (n21 : id ≠ 21) (n22 : id ≠ 22) (n23 : id ≠ 23) (n24 : id ≠ 24) (n25 : id ≠ 25) (n26 : id ≠ 26) (n28 : id ≠ 28) (n31 : id ≠ 31) (n33 : id ≠ 33) (n34 : id ≠ 34) (n35 : id ≠ 35) (n36 : id ≠ 36) (n37 : id ≠ 37) (n38 : id ≠ 38) (n39 : id ≠ 39) (n40 : id ≠ 40) (n41 : id ≠ 41) (n42 : id ≠ 42) : plc id = [] := by
  unfold plc
  simp only [n1, n2, n3, n8, n9, n11, n17, n18, n19, n21, n22, n23, n24, n25, n26, n28, n31, n33, n34, n35, n36, n37, n38, n39, n40, n41, n42, or_false, if_false]
theorem lst_none (id : Int) (n11 : id ≠ 11) (n33 : id ≠ 33) (n35 : id ≠ 35) (n39 : id ≠ 39) : lst id = 0 := by
  unfold lst
  simp only [n11, n33, n35, n39, or_false, if_false]
theorem id_range (id place : Int) (h : mst id place = true) : 1 ≤ id ∧ id ≤ 42 := by
  refine id_cases (P := fun id => mst id place = true → 1 ≤ id ∧ id ≤ 42) id (fun _ => by omega) (fun _ => by omega) (fun _ => by omega) (fun _ => by omega) (fun _ => by omega) (fun _ => by omega) (fun _ => by omega) (fun _ => by omega) (fun _ => by omega) (fun _ => by omega) (fun _ => by omega) (fun _ => by omega) (fun _ => by omega) (fun _ => by omega) (fun _ => by omega) (fun _ => by omega) (fun _ => by omega) (fun _ => by omega) (fun _ => by omega) (fun _ => by omega) (fun _ => by omega) (fun _ => by omega) (fun _ => by omega) (fun _ => by omega) (fun _ => by omega) (fun _ => by omega) (fun _ => by omega) ?_ h
  intro n1 n2 n3 n8 n9 n11 n17 n18 n19 n21 n22 n23 n24 n25 n26 n28 n31 n33 n34 n35 n36 n37 n38 n39 n40 n41 n42 h
  unfold mst at h
  rw [plc_none id n1 n2 n3 n8 n9 n11 n17 n18 n19 n21 n22 n23 n24 n25 n26 n28 n31 n33 n34 n35 n36 n37 n38 n39 n40 n41 n42] at h
  simp at h
theorem not_may_none (id n : Int) (s t : ByteArray) (h : kd id = 0) : may (id, n, s, t) = false := by
  unfold may txo
  simp [h]
theorem tx_len_le (s : ByteArray) (h : s.size ≤ 65535) : (tx s).length ≤ 65537 := by rw [tx_length]; omega
theorem pvb_le (p : Pr) (h : may p = true) : (pvb p).length ≤ 131074 := by
  have hv := (V.put_len p.2.1).2
  unfold may txo at h
  rw [Bool.and_eq_true] at h
  have h2 := h.2
  unfold pvb
  by_cases k1 : kd p.1 = 1
  · rw [if_pos k1]; simp
  rw [if_neg k1]
  by_cases k2 : kd p.1 = 2
  · rw [if_pos k2]; simp
  rw [if_neg k2]
  by_cases k4 : kd p.1 = 4
  · rw [if_pos k4]; simp
  rw [if_neg k4]
  by_cases k5 : kd p.1 = 5
  · rw [if_pos k5]; omega
  rw [if_neg k5]
  by_cases k8 : kd p.1 = 8
  · rw [if_pos k8]
    rw [if_neg (by omega), if_neg (by omega), if_pos k8, Bool.and_eq_true, decide_eq_true_eq, decide_eq_true_eq] at h2
    have a := chk_0 h2.1
    have b := chk_0 h2.2
    rw [sb_length] at a b
    rw [List.length_append, tx_length, tx_length]
    omega
  rw [if_neg k8]
  by_cases k6 : kd p.1 = 6
  · rw [if_pos k6, decide_eq_true_eq] at h2
    have a := chk_0 h2
    rw [sb_length] at a
    rw [tx_length]; omega
  rw [if_neg k6] at h2
  by_cases k7 : kd p.1 = 7
  · rw [if_pos k7, decide_eq_true_eq] at h2
    rw [tx_length]; omega
  rw [if_neg k7, if_neg k8, decide_eq_true_eq] at h2
  exfalso
  revert h2 k1 k2 k4 k5 k6 k7 k8
  unfold kd
  repeat' split
  all_goals omega
theorem pb_le (p : Pr) (h : may p = true) : 1 ≤ (pb p).length ∧ (pb p).length ≤ 131078 := by
  have a := V.put_len p.1
  have b := pvb_le p h
  unfold pb
  rw [List.length_append]; omega
theorem body_snoc (l : List Pr) (p : Pr) : body (l ++ [p]) = body l ++ pb p := by unfold body; simp
theorem take_snoc0 (l : List Pr) (k : Nat) (h : k < l.length) : l.take (k + 1) = l.take k ++ [at0 l k] := by
  unfold at0
  rw [List.take_add_one, List.getD_eq_getElem?_getD, List.getElem?_eq_getElem h]; rfl
theorem body_take (l : List Pr) (k : Nat) (h : k < l.length) : body (l.take (k + 1)) = body (l.take k) ++ pb (at0 l k) := by rw [take_snoc0 l k h, body_snoc]
theorem seen_succ (l : List Pr) (k : Nat) (h : k < l.length) (id : Int) : seen l (k + 1) id = (seen l k id || decide ((at0 l k).1 = id)) := by
  unfold seen
  rw [take_snoc0 l k h, List.any_append]; simp
theorem seen_zero (l : List Pr) (id : Int) : seen l 0 id = false := by unfold seen; simp
/-- what Check tells of a list that fails at a place -/
theorem chkP_bad (place : Int) (l : List Pr) (k : Nat) (hk : k < l.length) (h : okAt place l k = false) : chkP place l = 1 := by
  unfold chkP
  rw [if_neg]
  intro a
  rw [a k hk] at h
  cases h
theorem chkP_ok (place : Int) (l : List Pr) (h : ∀ i, i < l.length → okAt place l i = true) (hl : l.length ≤ 32) : chkP place l = 0 := by
  unfold chkP
  rw [if_pos h, if_pos hl]
theorem chkP_lim (place : Int) (l : List Pr) (h : ∀ i, i < l.length → okAt place l i = true) (hl : 32 < l.length) : chkP place l = 2 := by
  unfold chkP
  rw [if_pos h, if_neg (by omega)]
/-- nothing fails ahead of the place k -/
def okTo (place : Int) (l : List Pr) (k : Nat) : Prop := ∀ i, i < k → okAt place l i = true
theorem okTo_zero (place : Int) (l : List Pr) : okTo place l 0 := fun i h => absurd h (Nat.not_lt_zero i)
theorem okTo_succ {place : Int} {l : List Pr} {k : Nat} (h : okTo place l k) (h' : okAt place l k = true) : okTo place l (k + 1) := fun i hi => by
  rcases Nat.lt_or_ge i k with a | a
  · exact h i a
  · obtain rfl : i = k := by omega
    exact h'
theorem okAt_may {place : Int} {l : List Pr} {k : Nat} (h : okAt place l k = true) : may (at0 l k) = true ∧ mst (at0 l k).1 place = true := by
  unfold okAt at h
  rw [Bool.and_eq_true, Bool.and_eq_true] at h
  exact ⟨h.1.2, h.1.1⟩
theorem body_le (l : List Pr) (place : Int) : ∀ k, k ≤ l.length → okTo place l k → (body (l.take k)).length ≤ k * 131078 := by
  intro k
  induction k with
  | zero => intro _ _; simp [body]
  | succ k ih =>
    intro hk ho
    have a := ih (by omega) (fun i hi => ho i (by omega))
    have b := (pb_le _ (okAt_may (ho k (by omega))).1).2
    rw [body_take l k (by omega), List.length_append]
    omega
end Go.Proofs.YtoocdfgjkeheaaaGreatDoor
/- Proved here: dovecoteref1.Put tells the same bytes as varint.Put, in memory of its own. Helper contract. -/
namespace Go.Proofs.YtoocdfgjkeheaaaGreatDoor.V
open Go.RowKit
set_option maxRecDepth 100000

theorem Tryz.infoU8 : (Tryz.prog.info? 5).map (fun i => (i.zero, i.size, i.bytes)) = some (some (.int .u8 0), 1, 1) := by kernel_rfl

theorem put_step (m : Int) (h0 : 128 ≤ m) (h1 : m ≤ 268435455) : put m = (m % 128 + 128) :: put (m / 128) := by
  unfold put
  rw [if_neg (show ¬ m < 128 by omega)]
  by_cases b : m < 16384
  · rw [if_pos b, if_pos (show m / 128 < 128 by omega)]
  · rw [if_neg b, if_neg (show ¬ m / 128 < 128 by omega)]
    by_cases c : m < 2097152
    · rw [if_pos c, if_pos (show m / 128 < 16384 by omega), show m / 128 / 128 = m / 16384 by omega]
    · rw [if_neg c, if_neg (show ¬ m / 128 < 16384 by omega), if_pos (show m / 128 < 2097152 by omega), show m / 128 / 128 = m / 16384 by omega, show m / 128 / 16384 = m / 2097152 by omega]

set_option maxHeartbeats 1000000 in
theorem rput_any (n : Int) (w : World) (h0 : 0 ≤ n) (h1 : n ≤ 268435455) :
    Calls Tryz.prog 62 #[.int .i64 n] w fun e w' => ∃ v, e = .returned v ∧ w'.ownsRow w.heap.size 5 1 v (put n).length ((put n).map (Value.int .u8)) ∧ Below w.heap.size w w' := by
  obtain ⟨i0, hi, hz0, hz1, hz2⟩ := info_parts Tryz.infoU8
  go_enter Tryz.func62, Tryz.ntmps62
  go_wp2
  go_loopw [0, 3] (fun t b wr => ∃ (m : Int) (l : List Int), 0 ≤ m ∧ m ≤ 268435455 ∧ t = .int .i64 m ∧ Hid (l ++ put m = put n) ∧ wr.ownsRow w.heap.size 5 1 b l.length (l.map (Value.int .u8)) ∧ Below w.heap.size w wr) (fun t _ _ => (intOf t).toNat)
  case atStart => exact ⟨n, [], h0, h1, rfl, rfl, World.ownsRow_nil _ _ _ _, Below.refl _ _⟩
  case round =>
    obtain ⟨m, l, hm0, hm1, rfl, hl, hown, hbel⟩ := hrel
    by_cases hlt : 128 ≤ m
    · have hx : bits .or .u8 (m % 128) 128 = m % 128 + 128 := by rw [more_of' _ (by omega) (by omega)]; omega
      have hput := hide (put_step m hlt hm1)
      have hlen := put_len n
      have hll : l.length ≤ 4 := by
        have := congrArg List.length (unhide hl); rw [List.length_append] at this; omega
      go_wp2_with (first
        | (at_builtin; refine wpList_append_own _ rfl _ _ 31 rfl w.heap.size 5 i0 (.int .u8 0) 1 1 Tryz.underlying31 hi hz0 hz1 hz2 rfl (by decide) _ _ _ rfl (hown.alloc _) ⟨wr.heap.size, 0, none⟩ 1 1 [.int .u8 (m % 128 + 128)] rfl rfl ?c1 ?c2 ?c3 ?c4 ?c5 ?_)
        | go_in)
      case c1 =>
        intro j u hj
        match j, hj with
        | 0, hj => simp at hj; subst hj; simp [Addr.add]
      case c2 => intro u hu; simp at hu; subst hu; rfl
      case c3 => unfold maxLen; omega
      case c4 => omega
      case c5 => have := hbel.size; simp; omega
      intro v' w1 hown' hgrow _
      have hb1 : Below w.heap.size w w1 := (hbel.alloc hbel.size _).grown hgrow (by have := hbel.size; simp; omega) (fun k hk => (hown.lt k hk).1)
      clear hgrow hown hbel
      go_wp2
      go_roundw
      case rel => exact ⟨m / 128, l ++ [m % 128 + 128], by omega, by omega, rfl, by show _ = _; rw [List.append_assoc, List.singleton_append, ← unhide hput]; exact unhide hl, by simpa using hown', hb1⟩
      case measure => simp [intOf]; omega
    · have hlen := put_len n
      have hput : put m = [m] := by unfold put; rw [if_pos (by omega)]
      have hfin : l ++ [m] = put n := by rw [← hput]; exact unhide hl
      have HF := hide hfin
      have hll : l.length ≤ 4 := by
        have := congrArg List.length hfin; rw [List.length_append] at this; omega
      clear hput hfin
      go_wp2_with (first
        | (at_builtin; refine wpList_append_own _ rfl _ _ 31 rfl w.heap.size 5 i0 (.int .u8 0) 1 1 Tryz.underlying31 hi hz0 hz1 hz2 rfl (by decide) _ _ _ rfl (hown.alloc _) ⟨wr.heap.size, 0, none⟩ 1 1 [.int .u8 m] rfl rfl ?d1 ?d2 ?d3 ?d4 ?d5 ?_)
        | go_in)
      case d2 => rfl
      case d3 => unfold maxLen; omega
      case d4 => omega
      case d5 => have := hbel.size; simp; omega
      intro v' w1 hown' hgrow _
      have hb1 : Below w.heap.size w w1 := (hbel.alloc hbel.size _).grown hgrow (by have := hbel.size; simp; omega) (fun k hk => (hown.lt k hk).1)
      clear hgrow hown hbel
      go_wp2
      go_ret
      refine ⟨_, rfl, ?_, hb1⟩
      rw [← unhide HF]
      simpa using hown'
end Go.Proofs.YtoocdfgjkeheaaaGreatDoor.V
/- Proved here: varint.Get tells the number with whose bytes any bytes begin and how many they are, or a Fault around ErrShort or ErrForm; dovecoteref1.Get tells the same. Helper contracts. -/
namespace Go.Proofs.YtoocdfgjkeheaaaGreatDoor.V
open Go.RowKit
set_option maxRecDepth 100000

theorem ofInt_64 (a : Nat) (ha : a < 18446744073709551616) : (BitVec.ofInt 64 (a : Int)).toNat = a := by
  rw [BitVec.ofInt_natCast, BitVec.toNat_ofNat]; exact Nat.mod_eq_of_lt (by omega)
theorem i64_or_nat (a b : Nat) (ha : a < 4611686018427387904) (hb : b < 4611686018427387904) : bits .or .i64 (a : Int) (b : Int) = ((a ||| b : Nat) : Int) := by
  have hx : a ||| b < 2 ^ 62 := Nat.or_lt_two_pow (by omega) (by omega)
  show IntKind.i64.wrap ((BitVec.ofInt 64 (a : Int) ||| BitVec.ofInt 64 (b : Int)).toNat : Int) = _
  rw [BitVec.toNat_or, ofInt_64 a (by omega), ofInt_64 b (by omega), IntKind.wrap_i64]
  omega
theorem or_hi (i : Nat) (x y : Int) (hx0 : 0 ≤ x) (hx1 : x < 4611686018427387904) (hy0 : 0 ≤ y) (hy1 : y < 4611686018427387904) (hm : x.toNat % 2 ^ i = 0) (hy : y.toNat < 2 ^ i) : bits .or .i64 x y = x + y := by
  obtain ⟨a, rfl⟩ := Int.eq_ofNat_of_zero_le hx0
  obtain ⟨b, rfl⟩ := Int.eq_ofNat_of_zero_le hy0
  rw [i64_or_nat a b (by omega) (by omega), nat_join i a b (by simpa using hm) (by simpa using hy)]
  omega
theorem or_lo (i : Nat) (x y : Int) (hx0 : 0 ≤ x) (hx1 : x < 4611686018427387904) (hy0 : 0 ≤ y) (hy1 : y < 4611686018427387904) (hm : y.toNat % 2 ^ i = 0) (hx : x.toNat < 2 ^ i) : bits .or .i64 x y = x + y := by
  obtain ⟨a, rfl⟩ := Int.eq_ofNat_of_zero_le hx0
  obtain ⟨b, rfl⟩ := Int.eq_ofNat_of_zero_le hy0
  rw [i64_or_nat a b (by omega) (by omega), Nat.or_comm, nat_join i b a (by simpa using hm) (by simpa using hx)]
  omega
theorem or_zero (y : Int) (hy0 : 0 ≤ y) (hy1 : y < 4611686018427387904) : bits .or .i64 0 y = y := by
  rw [or_lo 0 0 y (by omega) (by omega) hy0 hy1 (by omega) (by decide)]; omega
theorem and128_hi (x : Int) (h0 : 128 ≤ x) (h1 : x ≤ 255) : bits .and .u8 x 128 = 128 := by
  rw [and128 x (by omega) (by omega), if_neg (by omega)]
theorem and128_lo (x : Int) (h0 : 0 ≤ x) (h1 : x < 128) : bits .and .u8 x 128 = 0 := by
  rw [and128 x (by omega) (by omega), if_pos (by omega)]
theorem and127_hi (x : Int) (h0 : 128 ≤ x) (h1 : x ≤ 255) : bits .and .u8 x 127 = x - 128 := by
  rw [and127 x (by omega) (by omega)]; omega
theorem and127_lo (x : Int) (h0 : 0 ≤ x) (h1 : x < 128) : bits .and .u8 x 127 = x := by
  rw [and127 x (by omega) (by omega)]; omega

theorem meas_s0 (ao : Option Addr) (cap : Nat) (w : World) :
    Calls Tryz.prog 160 #[.slice ao 0 cap] w fun e w' => e = .returned (.tuple #[.int .i64 0, .iface 149 (.pointer (some ⟨w.heap.size, 0, none⟩))]) ∧ w' = w.alloc (.cells #[.string ⟨#[118, 97, 114, 105, 110, 116]⟩, .iface 84 (.int .i64 3)] 151) := by
  go_enter Tryz.func160, Tryz.ntmps160
  go_wp2
  refine wp_loop_rounds 1 ?_
  rw [rounds_succ]
  go_wp2_with (go_at_call 99; refine (fault_any _ _).mono ?_; rintro e w' ⟨rfl, rfl⟩)
  go_ret2
  exact ⟨rfl, rfl⟩

theorem meas_o1 (b off len cap : Nat) (x0 : Int) (w : World) (hlen : len ≤ maxLen) (hl : 0 < len) (c0 : w.cell? ⟨b, off, none⟩ = some (.int .u8 x0)) (p0 : 0 ≤ x0) (p1 : x0 < 128) :
    Calls Tryz.prog 160 #[.slice (some ⟨b, off, none⟩) len cap] w fun e w' => e = .returned (.tuple #[.int .i64 1, .nilIface]) ∧ w' = w := by
  unfold maxLen at hlen
  have k0 := and128_lo x0 (by omega) p1
  go_enter Tryz.func160, Tryz.ntmps160
  go_wp2
  refine wp_loop_rounds 1 ?_
  rw [rounds_succ]
  go_wp2
  go_ret2
  exact ⟨rfl, rfl⟩

theorem meas_s1 (b off len cap : Nat) (x0 : Int) (w : World) (hlen : len ≤ maxLen) (hl : len = 1) (c0 : w.cell? ⟨b, off, none⟩ = some (.int .u8 x0)) (r0 : 0 ≤ x0 ∧ x0 ≤ 255) (g0 : 128 ≤ x0) :
    Calls Tryz.prog 160 #[.slice (some ⟨b, off, none⟩) len cap] w fun e w' => e = .returned (.tuple #[.int .i64 0, .iface 149 (.pointer (some ⟨w.heap.size, 0, none⟩))]) ∧ w' = w.alloc (.cells #[.string ⟨#[118, 97, 114, 105, 110, 116]⟩, .iface 84 (.int .i64 3)] 151) := by
  unfold maxLen at hlen
  have k0 := and128_hi x0 g0 r0.2
  subst hl
  go_enter Tryz.func160, Tryz.ntmps160
  go_wp2
  refine wp_loop_rounds 2 ?_
  rw [rounds_succ]
  go_wp2
  rw [rounds_succ]
  go_wp2_with (go_at_call 99; refine (fault_any _ _).mono ?_; rintro e w' ⟨rfl, rfl⟩)
  go_ret2
  exact ⟨rfl, rfl⟩

theorem meas_z2 (b off len cap : Nat) (x0 x1 : Int) (w : World) (hlen : len ≤ maxLen) (hl : 1 < len) (c0 : w.cell? ⟨b, off, none⟩ = some (.int .u8 x0)) (r0 : 0 ≤ x0 ∧ x0 ≤ 255) (c1 : w.cell? ⟨b, off + 1, none⟩ = some (.int .u8 x1)) (g0 : 128 ≤ x0) (p0 : x1 = 0) :
    Calls Tryz.prog 160 #[.slice (some ⟨b, off, none⟩) len cap] w fun e w' => e = .returned (.tuple #[.int .i64 0, .iface 149 (.pointer (some ⟨w.heap.size, 0, none⟩))]) ∧ w' = w.alloc (.cells #[.string ⟨#[118, 97, 114, 105, 110, 116]⟩, .iface 84 (.int .i64 1)] 151) := by
  unfold maxLen at hlen
  have k0 := and128_hi x0 g0 r0.2
  subst p0
  have k1 := and128_lo 0 (by omega) (by omega)
  go_enter Tryz.func160, Tryz.ntmps160
  go_wp2
  refine wp_loop_rounds 2 ?_
  rw [rounds_succ]
  go_wp2
  rw [rounds_succ]
  go_wp2_with (go_at_call 99; refine (fault_any _ _).mono ?_; rintro e w' ⟨rfl, rfl⟩)
  go_ret2
  exact ⟨rfl, rfl⟩

theorem meas_o2 (b off len cap : Nat) (x0 x1 : Int) (w : World) (hlen : len ≤ maxLen) (hl : 1 < len) (c0 : w.cell? ⟨b, off, none⟩ = some (.int .u8 x0)) (r0 : 0 ≤ x0 ∧ x0 ≤ 255) (c1 : w.cell? ⟨b, off + 1, none⟩ = some (.int .u8 x1)) (g0 : 128 ≤ x0) (p0 : 1 ≤ x1) (p1 : x1 < 128) :
    Calls Tryz.prog 160 #[.slice (some ⟨b, off, none⟩) len cap] w fun e w' => e = .returned (.tuple #[.int .i64 2, .nilIface]) ∧ w' = w := by
  unfold maxLen at hlen
  have k0 := and128_hi x0 g0 r0.2
  have k1 := and128_lo x1 (by omega) p1
  go_enter Tryz.func160, Tryz.ntmps160
  go_wp2
  refine wp_loop_rounds 2 ?_
  rw [rounds_succ]
  go_wp2
  rw [rounds_succ]
  go_wp2
  go_ret2
  exact ⟨rfl, rfl⟩

theorem meas_s2 (b off len cap : Nat) (x0 x1 : Int) (w : World) (hlen : len ≤ maxLen) (hl : len = 2) (c0 : w.cell? ⟨b, off, none⟩ = some (.int .u8 x0)) (r0 : 0 ≤ x0 ∧ x0 ≤ 255) (c1 : w.cell? ⟨b, off + 1, none⟩ = some (.int .u8 x1)) (r1 : 0 ≤ x1 ∧ x1 ≤ 255) (g0 : 128 ≤ x0) (g1 : 128 ≤ x1) :
    Calls Tryz.prog 160 #[.slice (some ⟨b, off, none⟩) len cap] w fun e w' => e = .returned (.tuple #[.int .i64 0, .iface 149 (.pointer (some ⟨w.heap.size, 0, none⟩))]) ∧ w' = w.alloc (.cells #[.string ⟨#[118, 97, 114, 105, 110, 116]⟩, .iface 84 (.int .i64 3)] 151) := by
  unfold maxLen at hlen
  have k0 := and128_hi x0 g0 r0.2
  have k1 := and128_hi x1 g1 r1.2
  subst hl
  go_enter Tryz.func160, Tryz.ntmps160
  go_wp2
  refine wp_loop_rounds 3 ?_
  rw [rounds_succ]
  go_wp2
  rw [rounds_succ]
  go_wp2
  rw [rounds_succ]
  go_wp2_with (go_at_call 99; refine (fault_any _ _).mono ?_; rintro e w' ⟨rfl, rfl⟩)
  go_ret2
  exact ⟨rfl, rfl⟩

theorem meas_z3 (b off len cap : Nat) (x0 x1 x2 : Int) (w : World) (hlen : len ≤ maxLen) (hl : 2 < len) (c0 : w.cell? ⟨b, off, none⟩ = some (.int .u8 x0)) (r0 : 0 ≤ x0 ∧ x0 ≤ 255) (c1 : w.cell? ⟨b, off + 1, none⟩ = some (.int .u8 x1)) (r1 : 0 ≤ x1 ∧ x1 ≤ 255) (c2 : w.cell? ⟨b, off + 2, none⟩ = some (.int .u8 x2)) (g0 : 128 ≤ x0) (g1 : 128 ≤ x1) (p0 : x2 = 0) :
    Calls Tryz.prog 160 #[.slice (some ⟨b, off, none⟩) len cap] w fun e w' => e = .returned (.tuple #[.int .i64 0, .iface 149 (.pointer (some ⟨w.heap.size, 0, none⟩))]) ∧ w' = w.alloc (.cells #[.string ⟨#[118, 97, 114, 105, 110, 116]⟩, .iface 84 (.int .i64 1)] 151) := by
  unfold maxLen at hlen
  have k0 := and128_hi x0 g0 r0.2
  have k1 := and128_hi x1 g1 r1.2
  subst p0
  have k2 := and128_lo 0 (by omega) (by omega)
  go_enter Tryz.func160, Tryz.ntmps160
  go_wp2
  refine wp_loop_rounds 3 ?_
  rw [rounds_succ]
  go_wp2
  rw [rounds_succ]
  go_wp2
  rw [rounds_succ]
  go_wp2_with (go_at_call 99; refine (fault_any _ _).mono ?_; rintro e w' ⟨rfl, rfl⟩)
  go_ret2
  exact ⟨rfl, rfl⟩

theorem meas_o3 (b off len cap : Nat) (x0 x1 x2 : Int) (w : World) (hlen : len ≤ maxLen) (hl : 2 < len) (c0 : w.cell? ⟨b, off, none⟩ = some (.int .u8 x0)) (r0 : 0 ≤ x0 ∧ x0 ≤ 255) (c1 : w.cell? ⟨b, off + 1, none⟩ = some (.int .u8 x1)) (r1 : 0 ≤ x1 ∧ x1 ≤ 255) (c2 : w.cell? ⟨b, off + 2, none⟩ = some (.int .u8 x2)) (g0 : 128 ≤ x0) (g1 : 128 ≤ x1) (p0 : 1 ≤ x2) (p1 : x2 < 128) :
    Calls Tryz.prog 160 #[.slice (some ⟨b, off, none⟩) len cap] w fun e w' => e = .returned (.tuple #[.int .i64 3, .nilIface]) ∧ w' = w := by
  unfold maxLen at hlen
  have k0 := and128_hi x0 g0 r0.2
  have k1 := and128_hi x1 g1 r1.2
  have k2 := and128_lo x2 (by omega) p1
  go_enter Tryz.func160, Tryz.ntmps160
  go_wp2
  refine wp_loop_rounds 3 ?_
  rw [rounds_succ]
  go_wp2
  rw [rounds_succ]
  go_wp2
  rw [rounds_succ]
  go_wp2
  go_ret2
  exact ⟨rfl, rfl⟩

theorem meas_s3 (b off len cap : Nat) (x0 x1 x2 : Int) (w : World) (hlen : len ≤ maxLen) (hl : len = 3) (c0 : w.cell? ⟨b, off, none⟩ = some (.int .u8 x0)) (r0 : 0 ≤ x0 ∧ x0 ≤ 255) (c1 : w.cell? ⟨b, off + 1, none⟩ = some (.int .u8 x1)) (r1 : 0 ≤ x1 ∧ x1 ≤ 255) (c2 : w.cell? ⟨b, off + 2, none⟩ = some (.int .u8 x2)) (r2 : 0 ≤ x2 ∧ x2 ≤ 255) (g0 : 128 ≤ x0) (g1 : 128 ≤ x1) (g2 : 128 ≤ x2) :
    Calls Tryz.prog 160 #[.slice (some ⟨b, off, none⟩) len cap] w fun e w' => e = .returned (.tuple #[.int .i64 0, .iface 149 (.pointer (some ⟨w.heap.size, 0, none⟩))]) ∧ w' = w.alloc (.cells #[.string ⟨#[118, 97, 114, 105, 110, 116]⟩, .iface 84 (.int .i64 3)] 151) := by
  unfold maxLen at hlen
  have k0 := and128_hi x0 g0 r0.2
  have k1 := and128_hi x1 g1 r1.2
  have k2 := and128_hi x2 g2 r2.2
  subst hl
  go_enter Tryz.func160, Tryz.ntmps160
  go_wp2
  refine wp_loop_rounds 4 ?_
  rw [rounds_succ]
  go_wp2
  rw [rounds_succ]
  go_wp2
  rw [rounds_succ]
  go_wp2
  rw [rounds_succ]
  go_wp2_with (go_at_call 99; refine (fault_any _ _).mono ?_; rintro e w' ⟨rfl, rfl⟩)
  go_ret2
  exact ⟨rfl, rfl⟩

theorem meas_z4 (b off len cap : Nat) (x0 x1 x2 x3 : Int) (w : World) (hlen : len ≤ maxLen) (hl : 3 < len) (c0 : w.cell? ⟨b, off, none⟩ = some (.int .u8 x0)) (r0 : 0 ≤ x0 ∧ x0 ≤ 255) (c1 : w.cell? ⟨b, off + 1, none⟩ = some (.int .u8 x1)) (r1 : 0 ≤ x1 ∧ x1 ≤ 255) (c2 : w.cell? ⟨b, off + 2, none⟩ = some (.int .u8 x2)) (r2 : 0 ≤ x2 ∧ x2 ≤ 255) (c3 : w.cell? ⟨b, off + 3, none⟩ = some (.int .u8 x3)) (g0 : 128 ≤ x0) (g1 : 128 ≤ x1) (g2 : 128 ≤ x2) (p0 : x3 = 0) :
    Calls Tryz.prog 160 #[.slice (some ⟨b, off, none⟩) len cap] w fun e w' => e = .returned (.tuple #[.int .i64 0, .iface 149 (.pointer (some ⟨w.heap.size, 0, none⟩))]) ∧ w' = w.alloc (.cells #[.string ⟨#[118, 97, 114, 105, 110, 116]⟩, .iface 84 (.int .i64 1)] 151) := by
  unfold maxLen at hlen
  have k0 := and128_hi x0 g0 r0.2
  have k1 := and128_hi x1 g1 r1.2
  have k2 := and128_hi x2 g2 r2.2
  subst p0
  have k3 := and128_lo 0 (by omega) (by omega)
  go_enter Tryz.func160, Tryz.ntmps160
  go_wp2
  refine wp_loop_rounds 4 ?_
  rw [rounds_succ]
  go_wp2
  rw [rounds_succ]
  go_wp2
  rw [rounds_succ]
  go_wp2
  rw [rounds_succ]
  go_wp2_with (go_at_call 99; refine (fault_any _ _).mono ?_; rintro e w' ⟨rfl, rfl⟩)
  go_ret2
  exact ⟨rfl, rfl⟩

theorem meas_o4 (b off len cap : Nat) (x0 x1 x2 x3 : Int) (w : World) (hlen : len ≤ maxLen) (hl : 3 < len) (c0 : w.cell? ⟨b, off, none⟩ = some (.int .u8 x0)) (r0 : 0 ≤ x0 ∧ x0 ≤ 255) (c1 : w.cell? ⟨b, off + 1, none⟩ = some (.int .u8 x1)) (r1 : 0 ≤ x1 ∧ x1 ≤ 255) (c2 : w.cell? ⟨b, off + 2, none⟩ = some (.int .u8 x2)) (r2 : 0 ≤ x2 ∧ x2 ≤ 255) (c3 : w.cell? ⟨b, off + 3, none⟩ = some (.int .u8 x3)) (g0 : 128 ≤ x0) (g1 : 128 ≤ x1) (g2 : 128 ≤ x2) (p0 : 1 ≤ x3) (p1 : x3 < 128) :
    Calls Tryz.prog 160 #[.slice (some ⟨b, off, none⟩) len cap] w fun e w' => e = .returned (.tuple #[.int .i64 4, .nilIface]) ∧ w' = w := by
  unfold maxLen at hlen
  have k0 := and128_hi x0 g0 r0.2
  have k1 := and128_hi x1 g1 r1.2
  have k2 := and128_hi x2 g2 r2.2
  have k3 := and128_lo x3 (by omega) p1
  go_enter Tryz.func160, Tryz.ntmps160
  go_wp2
  refine wp_loop_rounds 4 ?_
  rw [rounds_succ]
  go_wp2
  rw [rounds_succ]
  go_wp2
  rw [rounds_succ]
  go_wp2
  rw [rounds_succ]
  go_wp2
  go_ret2
  exact ⟨rfl, rfl⟩

theorem meas_l4 (b off len cap : Nat) (x0 x1 x2 x3 : Int) (w : World) (hlen : len ≤ maxLen) (hl : 3 < len) (c0 : w.cell? ⟨b, off, none⟩ = some (.int .u8 x0)) (r0 : 0 ≤ x0 ∧ x0 ≤ 255) (c1 : w.cell? ⟨b, off + 1, none⟩ = some (.int .u8 x1)) (r1 : 0 ≤ x1 ∧ x1 ≤ 255) (c2 : w.cell? ⟨b, off + 2, none⟩ = some (.int .u8 x2)) (r2 : 0 ≤ x2 ∧ x2 ≤ 255) (c3 : w.cell? ⟨b, off + 3, none⟩ = some (.int .u8 x3)) (r3 : 0 ≤ x3 ∧ x3 ≤ 255) (g0 : 128 ≤ x0) (g1 : 128 ≤ x1) (g2 : 128 ≤ x2) (g3 : 128 ≤ x3) :
    Calls Tryz.prog 160 #[.slice (some ⟨b, off, none⟩) len cap] w fun e w' => e = .returned (.tuple #[.int .i64 0, .iface 149 (.pointer (some ⟨w.heap.size, 0, none⟩))]) ∧ w' = w.alloc (.cells #[.string ⟨#[118, 97, 114, 105, 110, 116]⟩, .iface 84 (.int .i64 1)] 151) := by
  unfold maxLen at hlen
  have k0 := and128_hi x0 g0 r0.2
  have k1 := and128_hi x1 g1 r1.2
  have k2 := and128_hi x2 g2 r2.2
  have k3 := and128_hi x3 g3 r3.2
  go_enter Tryz.func160, Tryz.ntmps160
  go_wp2
  refine wp_loop_rounds 5 ?_
  rw [rounds_succ]
  go_wp2
  rw [rounds_succ]
  go_wp2
  rw [rounds_succ]
  go_wp2
  rw [rounds_succ]
  go_wp2
  rw [rounds_succ]
  go_wp2_with (go_at_call 99; refine (fault_any _ _).mono ?_; rintro e w' ⟨rfl, rfl⟩)
  go_ret2
  exact ⟨rfl, rfl⟩

theorem get_s0 (ao : Option Addr) (cap : Nat) (w : World) :
    Calls Tryz.prog 116 #[.slice ao 0 cap] w fun e w' => e = .returned (.tuple #[.int .i64 0, .int .i64 0, .iface 149 (.pointer (some ⟨w.heap.size, 0, none⟩))]) ∧ w' = w.alloc (.cells #[.string ⟨#[118, 97, 114, 105, 110, 116]⟩, .iface 84 (.int .i64 3)] 151) := by
  have HM := hide (meas_s0 ao cap w)
  go_enter Tryz.func116, Tryz.ntmps116
  go_wp2_with (go_at_call 160; refine (unhide HM).mono ?_; rintro e w' ⟨rfl, rfl⟩)
  go_ret3
  exact ⟨rfl, rfl⟩

theorem get_o1 (b off len cap : Nat) (x0 : Int) (w : World) (hlen : len ≤ maxLen) (hl : 0 < len) (c0 : w.cell? ⟨b, off, none⟩ = some (.int .u8 x0)) (p0 : 0 ≤ x0) (p1 : x0 < 128) :
    Calls Tryz.prog 116 #[.slice (some ⟨b, off, none⟩) len cap] w fun e w' => e = .returned (.tuple #[.int .i64 (x0), .int .i64 1, .nilIface]) ∧ w' = w := by
  have HM := hide (meas_o1 b off len cap x0 w hlen hl c0 p0 p1)
  unfold maxLen at hlen
  have k0 := and127_lo x0 (by omega) p1
  go_enter Tryz.func116, Tryz.ntmps116
  go_wp2_with (go_at_call 160; refine (unhide HM).mono ?_; rintro e w' ⟨rfl, rfl⟩)
  go_ret3
  refine ⟨congrArg (fun z : Int => Ending.returned (.tuple #[.int .i64 z, .int .i64 1, .nilIface])) ?_, rfl⟩
  rw [or_zero (x0) (by omega) (by omega)]

theorem get_s1 (b off len cap : Nat) (x0 : Int) (w : World) (hlen : len ≤ maxLen) (hl : len = 1) (c0 : w.cell? ⟨b, off, none⟩ = some (.int .u8 x0)) (r0 : 0 ≤ x0 ∧ x0 ≤ 255) (g0 : 128 ≤ x0) :
    Calls Tryz.prog 116 #[.slice (some ⟨b, off, none⟩) len cap] w fun e w' => e = .returned (.tuple #[.int .i64 0, .int .i64 0, .iface 149 (.pointer (some ⟨w.heap.size, 0, none⟩))]) ∧ w' = w.alloc (.cells #[.string ⟨#[118, 97, 114, 105, 110, 116]⟩, .iface 84 (.int .i64 3)] 151) := by
  have HM := hide (meas_s1 b off len cap x0 w hlen hl c0 r0 g0)
  unfold maxLen at hlen
  subst hl
  go_enter Tryz.func116, Tryz.ntmps116
  go_wp2_with (go_at_call 160; refine (unhide HM).mono ?_; rintro e w' ⟨rfl, rfl⟩)
  go_ret3
  exact ⟨rfl, rfl⟩

theorem get_z2 (b off len cap : Nat) (x0 x1 : Int) (w : World) (hlen : len ≤ maxLen) (hl : 1 < len) (c0 : w.cell? ⟨b, off, none⟩ = some (.int .u8 x0)) (r0 : 0 ≤ x0 ∧ x0 ≤ 255) (c1 : w.cell? ⟨b, off + 1, none⟩ = some (.int .u8 x1)) (g0 : 128 ≤ x0) (p0 : x1 = 0) :
    Calls Tryz.prog 116 #[.slice (some ⟨b, off, none⟩) len cap] w fun e w' => e = .returned (.tuple #[.int .i64 0, .int .i64 0, .iface 149 (.pointer (some ⟨w.heap.size, 0, none⟩))]) ∧ w' = w.alloc (.cells #[.string ⟨#[118, 97, 114, 105, 110, 116]⟩, .iface 84 (.int .i64 1)] 151) := by
  have HM := hide (meas_z2 b off len cap x0 x1 w hlen hl c0 r0 c1 g0 p0)
  unfold maxLen at hlen
  subst p0
  go_enter Tryz.func116, Tryz.ntmps116
  go_wp2_with (go_at_call 160; refine (unhide HM).mono ?_; rintro e w' ⟨rfl, rfl⟩)
  go_ret3
  exact ⟨rfl, rfl⟩

theorem get_o2 (b off len cap : Nat) (x0 x1 : Int) (w : World) (hlen : len ≤ maxLen) (hl : 1 < len) (c0 : w.cell? ⟨b, off, none⟩ = some (.int .u8 x0)) (r0 : 0 ≤ x0 ∧ x0 ≤ 255) (c1 : w.cell? ⟨b, off + 1, none⟩ = some (.int .u8 x1)) (g0 : 128 ≤ x0) (p0 : 1 ≤ x1) (p1 : x1 < 128) :
    Calls Tryz.prog 116 #[.slice (some ⟨b, off, none⟩) len cap] w fun e w' => e = .returned (.tuple #[.int .i64 ((x0 - 128) + x1 * 128), .int .i64 2, .nilIface]) ∧ w' = w := by
  have HM := hide (meas_o2 b off len cap x0 x1 w hlen hl c0 r0 c1 g0 p0 p1)
  unfold maxLen at hlen
  have k0 := and127_hi x0 g0 r0.2
  have k1 := and127_lo x1 (by omega) p1
  go_enter Tryz.func116, Tryz.ntmps116
  go_wp2_with (go_at_call 160; refine (unhide HM).mono ?_; rintro e w' ⟨rfl, rfl⟩)
  go_ret3
  refine ⟨congrArg (fun z : Int => Ending.returned (.tuple #[.int .i64 z, .int .i64 2, .nilIface])) ?_, rfl⟩
  rw [or_zero (x1 * 128) (by omega) (by omega), or_hi 7 (x1 * 128) ((x0 - 128)) (by omega) (by omega) (by omega) (by omega) (by omega) (by omega)]
  omega

theorem get_s2 (b off len cap : Nat) (x0 x1 : Int) (w : World) (hlen : len ≤ maxLen) (hl : len = 2) (c0 : w.cell? ⟨b, off, none⟩ = some (.int .u8 x0)) (r0 : 0 ≤ x0 ∧ x0 ≤ 255) (c1 : w.cell? ⟨b, off + 1, none⟩ = some (.int .u8 x1)) (r1 : 0 ≤ x1 ∧ x1 ≤ 255) (g0 : 128 ≤ x0) (g1 : 128 ≤ x1) :
    Calls Tryz.prog 116 #[.slice (some ⟨b, off, none⟩) len cap] w fun e w' => e = .returned (.tuple #[.int .i64 0, .int .i64 0, .iface 149 (.pointer (some ⟨w.heap.size, 0, none⟩))]) ∧ w' = w.alloc (.cells #[.string ⟨#[118, 97, 114, 105, 110, 116]⟩, .iface 84 (.int .i64 3)] 151) := by
  have HM := hide (meas_s2 b off len cap x0 x1 w hlen hl c0 r0 c1 r1 g0 g1)
  unfold maxLen at hlen
  subst hl
  go_enter Tryz.func116, Tryz.ntmps116
  go_wp2_with (go_at_call 160; refine (unhide HM).mono ?_; rintro e w' ⟨rfl, rfl⟩)
  go_ret3
  exact ⟨rfl, rfl⟩

theorem get_z3 (b off len cap : Nat) (x0 x1 x2 : Int) (w : World) (hlen : len ≤ maxLen) (hl : 2 < len) (c0 : w.cell? ⟨b, off, none⟩ = some (.int .u8 x0)) (r0 : 0 ≤ x0 ∧ x0 ≤ 255) (c1 : w.cell? ⟨b, off + 1, none⟩ = some (.int .u8 x1)) (r1 : 0 ≤ x1 ∧ x1 ≤ 255) (c2 : w.cell? ⟨b, off + 2, none⟩ = some (.int .u8 x2)) (g0 : 128 ≤ x0) (g1 : 128 ≤ x1) (p0 : x2 = 0) :
    Calls Tryz.prog 116 #[.slice (some ⟨b, off, none⟩) len cap] w fun e w' => e = .returned (.tuple #[.int .i64 0, .int .i64 0, .iface 149 (.pointer (some ⟨w.heap.size, 0, none⟩))]) ∧ w' = w.alloc (.cells #[.string ⟨#[118, 97, 114, 105, 110, 116]⟩, .iface 84 (.int .i64 1)] 151) := by
  have HM := hide (meas_z3 b off len cap x0 x1 x2 w hlen hl c0 r0 c1 r1 c2 g0 g1 p0)
  unfold maxLen at hlen
  subst p0
  go_enter Tryz.func116, Tryz.ntmps116
  go_wp2_with (go_at_call 160; refine (unhide HM).mono ?_; rintro e w' ⟨rfl, rfl⟩)
  go_ret3
  exact ⟨rfl, rfl⟩

theorem get_o3 (b off len cap : Nat) (x0 x1 x2 : Int) (w : World) (hlen : len ≤ maxLen) (hl : 2 < len) (c0 : w.cell? ⟨b, off, none⟩ = some (.int .u8 x0)) (r0 : 0 ≤ x0 ∧ x0 ≤ 255) (c1 : w.cell? ⟨b, off + 1, none⟩ = some (.int .u8 x1)) (r1 : 0 ≤ x1 ∧ x1 ≤ 255) (c2 : w.cell? ⟨b, off + 2, none⟩ = some (.int .u8 x2)) (g0 : 128 ≤ x0) (g1 : 128 ≤ x1) (p0 : 1 ≤ x2) (p1 : x2 < 128) :
    Calls Tryz.prog 116 #[.slice (some ⟨b, off, none⟩) len cap] w fun e w' => e = .returned (.tuple #[.int .i64 ((x0 - 128) + (x1 - 128) * 128 + x2 * 16384), .int .i64 3, .nilIface]) ∧ w' = w := by
  have HM := hide (meas_o3 b off len cap x0 x1 x2 w hlen hl c0 r0 c1 r1 c2 g0 g1 p0 p1)
  unfold maxLen at hlen
  have k0 := and127_hi x0 g0 r0.2
  have k1 := and127_hi x1 g1 r1.2
  have k2 := and127_lo x2 (by omega) p1
  go_enter Tryz.func116, Tryz.ntmps116
  go_wp2_with (go_at_call 160; refine (unhide HM).mono ?_; rintro e w' ⟨rfl, rfl⟩)
  go_ret3
  refine ⟨congrArg (fun z : Int => Ending.returned (.tuple #[.int .i64 z, .int .i64 3, .nilIface])) ?_, rfl⟩
  rw [or_zero (x2 * 16384) (by omega) (by omega), or_hi 14 (x2 * 16384) ((x1 - 128) * 128) (by omega) (by omega) (by omega) (by omega) (by omega) (by omega), or_hi 7 (x2 * 16384 + (x1 - 128) * 128) ((x0 - 128)) (by omega) (by omega) (by omega) (by omega) (by omega) (by omega)]
  omega

theorem get_s3 (b off len cap : Nat) (x0 x1 x2 : Int) (w : World) (hlen : len ≤ maxLen) (hl : len = 3) (c0 : w.cell? ⟨b, off, none⟩ = some (.int .u8 x0)) (r0 : 0 ≤ x0 ∧ x0 ≤ 255) (c1 : w.cell? ⟨b, off + 1, none⟩ = some (.int .u8 x1)) (r1 : 0 ≤ x1 ∧ x1 ≤ 255) (c2 : w.cell? ⟨b, off + 2, none⟩ = some (.int .u8 x2)) (r2 : 0 ≤ x2 ∧ x2 ≤ 255) (g0 : 128 ≤ x0) (g1 : 128 ≤ x1) (g2 : 128 ≤ x2) :
    Calls Tryz.prog 116 #[.slice (some ⟨b, off, none⟩) len cap] w fun e w' => e = .returned (.tuple #[.int .i64 0, .int .i64 0, .iface 149 (.pointer (some ⟨w.heap.size, 0, none⟩))]) ∧ w' = w.alloc (.cells #[.string ⟨#[118, 97, 114, 105, 110, 116]⟩, .iface 84 (.int .i64 3)] 151) := by
  have HM := hide (meas_s3 b off len cap x0 x1 x2 w hlen hl c0 r0 c1 r1 c2 r2 g0 g1 g2)
  unfold maxLen at hlen
  subst hl
  go_enter Tryz.func116, Tryz.ntmps116
  go_wp2_with (go_at_call 160; refine (unhide HM).mono ?_; rintro e w' ⟨rfl, rfl⟩)
  go_ret3
  exact ⟨rfl, rfl⟩

theorem get_z4 (b off len cap : Nat) (x0 x1 x2 x3 : Int) (w : World) (hlen : len ≤ maxLen) (hl : 3 < len) (c0 : w.cell? ⟨b, off, none⟩ = some (.int .u8 x0)) (r0 : 0 ≤ x0 ∧ x0 ≤ 255) (c1 : w.cell? ⟨b, off + 1, none⟩ = some (.int .u8 x1)) (r1 : 0 ≤ x1 ∧ x1 ≤ 255) (c2 : w.cell? ⟨b, off + 2, none⟩ = some (.int .u8 x2)) (r2 : 0 ≤ x2 ∧ x2 ≤ 255) (c3 : w.cell? ⟨b, off + 3, none⟩ = some (.int .u8 x3)) (g0 : 128 ≤ x0) (g1 : 128 ≤ x1) (g2 : 128 ≤ x2) (p0 : x3 = 0) :
    Calls Tryz.prog 116 #[.slice (some ⟨b, off, none⟩) len cap] w fun e w' => e = .returned (.tuple #[.int .i64 0, .int .i64 0, .iface 149 (.pointer (some ⟨w.heap.size, 0, none⟩))]) ∧ w' = w.alloc (.cells #[.string ⟨#[118, 97, 114, 105, 110, 116]⟩, .iface 84 (.int .i64 1)] 151) := by
  have HM := hide (meas_z4 b off len cap x0 x1 x2 x3 w hlen hl c0 r0 c1 r1 c2 r2 c3 g0 g1 g2 p0)
  unfold maxLen at hlen
  subst p0
  go_enter Tryz.func116, Tryz.ntmps116
  go_wp2_with (go_at_call 160; refine (unhide HM).mono ?_; rintro e w' ⟨rfl, rfl⟩)
  go_ret3
  exact ⟨rfl, rfl⟩

theorem get_o4 (b off len cap : Nat) (x0 x1 x2 x3 : Int) (w : World) (hlen : len ≤ maxLen) (hl : 3 < len) (c0 : w.cell? ⟨b, off, none⟩ = some (.int .u8 x0)) (r0 : 0 ≤ x0 ∧ x0 ≤ 255) (c1 : w.cell? ⟨b, off + 1, none⟩ = some (.int .u8 x1)) (r1 : 0 ≤ x1 ∧ x1 ≤ 255) (c2 : w.cell? ⟨b, off + 2, none⟩ = some (.int .u8 x2)) (r2 : 0 ≤ x2 ∧ x2 ≤ 255) (c3 : w.cell? ⟨b, off + 3, none⟩ = some (.int .u8 x3)) (g0 : 128 ≤ x0) (g1 : 128 ≤ x1) (g2 : 128 ≤ x2) (p0 : 1 ≤ x3) (p1 : x3 < 128) :
    Calls Tryz.prog 116 #[.slice (some ⟨b, off, none⟩) len cap] w fun e w' => e = .returned (.tuple #[.int .i64 ((x0 - 128) + (x1 - 128) * 128 + (x2 - 128) * 16384 + x3 * 2097152), .int .i64 4, .nilIface]) ∧ w' = w := by
  have HM := hide (meas_o4 b off len cap x0 x1 x2 x3 w hlen hl c0 r0 c1 r1 c2 r2 c3 g0 g1 g2 p0 p1)
  unfold maxLen at hlen
  have k0 := and127_hi x0 g0 r0.2
  have k1 := and127_hi x1 g1 r1.2
  have k2 := and127_hi x2 g2 r2.2
  have k3 := and127_lo x3 (by omega) p1
  go_enter Tryz.func116, Tryz.ntmps116
  go_wp2_with (go_at_call 160; refine (unhide HM).mono ?_; rintro e w' ⟨rfl, rfl⟩)
  go_ret3
  refine ⟨congrArg (fun z : Int => Ending.returned (.tuple #[.int .i64 z, .int .i64 4, .nilIface])) ?_, rfl⟩
  rw [or_zero (x3 * 2097152) (by omega) (by omega), or_hi 21 (x3 * 2097152) ((x2 - 128) * 16384) (by omega) (by omega) (by omega) (by omega) (by omega) (by omega), or_hi 14 (x3 * 2097152 + (x2 - 128) * 16384) ((x1 - 128) * 128) (by omega) (by omega) (by omega) (by omega) (by omega) (by omega), or_hi 7 (x3 * 2097152 + (x2 - 128) * 16384 + (x1 - 128) * 128) ((x0 - 128)) (by omega) (by omega) (by omega) (by omega) (by omega) (by omega)]
  omega

theorem get_l4 (b off len cap : Nat) (x0 x1 x2 x3 : Int) (w : World) (hlen : len ≤ maxLen) (hl : 3 < len) (c0 : w.cell? ⟨b, off, none⟩ = some (.int .u8 x0)) (r0 : 0 ≤ x0 ∧ x0 ≤ 255) (c1 : w.cell? ⟨b, off + 1, none⟩ = some (.int .u8 x1)) (r1 : 0 ≤ x1 ∧ x1 ≤ 255) (c2 : w.cell? ⟨b, off + 2, none⟩ = some (.int .u8 x2)) (r2 : 0 ≤ x2 ∧ x2 ≤ 255) (c3 : w.cell? ⟨b, off + 3, none⟩ = some (.int .u8 x3)) (r3 : 0 ≤ x3 ∧ x3 ≤ 255) (g0 : 128 ≤ x0) (g1 : 128 ≤ x1) (g2 : 128 ≤ x2) (g3 : 128 ≤ x3) :
    Calls Tryz.prog 116 #[.slice (some ⟨b, off, none⟩) len cap] w fun e w' => e = .returned (.tuple #[.int .i64 0, .int .i64 0, .iface 149 (.pointer (some ⟨w.heap.size, 0, none⟩))]) ∧ w' = w.alloc (.cells #[.string ⟨#[118, 97, 114, 105, 110, 116]⟩, .iface 84 (.int .i64 1)] 151) := by
  have HM := hide (meas_l4 b off len cap x0 x1 x2 x3 w hlen hl c0 r0 c1 r1 c2 r2 c3 r3 g0 g1 g2 g3)
  unfold maxLen at hlen
  go_enter Tryz.func116, Tryz.ntmps116
  go_wp2_with (go_at_call 160; refine (unhide HM).mono ?_; rintro e w' ⟨rfl, rfl⟩)
  go_ret3
  exact ⟨rfl, rfl⟩

theorem sz1 (n : Int) (h : n < 128) : sz n = 1 := by simp [sz, h]
theorem sz2 (n : Int) (h0 : 128 ≤ n) (h : n < 16384) : sz n = 2 := by unfold sz; rw [if_neg (by omega), if_pos h]
theorem sz3 (n : Int) (h0 : 16384 ≤ n) (h : n < 2097152) : sz n = 3 := by unfold sz; rw [if_neg (by omega), if_neg (by omega), if_pos h]
theorem sz4 (n : Int) (h0 : 2097152 ≤ n) : sz n = 4 := by unfold sz; rw [if_neg (by omega), if_neg (by omega), if_neg (by omega)]
theorem szle1 (n : Int) (h : n < 128) : sz n ≤ 1 := by unfold sz; rw [if_pos h]; omega
theorem szle2 (n : Int) (h : n < 16384) : sz n ≤ 2 := by unfold sz; split <;> (try split) <;> omega
theorem szle3 (n : Int) (h : n < 2097152) : sz n ≤ 3 := by unfold sz; split <;> (try split) <;> (try split) <;> omega
theorem put_length (n : Int) : ((put n).length : Int) = sz n := by
  unfold put sz
  split <;> (try split) <;> (try split) <;> simp

theorem rput_len (n : Int) (w : World) (h0 : 0 ≤ n) (h1 : n ≤ 268435455) :
    Calls Tryz.prog 62 #[.int .i64 n] w fun e w' => ∃ (ao : Option Addr) (L cap : Nat), Hid ((L : Int) = sz n) ∧ e = .returned (.slice ao L cap) ∧ Below w.heap.size w w' := by
  refine (rput_any n w h0 h1).mono ?_
  rintro e w' ⟨v, rfl, hown, hb⟩
  rcases hown.2 with ⟨rfl, hn⟩ | ⟨g, cap, cur, rfl, _⟩
  · have := put_len n; omega
  · exact ⟨_, _, _, put_length n, rfl, hb⟩

set_option maxHeartbeats 1000000 in
theorem rget_s0 (ao : Option Addr) (cap : Nat) (w : World) :
    Calls Tryz.prog 125 #[.slice ao 0 cap] w fun e w' => e = .returned (.tuple #[.int .i64 0, .int .i64 0, .int .i64 3]) ∧ Below w.heap.size w w' := by
  go_enter Tryz.func125, Tryz.ntmps125
  go_wp2
  refine wp_loop_rounds 1 ?_
  rw [rounds_succ]
  go_wp2
  go_ret3
  exact ⟨rfl, Below.refl _ _⟩

set_option maxHeartbeats 1000000 in
theorem rget_o1 (b off len cap : Nat) (x0 : Int) (w : World) (hlen : len ≤ maxLen) (hl : 0 < len) (c0 : w.cell? ⟨b, off, none⟩ = some (.int .u8 x0)) (p0 : 0 ≤ x0) (p1 : x0 < 128) :
    Calls Tryz.prog 125 #[.slice (some ⟨b, off, none⟩) len cap] w fun e w' => e = .returned (.tuple #[.int .i64 (x0), .int .i64 1, .int .i64 0]) ∧ Below w.heap.size w w' := by
  unfold maxLen at hlen
  have m0 : x0 % 128 = x0 := by omega
  have q0 : bits .or .i64 0 (x0) = x0 := or_zero _ (by omega) (by omega)
  go_enter Tryz.func125, Tryz.ntmps125
  go_wp2
  refine wp_loop_rounds 1 ?_
  rw [rounds_succ]
  go_wp2_with fail
  refine (rput_len (x0) _ (by omega) (by omega)).mono ?_
  rintro e w1 ⟨ao, L, cap', hL, rfl, hb⟩
  obtain rfl : L = 1 := by have h1 := unhide hL; rw [sz1 _ (by omega)] at h1; omega
  go_wp2
  go_ret3
  exact ⟨rfl, hb⟩

set_option maxHeartbeats 1000000 in
theorem rget_s1 (b off len cap : Nat) (x0 : Int) (w : World) (hlen : len ≤ maxLen) (hl : len = 1) (c0 : w.cell? ⟨b, off, none⟩ = some (.int .u8 x0)) (r0 : 0 ≤ x0 ∧ x0 ≤ 255) (g0 : 128 ≤ x0) :
    Calls Tryz.prog 125 #[.slice (some ⟨b, off, none⟩) len cap] w fun e w' => e = .returned (.tuple #[.int .i64 0, .int .i64 0, .int .i64 3]) ∧ Below w.heap.size w w' := by
  unfold maxLen at hlen
  subst hl
  have m0 : x0 % 128 = (x0 - 128) := by omega
  have q0 : bits .or .i64 0 ((x0 - 128)) = (x0 - 128) := or_zero _ (by omega) (by omega)
  go_enter Tryz.func125, Tryz.ntmps125
  go_wp2
  refine wp_loop_rounds 2 ?_
  rw [rounds_succ]
  go_wp2
  rw [rounds_succ]
  go_wp2
  go_ret3
  exact ⟨rfl, Below.refl _ _⟩

set_option maxHeartbeats 1000000 in
theorem rget_z2 (b off len cap : Nat) (x0 x1 : Int) (w : World) (hlen : len ≤ maxLen) (hl : 1 < len) (c0 : w.cell? ⟨b, off, none⟩ = some (.int .u8 x0)) (r0 : 0 ≤ x0 ∧ x0 ≤ 255) (c1 : w.cell? ⟨b, off + 1, none⟩ = some (.int .u8 x1)) (g0 : 128 ≤ x0) (p0 : x1 = 0) :
    Calls Tryz.prog 125 #[.slice (some ⟨b, off, none⟩) len cap] w fun e w' => e = .returned (.tuple #[.int .i64 0, .int .i64 0, .int .i64 1]) ∧ Below w.heap.size w w' := by
  unfold maxLen at hlen
  subst p0
  have m0 : x0 % 128 = (x0 - 128) := by omega
  have q0 : bits .or .i64 0 ((x0 - 128)) = (x0 - 128) := or_zero _ (by omega) (by omega)

  have q1 : bits .or .i64 ((x0 - 128)) 0 = (x0 - 128) := by rw [or_lo 7 ((x0 - 128)) 0 (by omega) (by omega) (by omega) (by omega) (by omega) (by omega)]; omega
  go_enter Tryz.func125, Tryz.ntmps125
  go_wp2
  refine wp_loop_rounds 2 ?_
  rw [rounds_succ]
  go_wp2
  rw [rounds_succ]
  go_wp2_with fail
  refine (rput_len ((x0 - 128)) _ (by omega) (by omega)).mono ?_
  rintro e w1 ⟨ao, L, cap', hL, rfl, hb⟩
  have hLL : L ≤ 1 := by have h1 := unhide hL; have h2 := szle1 ((x0 - 128)) (by omega); omega
  go_wp2
  go_ret3
  exact ⟨rfl, hb⟩

set_option maxHeartbeats 1000000 in
theorem rget_o2 (b off len cap : Nat) (x0 x1 : Int) (w : World) (hlen : len ≤ maxLen) (hl : 1 < len) (c0 : w.cell? ⟨b, off, none⟩ = some (.int .u8 x0)) (r0 : 0 ≤ x0 ∧ x0 ≤ 255) (c1 : w.cell? ⟨b, off + 1, none⟩ = some (.int .u8 x1)) (g0 : 128 ≤ x0) (p0 : 1 ≤ x1) (p1 : x1 < 128) :
    Calls Tryz.prog 125 #[.slice (some ⟨b, off, none⟩) len cap] w fun e w' => e = .returned (.tuple #[.int .i64 ((x0 - 128) + x1 * 128), .int .i64 2, .int .i64 0]) ∧ Below w.heap.size w w' := by
  unfold maxLen at hlen
  have m0 : x0 % 128 = (x0 - 128) := by omega
  have q0 : bits .or .i64 0 ((x0 - 128)) = (x0 - 128) := or_zero _ (by omega) (by omega)
  have m1 : x1 % 128 = x1 := by omega
  have q1 : bits .or .i64 ((x0 - 128)) (x1 * 128) = (x0 - 128) + x1 * 128 := or_lo 7 _ _ (by omega) (by omega) (by omega) (by omega) (by omega) (by omega)
  go_enter Tryz.func125, Tryz.ntmps125
  go_wp2
  refine wp_loop_rounds 2 ?_
  rw [rounds_succ]
  go_wp2
  rw [rounds_succ]
  go_wp2_with fail
  refine (rput_len ((x0 - 128) + x1 * 128) _ (by omega) (by omega)).mono ?_
  rintro e w1 ⟨ao, L, cap', hL, rfl, hb⟩
  obtain rfl : L = 2 := by have h1 := unhide hL; rw [sz2 _ (by omega) (by omega)] at h1; omega
  go_wp2
  go_ret3
  exact ⟨rfl, hb⟩

set_option maxHeartbeats 1000000 in
theorem rget_s2 (b off len cap : Nat) (x0 x1 : Int) (w : World) (hlen : len ≤ maxLen) (hl : len = 2) (c0 : w.cell? ⟨b, off, none⟩ = some (.int .u8 x0)) (r0 : 0 ≤ x0 ∧ x0 ≤ 255) (c1 : w.cell? ⟨b, off + 1, none⟩ = some (.int .u8 x1)) (r1 : 0 ≤ x1 ∧ x1 ≤ 255) (g0 : 128 ≤ x0) (g1 : 128 ≤ x1) :
    Calls Tryz.prog 125 #[.slice (some ⟨b, off, none⟩) len cap] w fun e w' => e = .returned (.tuple #[.int .i64 0, .int .i64 0, .int .i64 3]) ∧ Below w.heap.size w w' := by
  unfold maxLen at hlen
  subst hl
  have m0 : x0 % 128 = (x0 - 128) := by omega
  have q0 : bits .or .i64 0 ((x0 - 128)) = (x0 - 128) := or_zero _ (by omega) (by omega)
  have m1 : x1 % 128 = (x1 - 128) := by omega
  have q1 : bits .or .i64 ((x0 - 128)) ((x1 - 128) * 128) = (x0 - 128) + (x1 - 128) * 128 := or_lo 7 _ _ (by omega) (by omega) (by omega) (by omega) (by omega) (by omega)
  go_enter Tryz.func125, Tryz.ntmps125
  go_wp2
  refine wp_loop_rounds 3 ?_
  rw [rounds_succ]
  go_wp2
  rw [rounds_succ]
  go_wp2
  rw [rounds_succ]
  go_wp2
  go_ret3
  exact ⟨rfl, Below.refl _ _⟩

set_option maxHeartbeats 1000000 in
theorem rget_z3 (b off len cap : Nat) (x0 x1 x2 : Int) (w : World) (hlen : len ≤ maxLen) (hl : 2 < len) (c0 : w.cell? ⟨b, off, none⟩ = some (.int .u8 x0)) (r0 : 0 ≤ x0 ∧ x0 ≤ 255) (c1 : w.cell? ⟨b, off + 1, none⟩ = some (.int .u8 x1)) (r1 : 0 ≤ x1 ∧ x1 ≤ 255) (c2 : w.cell? ⟨b, off + 2, none⟩ = some (.int .u8 x2)) (g0 : 128 ≤ x0) (g1 : 128 ≤ x1) (p0 : x2 = 0) :
    Calls Tryz.prog 125 #[.slice (some ⟨b, off, none⟩) len cap] w fun e w' => e = .returned (.tuple #[.int .i64 0, .int .i64 0, .int .i64 1]) ∧ Below w.heap.size w w' := by
  unfold maxLen at hlen
  subst p0
  have m0 : x0 % 128 = (x0 - 128) := by omega
  have q0 : bits .or .i64 0 ((x0 - 128)) = (x0 - 128) := or_zero _ (by omega) (by omega)
  have m1 : x1 % 128 = (x1 - 128) := by omega
  have q1 : bits .or .i64 ((x0 - 128)) ((x1 - 128) * 128) = (x0 - 128) + (x1 - 128) * 128 := or_lo 7 _ _ (by omega) (by omega) (by omega) (by omega) (by omega) (by omega)

  have q2 : bits .or .i64 ((x0 - 128) + (x1 - 128) * 128) 0 = (x0 - 128) + (x1 - 128) * 128 := by rw [or_lo 14 ((x0 - 128) + (x1 - 128) * 128) 0 (by omega) (by omega) (by omega) (by omega) (by omega) (by omega)]; omega
  go_enter Tryz.func125, Tryz.ntmps125
  go_wp2
  refine wp_loop_rounds 3 ?_
  rw [rounds_succ]
  go_wp2
  rw [rounds_succ]
  go_wp2
  rw [rounds_succ]
  go_wp2_with fail
  refine (rput_len ((x0 - 128) + (x1 - 128) * 128) _ (by omega) (by omega)).mono ?_
  rintro e w1 ⟨ao, L, cap', hL, rfl, hb⟩
  have hLL : L ≤ 2 := by have h1 := unhide hL; have h2 := szle2 ((x0 - 128) + (x1 - 128) * 128) (by omega); omega
  go_wp2
  go_ret3
  exact ⟨rfl, hb⟩

set_option maxHeartbeats 1000000 in
theorem rget_o3 (b off len cap : Nat) (x0 x1 x2 : Int) (w : World) (hlen : len ≤ maxLen) (hl : 2 < len) (c0 : w.cell? ⟨b, off, none⟩ = some (.int .u8 x0)) (r0 : 0 ≤ x0 ∧ x0 ≤ 255) (c1 : w.cell? ⟨b, off + 1, none⟩ = some (.int .u8 x1)) (r1 : 0 ≤ x1 ∧ x1 ≤ 255) (c2 : w.cell? ⟨b, off + 2, none⟩ = some (.int .u8 x2)) (g0 : 128 ≤ x0) (g1 : 128 ≤ x1) (p0 : 1 ≤ x2) (p1 : x2 < 128) :
    Calls Tryz.prog 125 #[.slice (some ⟨b, off, none⟩) len cap] w fun e w' => e = .returned (.tuple #[.int .i64 ((x0 - 128) + (x1 - 128) * 128 + x2 * 16384), .int .i64 3, .int .i64 0]) ∧ Below w.heap.size w w' := by
  unfold maxLen at hlen
  have m0 : x0 % 128 = (x0 - 128) := by omega
  have q0 : bits .or .i64 0 ((x0 - 128)) = (x0 - 128) := or_zero _ (by omega) (by omega)
  have m1 : x1 % 128 = (x1 - 128) := by omega
  have q1 : bits .or .i64 ((x0 - 128)) ((x1 - 128) * 128) = (x0 - 128) + (x1 - 128) * 128 := or_lo 7 _ _ (by omega) (by omega) (by omega) (by omega) (by omega) (by omega)
  have m2 : x2 % 128 = x2 := by omega
  have q2 : bits .or .i64 ((x0 - 128) + (x1 - 128) * 128) (x2 * 16384) = (x0 - 128) + (x1 - 128) * 128 + x2 * 16384 := or_lo 14 _ _ (by omega) (by omega) (by omega) (by omega) (by omega) (by omega)
  go_enter Tryz.func125, Tryz.ntmps125
  go_wp2
  refine wp_loop_rounds 3 ?_
  rw [rounds_succ]
  go_wp2
  rw [rounds_succ]
  go_wp2
  rw [rounds_succ]
  go_wp2_with fail
  refine (rput_len ((x0 - 128) + (x1 - 128) * 128 + x2 * 16384) _ (by omega) (by omega)).mono ?_
  rintro e w1 ⟨ao, L, cap', hL, rfl, hb⟩
  obtain rfl : L = 3 := by have h1 := unhide hL; rw [sz3 _ (by omega) (by omega)] at h1; omega
  go_wp2
  go_ret3
  exact ⟨rfl, hb⟩

set_option maxHeartbeats 1000000 in
theorem rget_s3 (b off len cap : Nat) (x0 x1 x2 : Int) (w : World) (hlen : len ≤ maxLen) (hl : len = 3) (c0 : w.cell? ⟨b, off, none⟩ = some (.int .u8 x0)) (r0 : 0 ≤ x0 ∧ x0 ≤ 255) (c1 : w.cell? ⟨b, off + 1, none⟩ = some (.int .u8 x1)) (r1 : 0 ≤ x1 ∧ x1 ≤ 255) (c2 : w.cell? ⟨b, off + 2, none⟩ = some (.int .u8 x2)) (r2 : 0 ≤ x2 ∧ x2 ≤ 255) (g0 : 128 ≤ x0) (g1 : 128 ≤ x1) (g2 : 128 ≤ x2) :
    Calls Tryz.prog 125 #[.slice (some ⟨b, off, none⟩) len cap] w fun e w' => e = .returned (.tuple #[.int .i64 0, .int .i64 0, .int .i64 3]) ∧ Below w.heap.size w w' := by
  unfold maxLen at hlen
  subst hl
  have m0 : x0 % 128 = (x0 - 128) := by omega
  have q0 : bits .or .i64 0 ((x0 - 128)) = (x0 - 128) := or_zero _ (by omega) (by omega)
  have m1 : x1 % 128 = (x1 - 128) := by omega
  have q1 : bits .or .i64 ((x0 - 128)) ((x1 - 128) * 128) = (x0 - 128) + (x1 - 128) * 128 := or_lo 7 _ _ (by omega) (by omega) (by omega) (by omega) (by omega) (by omega)
  have m2 : x2 % 128 = (x2 - 128) := by omega
  have q2 : bits .or .i64 ((x0 - 128) + (x1 - 128) * 128) ((x2 - 128) * 16384) = (x0 - 128) + (x1 - 128) * 128 + (x2 - 128) * 16384 := or_lo 14 _ _ (by omega) (by omega) (by omega) (by omega) (by omega) (by omega)
  go_enter Tryz.func125, Tryz.ntmps125
  go_wp2
  refine wp_loop_rounds 4 ?_
  rw [rounds_succ]
  go_wp2
  rw [rounds_succ]
  go_wp2
  rw [rounds_succ]
  go_wp2
  rw [rounds_succ]
  go_wp2
  go_ret3
  exact ⟨rfl, Below.refl _ _⟩

set_option maxHeartbeats 1000000 in
theorem rget_z4 (b off len cap : Nat) (x0 x1 x2 x3 : Int) (w : World) (hlen : len ≤ maxLen) (hl : 3 < len) (c0 : w.cell? ⟨b, off, none⟩ = some (.int .u8 x0)) (r0 : 0 ≤ x0 ∧ x0 ≤ 255) (c1 : w.cell? ⟨b, off + 1, none⟩ = some (.int .u8 x1)) (r1 : 0 ≤ x1 ∧ x1 ≤ 255) (c2 : w.cell? ⟨b, off + 2, none⟩ = some (.int .u8 x2)) (r2 : 0 ≤ x2 ∧ x2 ≤ 255) (c3 : w.cell? ⟨b, off + 3, none⟩ = some (.int .u8 x3)) (g0 : 128 ≤ x0) (g1 : 128 ≤ x1) (g2 : 128 ≤ x2) (p0 : x3 = 0) :
    Calls Tryz.prog 125 #[.slice (some ⟨b, off, none⟩) len cap] w fun e w' => e = .returned (.tuple #[.int .i64 0, .int .i64 0, .int .i64 1]) ∧ Below w.heap.size w w' := by
  unfold maxLen at hlen
  subst p0
  have m0 : x0 % 128 = (x0 - 128) := by omega
  have q0 : bits .or .i64 0 ((x0 - 128)) = (x0 - 128) := or_zero _ (by omega) (by omega)
  have m1 : x1 % 128 = (x1 - 128) := by omega
  have q1 : bits .or .i64 ((x0 - 128)) ((x1 - 128) * 128) = (x0 - 128) + (x1 - 128) * 128 := or_lo 7 _ _ (by omega) (by omega) (by omega) (by omega) (by omega) (by omega)
  have m2 : x2 % 128 = (x2 - 128) := by omega
  have q2 : bits .or .i64 ((x0 - 128) + (x1 - 128) * 128) ((x2 - 128) * 16384) = (x0 - 128) + (x1 - 128) * 128 + (x2 - 128) * 16384 := or_lo 14 _ _ (by omega) (by omega) (by omega) (by omega) (by omega) (by omega)

  have q3 : bits .or .i64 ((x0 - 128) + (x1 - 128) * 128 + (x2 - 128) * 16384) 0 = (x0 - 128) + (x1 - 128) * 128 + (x2 - 128) * 16384 := by rw [or_lo 21 ((x0 - 128) + (x1 - 128) * 128 + (x2 - 128) * 16384) 0 (by omega) (by omega) (by omega) (by omega) (by omega) (by omega)]; omega
  go_enter Tryz.func125, Tryz.ntmps125
  go_wp2
  refine wp_loop_rounds 4 ?_
  rw [rounds_succ]
  go_wp2
  rw [rounds_succ]
  go_wp2
  rw [rounds_succ]
  go_wp2
  rw [rounds_succ]
  go_wp2_with fail
  refine (rput_len ((x0 - 128) + (x1 - 128) * 128 + (x2 - 128) * 16384) _ (by omega) (by omega)).mono ?_
  rintro e w1 ⟨ao, L, cap', hL, rfl, hb⟩
  have hLL : L ≤ 3 := by have h1 := unhide hL; have h2 := szle3 ((x0 - 128) + (x1 - 128) * 128 + (x2 - 128) * 16384) (by omega); omega
  go_wp2
  go_ret3
  exact ⟨rfl, hb⟩

set_option maxHeartbeats 1000000 in
theorem rget_o4 (b off len cap : Nat) (x0 x1 x2 x3 : Int) (w : World) (hlen : len ≤ maxLen) (hl : 3 < len) (c0 : w.cell? ⟨b, off, none⟩ = some (.int .u8 x0)) (r0 : 0 ≤ x0 ∧ x0 ≤ 255) (c1 : w.cell? ⟨b, off + 1, none⟩ = some (.int .u8 x1)) (r1 : 0 ≤ x1 ∧ x1 ≤ 255) (c2 : w.cell? ⟨b, off + 2, none⟩ = some (.int .u8 x2)) (r2 : 0 ≤ x2 ∧ x2 ≤ 255) (c3 : w.cell? ⟨b, off + 3, none⟩ = some (.int .u8 x3)) (g0 : 128 ≤ x0) (g1 : 128 ≤ x1) (g2 : 128 ≤ x2) (p0 : 1 ≤ x3) (p1 : x3 < 128) :
    Calls Tryz.prog 125 #[.slice (some ⟨b, off, none⟩) len cap] w fun e w' => e = .returned (.tuple #[.int .i64 ((x0 - 128) + (x1 - 128) * 128 + (x2 - 128) * 16384 + x3 * 2097152), .int .i64 4, .int .i64 0]) ∧ Below w.heap.size w w' := by
  unfold maxLen at hlen
  have m0 : x0 % 128 = (x0 - 128) := by omega
  have q0 : bits .or .i64 0 ((x0 - 128)) = (x0 - 128) := or_zero _ (by omega) (by omega)
  have m1 : x1 % 128 = (x1 - 128) := by omega
  have q1 : bits .or .i64 ((x0 - 128)) ((x1 - 128) * 128) = (x0 - 128) + (x1 - 128) * 128 := or_lo 7 _ _ (by omega) (by omega) (by omega) (by omega) (by omega) (by omega)
  have m2 : x2 % 128 = (x2 - 128) := by omega
  have q2 : bits .or .i64 ((x0 - 128) + (x1 - 128) * 128) ((x2 - 128) * 16384) = (x0 - 128) + (x1 - 128) * 128 + (x2 - 128) * 16384 := or_lo 14 _ _ (by omega) (by omega) (by omega) (by omega) (by omega) (by omega)
  have m3 : x3 % 128 = x3 := by omega
  have q3 : bits .or .i64 ((x0 - 128) + (x1 - 128) * 128 + (x2 - 128) * 16384) (x3 * 2097152) = (x0 - 128) + (x1 - 128) * 128 + (x2 - 128) * 16384 + x3 * 2097152 := or_lo 21 _ _ (by omega) (by omega) (by omega) (by omega) (by omega) (by omega)
  go_enter Tryz.func125, Tryz.ntmps125
  go_wp2
  refine wp_loop_rounds 4 ?_
  rw [rounds_succ]
  go_wp2
  rw [rounds_succ]
  go_wp2
  rw [rounds_succ]
  go_wp2
  rw [rounds_succ]
  go_wp2_with fail
  refine (rput_len ((x0 - 128) + (x1 - 128) * 128 + (x2 - 128) * 16384 + x3 * 2097152) _ (by omega) (by omega)).mono ?_
  rintro e w1 ⟨ao, L, cap', hL, rfl, hb⟩
  obtain rfl : L = 4 := by have h1 := unhide hL; rw [sz4 _ (by omega)] at h1; omega
  go_wp2
  go_ret3
  exact ⟨rfl, hb⟩

set_option maxHeartbeats 1000000 in
theorem rget_l4 (b off len cap : Nat) (x0 x1 x2 x3 : Int) (w : World) (hlen : len ≤ maxLen) (hl : 3 < len) (c0 : w.cell? ⟨b, off, none⟩ = some (.int .u8 x0)) (r0 : 0 ≤ x0 ∧ x0 ≤ 255) (c1 : w.cell? ⟨b, off + 1, none⟩ = some (.int .u8 x1)) (r1 : 0 ≤ x1 ∧ x1 ≤ 255) (c2 : w.cell? ⟨b, off + 2, none⟩ = some (.int .u8 x2)) (r2 : 0 ≤ x2 ∧ x2 ≤ 255) (c3 : w.cell? ⟨b, off + 3, none⟩ = some (.int .u8 x3)) (r3 : 0 ≤ x3 ∧ x3 ≤ 255) (g0 : 128 ≤ x0) (g1 : 128 ≤ x1) (g2 : 128 ≤ x2) (g3 : 128 ≤ x3) :
    Calls Tryz.prog 125 #[.slice (some ⟨b, off, none⟩) len cap] w fun e w' => e = .returned (.tuple #[.int .i64 0, .int .i64 0, .int .i64 1]) ∧ Below w.heap.size w w' := by
  unfold maxLen at hlen
  have m0 : x0 % 128 = (x0 - 128) := by omega
  have q0 : bits .or .i64 0 ((x0 - 128)) = (x0 - 128) := or_zero _ (by omega) (by omega)
  have m1 : x1 % 128 = (x1 - 128) := by omega
  have q1 : bits .or .i64 ((x0 - 128)) ((x1 - 128) * 128) = (x0 - 128) + (x1 - 128) * 128 := or_lo 7 _ _ (by omega) (by omega) (by omega) (by omega) (by omega) (by omega)
  have m2 : x2 % 128 = (x2 - 128) := by omega
  have q2 : bits .or .i64 ((x0 - 128) + (x1 - 128) * 128) ((x2 - 128) * 16384) = (x0 - 128) + (x1 - 128) * 128 + (x2 - 128) * 16384 := or_lo 14 _ _ (by omega) (by omega) (by omega) (by omega) (by omega) (by omega)
  have m3 : x3 % 128 = (x3 - 128) := by omega
  have q3 : bits .or .i64 ((x0 - 128) + (x1 - 128) * 128 + (x2 - 128) * 16384) ((x3 - 128) * 2097152) = (x0 - 128) + (x1 - 128) * 128 + (x2 - 128) * 16384 + (x3 - 128) * 2097152 := or_lo 21 _ _ (by omega) (by omega) (by omega) (by omega) (by omega) (by omega)
  go_enter Tryz.func125, Tryz.ntmps125
  go_wp2
  refine wp_loop_rounds 5 ?_
  rw [rounds_succ]
  go_wp2
  rw [rounds_succ]
  go_wp2
  rw [rounds_succ]
  go_wp2
  rw [rounds_succ]
  go_wp2
  rw [rounds_succ]
  go_wp2
  go_ret3
  exact ⟨rfl, Below.refl _ _⟩

end Go.Proofs.YtoocdfgjkeheaaaGreatDoor.V
/- Proved here: prop.getNumber reads a number of one, two or four bytes, the highest first, or tells that they are not there. Helper contracts. -/
namespace Go.Proofs.YtoocdfgjkeheaaaGreatDoor
open Go.RowKit
set_option maxRecDepth 100000

/-- the number of the first k bytes, the highest first -/
def be (k : Int) (l : List Int) : Int := if k = 1 then l.getD 0 0 else if k = 2 then l.getD 0 0 * 256 + l.getD 1 0 else ((l.getD 0 0 * 256 + l.getD 1 0) * 256 + l.getD 2 0) * 256 + l.getD 3 0
theorem or_256 (x y : Int) (hx0 : 0 ≤ x) (hx1 : x < 16777216) (hy0 : 0 ≤ y) (hy1 : y ≤ 255) : bits .or .i64 (x * 256) y = x * 256 + y := V.or_hi 8 _ _ (by omega) (by omega) hy0 (by omega) (by omega) (by omega)
theorem gnum_short (ao : Option Addr) (len cap : Nat) (k : Int) (w : World) (hl : (len : Int) < k) : Calls Tryz.prog 218 #[.slice ao len cap, .int .i64 k] w fun e w' => e = .returned (.tuple #[.int .i64 0, .int .i64 0, .iface 84 (.int .i64 3)]) ∧ w' = w := by
  go_enter Tryz.func218, Tryz.ntmps218
  go_wp2
  go_ret3
  exact ⟨rfl, rfl⟩
theorem gnum_1 (b off len cap : Nat) (x0 : Int) (w : World) (hl : 1 ≤ len) (hcap : len ≤ cap) (hcm : cap ≤ maxLen) (c0 : w.cell? ⟨b, off, none⟩ = some (.int .u8 x0)) (r0 : 0 ≤ x0 ∧ x0 ≤ 255) :
    Calls Tryz.prog 218 #[.slice (some ⟨b, off, none⟩) len cap, .int .i64 1] w fun e w' => e = .returned (.tuple #[.int .i64 x0, .int .i64 1, .nilIface]) ∧ Below w.heap.size w w' := by
  unfold maxLen at hcm
  have e0 : bits .or .i64 0 x0 = x0 := V.or_zero x0 r0.1 (by omega)
  go_enter Tryz.func218, Tryz.ntmps218
  go_wp2
  refine wp_loop_rounds 2 ?_
  rw [rounds_succ]
  go_wp2
  rw [rounds_succ]
  go_wp2
  go_ret3
  exact ⟨rfl, by go_grown⟩
theorem gnum_2 (b off len cap : Nat) (x0 x1 : Int) (w : World) (hl : 2 ≤ len) (hcap : len ≤ cap) (hcm : cap ≤ maxLen) (c0 : w.cell? ⟨b, off, none⟩ = some (.int .u8 x0)) (c1 : w.cell? ⟨b, off + 1, none⟩ = some (.int .u8 x1)) (r0 : 0 ≤ x0 ∧ x0 ≤ 255) (r1 : 0 ≤ x1 ∧ x1 ≤ 255) :
    Calls Tryz.prog 218 #[.slice (some ⟨b, off, none⟩) len cap, .int .i64 2] w fun e w' => e = .returned (.tuple #[.int .i64 (x0 * 256 + x1), .int .i64 2, .nilIface]) ∧ Below w.heap.size w w' := by
  unfold maxLen at hcm
  have e0 : bits .or .i64 0 x0 = x0 := V.or_zero x0 r0.1 (by omega)
  have e1 := or_256 x0 x1 r0.1 (by omega) r1.1 r1.2
  go_enter Tryz.func218, Tryz.ntmps218
  go_wp2
  refine wp_loop_rounds 3 ?_
  rw [rounds_succ]
  go_wp2
  rw [rounds_succ]
  go_wp2
  rw [rounds_succ]
  go_wp2
  go_ret3
  exact ⟨rfl, by go_grown⟩
theorem gnum_4 (b off len cap : Nat) (x0 x1 x2 x3 : Int) (w : World) (hl : 4 ≤ len) (hcap : len ≤ cap) (hcm : cap ≤ maxLen) (c0 : w.cell? ⟨b, off, none⟩ = some (.int .u8 x0)) (c1 : w.cell? ⟨b, off + 1, none⟩ = some (.int .u8 x1)) (c2 : w.cell? ⟨b, off + 2, none⟩ = some (.int .u8 x2)) (c3 : w.cell? ⟨b, off + 3, none⟩ = some (.int .u8 x3)) (r0 : 0 ≤ x0 ∧ x0 ≤ 255) (r1 : 0 ≤ x1 ∧ x1 ≤ 255) (r2 : 0 ≤ x2 ∧ x2 ≤ 255) (r3 : 0 ≤ x3 ∧ x3 ≤ 255) :
    Calls Tryz.prog 218 #[.slice (some ⟨b, off, none⟩) len cap, .int .i64 4] w fun e w' => e = .returned (.tuple #[.int .i64 (((x0 * 256 + x1) * 256 + x2) * 256 + x3), .int .i64 4, .nilIface]) ∧ Below w.heap.size w w' := by
  unfold maxLen at hcm
  have e0 : bits .or .i64 0 x0 = x0 := V.or_zero x0 r0.1 (by omega)
  have e1 := or_256 x0 x1 r0.1 (by omega) r1.1 r1.2
  have e2 := or_256 (x0 * 256 + x1) x2 (by omega) (by omega) r2.1 r2.2
  have e3 := or_256 ((x0 * 256 + x1) * 256 + x2) x3 (by omega) (by omega) r3.1 r3.2
  go_enter Tryz.func218, Tryz.ntmps218
  go_wp2
  refine wp_loop_rounds 5 ?_
  rw [rounds_succ]
  go_wp2
  rw [rounds_succ]
  go_wp2
  rw [rounds_succ]
  go_wp2
  rw [rounds_succ]
  go_wp2
  rw [rounds_succ]
  go_wp2
  go_ret3
  exact ⟨rfl, by go_grown⟩
end Go.Proofs.YtoocdfgjkeheaaaGreatDoor
/- Proved here: what prop.shapeOf tells of any ID. Helper contracts. -/
namespace Go.Proofs.YtoocdfgjkeheaaaGreatDoor
open Go.RowKit
set_option maxRecDepth 100000

def frm (id : Int) : Int := if kd id = 1 ∨ kd id = 2 ∨ kd id = 4 then 1 else if kd id = 5 then 2 else if kd id = 6 then 3 else if kd id = 7 then 4 else if kd id = 8 then 5 else 0
def wid (id : Int) : Int := if kd id = 1 ∨ kd id = 2 ∨ kd id = 4 then kd id else 0
def shv (id : Int) : Value := .agg #[.int .i64 (frm id), .int .i64 (wid id), .int .i64 (lst id), .int .i64 (mx id)]
theorem shv_none (id : Int) (hk : kd id = 0) (hl : lst id = 0) : shv id = .agg #[.int .i64 0, .int .i64 0, .int .i64 0, .int .i64 0] := by
  simp [shv, frm, wid, mx, hk, hl]
set_option maxHeartbeats 40000000 in
theorem shape_any (id : Int) (w : World) : Calls Tryz.prog 207 #[.int .i64 id] w fun e w' => e = .returned (shv id) ∧ Below w.heap.size w w' := by
  refine id_cases (P := fun id => Calls Tryz.prog 207 #[.int .i64 id] w fun e w' => e = .returned (shv id) ∧ Below w.heap.size w w') id ?_ ?_ ?_ ?_ ?_ ?_ ?_ ?_ ?_ ?_ ?_ ?_ ?_ ?_ ?_ ?_ ?_ ?_ ?_ ?_ ?_ ?_ ?_ ?_ ?_ ?_ ?_ ?none
  case none =>
    intro n1 n2 n3 n8 n9 n11 n17 n18 n19 n21 n22 n23 n24 n25 n26 n28 n31 n33 n34 n35 n36 n37 n38 n39 n40 n41 n42
    rw [shv_none id (kd_none id n1 n2 n3 n8 n9 n11 n17 n18 n19 n21 n22 n23 n24 n25 n26 n28 n31 n33 n34 n35 n36 n37 n38 n39 n40 n41 n42) (lst_none id n11 n33 n35 n39)]
    have b1 : (id == 1) = false := beq_eq_false_iff_ne.2 n1
    have b2 : (id == 2) = false := beq_eq_false_iff_ne.2 n2
    have b3 : (id == 3) = false := beq_eq_false_iff_ne.2 n3
    have b8 : (id == 8) = false := beq_eq_false_iff_ne.2 n8
    have b9 : (id == 9) = false := beq_eq_false_iff_ne.2 n9
    have b11 : (id == 11) = false := beq_eq_false_iff_ne.2 n11
    have b17 : (id == 17) = false := beq_eq_false_iff_ne.2 n17
    have b18 : (id == 18) = false := beq_eq_false_iff_ne.2 n18
    have b19 : (id == 19) = false := beq_eq_false_iff_ne.2 n19
    have b21 : (id == 21) = false := beq_eq_false_iff_ne.2 n21
    have b22 : (id == 22) = false := beq_eq_false_iff_ne.2 n22
    have b23 : (id == 23) = false := beq_eq_false_iff_ne.2 n23
    have b24 : (id == 24) = false := beq_eq_false_iff_ne.2 n24
    have b25 : (id == 25) = false := beq_eq_false_iff_ne.2 n25
    have b26 : (id == 26) = false := beq_eq_false_iff_ne.2 n26
    have b28 : (id == 28) = false := beq_eq_false_iff_ne.2 n28
    have b31 : (id == 31) = false := beq_eq_false_iff_ne.2 n31
    have b33 : (id == 33) = false := beq_eq_false_iff_ne.2 n33
    have b34 : (id == 34) = false := beq_eq_false_iff_ne.2 n34
    have b35 : (id == 35) = false := beq_eq_false_iff_ne.2 n35
    have b36 : (id == 36) = false := beq_eq_false_iff_ne.2 n36
    have b37 : (id == 37) = false := beq_eq_false_iff_ne.2 n37
    have b38 : (id == 38) = false := beq_eq_false_iff_ne.2 n38
    have b39 : (id == 39) = false := beq_eq_false_iff_ne.2 n39
    have b40 : (id == 40) = false := beq_eq_false_iff_ne.2 n40
    have b41 : (id == 41) = false := beq_eq_false_iff_ne.2 n41
    have b42 : (id == 42) = false := beq_eq_false_iff_ne.2 n42
    clear n1 n2 n3 n8 n9 n11 n17 n18 n19 n21 n22 n23 n24 n25 n26 n28 n31 n33 n34 n35 n36 n37 n38 n39 n40 n41 n42
    go_enter Tryz.func207, Tryz.ntmps207
    go_wp2
    go_returns
    refine ⟨?_, ?_⟩
    · rfl
    · go_grown
  all_goals
    go_enter Tryz.func207, Tryz.ntmps207
    go_wp2
    go_returns
    refine ⟨?_, ?_⟩
    · kernel_rfl
    · go_grown
end Go.Proofs.YtoocdfgjkeheaaaGreatDoor
/- Proved here: what (prop.shape).fits and prop.mayRepeat tell. Helper contracts. -/
namespace Go.Proofs.YtoocdfgjkeheaaaGreatDoor
open Go.RowKit
set_option maxRecDepth 100000

def fitB (f lo hi n : Int) (s t : ByteArray) : Bool := decide (lo ≤ n) && decide (n ≤ hi) && (if f = 5 then true else if f = 3 ∨ f = 4 then emp t else emp s && emp t)
theorem kd_cases (id : Int) : kd id = 0 ∨ kd id = 1 ∨ kd id = 2 ∨ kd id = 4 ∨ kd id = 5 ∨ kd id = 6 ∨ kd id = 7 ∨ kd id = 8 := by
  unfold kd
  repeat' split
  all_goals omega
theorem fit_eq (id n : Int) (s t : ByteArray) : fit (id, n, s, t) = fitB (frm id) (lst id) (mx id) n s t := by
  unfold fit fitB frm
  rcases kd_cases id with h | h | h | h | h | h | h | h <;> simp [h]
abbrev FitPost (f lo hi n : Int) (s t : ByteArray) (w : World) (e : Ending) (w' : World) : Prop := e = .returned (.bool (fitB f lo hi n s t)) ∧ Below w.heap.size w w'
theorem fits_any (f wd lo hi id n : Int) (s t : ByteArray) (w : World) :
    Calls Tryz.prog 208 #[.agg #[.int .i64 f, .int .i64 wd, .int .i64 lo, .int .i64 hi], .agg #[.int .i64 id, .int .i64 n, .string s, .string t]] w (FitPost f lo hi n s t w) := by
  unfold FitPost
  by_cases h1 : n < lo
  · have hm : Hid (false = fitB f lo hi n s t) := by show _ = _; unfold fitB; rw [decide_eq_false (by omega : ¬ lo ≤ n)]; rfl
    go_enter Tryz.func208, Tryz.ntmps208
    go_wp2
    go_ret
    exact ⟨ret_bool (unhide hm), by go_grown⟩
  by_cases h2 : hi < n
  · have hm : Hid (false = fitB f lo hi n s t) := by show _ = _; unfold fitB; rw [decide_eq_false (by omega : ¬ n ≤ hi), Bool.and_false]; rfl
    go_enter Tryz.func208, Tryz.ntmps208
    go_wp2
    go_ret
    exact ⟨ret_bool (unhide hm), by go_grown⟩
  have hg : Hid (fitB f lo hi n s t = (if f = 5 then true else if f = 3 ∨ f = 4 then emp t else emp s && emp t)) := by
    show _ = _; unfold fitB; rw [decide_eq_true (by omega : lo ≤ n), decide_eq_true (by omega : n ≤ hi)]; rfl
  by_cases f5 : f = 5
  · have hm : Hid (true = fitB f lo hi n s t) := by show _ = _; rw [unhide hg, if_pos f5]
    subst f5
    go_enter Tryz.func208, Tryz.ntmps208
    go_wp2
    go_ret
    exact ⟨ret_bool (unhide hm), by go_grown⟩
  by_cases f3 : f = 3
  · have hm : Hid (fitB f lo hi n s t = emp t) := by show _ = _; rw [unhide hg, if_neg f5, if_pos (.inl f3)]
    subst f3
    clear hg f5
    go_enter Tryz.func208, Tryz.ntmps208
    go_wp2
    go_ret
    exact ⟨ret_bool (unhide hm).symm, by go_grown⟩
  by_cases f4 : f = 4
  · have hm : Hid (fitB f lo hi n s t = emp t) := by show _ = _; rw [unhide hg, if_neg f5, if_pos (.inr f4)]
    subst f4
    clear hg f5 f3
    go_enter Tryz.func208, Tryz.ntmps208
    go_wp2
    go_ret
    exact ⟨ret_bool (unhide hm).symm, by go_grown⟩
  have hm : Hid (fitB f lo hi n s t = (emp s && emp t)) := by show _ = _; rw [unhide hg, if_neg f5, if_neg (by omega)]
  have b5 : (f == 5) = false := beq_eq_false_iff_ne.2 f5
  have b4 : (f == 4) = false := beq_eq_false_iff_ne.2 f4
  have b3 : (f == 3) = false := beq_eq_false_iff_ne.2 f3
  clear hg f5 f4 f3
  by_cases hs : s.toList.isEmpty = true
  · have hm' : Hid (fitB f lo hi n s t = emp t) := by show _ = _; rw [unhide hm]; show (s.toList.isEmpty && _) = _; rw [hs]; rfl
    clear hm
    go_enter Tryz.func208, Tryz.ntmps208
    go_wp2
    go_ret
    exact ⟨ret_bool (unhide hm').symm, by go_grown⟩
  · have hs' : s.toList.isEmpty = false := by simpa using hs
    have hm' : Hid (false = fitB f lo hi n s t) := by show _ = _; rw [unhide hm]; show _ = (s.toList.isEmpty && _); rw [hs']; rfl
    clear hm hs
    go_enter Tryz.func208, Tryz.ntmps208
    go_wp2
    go_ret
    exact ⟨ret_bool (unhide hm'), by go_grown⟩
theorem repeat_any (id place : Int) (w : World) : Calls Tryz.prog 209 #[.int .i64 id, .int .i64 place] w fun e w' => e = .returned (.bool (rep id place)) ∧ w' = w := by
  by_cases h1 : id = 38
  · subst h1
    go_enter Tryz.func209, Tryz.ntmps209
    go_wp2
    go_ret
    exact ⟨rfl, rfl⟩
  by_cases h2 : id = 11
  · subst h2
    go_enter Tryz.func209, Tryz.ntmps209
    go_wp2
    go_ret
    exact ⟨rfl, rfl⟩
  · have hm : Hid (false = rep id place) := by show _ = _; unfold rep; simp [h1, h2]
    have b1 : (id == 38) = false := beq_eq_false_iff_ne.2 h1
    have b2 : (id == 11) = false := beq_eq_false_iff_ne.2 h2
    go_enter Tryz.func209, Tryz.ntmps209
    go_wp2
    go_ret
    exact ⟨ret_bool (unhide hm), rfl⟩
theorem fits_use (f wd lo hi id n : Int) (s t : ByteArray) (w : World) :
    Calls Tryz.prog 208 #[.agg #[.int .i64 f, .int .i64 wd, .int .i64 lo, .int .i64 hi], .agg #[.int .i64 id, .int .i64 n, .string s, .string t]] w fun e w' => (∃ b : Bool, e = .returned (.bool b) ∧ Hid (b = fitB f lo hi n s t)) ∧ Below w.heap.size w w' := by
  refine (fits_any f wd lo hi id n s t w).mono ?_
  rintro e w' ⟨rfl, hb⟩
  exact ⟨⟨_, rfl, rfl⟩, hb⟩
end Go.Proofs.YtoocdfgjkeheaaaGreatDoor
/- Proved here: slices.Index, slices.Contains, prop.oneOf and dovecoteref0.In tell whether a number stands in a slice of numbers. Helper contracts. -/
namespace Go.Proofs.YtoocdfgjkeheaaaGreatDoor
open Go.RowKit
set_option maxRecDepth 100000

/-- the value v reads in the world w as the numbers xs -/
def Ints (w : World) (v : Value) (xs : List Int) : Prop :=
  ∃ ao cap, v = .slice ao xs.length cap ∧ xs.length ≤ maxLen ∧ (xs = [] ∨ ∃ b off, ao = some ⟨b, off, none⟩ ∧ ∀ j, j < xs.length → w.cell? ⟨b, off + j, none⟩ = some (.int .i64 (xs.getD j 0)))
theorem ints_lit (w : World) (xs : List Int) (n : Nat) (hn : xs.length = n) (h : n ≤ 100) (t : TypeId) : Ints (w.alloc (.cells (xs.map (Value.int .i64)).toArray t)) (.slice (some ⟨w.heap.size, 0, none⟩) n n) xs := by
  subst hn
  refine ⟨_, _, rfl, by unfold maxLen; omega, .inr ⟨_, _, rfl, fun j hj => ?_⟩⟩
  rw [World.cell?_alloc_at _ _ _ _ rfl]
  simp [hj]
theorem mem_getD (xs : List Int) (v : Int) : (∃ j, j < xs.length ∧ xs.getD j 0 = v) ↔ v ∈ xs := by
  rw [List.mem_iff_getElem]
  constructor
  · rintro ⟨j, hj, h⟩; exact ⟨j, hj, by rw [List.getD_eq_getElem?_getD, List.getElem?_eq_getElem hj] at h; exact h⟩
  · rintro ⟨j, hj, h⟩; exact ⟨j, hj, by rw [List.getD_eq_getElem?_getD, List.getElem?_eq_getElem hj]; exact h⟩

set_option maxHeartbeats 1000000 in
theorem index_core (b off n cap : Nat) (f : Nat → Int) (v : Int) (w : World) (hn : n ≤ maxLen) (hf : ∀ j, j < n → w.cell? ⟨b, off + j, none⟩ = some (.int .i64 (f j))) :
    Calls Tryz.prog 222 #[.slice (some ⟨b, off, none⟩) n cap, .int .i64 v] w fun e w' => (∃ r : Int, e = .returned (.int .i64 r) ∧ (0 ≤ r ↔ ∃ j, j < n ∧ f j = v)) ∧ w' = w := by
  unfold maxLen at hn
  have HF := hide hf
  clear hf
  go_enter Tryz.func222, Tryz.ntmps222
  go_wp2
  go_loop [8] (fun i => ∃ k : Nat, k ≤ n ∧ i = .int .i64 k ∧ Hid (∀ j, j < k → f j ≠ v)) (fun i => n - (intOf i).toNat)
  case atStart => exact ⟨0, Nat.zero_le _, rfl, fun j hj => absurd hj (Nat.not_lt_zero j)⟩
  case round =>
    obtain ⟨k, hk, rfl, HA⟩ := hrel
    by_cases hlt : k < n
    · have hfk := (unhide HF) k hlt
      generalize hx : f k = x at hfk
      have HX := hide hx
      clear hx
      by_cases hxy : v = x
      · have hb : (v == x) = true := beq_iff_eq.2 hxy
        have HE := hide hxy
        clear hxy
        go_wp2
        go_ret
        exact ⟨⟨_, rfl, fun _ => ⟨k, hlt, (unhide HX).trans (unhide HE).symm⟩, fun _ => by omega⟩, rfl⟩
      · have hb : (v == x) = false := beq_eq_false_iff_ne.2 hxy
        have HE := hide hxy
        clear hxy
        go_wp2
        go_round
        case rel => exact ⟨k + 1, by omega, by go_num, fun j hj => by
          rcases Nat.lt_succ_iff_lt_or_eq.1 hj with h | h
          · exact (unhide HA) j h
          · rw [h, unhide HX]; exact fun h => (unhide HE) h.symm⟩
        case measure => simp [intOf]; omega
    · go_wp2
      go_ret
      exact ⟨⟨_, rfl, fun h => absurd h (by omega), fun ⟨j, hj, h⟩ => absurd h ((unhide HA) j (by omega))⟩, rfl⟩
theorem index_nil (ao : Option Addr) (cap : Nat) (v : Int) (w : World) : Calls Tryz.prog 222 #[.slice ao 0 cap, .int .i64 v] w fun e w' => e = .returned (.int .i64 (-1)) ∧ w' = w := by
  go_enter Tryz.func222, Tryz.ntmps222
  go_wp2
  refine wp_loop_rounds 1 ?_
  rw [rounds_succ]
  go_wp2
  go_ret
  exact ⟨rfl, rfl⟩
theorem index_any (vx : Value) (xs : List Int) (v : Int) (w : World) (h : Ints w vx xs) :
    Calls Tryz.prog 222 #[vx, .int .i64 v] w fun e w' => (∃ r : Int, e = .returned (.int .i64 r) ∧ Hid (decide (0 ≤ r) = decide (v ∈ xs))) ∧ w' = w := by
  obtain ⟨ao, cap, rfl, hl, hcase⟩ := h
  rcases hcase with rfl | ⟨b, off, rfl, hc⟩
  · refine (index_nil ao cap v w).mono ?_
    rintro e w' ⟨rfl, rfl⟩
    exact ⟨⟨_, rfl, by show decide _ = decide _; simp⟩, rfl⟩
  · refine (index_core b off xs.length cap (fun j => xs.getD j 0) v w hl hc).mono ?_
    rintro e w' ⟨⟨r, rfl, hr⟩, rfl⟩
    rw [mem_getD] at hr
    exact ⟨⟨r, rfl, by show decide _ = decide _; rw [decide_eq_decide]; exact hr⟩, rfl⟩
theorem oneOf_any (vx : Value) (xs : List Int) (v : Int) (w : World) (h : Ints w vx xs) :
    Calls Tryz.prog 215 #[.int .i64 v, vx] w fun e w' => e = .returned (.bool (decide (v ∈ xs))) ∧ w' = w := by
  have H := hide h
  clear h
  have hc : Calls Tryz.prog 221 #[vx, .int .i64 v] w fun e w' => e = .returned (.bool (decide (v ∈ xs))) ∧ w' = w := by
    go_enter Tryz.func221, Tryz.ntmps221
    go_wp2_with (go_at_call 222; refine (index_any vx xs v _ (unhide H)).mono ?_; rintro e w' ⟨⟨r, rfl, hr⟩, rfl⟩)
    go_ret
    exact ⟨ret_bool (unhide hr), rfl⟩
  go_enter Tryz.func215, Tryz.ntmps215
  go_wp2_with (go_at_call 221; refine hc.mono ?_; rintro e w' ⟨rfl, rfl⟩)
  go_ret
  exact ⟨rfl, rfl⟩
theorem oneOf_use (vx : Value) (xs : List Int) (v : Int) (w : World) (h : Ints w vx xs) :
    Calls Tryz.prog 215 #[.int .i64 v, vx] w fun e w' => (∃ b : Bool, e = .returned (.bool b) ∧ Hid (b = decide (v ∈ xs))) ∧ w' = w := by
  refine (oneOf_any vx xs v w h).mono ?_
  rintro e w' ⟨rfl, rfl⟩
  exact ⟨⟨_, rfl, rfl⟩, rfl⟩

set_option maxHeartbeats 1000000 in
theorem in_core (b off n cap : Nat) (f : Nat → Int) (v : Int) (w : World) (hn : n ≤ maxLen) (hf : ∀ j, j < n → w.cell? ⟨b, off + j, none⟩ = some (.int .i64 (f j))) :
    Calls Tryz.prog 185 #[.slice (some ⟨b, off, none⟩) n cap, .int .i64 v] w fun e w' => (∃ r : Int, e = .returned (.int .i64 r) ∧ (0 ≤ r ↔ ∃ j, j < n ∧ f j = v)) ∧ w' = w := by
  unfold maxLen at hn
  have HF := hide hf
  clear hf
  go_enter Tryz.func185, Tryz.ntmps185
  go_wp2
  go_loop [5] (fun i => ∃ k : Nat, k ≤ n ∧ i = .int .i64 k ∧ Hid (∀ j, j < k → f j ≠ v)) (fun i => n - (intOf i).toNat)
  case atStart => exact ⟨0, Nat.zero_le _, rfl, fun j hj => absurd hj (Nat.not_lt_zero j)⟩
  case round =>
    obtain ⟨k, hk, rfl, HA⟩ := hrel
    by_cases hlt : k < n
    · have hfk := (unhide HF) k hlt
      generalize hx : f k = x at hfk
      have HX := hide hx
      clear hx
      by_cases hxy : x = v
      · have hb : (x == v) = true := beq_iff_eq.2 hxy
        have HE := hide hxy
        clear hxy
        go_wp2
        go_ret
        exact ⟨⟨_, rfl, fun _ => ⟨k, hlt, (unhide HX).trans (unhide HE)⟩, fun _ => by omega⟩, rfl⟩
      · have hb : (x == v) = false := beq_eq_false_iff_ne.2 hxy
        have HE := hide hxy
        clear hxy
        go_wp2
        go_round
        case rel => exact ⟨k + 1, by omega, by go_num, fun j hj => by
          rcases Nat.lt_succ_iff_lt_or_eq.1 hj with h | h
          · exact (unhide HA) j h
          · rw [h, unhide HX]; exact unhide HE⟩
        case measure => simp [intOf]; omega
    · go_wp2
      go_ret
      exact ⟨⟨_, rfl, fun h => absurd h (by omega), fun ⟨j, hj, h⟩ => absurd h ((unhide HA) j (by omega))⟩, rfl⟩
theorem in_nil (ao : Option Addr) (cap : Nat) (v : Int) (w : World) : Calls Tryz.prog 185 #[.slice ao 0 cap, .int .i64 v] w fun e w' => e = .returned (.int .i64 (-1)) ∧ w' = w := by
  go_enter Tryz.func185, Tryz.ntmps185
  go_wp2
  refine wp_loop_rounds 1 ?_
  rw [rounds_succ]
  go_wp2
  go_ret
  exact ⟨rfl, rfl⟩
theorem in_any (vx : Value) (xs : List Int) (v : Int) (w : World) (h : Ints w vx xs) :
    Calls Tryz.prog 185 #[vx, .int .i64 v] w fun e w' => (∃ r : Int, e = .returned (.int .i64 r) ∧ Hid (decide (r < 0) = !decide (v ∈ xs))) ∧ w' = w := by
  have key : ∀ r : Int, (0 ≤ r ↔ v ∈ xs) → Hid (decide (r < 0) = !decide (v ∈ xs)) := fun r hr => by
    show decide _ = !decide _
    by_cases hm : v ∈ xs
    · have := hr.2 hm
      simp [hm]; omega
    · have : ¬ 0 ≤ r := fun h => hm (hr.1 h)
      simp [hm]; omega
  obtain ⟨ao, cap, rfl, hl, hcase⟩ := h
  rcases hcase with rfl | ⟨b, off, rfl, hc⟩
  · refine (in_nil ao cap v w).mono ?_
    rintro e w' ⟨rfl, rfl⟩
    exact ⟨⟨_, rfl, key _ (by simp)⟩, rfl⟩
  · refine (in_core b off xs.length cap (fun j => xs.getD j 0) v w hl hc).mono ?_
    rintro e w' ⟨⟨r, rfl, hr⟩, rfl⟩
    rw [mem_getD] at hr
    exact ⟨⟨r, rfl, key r hr⟩, rfl⟩
end Go.Proofs.YtoocdfgjkeheaaaGreatDoor
/- Proved here: prop.mayStand tells whether an ID may stand at a place, for any of both. Helper contracts. -/
namespace Go.Proofs.YtoocdfgjkeheaaaGreatDoor
open Go.RowKit
set_option maxRecDepth 100000

/-- mayStand's answer at one ID -/
def StandPost (id place : Int) (w : World) (e : Ending) (w' : World) : Prop := e = .returned (.bool (mst id place)) ∧ Below w.heap.size w w'
set_option maxHeartbeats 4000000 in
theorem stand_1 (place : Int) (w : World) : Calls Tryz.prog 206 #[.int .i64 1, .int .i64 place] w (StandPost 1 place w) := by
  unfold StandPost
  go_enter Tryz.func206, Tryz.ntmps206
  go_wp2_with (go_at_call 215; refine (oneOf_use _ [3, 16] place _ (ints_lit _ [3, 16] 2 rfl (by omega) 3)).mono ?_; rintro e w' ⟨⟨b, rfl, hb⟩, rfl⟩)
  go_ret
  exact ⟨ret_bool (unhide hb), by go_grown⟩
set_option maxHeartbeats 4000000 in
theorem stand_2 (place : Int) (w : World) : Calls Tryz.prog 206 #[.int .i64 2, .int .i64 place] w (StandPost 2 place w) := by
  unfold StandPost
  go_enter Tryz.func206, Tryz.ntmps206
  go_wp2_with (go_at_call 215; refine (oneOf_use _ [3, 16] place _ (ints_lit _ [3, 16] 2 rfl (by omega) 3)).mono ?_; rintro e w' ⟨⟨b, rfl, hb⟩, rfl⟩)
  go_ret
  exact ⟨ret_bool (unhide hb), by go_grown⟩
set_option maxHeartbeats 4000000 in
theorem stand_3 (place : Int) (w : World) : Calls Tryz.prog 206 #[.int .i64 3, .int .i64 place] w (StandPost 3 place w) := by
  unfold StandPost
  go_enter Tryz.func206, Tryz.ntmps206
  go_wp2_with (go_at_call 215; refine (oneOf_use _ [3, 16] place _ (ints_lit _ [3, 16] 2 rfl (by omega) 3)).mono ?_; rintro e w' ⟨⟨b, rfl, hb⟩, rfl⟩)
  go_ret
  exact ⟨ret_bool (unhide hb), by go_grown⟩
set_option maxHeartbeats 4000000 in
theorem stand_8 (place : Int) (w : World) : Calls Tryz.prog 206 #[.int .i64 8, .int .i64 place] w (StandPost 8 place w) := by
  unfold StandPost
  go_enter Tryz.func206, Tryz.ntmps206
  go_wp2_with (go_at_call 215; refine (oneOf_use _ [3, 16] place _ (ints_lit _ [3, 16] 2 rfl (by omega) 3)).mono ?_; rintro e w' ⟨⟨b, rfl, hb⟩, rfl⟩)
  go_ret
  exact ⟨ret_bool (unhide hb), by go_grown⟩
set_option maxHeartbeats 4000000 in
theorem stand_9 (place : Int) (w : World) : Calls Tryz.prog 206 #[.int .i64 9, .int .i64 place] w (StandPost 9 place w) := by
  unfold StandPost
  go_enter Tryz.func206, Tryz.ntmps206
  go_wp2_with (go_at_call 215; refine (oneOf_use _ [3, 16] place _ (ints_lit _ [3, 16] 2 rfl (by omega) 3)).mono ?_; rintro e w' ⟨⟨b, rfl, hb⟩, rfl⟩)
  go_ret
  exact ⟨ret_bool (unhide hb), by go_grown⟩
set_option maxHeartbeats 4000000 in
theorem stand_11 (place : Int) (w : World) : Calls Tryz.prog 206 #[.int .i64 11, .int .i64 place] w (StandPost 11 place w) := by
  unfold StandPost
  go_enter Tryz.func206, Tryz.ntmps206
  go_wp2_with (go_at_call 215; refine (oneOf_use _ [3, 8] place _ (ints_lit _ [3, 8] 2 rfl (by omega) 3)).mono ?_; rintro e w' ⟨⟨b, rfl, hb⟩, rfl⟩)
  go_ret
  exact ⟨ret_bool (unhide hb), by go_grown⟩
set_option maxHeartbeats 4000000 in
theorem stand_17 (place : Int) (w : World) : Calls Tryz.prog 206 #[.int .i64 17, .int .i64 place] w (StandPost 17 place w) := by
  unfold StandPost
  go_enter Tryz.func206, Tryz.ntmps206
  go_wp2_with (go_at_call 215; refine (oneOf_use _ [1, 2, 14] place _ (ints_lit _ [1, 2, 14] 3 rfl (by omega) 3)).mono ?_; rintro e w' ⟨⟨b, rfl, hb⟩, rfl⟩)
  go_ret
  exact ⟨ret_bool (unhide hb), by go_grown⟩
set_option maxHeartbeats 4000000 in
theorem stand_18 (place : Int) (w : World) : Calls Tryz.prog 206 #[.int .i64 18, .int .i64 place] w (StandPost 18 place w) := by
  unfold StandPost
  have hm : Hid (mst 18 place = (place == 2)) := by
    show mst 18 place = (place == 2)
    unfold mst
    rw [show plc 18 = [2] from rfl]
    simp only [List.mem_singleton]
    rfl
  go_enter Tryz.func206, Tryz.ntmps206
  go_wp2
  go_ret
  exact ⟨ret_bool (unhide hm).symm, by go_grown⟩
set_option maxHeartbeats 4000000 in
theorem stand_19 (place : Int) (w : World) : Calls Tryz.prog 206 #[.int .i64 19, .int .i64 place] w (StandPost 19 place w) := by
  unfold StandPost
  have hm : Hid (mst 19 place = (place == 2)) := by
    show mst 19 place = (place == 2)
    unfold mst
    rw [show plc 19 = [2] from rfl]
    simp only [List.mem_singleton]
    rfl
  go_enter Tryz.func206, Tryz.ntmps206
  go_wp2
  go_ret
  exact ⟨ret_bool (unhide hm).symm, by go_grown⟩
set_option maxHeartbeats 4000000 in
theorem stand_21 (place : Int) (w : World) : Calls Tryz.prog 206 #[.int .i64 21, .int .i64 place] w (StandPost 21 place w) := by
  unfold StandPost
  go_enter Tryz.func206, Tryz.ntmps206
  go_wp2_with (go_at_call 215; refine (oneOf_use _ [1, 2, 15] place _ (ints_lit _ [1, 2, 15] 3 rfl (by omega) 3)).mono ?_; rintro e w' ⟨⟨b, rfl, hb⟩, rfl⟩)
  go_ret
  exact ⟨ret_bool (unhide hb), by go_grown⟩
set_option maxHeartbeats 4000000 in
theorem stand_22 (place : Int) (w : World) : Calls Tryz.prog 206 #[.int .i64 22, .int .i64 place] w (StandPost 22 place w) := by
  unfold StandPost
  go_enter Tryz.func206, Tryz.ntmps206
  go_wp2_with (go_at_call 215; refine (oneOf_use _ [1, 2, 15] place _ (ints_lit _ [1, 2, 15] 3 rfl (by omega) 3)).mono ?_; rintro e w' ⟨⟨b, rfl, hb⟩, rfl⟩)
  go_ret
  exact ⟨ret_bool (unhide hb), by go_grown⟩
set_option maxHeartbeats 4000000 in
theorem stand_23 (place : Int) (w : World) : Calls Tryz.prog 206 #[.int .i64 23, .int .i64 place] w (StandPost 23 place w) := by
  unfold StandPost
  have hm : Hid (mst 23 place = (place == 1)) := by
    show mst 23 place = (place == 1)
    unfold mst
    rw [show plc 23 = [1] from rfl]
    simp only [List.mem_singleton]
    rfl
  go_enter Tryz.func206, Tryz.ntmps206
  go_wp2
  go_ret
  exact ⟨ret_bool (unhide hm).symm, by go_grown⟩
set_option maxHeartbeats 4000000 in
theorem stand_24 (place : Int) (w : World) : Calls Tryz.prog 206 #[.int .i64 24, .int .i64 place] w (StandPost 24 place w) := by
  unfold StandPost
  have hm : Hid (mst 24 place = (place == 16)) := by
    show mst 24 place = (place == 16)
    unfold mst
    rw [show plc 24 = [16] from rfl]
    simp only [List.mem_singleton]
    rfl
  go_enter Tryz.func206, Tryz.ntmps206
  go_wp2
  go_ret
  exact ⟨ret_bool (unhide hm).symm, by go_grown⟩
set_option maxHeartbeats 4000000 in
theorem stand_25 (place : Int) (w : World) : Calls Tryz.prog 206 #[.int .i64 25, .int .i64 place] w (StandPost 25 place w) := by
  unfold StandPost
  have hm : Hid (mst 25 place = (place == 1)) := by
    show mst 25 place = (place == 1)
    unfold mst
    rw [show plc 25 = [1] from rfl]
    simp only [List.mem_singleton]
    rfl
  go_enter Tryz.func206, Tryz.ntmps206
  go_wp2
  go_ret
  exact ⟨ret_bool (unhide hm).symm, by go_grown⟩
set_option maxHeartbeats 4000000 in
theorem stand_26 (place : Int) (w : World) : Calls Tryz.prog 206 #[.int .i64 26, .int .i64 place] w (StandPost 26 place w) := by
  unfold StandPost
  have hm : Hid (mst 26 place = (place == 2)) := by
    show mst 26 place = (place == 2)
    unfold mst
    rw [show plc 26 = [2] from rfl]
    simp only [List.mem_singleton]
    rfl
  go_enter Tryz.func206, Tryz.ntmps206
  go_wp2
  go_ret
  exact ⟨ret_bool (unhide hm).symm, by go_grown⟩
set_option maxHeartbeats 4000000 in
theorem stand_28 (place : Int) (w : World) : Calls Tryz.prog 206 #[.int .i64 28, .int .i64 place] w (StandPost 28 place w) := by
  unfold StandPost
  go_enter Tryz.func206, Tryz.ntmps206
  go_wp2_with (go_at_call 215; refine (oneOf_use _ [2, 14] place _ (ints_lit _ [2, 14] 2 rfl (by omega) 3)).mono ?_; rintro e w' ⟨⟨b, rfl, hb⟩, rfl⟩)
  go_ret
  exact ⟨ret_bool (unhide hb), by go_grown⟩
set_option maxHeartbeats 4000000 in
theorem stand_31 (place : Int) (w : World) : Calls Tryz.prog 206 #[.int .i64 31, .int .i64 place] w (StandPost 31 place w) := by
  unfold StandPost
  go_enter Tryz.func206, Tryz.ntmps206
  go_wp2_with (go_at_call 215; refine (oneOf_use _ [2, 4, 5, 6, 7, 9, 11, 14, 15] place _ (ints_lit _ [2, 4, 5, 6, 7, 9, 11, 14, 15] 9 rfl (by omega) 3)).mono ?_; rintro e w' ⟨⟨b, rfl, hb⟩, rfl⟩)
  go_ret
  exact ⟨ret_bool (unhide hb), by go_grown⟩
set_option maxHeartbeats 4000000 in
theorem stand_33 (place : Int) (w : World) : Calls Tryz.prog 206 #[.int .i64 33, .int .i64 place] w (StandPost 33 place w) := by
  unfold StandPost
  go_enter Tryz.func206, Tryz.ntmps206
  go_wp2_with (go_at_call 215; refine (oneOf_use _ [1, 2] place _ (ints_lit _ [1, 2] 2 rfl (by omega) 3)).mono ?_; rintro e w' ⟨⟨b, rfl, hb⟩, rfl⟩)
  go_ret
  exact ⟨ret_bool (unhide hb), by go_grown⟩
set_option maxHeartbeats 4000000 in
theorem stand_34 (place : Int) (w : World) : Calls Tryz.prog 206 #[.int .i64 34, .int .i64 place] w (StandPost 34 place w) := by
  unfold StandPost
  go_enter Tryz.func206, Tryz.ntmps206
  go_wp2_with (go_at_call 215; refine (oneOf_use _ [1, 2] place _ (ints_lit _ [1, 2] 2 rfl (by omega) 3)).mono ?_; rintro e w' ⟨⟨b, rfl, hb⟩, rfl⟩)
  go_ret
  exact ⟨ret_bool (unhide hb), by go_grown⟩
set_option maxHeartbeats 4000000 in
theorem stand_35 (place : Int) (w : World) : Calls Tryz.prog 206 #[.int .i64 35, .int .i64 place] w (StandPost 35 place w) := by
  unfold StandPost
  have hm : Hid (mst 35 place = (place == 3)) := by
    show mst 35 place = (place == 3)
    unfold mst
    rw [show plc 35 = [3] from rfl]
    simp only [List.mem_singleton]
    rfl
  go_enter Tryz.func206, Tryz.ntmps206
  go_wp2
  go_ret
  exact ⟨ret_bool (unhide hm).symm, by go_grown⟩
set_option maxHeartbeats 4000000 in
theorem stand_36 (place : Int) (w : World) : Calls Tryz.prog 206 #[.int .i64 36, .int .i64 place] w (StandPost 36 place w) := by
  unfold StandPost
  have hm : Hid (mst 36 place = (place == 2)) := by
    show mst 36 place = (place == 2)
    unfold mst
    rw [show plc 36 = [2] from rfl]
    simp only [List.mem_singleton]
    rfl
  go_enter Tryz.func206, Tryz.ntmps206
  go_wp2
  go_ret
  exact ⟨ret_bool (unhide hm).symm, by go_grown⟩
set_option maxHeartbeats 4000000 in
theorem stand_37 (place : Int) (w : World) : Calls Tryz.prog 206 #[.int .i64 37, .int .i64 place] w (StandPost 37 place w) := by
  unfold StandPost
  have hm : Hid (mst 37 place = (place == 2)) := by
    show mst 37 place = (place == 2)
    unfold mst
    rw [show plc 37 = [2] from rfl]
    simp only [List.mem_singleton]
    rfl
  go_enter Tryz.func206, Tryz.ntmps206
  go_wp2
  go_ret
  exact ⟨ret_bool (unhide hm).symm, by go_grown⟩
set_option maxHeartbeats 4000000 in
theorem stand_38 (place : Int) (w : World) : Calls Tryz.prog 206 #[.int .i64 38, .int .i64 place] w (StandPost 38 place w) := by
  unfold StandPost
  by_cases h : 1 ≤ place ∧ place ≤ 11
  · obtain ⟨h1, h2⟩ := h
    have hm : Hid (mst 38 place = true) := by
      show mst 38 place = true
      unfold mst
      rw [decide_eq_true_eq, show plc 38 = [1, 2, 3, 4, 5, 6, 7, 8, 9, 10, 11, 14, 15, 16] from rfl]
      simp only [List.mem_cons]
      omega
    go_enter Tryz.func206, Tryz.ntmps206
    go_wp2
    go_ret
    exact ⟨ret_bool (unhide hm).symm, by go_grown⟩
  · have hm : Hid (mst 38 place = decide (place ∈ [14, 15, 16])) := by
      show mst 38 place = decide (place ∈ [14, 15, 16])
      unfold mst
      rw [decide_eq_decide, show plc 38 = [1, 2, 3, 4, 5, 6, 7, 8, 9, 10, 11, 14, 15, 16] from rfl]
      simp only [List.mem_cons, List.not_mem_nil, or_false]
      constructor <;> intro a <;> omega
    by_cases h1 : 1 ≤ place
    · have h2 : ¬ place ≤ 11 := fun a => h ⟨h1, a⟩
      clear h
      go_enter Tryz.func206, Tryz.ntmps206
      go_wp2_with (go_at_call 215; refine (oneOf_use _ [14, 15, 16] place _ (ints_lit _ [14, 15, 16] 3 rfl (by omega) 3)).mono ?_; rintro e w' ⟨⟨b, rfl, hb⟩, rfl⟩)
      go_ret
      exact ⟨ret_bool ((unhide hb).trans (unhide hm).symm), by go_grown⟩
    · clear h
      go_enter Tryz.func206, Tryz.ntmps206
      go_wp2_with (go_at_call 215; refine (oneOf_use _ [14, 15, 16] place _ (ints_lit _ [14, 15, 16] 3 rfl (by omega) 3)).mono ?_; rintro e w' ⟨⟨b, rfl, hb⟩, rfl⟩)
      go_ret
      exact ⟨ret_bool ((unhide hb).trans (unhide hm).symm), by go_grown⟩
set_option maxHeartbeats 4000000 in
theorem stand_39 (place : Int) (w : World) : Calls Tryz.prog 206 #[.int .i64 39, .int .i64 place] w (StandPost 39 place w) := by
  unfold StandPost
  go_enter Tryz.func206, Tryz.ntmps206
  go_wp2_with (go_at_call 215; refine (oneOf_use _ [1, 2] place _ (ints_lit _ [1, 2] 2 rfl (by omega) 3)).mono ?_; rintro e w' ⟨⟨b, rfl, hb⟩, rfl⟩)
  go_ret
  exact ⟨ret_bool (unhide hb), by go_grown⟩
set_option maxHeartbeats 4000000 in
theorem stand_40 (place : Int) (w : World) : Calls Tryz.prog 206 #[.int .i64 40, .int .i64 place] w (StandPost 40 place w) := by
  unfold StandPost
  have hm : Hid (mst 40 place = (place == 2)) := by
    show mst 40 place = (place == 2)
    unfold mst
    rw [show plc 40 = [2] from rfl]
    simp only [List.mem_singleton]
    rfl
  go_enter Tryz.func206, Tryz.ntmps206
  go_wp2
  go_ret
  exact ⟨ret_bool (unhide hm).symm, by go_grown⟩
set_option maxHeartbeats 4000000 in
theorem stand_41 (place : Int) (w : World) : Calls Tryz.prog 206 #[.int .i64 41, .int .i64 place] w (StandPost 41 place w) := by
  unfold StandPost
  have hm : Hid (mst 41 place = (place == 2)) := by
    show mst 41 place = (place == 2)
    unfold mst
    rw [show plc 41 = [2] from rfl]
    simp only [List.mem_singleton]
    rfl
  go_enter Tryz.func206, Tryz.ntmps206
  go_wp2
  go_ret
  exact ⟨ret_bool (unhide hm).symm, by go_grown⟩
set_option maxHeartbeats 4000000 in
theorem stand_42 (place : Int) (w : World) : Calls Tryz.prog 206 #[.int .i64 42, .int .i64 place] w (StandPost 42 place w) := by
  unfold StandPost
  have hm : Hid (mst 42 place = (place == 2)) := by
    show mst 42 place = (place == 2)
    unfold mst
    rw [show plc 42 = [2] from rfl]
    simp only [List.mem_singleton]
    rfl
  go_enter Tryz.func206, Tryz.ntmps206
  go_wp2
  go_ret
  exact ⟨ret_bool (unhide hm).symm, by go_grown⟩
set_option maxHeartbeats 4000000 in
theorem stand_none (id place : Int) (w : World) (hp : plc id = []) (b1 : (id == 1) = false) (b2 : (id == 2) = false) (b3 : (id == 3) = false) (b8 : (id == 8) = false) (b9 : (id == 9) = false) (b11 : (id == 11) = false) (b17 : (id == 17) = false) (b18 : (id == 18) = false) (b19 : (id == 19) = false) (b21 : (id == 21) = false) (b22 : (id == 22) = false) (b23 : (id == 23) = false) (b24 : (id == 24) = false) (b25 : (id == 25) = false) (b26 : (id == 26) = false) (b28 : (id == 28) = false) (b31 : (id == 31) = false) (b33 : (id == 33) = false) (b34 : (id == 34) = false) (b35 : (id == 35) = false) (b36 : (id == 36) = false) (b37 : (id == 37) = false) (b38 : (id == 38) = false) (b39 : (id == 39) = false) (b40 : (id == 40) = false) (b41 : (id == 41) = false) (b42 : (id == 42) = false) : Calls Tryz.prog 206 #[.int .i64 id, .int .i64 place] w (StandPost id place w) := by
  have hm : Hid (mst id place = false) := by show mst id place = false; unfold mst; rw [hp]; simp
  clear hp
  unfold StandPost
  go_enter Tryz.func206, Tryz.ntmps206
  go_wp2
  go_ret
  exact ⟨ret_bool (unhide hm).symm, by go_grown⟩
theorem stand_any (id place : Int) (w : World) : Calls Tryz.prog 206 #[.int .i64 id, .int .i64 place] w (StandPost id place w) := by
  refine id_cases (P := fun id => Calls Tryz.prog 206 #[.int .i64 id, .int .i64 place] w (StandPost id place w)) id (stand_1 place w) (stand_2 place w) (stand_3 place w) (stand_8 place w) (stand_9 place w) (stand_11 place w) (stand_17 place w) (stand_18 place w) (stand_19 place w) (stand_21 place w) (stand_22 place w) (stand_23 place w) (stand_24 place w) (stand_25 place w) (stand_26 place w) (stand_28 place w) (stand_31 place w) (stand_33 place w) (stand_34 place w) (stand_35 place w) (stand_36 place w) (stand_37 place w) (stand_38 place w) (stand_39 place w) (stand_40 place w) (stand_41 place w) (stand_42 place w) ?_
  intro n1 n2 n3 n8 n9 n11 n17 n18 n19 n21 n22 n23 n24 n25 n26 n28 n31 n33 n34 n35 n36 n37 n38 n39 n40 n41 n42
  exact stand_none id place w (plc_none id n1 n2 n3 n8 n9 n11 n17 n18 n19 n21 n22 n23 n24 n25 n26 n28 n31 n33 n34 n35 n36 n37 n38 n39 n40 n41 n42) (beq_eq_false_iff_ne.2 n1) (beq_eq_false_iff_ne.2 n2) (beq_eq_false_iff_ne.2 n3) (beq_eq_false_iff_ne.2 n8) (beq_eq_false_iff_ne.2 n9) (beq_eq_false_iff_ne.2 n11) (beq_eq_false_iff_ne.2 n17) (beq_eq_false_iff_ne.2 n18) (beq_eq_false_iff_ne.2 n19) (beq_eq_false_iff_ne.2 n21) (beq_eq_false_iff_ne.2 n22) (beq_eq_false_iff_ne.2 n23) (beq_eq_false_iff_ne.2 n24) (beq_eq_false_iff_ne.2 n25) (beq_eq_false_iff_ne.2 n26) (beq_eq_false_iff_ne.2 n28) (beq_eq_false_iff_ne.2 n31) (beq_eq_false_iff_ne.2 n33) (beq_eq_false_iff_ne.2 n34) (beq_eq_false_iff_ne.2 n35) (beq_eq_false_iff_ne.2 n36) (beq_eq_false_iff_ne.2 n37) (beq_eq_false_iff_ne.2 n38) (beq_eq_false_iff_ne.2 n39) (beq_eq_false_iff_ne.2 n40) (beq_eq_false_iff_ne.2 n41) (beq_eq_false_iff_ne.2 n42)
end Go.Proofs.YtoocdfgjkeheaaaGreatDoor
