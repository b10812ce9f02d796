/- Proved here: which texts are names of files: disk.isSign, disk.isName and the page's Name. Helper contracts. -/
import Derived.Test.YtondonppakjbgaaDoorRRRProg
import Derived.Test.YtondonppakjbgaaDoorRRRZBase
import Derived.Lib.Strings
namespace Go.Proofs.YtondonppakjbgaaDoorRRR.D
open Go.RowKit
set_option maxRecDepth 100000

/-- may a name have it? -/
def sgn (c : Int) : Bool := decide (97 ≤ c) && decide (c ≤ 122) || (decide (48 ≤ c) && decide (c ≤ 57) || (decide (c = 46) || decide (c = 45)))
def sgl (l : List UInt8) : Bool := l.all fun b => sgn (b.toNat : Int)
/-- is it a name? -/
def nmB (s : ByteArray) : Bool := decide (1 ≤ s.size) && (decide (s.size ≤ 32) && sgl s.data.toList)
theorem size_len (s : ByteArray) : s.data.toList.length = s.size := rfl
theorem sign_any (c : Int) (w : World) : Calls Tryd.prog 24 #[.int .u8 c] w fun e w' => e = .returned (.bool (sgn c)) ∧ w' = w := by
  by_cases a1 : 97 ≤ c <;> by_cases a2 : c ≤ 122
  · have HS : Hid (sgn c = true) := by show _ = _; simp [sgn, a1, a2]
    go_enter Tryd.func24, Tryd.ntmps24
    go_wp2
    go_ret
    exact ⟨by rw [unhide HS]; rfl, rfl⟩
  · have a3 : ¬ c ≤ 57 := by omega
    have a4 : (c == 46) = false := beq_eq_false_iff_ne.2 (by omega)
    have a5 : (c == 45) = false := beq_eq_false_iff_ne.2 (by omega)
    have HS : Hid (sgn c = false) := by
      show _ = _
      have h1 : ¬ c = 46 := by omega
      have h2 : ¬ c = 45 := by omega
      simp [sgn, a2, a3, h1, h2]
    go_enter Tryd.func24, Tryd.ntmps24
    go_wp2
    go_ret
    exact ⟨by rw [unhide HS]; rfl, rfl⟩
  · by_cases a3 : 48 ≤ c <;> by_cases a4 : c ≤ 57
    · have HS : Hid (sgn c = true) := by show _ = _; simp [sgn, a3, a4]
      go_enter Tryd.func24, Tryd.ntmps24
      go_wp2
      go_ret
      exact ⟨by rw [unhide HS]; rfl, rfl⟩
    · have a5 : (c == 46) = false := beq_eq_false_iff_ne.2 (by omega)
      have a6 : (c == 45) = false := beq_eq_false_iff_ne.2 (by omega)
      have HS : Hid (sgn c = false) := by
        show _ = _
        have h1 : ¬ c = 46 := by omega
        have h2 : ¬ c = 45 := by omega
        simp [sgn, a1, a4, h1, h2]
      go_enter Tryd.func24, Tryd.ntmps24
      go_wp2
      go_ret
      exact ⟨by rw [unhide HS]; rfl, rfl⟩
    · by_cases h1 : c = 46
      · subst h1
        go_enter Tryd.func24, Tryd.ntmps24
        go_wp2
        go_ret
        exact ⟨rfl, rfl⟩
      · by_cases h2 : c = 45
        · subst h2
          go_enter Tryd.func24, Tryd.ntmps24
          go_wp2
          go_ret
          exact ⟨rfl, rfl⟩
        · have a5 : (c == 46) = false := beq_eq_false_iff_ne.2 h1
          have a6 : (c == 45) = false := beq_eq_false_iff_ne.2 h2
          have HS : Hid (sgn c = false) := by show _ = _; simp [sgn, a1, a3, h1, h2]
          clear h1 h2
          go_enter Tryd.func24, Tryd.ntmps24
          go_wp2
          go_ret
          exact ⟨by rw [unhide HS]; rfl, rfl⟩
    · exfalso; omega
  · exfalso; omega
theorem sgl_take (s : ByteArray) (k : Nat) (h : k < s.size) : sgl (s.data.toList.take (k + 1)) = (sgl (s.data.toList.take k) && sgn (s[k].toNat : Int)) := by
  have hk : k < s.data.toList.length := by rw [size_len]; exact h
  unfold sgl
  rw [List.take_succ_eq_append_getElem hk, List.all_append]
  congr 1
  have e : s.data.toList[k] = s[k] := by simp; rfl
  rw [e]
  simp
theorem sgl_bad (l : List UInt8) (k : Nat) (h : sgl (l.take k) = false) : sgl l = false := by
  unfold sgl at *
  rw [← List.take_append_drop k l, List.all_append, h]; rfl
theorem nm_size {s : ByteArray} (h1 : 1 ≤ s.size) (h2 : s.size ≤ 32) : nmB s = sgl s.data.toList := by
  unfold nmB
  rw [decide_eq_true h1, decide_eq_true h2]; rfl
theorem nm_long {s : ByteArray} (h : 32 < s.size) : nmB s = false := by
  unfold nmB
  rw [decide_eq_false (by omega : ¬ s.size ≤ 32)]; simp
theorem nm_no {s : ByteArray} (h : s.size = 0) : nmB s = false := by
  unfold nmB
  rw [decide_eq_false (by omega : ¬ 1 ≤ s.size)]; simp
theorem empty_size {s : ByteArray} (h : s.toList.isEmpty = true) : s.size = 0 := by
  rw [Lib.toList_data, List.isEmpty_iff] at h
  rw [← size_len, h]; rfl
theorem full_size {s : ByteArray} (h : s.toList.isEmpty = false) : 1 ≤ s.size := by
  rw [Lib.toList_data] at h
  have : s.data.toList ≠ [] := by intro e; rw [e] at h; cases h
  have h2 := List.length_pos_iff.2 this
  rw [size_len] at h2
  exact h2
set_option maxHeartbeats 1000000 in
theorem name_any (s : ByteArray) (w : World) (hs : s.size ≤ maxLen) : Calls Tryd.prog 20 #[.string s] w fun e w' => e = .returned (.bool (nmB s)) ∧ w' = w := by
  unfold maxLen at hs
  cases he : s.toList.isEmpty
  · by_cases h32 : (s.size : Int) ≤ 32
    · have HN : Hid (nmB s = sgl s.data.toList) := nm_size (full_size he) (by omega)
      have HT : Hid (s.data.toList.take s.size = s.data.toList) := by show _ = _; rw [← size_len, List.take_length]
      have HS := hide (sgl_take s)
      have HB := hide (sgl_bad s.data.toList)
      generalize hD : s.data.toList = D at HT HS HN HB
      clear hD
      go_enter Tryd.func20, Tryd.ntmps20
      go_wp2
      go_loop [13] (fun i => ∃ k : Nat, k ≤ s.size ∧ i = .int .i64 k ∧ Hid (sgl (D.take k) = true)) (fun i => s.size - (intOf i).toNat)
      case atStart => exact ⟨0, Nat.zero_le _, rfl, rfl⟩
      case round =>
        obtain ⟨k, hk, rfl, hno⟩ := hrel
        by_cases hlt : k < s.size
        · have hst := (unhide HS) k hlt
          rw [unhide hno, Bool.true_and] at hst
          have HST := hide hst
          clear hst
          have HC := hide (sign_any (s[k].toNat : Int))
          cases hb : sgn (s[k].toNat : Int)
          · have HF : Hid (nmB s = false) := by show _ = _; rw [unhide HN]; exact (unhide HB) (k + 1) ((unhide HST).trans hb)
            rw [hb] at HC
            clear hb
            go_wp2_with (go_at_call 24; refine ((unhide HC) _).mono ?_; rintro e w' ⟨rfl, rfl⟩)
            go_ret
            exact ⟨by rw [unhide HF]; rfl, rfl⟩
          · have HR : Hid (sgl (D.take (k + 1)) = true) := (unhide HST).trans hb
            rw [hb] at HC
            clear hb
            go_wp2_with (go_at_call 24; refine ((unhide HC) _).mono ?_; rintro e w' ⟨rfl, rfl⟩)
            go_round
            case rel => exact ⟨k + 1, by omega, by go_num, HR⟩
            case measure => simp [intOf] <;> omega
        · obtain rfl : k = s.size := by omega
          go_wp2
          go_ret
          exact ⟨by rw [unhide HN, ← unhide HT, unhide hno]; rfl, rfl⟩
    · have HN : Hid (nmB s = false) := nm_long (by omega)
      go_enter Tryd.func20, Tryd.ntmps20
      go_wp2
      go_ret
      exact ⟨by rw [unhide HN]; rfl, rfl⟩
  · have HN : Hid (nmB s = false) := nm_no (empty_size he)
    go_enter Tryd.func20, Tryd.ntmps20
    go_wp2
    go_ret
    exact ⟨by rw [unhide HN]; rfl, rfl⟩
/-- the page's test of one sign: what it walks through -/
theorem sgn_cases (c : Int) : (sgn c = true ∧ 97 ≤ c ∧ c ≤ 122) ∨ (sgn c = true ∧ c < 97 ∧ 48 ≤ c ∧ c ≤ 57) ∨ (sgn c = true ∧ c = 46) ∨ (sgn c = true ∧ c = 45) ∨ (sgn c = false ∧ c < 48 ∧ c ≠ 46 ∧ c ≠ 45) ∨ (sgn c = false ∧ 57 < c ∧ c < 97) ∨ (sgn c = false ∧ 122 < c) := by
  by_cases a1 : 97 ≤ c
  · by_cases a2 : c ≤ 122
    · exact .inl ⟨by simp [sgn, a1, a2], a1, a2⟩
    · have h1 : ¬ c = 46 := by omega
      have h2 : ¬ c = 45 := by omega
      have h3 : ¬ c ≤ 57 := by omega
      exact .inr (.inr (.inr (.inr (.inr (.inr ⟨by simp [sgn, a2, h1, h2, h3], by omega⟩)))))
  · by_cases a3 : 48 ≤ c
    · by_cases a4 : c ≤ 57
      · exact .inr (.inl ⟨by simp [sgn, a3, a4], by omega, a3, a4⟩)
      · have h1 : ¬ c = 46 := by omega
        have h2 : ¬ c = 45 := by omega
        exact .inr (.inr (.inr (.inr (.inr (.inl ⟨by simp [sgn, a1, a4, h1, h2], by omega, by omega⟩)))))
    · by_cases h1 : c = 46
      · exact .inr (.inr (.inl ⟨by subst h1; rfl, h1⟩))
      · by_cases h2 : c = 45
        · exact .inr (.inr (.inr (.inl ⟨by subst h2; rfl, h2⟩)))
        · exact .inr (.inr (.inr (.inr (.inl ⟨by simp [sgn, a1, a3, h1, h2], by omega, h1, h2⟩))))
set_option maxHeartbeats 1000000 in
theorem rname_any (s : ByteArray) (w : World) (hs : s.size ≤ maxLen) : Calls Tryd.prog 7 #[.string s] w fun e w' => e = .returned (.bool (nmB s)) ∧ w' = w := by
  unfold maxLen at hs
  by_cases h1 : (s.size : Int) < 1
  · have HN : Hid (nmB s = false) := nm_no (by omega)
    go_enter Tryd.func7, Tryd.ntmps7
    go_wp2
    go_ret
    exact ⟨by rw [unhide HN]; rfl, rfl⟩
  · by_cases h32 : (s.size : Int) ≤ 32
    · have HN : Hid (nmB s = sgl s.data.toList) := nm_size (by omega) (by omega)
      have HT : Hid (s.data.toList.take s.size = s.data.toList) := by show _ = _; rw [← size_len, List.take_length]
      have HS := hide (sgl_take s)
      have HB := hide (sgl_bad s.data.toList)
      generalize hD : s.data.toList = D at HT HS HN HB
      clear hD
      go_enter Tryd.func7, Tryd.ntmps7
      go_wp2
      go_loop [3] (fun i => ∃ k : Nat, k ≤ s.size ∧ i = .int .i64 k ∧ Hid (sgl (D.take k) = true)) (fun i => s.size - (intOf i).toNat)
      case atStart => exact ⟨0, Nat.zero_le _, rfl, rfl⟩
      case round =>
        obtain ⟨k, hk, rfl, hno⟩ := hrel
        by_cases hlt : k < s.size
        · have hst := (unhide HS) k hlt
          rw [unhide hno, Bool.true_and] at hst
          have HST := hide hst
          clear hst
          rcases sgn_cases (s[k].toNat : Int) with ⟨hb, h3, h4⟩ | ⟨hb, h3, h4, h5⟩ | ⟨hb, h3⟩ | ⟨hb, h3⟩ | ⟨hb, h3, h4, h5⟩ | ⟨hb, h3, h4⟩ | ⟨hb, h3⟩
          · have HR : Hid (sgl (D.take (k + 1)) = true) := (unhide HST).trans hb
            clear hb
            go_wp2
            go_round
            case rel => exact ⟨k + 1, by omega, by go_num, HR⟩
            case measure => simp [intOf] <;> omega
          · have HR : Hid (sgl (D.take (k + 1)) = true) := (unhide HST).trans hb
            clear hb
            go_wp2
            go_round
            case rel => exact ⟨k + 1, by omega, by go_num, HR⟩
            case measure => simp [intOf] <;> omega
          · have HR : Hid (sgl (D.take (k + 1)) = true) := (unhide HST).trans hb
            clear hb
            go_wp2
            go_round
            case rel => exact ⟨k + 1, by omega, by go_num, HR⟩
            case measure => simp [intOf] <;> omega
          · have HR : Hid (sgl (D.take (k + 1)) = true) := (unhide HST).trans hb
            clear hb
            go_wp2
            go_round
            case rel => exact ⟨k + 1, by omega, by go_num, HR⟩
            case measure => simp [intOf] <;> omega
          · have HF : Hid (nmB s = false) := by show _ = _; rw [unhide HN]; exact (unhide HB) (k + 1) ((unhide HST).trans hb)
            have q1 : (s[k].toNat : Int) < 97 := by omega
            have q3 : ((s[k].toNat : Int) != 46) = true := bne_iff_ne.2 h4
            have q4 : ((s[k].toNat : Int) != 45) = true := bne_iff_ne.2 h5
            clear hb h4 h5
            go_wp2
            go_ret
            exact ⟨by rw [unhide HF]; rfl, rfl⟩
          · have HF : Hid (nmB s = false) := by show _ = _; rw [unhide HN]; exact (unhide HB) (k + 1) ((unhide HST).trans hb)
            have q1 : ¬ (s[k].toNat : Int) < 48 := by omega
            have q3 : ((s[k].toNat : Int) != 46) = true := bne_iff_ne.2 (by omega)
            have q4 : ((s[k].toNat : Int) != 45) = true := bne_iff_ne.2 (by omega)
            clear hb
            go_wp2
            go_ret
            exact ⟨by rw [unhide HF]; rfl, rfl⟩
          · have HF : Hid (nmB s = false) := by show _ = _; rw [unhide HN]; exact (unhide HB) (k + 1) ((unhide HST).trans hb)
            have q0 : ¬ (s[k].toNat : Int) < 97 := by omega
            have q1 : ¬ (s[k].toNat : Int) < 48 := by omega
            have q2 : 57 < (s[k].toNat : Int) := by omega
            have q3 : ((s[k].toNat : Int) != 46) = true := bne_iff_ne.2 (by omega)
            have q4 : ((s[k].toNat : Int) != 45) = true := bne_iff_ne.2 (by omega)
            clear hb
            go_wp2
            go_ret
            exact ⟨by rw [unhide HF]; rfl, rfl⟩
        · obtain rfl : k = s.size := by omega
          go_wp2
          go_ret
          exact ⟨by rw [unhide HN, ← unhide HT, unhide hno]; rfl, rfl⟩
    · have HN : Hid (nmB s = false) := nm_long (by omega)
      go_enter Tryd.func7, Tryd.ntmps7
      go_wp2
      go_ret
      exact ⟨by rw [unhide HN]; rfl, rfl⟩
end Go.Proofs.YtondonppakjbgaaDoorRRR.D
