/- Proved here: text.pointSize tells how many bytes the code point has with which a text begins, or 0. Helper contracts. -/
import Derived.Test.YtdjpllmgjmnolaaGreatDoorZTPoint
namespace Go.Proofs.YtdjpllmgjmnolaaGreatDoor
open Go.RowKit

def pvn (n : Nat) (l : List Int) : Int := if n = 1 then l.getD 0 0 else if n = 2 then pv2 (l.getD 0 0) (l.getD 1 0) else if n = 3 then pv3 (l.getD 0 0) (l.getD 1 0) (l.getD 2 0) else pv4 (l.getD 0 0) (l.getD 1 0) (l.getD 2 0) (l.getD 3 0)
def lstn (n : Nat) : Int := if n = 1 then 1 else if n = 2 then 128 else if n = 3 then 2048 else 65536
def mbn (n : Nat) (l : List Int) : Bool := !(decide (55296 ≤ pvn n l) && decide (pvn n l ≤ 57343)) && (decide (lstn n ≤ pvn n l) && decide (pvn n l ≤ 1114111))

theorem szf_cases (c : Int) : (c < 128 ∧ szf c = 1) ∨ (128 ≤ c ∧ c < 192 ∧ szf c = 0) ∨ (192 ≤ c ∧ c < 224 ∧ szf c = 2) ∨ (224 ≤ c ∧ c < 240 ∧ szf c = 3) ∨ (240 ≤ c ∧ c < 248 ∧ szf c = 4) ∨ (248 ≤ c ∧ szf c = 0) := by
  unfold szf
  split
  · omega
  · split
    · omega
    · split
      · omega
      · split
        · omega
        · split <;> omega
theorem pt_1 (l : List Int) (h : l.getD 0 0 < 128) : pt l = if 0 < l.getD 0 0 then 1 else 0 := by unfold pt; rw [if_pos h]
theorem pt_2 (l : List Int) (h : 192 ≤ l.getD 0 0) (h' : l.getD 0 0 < 224) : pt l = if 2 ≤ l.length ∧ ok2 (l.getD 0 0) (l.getD 1 0) = true then 2 else 0 := by
  unfold pt; rw [if_neg (by omega), if_neg (by omega), if_pos h']
theorem pt_3 (l : List Int) (h : 224 ≤ l.getD 0 0) (h' : l.getD 0 0 < 240) : pt l = if 3 ≤ l.length ∧ ok3 (l.getD 0 0) (l.getD 1 0) (l.getD 2 0) = true then 3 else 0 := by
  unfold pt; rw [if_neg (by omega), if_neg (by omega), if_neg (by omega), if_pos h']
theorem pt_4 (l : List Int) (h : 240 ≤ l.getD 0 0) (h' : l.getD 0 0 < 248) : pt l = if 4 ≤ l.length ∧ ok4 (l.getD 0 0) (l.getD 1 0) (l.getD 2 0) (l.getD 3 0) = true then 4 else 0 := by
  unfold pt; rw [if_neg (by omega), if_neg (by omega), if_neg (by omega), if_neg (by omega), if_pos h']
theorem pt_0 (l : List Int) (h : szf (l.getD 0 0) = 0) : pt l = 0 := by
  rcases szf_cases (l.getD 0 0) with h1 | h1 | h1 | h1 | h1 | h1
  all_goals first | omega | skip
  · unfold pt; rw [if_neg (by omega), if_pos (by omega)]
  · unfold pt; rw [if_neg (by omega), if_neg (by omega), if_neg (by omega), if_neg (by omega), if_neg (by omega)]
theorem pt_short (l : List Int) (n : Nat) (hn : szf (l.getD 0 0) = n) (h0 : 1 ≤ l.length) (h : l.length < n) : pt l = 0 := by
  rcases szf_cases (l.getD 0 0) with h1 | h1 | h1 | h1 | h1 | h1
  all_goals first | omega | skip
  · rw [pt_2 l h1.1 h1.2.1, if_neg (by omega)]
  · rw [pt_3 l h1.1 h1.2.1, if_neg (by omega)]
  · rw [pt_4 l h1.1 h1.2.1, if_neg (by omega)]
theorem pt_cont (l : List Int) (n : Nat) (hn : szf (l.getD 0 0) = n) (j : Nat) (hj1 : 1 ≤ j) (hj : j < n) (hc : cont (l.getD j 0) = false) : pt l = 0 := by
  rcases szf_cases (l.getD 0 0) with h1 | h1 | h1 | h1 | h1 | h1
  all_goals first | omega | skip
  · obtain rfl : j = 1 := by omega
    rw [pt_2 l h1.1 h1.2.1, if_neg (by unfold ok2; rw [hc]; simp)]
  · rw [pt_3 l h1.1 h1.2.1, if_neg]
    rintro ⟨_, h2⟩
    unfold ok3 at h2
    obtain rfl | rfl : j = 1 ∨ j = 2 := by omega
    · rw [hc] at h2; simp at h2
    · rw [hc] at h2; simp at h2
  · rw [pt_4 l h1.1 h1.2.1, if_neg]
    rintro ⟨_, h2⟩
    unfold ok4 at h2
    obtain rfl | rfl | rfl : j = 1 ∨ j = 2 ∨ j = 3 := by omega
    · rw [hc] at h2; simp at h2
    · rw [hc] at h2; simp at h2
    · rw [hc] at h2; simp at h2
theorem if_iff {p q : Prop} [Decidable p] [Decidable q] {a b : Nat} (h : p ↔ q) : (if p then a else b) = if q then a else b := by
  by_cases hp : p
  · rw [if_pos hp, if_pos (h.1 hp)]
  · rw [if_neg hp, if_neg (fun hq => hp (h.2 hq))]
theorem pt_mb (l : List Int) (n : Nat) (hn : szf (l.getD 0 0) = n) (h0 : 1 ≤ n) (hl : n ≤ l.length) (hc : ∀ j, 1 ≤ j → j < n → cont (l.getD j 0) = true) : pt l = if mbn n l = true then n else 0 := by
  unfold mbn
  simp only [Bool.and_eq_true, Bool.not_eq_true', Bool.and_eq_false_iff, decide_eq_true_eq, decide_eq_false_iff_not]
  rcases szf_cases (l.getD 0 0) with h1 | h1 | h1 | h1 | h1 | h1
  all_goals first | omega | skip
  · obtain rfl : n = 1 := by omega
    rw [pt_1 l h1.1]
    refine if_iff ?_
    have e : pvn 1 l = l.getD 0 0 := rfl
    have e2 : lstn 1 = 1 := rfl
    rw [e, e2]
    omega
  · obtain rfl : n = 2 := by omega
    rw [pt_2 l h1.1 h1.2.1]
    refine if_iff ?_
    have e : pvn 2 l = pv2 (l.getD 0 0) (l.getD 1 0) := rfl
    have e2 : lstn 2 = 128 := rfl
    rw [e, e2]
    unfold ok2
    simp only [hc 1 (by omega) (by omega), Bool.true_and, decide_eq_true_eq]
    have : 0 ≤ pv2 (l.getD 0 0) (l.getD 1 0) ∧ pv2 (l.getD 0 0) (l.getD 1 0) < 2048 := by unfold pv2; omega
    omega
  · obtain rfl : n = 3 := by omega
    rw [pt_3 l h1.1 h1.2.1]
    refine if_iff ?_
    have e : pvn 3 l = pv3 (l.getD 0 0) (l.getD 1 0) (l.getD 2 0) := rfl
    have e2 : lstn 3 = 2048 := rfl
    rw [e, e2]
    unfold ok3
    simp only [hc 1 (by omega) (by omega), hc 2 (by omega) (by omega), Bool.true_and, Bool.and_eq_true, Bool.not_eq_true', Bool.and_eq_false_iff, decide_eq_true_eq, decide_eq_false_iff_not]
    have : 0 ≤ pv3 (l.getD 0 0) (l.getD 1 0) (l.getD 2 0) ∧ pv3 (l.getD 0 0) (l.getD 1 0) (l.getD 2 0) < 65536 := by unfold pv3; omega
    omega
  · obtain rfl : n = 4 := by omega
    rw [pt_4 l h1.1 h1.2.1]
    refine if_iff ?_
    have e : pvn 4 l = pv4 (l.getD 0 0) (l.getD 1 0) (l.getD 2 0) (l.getD 3 0) := rfl
    have e2 : lstn 4 = 65536 := rfl
    rw [e, e2]
    unfold ok4
    simp only [hc 1 (by omega) (by omega), hc 2 (by omega) (by omega), hc 3 (by omega) (by omega), Bool.true_and, Bool.and_eq_true, decide_eq_true_eq]
    omega

theorem getD_take (l : List Int) (n j : Nat) (h : j < n) : (l.take n).getD j 0 = l.getD j 0 := by
  rw [List.getD_eq_getElem?_getD, List.getElem?_take, if_pos h, ← List.getD_eq_getElem?_getD]
theorem pvn_take (n : Nat) (l : List Int) (h1 : 1 ≤ n) (h4 : n ≤ 4) : pvn n (l.take n) = pvn n l := by
  obtain rfl | rfl | rfl | rfl : n = 1 ∨ n = 2 ∨ n = 3 ∨ n = 4 := by omega
  · simp only [pvn, if_true]; rw [getD_take _ _ _ (by omega)]
  · show pv2 _ _ = pv2 _ _
    rw [getD_take _ _ _ (by omega), getD_take _ _ _ (by omega)]
  · show pv3 _ _ _ = pv3 _ _ _
    rw [getD_take _ _ _ (by omega), getD_take _ _ _ (by omega), getD_take _ _ _ (by omega)]
  · show pv4 _ _ _ _ = pv4 _ _ _ _
    rw [getD_take _ _ _ (by omega), getD_take _ _ _ (by omega), getD_take _ _ _ (by omega), getD_take _ _ _ (by omega)]
theorem point_any (s : ByteArray) (n : Nat) (w : World) (h1 : 1 ≤ n) (h4 : n ≤ 4) (hn : n ≤ s.size) : Calls Tryz.prog 87 #[.string (s.extract 0 n)] w fun e w' => e = .returned (.int .i32 (pvn n (sb s))) ∧ w' = w := by
  have hz : (s.extract 0 n).size = n := by rw [ByteArray.size_extract]; omega
  rw [← pvn_take n (sb s) h1 h4, ← sb_take]
  obtain rfl | rfl | rfl | rfl : n = 1 ∨ n = 2 ∨ n = 3 ∨ n = 4 := by omega
  · exact point_1 _ w hz
  · exact point_2 _ w hz
  · exact point_3 _ w hz
  · exact point_4 _ w hz
theorem least_any (n : Nat) (h1 : 1 ≤ n) (h4 : n ≤ 4) (w : World) : Calls Tryz.prog 110 #[.int .i64 n] w fun e w' => e = .returned (.int .i32 (lstn n)) ∧ w' = w := by
  obtain rfl | rfl | rfl | rfl : n = 1 ∨ n = 2 ∨ n = 3 ∨ n = 4 := by omega
  · exact least_1 w
  · exact least_2 w
  · exact least_3 w
  · exact least_4 w

theorem ps_0 (s : ByteArray) (w : World) (h : 0 < s.size) (hz : szf (s[0].toNat : Int) = 0) : Calls Tryz.prog 57 #[.string s] w fun e w' => e = .returned (.int .i64 0) ∧ w' = w := by
  go_enter Tryz.func57, Tryz.ntmps57
  go_wp2_with (go_at_call 85; refine (szf_any _ _).mono ?_; rintro e w' ⟨rfl, rfl⟩)
  go_ret
  exact ⟨rfl, rfl⟩
theorem ps_short (s : ByteArray) (n : Nat) (w : World) (h : 0 < s.size) (hz : szf (s[0].toNat : Int) = n) (hn : s.size < n) : Calls Tryz.prog 57 #[.string s] w fun e w' => e = .returned (.int .i64 0) ∧ w' = w := by
  have hn0 : ((n : Int) == 0) = false := beq_eq_false_iff_ne.2 (by omega)
  go_enter Tryz.func57, Tryz.ntmps57
  go_wp2_with (go_at_call 85; refine (szf_any _ _).mono ?_; rintro e w' ⟨rfl, rfl⟩)
  go_ret
  exact ⟨rfl, rfl⟩
set_option maxRecDepth 100000 in
set_option maxHeartbeats 1000000 in
theorem ps_good (s : ByteArray) (n : Nat) (w : World) (h : 0 < s.size) (hz : szf (s[0].toNat : Int) = n) (h1 : 1 ≤ n) (hn : n ≤ s.size) (h4 : n ≤ 4) : Calls Tryz.prog 57 #[.string s] w fun e w' => e = .returned (.int .i64 (pt (sb s))) ∧ w' = w := by
  have hn0 : ((n : Int) == 0) = false := beq_eq_false_iff_ne.2 (by omega)
  have hz' : Hid (szf ((sb s).getD 0 0) = n) := by show _ = _; rw [← sb_get s 0 h]; exact hz
  have hl : Hid (n ≤ (sb s).length) := by show _ ≤ _; rw [sb_length]; exact hn
  go_enter Tryz.func57, Tryz.ntmps57
  go_wp2_with (first | (go_at_call 85; refine (szf_any _ _).mono ?_; rintro e w' ⟨rfl, rfl⟩))
  go_loop [4] (fun i => ∃ k : Nat, 1 ≤ k ∧ k ≤ n ∧ i = .int .i64 k ∧ Hid (∀ j, 1 ≤ j → j < k → cont ((sb s).getD j 0) = true)) (fun i => n - (intOf i).toNat)
  case atStart => exact ⟨1, by omega, by omega, rfl, fun j h1 h2 => by omega⟩
  case round =>
    obtain ⟨k, hk1, hkn, rfl, hall⟩ := hrel
    by_cases hlt : k < n
    · have hks : k < s.size := by omega
      have hcs : Hid ((bits .and .u8 (s[k].toNat : Int) 192 == 128) = cont ((sb s).getD k 0)) := by show _ = _; rw [← sb_get s k hks]; exact a192 _ (u8_le _).1 (u8_le _).2
      by_cases hc : cont ((sb s).getD k 0) = true
      · have hb : (bits .and .u8 (s[k].toNat : Int) 192 == 128) = true := (unhide hcs).trans hc
        have HC := hide hc
        clear hc
        go_wp2
        go_round
        case rel => exact ⟨k + 1, by omega, by omega, by go_num, fun j h1 h2 => by
          rcases Nat.lt_succ_iff_lt_or_eq.1 h2 with h | h
          · exact (unhide hall) j h1 h
          · rw [h]; exact unhide HC⟩
        case measure => simp [intOf]; omega
      · have hb : (bits .and .u8 (s[k].toNat : Int) 192 == 128) = false := by rw [unhide hcs]; simpa using hc
        have HC := hide hc
        clear hc
        go_wp2
        go_ret
        refine ⟨ret_int ?_, rfl⟩
        rw [pt_cont (sb s) n (unhide hz') k hk1 hlt (by simpa using unhide HC)]
        rfl
    · obtain rfl : k = n := by omega
      have hpt := hide (pt_mb (sb s) k (unhide hz') h1 (unhide hl) (unhide hall))
      by_cases hm : mbn k (sb s) = true
      · have hr : Hid (pt (sb s) = k) := by show _ = _; rw [unhide hpt, if_pos hm]
        have hm' : Hid (true = mbn k (sb s)) := hm.symm
        clear hm hpt
        go_wp2_with (first | (go_at_call 87; refine (point_any s k _ h1 h4 hn).mono ?_; rintro e w' ⟨rfl, rfl⟩) | (go_at_call 86; refine (mayBe_any _ _ (lstn k) _ (least_any k h1 h4) true hm').mono ?_; rintro e w' ⟨rfl, rfl⟩))
        go_ret
        refine ⟨ret_int ?_, rfl⟩
        rw [unhide hr]
      · have hr : Hid (pt (sb s) = 0) := by show _ = _; rw [unhide hpt, if_neg hm]
        have hm' : Hid (false = mbn k (sb s)) := by show _ = _; cases h : mbn k (sb s) with | false => rfl | true => exact absurd h hm
        clear hm hpt
        go_wp2_with (first | (go_at_call 87; refine (point_any s k _ h1 h4 hn).mono ?_; rintro e w' ⟨rfl, rfl⟩) | (go_at_call 86; refine (mayBe_any _ _ (lstn k) _ (least_any k h1 h4) false hm').mono ?_; rintro e w' ⟨rfl, rfl⟩))
        go_ret
        refine ⟨ret_int ?_, rfl⟩
        rw [unhide hr]
        rfl
theorem szf_nat (c : Int) : ∃ n : Nat, szf c = n ∧ n ≤ 4 := by
  rcases szf_cases c with h1 | h1 | h1 | h1 | h1 | h1
  · exact ⟨1, by omega, by omega⟩
  · exact ⟨0, by omega, by omega⟩
  · exact ⟨2, by omega, by omega⟩
  · exact ⟨3, by omega, by omega⟩
  · exact ⟨4, by omega, by omega⟩
  · exact ⟨0, by omega, by omega⟩
theorem ps_any (s : ByteArray) (w : World) (h : 0 < s.size) : Calls Tryz.prog 57 #[.string s] w fun e w' => e = .returned (.int .i64 (pt (sb s))) ∧ w' = w := by
  obtain ⟨n, hn, h4⟩ := szf_nat (s[0].toNat : Int)
  have hz' : szf ((sb s).getD 0 0) = n := by rw [← sb_get s 0 h]; exact hn
  by_cases h0 : n = 0
  · subst h0
    rw [pt_0 _ hz']
    exact ps_0 s w h hn
  · by_cases hs : s.size < n
    · rw [pt_short (sb s) n hz' (by rw [sb_length]; exact h) (by rw [sb_length]; exact hs)]
      exact ps_short s n w h hn hs
    · exact ps_good s n w h hn (by omega) (by omega) h4
end Go.Proofs.YtdjpllmgjmnolaaGreatDoor
