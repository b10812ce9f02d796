/- Proved here: helpers, one text behind the other. -/
import Derived.Test.YtpfpollejhdbgaaDoorProg
import Derived.Test.YtpfpollejhdbgaaDoorM1
import Derived.Lib.AppendStr
import Derived.Test.YtpfpollejhdbgaaDoorZBase
import Derived.Lib.BitFns
import Derived.Lib.Walk
/- Proved here: what text.sizeByFirst, least, mayBe and point tell. Helper contracts. -/
namespace Go.Proofs.YtpfpollejhdbgaaDoor
open Go.RowKit

def szf (c : Int) : Int := if c < 128 then 1 else if c < 192 then 0 else if c < 224 then 2 else if c < 240 then 3 else if c < 248 then 4 else 0
theorem szf_any (c : Int) (w : World) : Calls Tryd.prog 88 #[.int .u8 c] w fun e w' => e = .returned (.int .i64 (szf c)) ∧ w' = w := by
  have fin : ∀ x : Int, szf c = x → ∀ w' : World, w' = w → Ending.returned (.int .i64 x) = .returned (.int .i64 (szf c)) ∧ w' = w := fun x h w' hw => ⟨by rw [h], hw⟩
  by_cases h1 : c < 128
  · have hz : Hid (szf c = 1) := by show szf c = 1; simp [szf, h1]
    go_enter Tryd.func88, Tryd.ntmps88
    go_wp2
    go_ret
    exact fin _ (unhide hz) _ rfl
  · by_cases h2 : c < 192
    · have hz : Hid (szf c = 0) := by show szf c = 0; simp [szf, h1, h2]
      go_enter Tryd.func88, Tryd.ntmps88
      go_wp2
      go_ret
      exact fin _ (unhide hz) _ rfl
    · by_cases h3 : c < 224
      · have hz : Hid (szf c = 2) := by show szf c = 2; simp [szf, h1, h2, h3]
        go_enter Tryd.func88, Tryd.ntmps88
        go_wp2
        go_ret
        exact fin _ (unhide hz) _ rfl
      · by_cases h4 : c < 240
        · have hz : Hid (szf c = 3) := by show szf c = 3; simp [szf, h1, h2, h3, h4]
          go_enter Tryd.func88, Tryd.ntmps88
          go_wp2
          go_ret
          exact fin _ (unhide hz) _ rfl
        · by_cases h5 : c < 248
          · have hz : Hid (szf c = 4) := by show szf c = 4; simp [szf, h1, h2, h3, h4, h5]
            go_enter Tryd.func88, Tryd.ntmps88
            go_wp2
            go_ret
            exact fin _ (unhide hz) _ rfl
          · have hz : Hid (szf c = 0) := by show szf c = 0; simp [szf, h1, h2, h3, h4, h5]
            go_enter Tryd.func88, Tryd.ntmps88
            go_wp2
            go_ret
            exact fin _ (unhide hz) _ rfl

theorem least_1 (w : World) : Calls Tryd.prog 91 #[.int .i64 1] w fun e w' => e = .returned (.int .i32 1) ∧ w' = w := by
  go_enter Tryd.func91, Tryd.ntmps91
  go_wp2
  go_ret
  exact ⟨rfl, rfl⟩
theorem least_2 (w : World) : Calls Tryd.prog 91 #[.int .i64 2] w fun e w' => e = .returned (.int .i32 128) ∧ w' = w := by
  go_enter Tryd.func91, Tryd.ntmps91
  go_wp2
  go_ret
  exact ⟨rfl, rfl⟩
theorem least_3 (w : World) : Calls Tryd.prog 91 #[.int .i64 3] w fun e w' => e = .returned (.int .i32 2048) ∧ w' = w := by
  go_enter Tryd.func91, Tryd.ntmps91
  go_wp2
  go_ret
  exact ⟨rfl, rfl⟩
theorem least_4 (w : World) : Calls Tryd.prog 91 #[.int .i64 4] w fun e w' => e = .returned (.int .i32 65536) ∧ w' = w := by
  go_enter Tryd.func91, Tryd.ntmps91
  go_wp2
  go_ret
  exact ⟨rfl, rfl⟩

theorem mayBe_any (p n L : Int) (w : World) (hL : ∀ w, Calls Tryd.prog 91 #[.int .i64 n] w fun e w' => e = .returned (.int .i32 L) ∧ w' = w) (b : Bool)
    (hb : Hid (b = (!(decide (55296 ≤ p) && decide (p ≤ 57343)) && (decide (L ≤ p) && decide (p ≤ 1114111))))) :
    Calls Tryd.prog 89 #[.int .i32 p, .int .i64 n] w fun e w' => e = .returned (.bool b) ∧ w' = w := by
  by_cases h1 : 55296 ≤ p
  · by_cases h2 : p ≤ 57343
    · obtain rfl : b = false := by rw [unhide hb]; simp [h1, h2]
      go_enter Tryd.func89, Tryd.ntmps89
      go_wp2
      go_ret
      exact ⟨rfl, rfl⟩
    · by_cases h3 : L ≤ p
      · by_cases h4 : p ≤ 1114111
        · obtain rfl : b = true := by rw [unhide hb]; simp [h2, h3, h4]
          go_enter Tryd.func89, Tryd.ntmps89
          go_wp2_with (go_at_call 91; refine (hL _).mono ?_; rintro e w' ⟨rfl, rfl⟩)
          go_ret
          exact ⟨rfl, rfl⟩
        · obtain rfl : b = false := by rw [unhide hb]; simp [h4]
          have h4' : decide (p ≤ 1114111) = false := by simpa using h4
          go_enter Tryd.func89, Tryd.ntmps89
          go_wp2_with (go_at_call 91; refine (hL _).mono ?_; rintro e w' ⟨rfl, rfl⟩)
          go_ret
          exact ⟨rfl, rfl⟩
      · obtain rfl : b = false := by rw [unhide hb]; simp [h3]
        go_enter Tryd.func89, Tryd.ntmps89
        go_wp2_with (go_at_call 91; refine (hL _).mono ?_; rintro e w' ⟨rfl, rfl⟩)
        go_ret
        exact ⟨rfl, rfl⟩
  · by_cases h3 : L ≤ p
    · have h4 : p ≤ 1114111 := by omega
      obtain rfl : b = true := by rw [unhide hb]; simp [h1, h3, h4]
      go_enter Tryd.func89, Tryd.ntmps89
      go_wp2_with (go_at_call 91; refine (hL _).mono ?_; rintro e w' ⟨rfl, rfl⟩)
      go_ret
      exact ⟨rfl, rfl⟩
    · obtain rfl : b = false := by rw [unhide hb]; simp [h3]
      go_enter Tryd.func89, Tryd.ntmps89
      go_wp2_with (go_at_call 91; refine (hL _).mono ?_; rintro e w' ⟨rfl, rfl⟩)
      go_ret
      exact ⟨rfl, rfl⟩

theorem ret_int {k : IntKind} {a b : Int} (h : a = b) : Ending.returned (.int k a) = .returned (.int k b) := by rw [h]
theorem ret_bool {a b : Bool} (h : a = b) : Ending.returned (.bool a) = .returned (.bool b) := by rw [h]
theorem w32 (x : Int) (h0 : 0 ≤ x) (h1 : x < 2147483648) : wrap32 x = x := by unfold wrap32; omega
theorem p2_eq (a b : Int) (a0 : 0 ≤ a) (a1 : a ≤ 255) (b0 : 0 ≤ b) (b1 : b ≤ 255) : bits .or .i32 (wrap32 (bits .and .i32 (wrap32 a) 31 * 64)) (wrap32 (bits .and .u8 b 63)) = pv2 a b := by
  rw [w32 a (by omega) (by omega), b31 a a0 a1, a63 b b0 b1, w32 (a % 32 * 64) (by omega) (by omega), w32 (b % 64) (by omega) (by omega), or_i32 _ _ 6 (by omega) (by omega) (by omega) (by omega) (by omega) (by omega)]
  rfl
theorem p3_eq (a b c : Int) (a0 : 0 ≤ a) (a1 : a ≤ 255) (b0 : 0 ≤ b) (b1 : b ≤ 255) (c0 : 0 ≤ c) (c1 : c ≤ 255) : bits .or .i32 (wrap32 (bits .or .i32 (wrap32 (bits .and .i32 (wrap32 a) 15 * 64)) (wrap32 (bits .and .u8 b 63)) * 64)) (wrap32 (bits .and .u8 c 63)) = pv3 a b c := by
  rw [w32 a (by omega) (by omega), b15 a a0 a1, a63 b b0 b1, a63 c c0 c1, w32 (a % 16 * 64) (by omega) (by omega), w32 (b % 64) (by omega) (by omega), w32 (c % 64) (by omega) (by omega),
    or_i32 (a % 16 * 64) (b % 64) 6 (by omega) (by omega) (by omega) (by omega) (by omega) (by omega), w32 ((a % 16 * 64 + b % 64) * 64) (by omega) (by omega), or_i32 _ (c % 64) 6 (by omega) (by omega) (by omega) (by omega) (by omega) (by omega)]
  rfl
theorem p4_eq (a b c d : Int) (a0 : 0 ≤ a) (a1 : a ≤ 255) (b0 : 0 ≤ b) (b1 : b ≤ 255) (c0 : 0 ≤ c) (c1 : c ≤ 255) (d0 : 0 ≤ d) (d1 : d ≤ 255) : bits .or .i32 (wrap32 (bits .or .i32 (wrap32 (bits .or .i32 (wrap32 (bits .and .i32 (wrap32 a) 7 * 64)) (wrap32 (bits .and .u8 b 63)) * 64)) (wrap32 (bits .and .u8 c 63)) * 64)) (wrap32 (bits .and .u8 d 63)) = pv4 a b c d := by
  rw [w32 a (by omega) (by omega), b7 a a0 a1, a63 b b0 b1, a63 c c0 c1, a63 d d0 d1, w32 (a % 8 * 64) (by omega) (by omega), w32 (b % 64) (by omega) (by omega), w32 (c % 64) (by omega) (by omega), w32 (d % 64) (by omega) (by omega),
    or_i32 (a % 8 * 64) (b % 64) 6 (by omega) (by omega) (by omega) (by omega) (by omega) (by omega), w32 ((a % 8 * 64 + b % 64) * 64) (by omega) (by omega), or_i32 _ (c % 64) 6 (by omega) (by omega) (by omega) (by omega) (by omega) (by omega),
    w32 (((a % 8 * 64 + b % 64) * 64 + c % 64) * 64) (by omega) (by omega), or_i32 _ (d % 64) 6 (by omega) (by omega) (by omega) (by omega) (by omega) (by omega)]
  rfl
theorem u8_le (b : UInt8) : 0 ≤ (b.toNat : Int) ∧ (b.toNat : Int) ≤ 255 := ⟨by omega, by have := b.toNat_lt; omega⟩
theorem point_1 (s : ByteArray) (w : World) (hs : s.size = 1) : Calls Tryd.prog 90 #[.string s] w fun e w' => e = .returned (.int .i32 ((sb s).getD 0 0)) ∧ w' = w := by
  go_enter Tryd.func90, Tryd.ntmps90
  go_wp2
  go_ret
  refine ⟨ret_int ?_, rfl⟩
  rw [← sb_get s 0 (by omega)]
  exact w32 _ (u8_le _).1 (by have := (u8_le s[0]).2; omega)
theorem point_2 (s : ByteArray) (w : World) (hs : s.size = 2) : Calls Tryd.prog 90 #[.string s] w fun e w' => e = .returned (.int .i32 (pv2 ((sb s).getD 0 0) ((sb s).getD 1 0))) ∧ w' = w := by
  go_enter Tryd.func90, Tryd.ntmps90
  go_wp2
  go_ret
  refine ⟨ret_int ?_, rfl⟩
  rw [← sb_get s 0 (by omega), ← sb_get s 1 (by omega)]
  exact p2_eq _ _ (u8_le _).1 (u8_le _).2 (u8_le _).1 (u8_le _).2
theorem point_3 (s : ByteArray) (w : World) (hs : s.size = 3) : Calls Tryd.prog 90 #[.string s] w fun e w' => e = .returned (.int .i32 (pv3 ((sb s).getD 0 0) ((sb s).getD 1 0) ((sb s).getD 2 0))) ∧ w' = w := by
  go_enter Tryd.func90, Tryd.ntmps90
  go_wp2
  go_ret
  refine ⟨ret_int ?_, rfl⟩
  rw [← sb_get s 0 (by omega), ← sb_get s 1 (by omega), ← sb_get s 2 (by omega)]
  exact p3_eq _ _ _ (u8_le _).1 (u8_le _).2 (u8_le _).1 (u8_le _).2 (u8_le _).1 (u8_le _).2
theorem point_4 (s : ByteArray) (w : World) (hs : s.size = 4) : Calls Tryd.prog 90 #[.string s] w fun e w' => e = .returned (.int .i32 (pv4 ((sb s).getD 0 0) ((sb s).getD 1 0) ((sb s).getD 2 0) ((sb s).getD 3 0))) ∧ w' = w := by
  go_enter Tryd.func90, Tryd.ntmps90
  go_wp2
  go_ret
  refine ⟨ret_int ?_, rfl⟩
  rw [← sb_get s 0 (by omega), ← sb_get s 1 (by omega), ← sb_get s 2 (by omega), ← sb_get s 3 (by omega)]
  exact p4_eq _ _ _ _ (u8_le _).1 (u8_le _).2 (u8_le _).1 (u8_le _).2 (u8_le _).1 (u8_le _).2 (u8_le _).1 (u8_le _).2
end Go.Proofs.YtpfpollejhdbgaaDoor
/- Proved here: text.pointSize tells how many bytes the code point has with which a text begins, or 0. Helper contracts. -/
namespace Go.Proofs.YtpfpollejhdbgaaDoor
open Go.RowKit

def pvn (n : Nat) (l : List Int) : Int := if n = 1 then l.getD 0 0 else if n = 2 then pv2 (l.getD 0 0) (l.getD 1 0) else if n = 3 then pv3 (l.getD 0 0) (l.getD 1 0) (l.getD 2 0) else pv4 (l.getD 0 0) (l.getD 1 0) (l.getD 2 0) (l.getD 3 0)
def lstn (n : Nat) : Int := if n = 1 then 1 else if n = 2 then 128 else if n = 3 then 2048 else 65536
def mbn (n : Nat) (l : List Int) : Bool := !(decide (55296 ≤ pvn n l) && decide (pvn n l ≤ 57343)) && (decide (lstn n ≤ pvn n l) && decide (pvn n l ≤ 1114111))

theorem szf_cases (c : Int) : (c < 128 ∧ szf c = 1) ∨ (128 ≤ c ∧ c < 192 ∧ szf c = 0) ∨ (192 ≤ c ∧ c < 224 ∧ szf c = 2) ∨ (224 ≤ c ∧ c < 240 ∧ szf c = 3) ∨ (240 ≤ c ∧ c < 248 ∧ szf c = 4) ∨ (248 ≤ c ∧ szf c = 0) := by
  unfold szf
  split
  · omega
  · split
    · omega
    · split
      · omega
      · split
        · omega
        · split <;> omega
theorem pt_1 (l : List Int) (h : l.getD 0 0 < 128) : pt l = if 0 < l.getD 0 0 then 1 else 0 := by unfold pt; rw [if_pos h]
theorem pt_2 (l : List Int) (h : 192 ≤ l.getD 0 0) (h' : l.getD 0 0 < 224) : pt l = if 2 ≤ l.length ∧ ok2 (l.getD 0 0) (l.getD 1 0) = true then 2 else 0 := by
  unfold pt; rw [if_neg (by omega), if_neg (by omega), if_pos h']
theorem pt_3 (l : List Int) (h : 224 ≤ l.getD 0 0) (h' : l.getD 0 0 < 240) : pt l = if 3 ≤ l.length ∧ ok3 (l.getD 0 0) (l.getD 1 0) (l.getD 2 0) = true then 3 else 0 := by
  unfold pt; rw [if_neg (by omega), if_neg (by omega), if_neg (by omega), if_pos h']
theorem pt_4 (l : List Int) (h : 240 ≤ l.getD 0 0) (h' : l.getD 0 0 < 248) : pt l = if 4 ≤ l.length ∧ ok4 (l.getD 0 0) (l.getD 1 0) (l.getD 2 0) (l.getD 3 0) = true then 4 else 0 := by
  unfold pt; rw [if_neg (by omega), if_neg (by omega), if_neg (by omega), if_neg (by omega), if_pos h']
theorem pt_0 (l : List Int) (h : szf (l.getD 0 0) = 0) : pt l = 0 := by
  rcases szf_cases (l.getD 0 0) with h1 | h1 | h1 | h1 | h1 | h1
  all_goals first | omega | skip
  · unfold pt; rw [if_neg (by omega), if_pos (by omega)]
  · unfold pt; rw [if_neg (by omega), if_neg (by omega), if_neg (by omega), if_neg (by omega), if_neg (by omega)]
theorem pt_short (l : List Int) (n : Nat) (hn : szf (l.getD 0 0) = n) (h0 : 1 ≤ l.length) (h : l.length < n) : pt l = 0 := by
  rcases szf_cases (l.getD 0 0) with h1 | h1 | h1 | h1 | h1 | h1
  all_goals first | omega | skip
  · rw [pt_2 l h1.1 h1.2.1, if_neg (by omega)]
  · rw [pt_3 l h1.1 h1.2.1, if_neg (by omega)]
  · rw [pt_4 l h1.1 h1.2.1, if_neg (by omega)]
theorem pt_cont (l : List Int) (n : Nat) (hn : szf (l.getD 0 0) = n) (j : Nat) (hj1 : 1 ≤ j) (hj : j < n) (hc : cont (l.getD j 0) = false) : pt l = 0 := by
  rcases szf_cases (l.getD 0 0) with h1 | h1 | h1 | h1 | h1 | h1
  all_goals first | omega | skip
  · obtain rfl : j = 1 := by omega
    rw [pt_2 l h1.1 h1.2.1, if_neg (by unfold ok2; rw [hc]; simp)]
  · rw [pt_3 l h1.1 h1.2.1, if_neg]
    rintro ⟨_, h2⟩
    unfold ok3 at h2
    obtain rfl | rfl : j = 1 ∨ j = 2 := by omega
    · rw [hc] at h2; simp at h2
    · rw [hc] at h2; simp at h2
  · rw [pt_4 l h1.1 h1.2.1, if_neg]
    rintro ⟨_, h2⟩
    unfold ok4 at h2
    obtain rfl | rfl | rfl : j = 1 ∨ j = 2 ∨ j = 3 := by omega
    · rw [hc] at h2; simp at h2
    · rw [hc] at h2; simp at h2
    · rw [hc] at h2; simp at h2
theorem if_iff {p q : Prop} [Decidable p] [Decidable q] {a b : Nat} (h : p ↔ q) : (if p then a else b) = if q then a else b := by
  by_cases hp : p
  · rw [if_pos hp, if_pos (h.1 hp)]
  · rw [if_neg hp, if_neg (fun hq => hp (h.2 hq))]
theorem pt_mb (l : List Int) (n : Nat) (hn : szf (l.getD 0 0) = n) (h0 : 1 ≤ n) (hl : n ≤ l.length) (hc : ∀ j, 1 ≤ j → j < n → cont (l.getD j 0) = true) : pt l = if mbn n l = true then n else 0 := by
  unfold mbn
  simp only [Bool.and_eq_true, Bool.not_eq_true', Bool.and_eq_false_iff, decide_eq_true_eq, decide_eq_false_iff_not]
  rcases szf_cases (l.getD 0 0) with h1 | h1 | h1 | h1 | h1 | h1
  all_goals first | omega | skip
  · obtain rfl : n = 1 := by omega
    rw [pt_1 l h1.1]
    refine if_iff ?_
    have e : pvn 1 l = l.getD 0 0 := rfl
    have e2 : lstn 1 = 1 := rfl
    rw [e, e2]
    omega
  · obtain rfl : n = 2 := by omega
    rw [pt_2 l h1.1 h1.2.1]
    refine if_iff ?_
    have e : pvn 2 l = pv2 (l.getD 0 0) (l.getD 1 0) := rfl
    have e2 : lstn 2 = 128 := rfl
    rw [e, e2]
    unfold ok2
    simp only [hc 1 (by omega) (by omega), Bool.true_and, decide_eq_true_eq]
    have : 0 ≤ pv2 (l.getD 0 0) (l.getD 1 0) ∧ pv2 (l.getD 0 0) (l.getD 1 0) < 2048 := by unfold pv2; omega
    omega
  · obtain rfl : n = 3 := by omega
    rw [pt_3 l h1.1 h1.2.1]
    refine if_iff ?_
    have e : pvn 3 l = pv3 (l.getD 0 0) (l.getD 1 0) (l.getD 2 0) := rfl
    have e2 : lstn 3 = 2048 := rfl
    rw [e, e2]
    unfold ok3
    simp only [hc 1 (by omega) (by omega), hc 2 (by omega) (by omega), Bool.true_and, Bool.and_eq_true, Bool.not_eq_true', Bool.and_eq_false_iff, decide_eq_true_eq, decide_eq_false_iff_not]
    have : 0 ≤ pv3 (l.getD 0 0) (l.getD 1 0) (l.getD 2 0) ∧ pv3 (l.getD 0 0) (l.getD 1 0) (l.getD 2 0) < 65536 := by unfold pv3; omega
    omega
  · obtain rfl : n = 4 := by omega
    rw [pt_4 l h1.1 h1.2.1]
    refine if_iff ?_
    have e : pvn 4 l = pv4 (l.getD 0 0) (l.getD 1 0) (l.getD 2 0) (l.getD 3 0) := rfl
    have e2 : lstn 4 = 65536 := rfl
    rw [e, e2]
    unfold ok4
    simp only [hc 1 (by omega) (by omega), hc 2 (by omega) (by omega), hc 3 (by omega) (by omega), Bool.true_and, Bool.and_eq_true, decide_eq_true_eq]
    omega

theorem getD_take (l : List Int) (n j : Nat) (h : j < n) : (l.take n).getD j 0 = l.getD j 0 := by
  rw [List.getD_eq_getElem?_getD, List.getElem?_take, if_pos h, ← List.getD_eq_getElem?_getD]
theorem pvn_take (n : Nat) (l : List Int) (h1 : 1 ≤ n) (h4 : n ≤ 4) : pvn n (l.take n) = pvn n l := by
  obtain rfl | rfl | rfl | rfl : n = 1 ∨ n = 2 ∨ n = 3 ∨ n = 4 := by omega
  · simp only [pvn, if_true]; rw [getD_take _ _ _ (by omega)]
  · show pv2 _ _ = pv2 _ _
    rw [getD_take _ _ _ (by omega), getD_take _ _ _ (by omega)]
  · show pv3 _ _ _ = pv3 _ _ _
    rw [getD_take _ _ _ (by omega), getD_take _ _ _ (by omega), getD_take _ _ _ (by omega)]
  · show pv4 _ _ _ _ = pv4 _ _ _ _
    rw [getD_take _ _ _ (by omega), getD_take _ _ _ (by omega), getD_take _ _ _ (by omega), getD_take _ _ _ (by omega)]
theorem point_any (s : ByteArray) (n : Nat) (w : World) (h1 : 1 ≤ n) (h4 : n ≤ 4) (hn : n ≤ s.size) : Calls Tryd.prog 90 #[.string (s.extract 0 n)] w fun e w' => e = .returned (.int .i32 (pvn n (sb s))) ∧ w' = w := by
  have hz : (s.extract 0 n).size = n := by rw [ByteArray.size_extract]; omega
  rw [← pvn_take n (sb s) h1 h4, ← sb_take]
  obtain rfl | rfl | rfl | rfl : n = 1 ∨ n = 2 ∨ n = 3 ∨ n = 4 := by omega
  · exact point_1 _ w hz
  · exact point_2 _ w hz
  · exact point_3 _ w hz
  · exact point_4 _ w hz
theorem least_any (n : Nat) (h1 : 1 ≤ n) (h4 : n ≤ 4) (w : World) : Calls Tryd.prog 91 #[.int .i64 n] w fun e w' => e = .returned (.int .i32 (lstn n)) ∧ w' = w := by
  obtain rfl | rfl | rfl | rfl : n = 1 ∨ n = 2 ∨ n = 3 ∨ n = 4 := by omega
  · exact least_1 w
  · exact least_2 w
  · exact least_3 w
  · exact least_4 w

theorem ps_0 (s : ByteArray) (w : World) (h : 0 < s.size) (hz : szf (s[0].toNat : Int) = 0) : Calls Tryd.prog 87 #[.string s] w fun e w' => e = .returned (.int .i64 0) ∧ w' = w := by
  go_enter Tryd.func87, Tryd.ntmps87
  go_wp2_with (go_at_call 88; refine (szf_any _ _).mono ?_; rintro e w' ⟨rfl, rfl⟩)
  go_ret
  exact ⟨rfl, rfl⟩
theorem ps_short (s : ByteArray) (n : Nat) (w : World) (h : 0 < s.size) (hz : szf (s[0].toNat : Int) = n) (hn : s.size < n) : Calls Tryd.prog 87 #[.string s] w fun e w' => e = .returned (.int .i64 0) ∧ w' = w := by
  have hn0 : ((n : Int) == 0) = false := beq_eq_false_iff_ne.2 (by omega)
  go_enter Tryd.func87, Tryd.ntmps87
  go_wp2_with (go_at_call 88; refine (szf_any _ _).mono ?_; rintro e w' ⟨rfl, rfl⟩)
  go_ret
  exact ⟨rfl, rfl⟩
set_option maxRecDepth 100000 in
set_option maxHeartbeats 1000000 in
theorem ps_good (s : ByteArray) (n : Nat) (w : World) (h : 0 < s.size) (hz : szf (s[0].toNat : Int) = n) (h1 : 1 ≤ n) (hn : n ≤ s.size) (h4 : n ≤ 4) : Calls Tryd.prog 87 #[.string s] w fun e w' => e = .returned (.int .i64 (pt (sb s))) ∧ w' = w := by
  have hn0 : ((n : Int) == 0) = false := beq_eq_false_iff_ne.2 (by omega)
  have hz' : Hid (szf ((sb s).getD 0 0) = n) := by show _ = _; rw [← sb_get s 0 h]; exact hz
  have hl : Hid (n ≤ (sb s).length) := by show _ ≤ _; rw [sb_length]; exact hn
  go_enter Tryd.func87, Tryd.ntmps87
  go_wp2_with (first | (go_at_call 88; refine (szf_any _ _).mono ?_; rintro e w' ⟨rfl, rfl⟩))
  go_loop [4] (fun i => ∃ k : Nat, 1 ≤ k ∧ k ≤ n ∧ i = .int .i64 k ∧ Hid (∀ j, 1 ≤ j → j < k → cont ((sb s).getD j 0) = true)) (fun i => n - (intOf i).toNat)
  case atStart => exact ⟨1, by omega, by omega, rfl, fun j h1 h2 => by omega⟩
  case round =>
    obtain ⟨k, hk1, hkn, rfl, hall⟩ := hrel
    by_cases hlt : k < n
    · have hks : k < s.size := by omega
      have hcs : Hid ((bits .and .u8 (s[k].toNat : Int) 192 == 128) = cont ((sb s).getD k 0)) := by show _ = _; rw [← sb_get s k hks]; exact a192 _ (u8_le _).1 (u8_le _).2
      by_cases hc : cont ((sb s).getD k 0) = true
      · have hb : (bits .and .u8 (s[k].toNat : Int) 192 == 128) = true := (unhide hcs).trans hc
        have HC := hide hc
        clear hc
        go_wp2
        go_round
        case rel => exact ⟨k + 1, by omega, by omega, by go_num, fun j h1 h2 => by
          rcases Nat.lt_succ_iff_lt_or_eq.1 h2 with h | h
          · exact (unhide hall) j h1 h
          · rw [h]; exact unhide HC⟩
        case measure => simp [intOf]; omega
      · have hb : (bits .and .u8 (s[k].toNat : Int) 192 == 128) = false := by rw [unhide hcs]; simpa using hc
        have HC := hide hc
        clear hc
        go_wp2
        go_ret
        refine ⟨ret_int ?_, rfl⟩
        rw [pt_cont (sb s) n (unhide hz') k hk1 hlt (by simpa using unhide HC)]
        rfl
    · obtain rfl : k = n := by omega
      have hpt := hide (pt_mb (sb s) k (unhide hz') h1 (unhide hl) (unhide hall))
      by_cases hm : mbn k (sb s) = true
      · have hr : Hid (pt (sb s) = k) := by show _ = _; rw [unhide hpt, if_pos hm]
        have hm' : Hid (true = mbn k (sb s)) := hm.symm
        clear hm hpt
        go_wp2_with (first | (go_at_call 90; refine (point_any s k _ h1 h4 hn).mono ?_; rintro e w' ⟨rfl, rfl⟩) | (go_at_call 89; refine (mayBe_any _ _ (lstn k) _ (least_any k h1 h4) true hm').mono ?_; rintro e w' ⟨rfl, rfl⟩))
        go_ret
        refine ⟨ret_int ?_, rfl⟩
        rw [unhide hr]
      · have hr : Hid (pt (sb s) = 0) := by show _ = _; rw [unhide hpt, if_neg hm]
        have hm' : Hid (false = mbn k (sb s)) := by show _ = _; cases h : mbn k (sb s) with | false => rfl | true => exact absurd h hm
        clear hm hpt
        go_wp2_with (first | (go_at_call 90; refine (point_any s k _ h1 h4 hn).mono ?_; rintro e w' ⟨rfl, rfl⟩) | (go_at_call 89; refine (mayBe_any _ _ (lstn k) _ (least_any k h1 h4) false hm').mono ?_; rintro e w' ⟨rfl, rfl⟩))
        go_ret
        refine ⟨ret_int ?_, rfl⟩
        rw [unhide hr]
        rfl
theorem szf_nat (c : Int) : ∃ n : Nat, szf c = n ∧ n ≤ 4 := by
  rcases szf_cases c with h1 | h1 | h1 | h1 | h1 | h1
  · exact ⟨1, by omega, by omega⟩
  · exact ⟨0, by omega, by omega⟩
  · exact ⟨2, by omega, by omega⟩
  · exact ⟨3, by omega, by omega⟩
  · exact ⟨4, by omega, by omega⟩
  · exact ⟨0, by omega, by omega⟩
theorem ps_any (s : ByteArray) (w : World) (h : 0 < s.size) : Calls Tryd.prog 87 #[.string s] w fun e w' => e = .returned (.int .i64 (pt (sb s))) ∧ w' = w := by
  obtain ⟨n, hn, h4⟩ := szf_nat (s[0].toNat : Int)
  have hz' : szf ((sb s).getD 0 0) = n := by rw [← sb_get s 0 h]; exact hn
  by_cases h0 : n = 0
  · subst h0
    rw [pt_0 _ hz']
    exact ps_0 s w h hn
  · by_cases hs : s.size < n
    · rw [pt_short (sb s) n hz' (by rw [sb_length]; exact h) (by rw [sb_length]; exact hs)]
      exact ps_short s n w h hn hs
    · exact ps_good s n w h hn (by omega) (by omega) h4
end Go.Proofs.YtpfpollejhdbgaaDoor
/- Proved here: text.Check tells nil, or a Fault around ErrForm where a text is no UTF-8, around ErrLimit where it is too long. Helper contracts. -/
namespace Go.Proofs.YtpfpollejhdbgaaDoor
open Go.RowKit

/-- the world behind a new Fault around the number n -/
abbrev faultW (n : Int) (w : World) : World := w.alloc (.cells #[.string ⟨#[116, 101, 120, 116]⟩, .iface 65 (.int .i64 n)] 81)
theorem fault_any (n : Int) (w : World) : Calls Tryd.prog 85 #[.int .i64 n] w fun e w' => e = .returned (.iface 79 (.pointer (some ⟨w.heap.size, 0, none⟩))) ∧ w' = faultW n w := by
  go_enter Tryd.func85, Tryd.ntmps85
  go_wp2
  go_ret
  exact ⟨rfl, rfl⟩
theorem fault_is (n : Int) (w : World) : ErrIs (faultW n w) (.iface 79 (.pointer (some ⟨w.heap.size, 0, none⟩))) n := .inr ⟨_, rfl, by simp⟩
theorem fault_below (n : Int) (w : World) : Below w.heap.size w (faultW n w) := (Below.refl _ _).alloc (Nat.le_refl _) _

def ChkPost (l : List Int) (w : World) (e : Ending) (w' : World) : Prop :=
  (chk l = 0 ∧ e = .returned .nilIface ∧ w' = w) ∨ (∃ n, chk l = n ∧ n ≠ 0 ∧ e = .returned (.iface 79 (.pointer (some ⟨w.heap.size, 0, none⟩))) ∧ w' = faultW n w)

set_option maxRecDepth 100000 in
set_option maxHeartbeats 1000000 in
theorem check_core (s : ByteArray) (w : World) (hs : s.size ≤ 4611686018427387904) : Calls Tryd.prog 83 #[.string s] w (ChkPost (sb s) w) := by
  have HL := hide (sb_length s)
  go_enter Tryd.func83, Tryd.ntmps83
  go_wp2
  go_loop [3] (fun i => ∃ k : Nat, k ≤ s.size ∧ i = .int .i64 k ∧ Hid (utf ((sb s).drop k) = utf (sb s))) (fun i => s.size - (intOf i).toNat)
  case atStart => exact ⟨0, Nat.zero_le _, rfl, rfl⟩
  case round =>
    obtain ⟨k, hk, rfl, hu⟩ := hrel
    by_cases hlt : k < s.size
    · have hps : ∀ w, Calls Tryd.prog 87 #[.string (s.extract k s.size)] w fun e w' => e = .returned (.int .i64 (pt ((sb s).drop k))) ∧ w' = w := fun w => by
        rw [← sb_drop]
        exact ps_any _ w (by rw [ByteArray.size_extract]; omega)
      have HPS := hide hps
      clear hps
      have h4 := pt_le4 ((sb s).drop k)
      have hle : pt ((sb s).drop k) + k ≤ s.size := by
        have := pt_le ((sb s).drop k)
        rw [List.length_drop, unhide HL] at this
        omega
      have hnot := hide (utf_not (sb s) k (by rw [unhide HL]; exact hlt))
      have hyes := hide (utf_drop (sb s) k (by rw [unhide HL]; exact hlt))
      generalize pt ((sb s).drop k) = p at HPS h4 hle hnot hyes
      by_cases hp : p = 0
      · subst hp
        have hc : Hid (chk (sb s) = 1) := by show _ = _; unfold chk; rw [if_neg]; rw [← unhide hu, (unhide hnot) rfl]; simp
        clear hyes
        go_wp2_with (first | (go_at_call 87; refine ((unhide HPS) _).mono ?_; rintro e w' ⟨rfl, rfl⟩) | (go_at_call 85; refine (fault_any _ _).mono ?_; rintro e w' ⟨rfl, rfl⟩))
        go_ret
        exact .inr ⟨1, unhide hc, by omega, rfl, rfl⟩
      · have hp0 : ((p : Int) == 0) = false := beq_eq_false_iff_ne.2 (by omega)
        have hu' : Hid (utf ((sb s).drop (k + p)) = utf (sb s)) := by show _ = _; rw [← (unhide hyes) hp]; exact unhide hu
        clear hnot hyes
        go_wp2_with (first | (go_at_call 87; refine ((unhide HPS) _).mono ?_; rintro e w' ⟨rfl, rfl⟩))
        go_round
        case rel => exact ⟨k + p, by omega, by go_num, hu'⟩
        case measure => simp [intOf]; omega
    · obtain rfl : k = s.size := by omega
      have ht : utf (sb s) = true := by rw [← unhide hu, List.drop_of_length_le (by rw [unhide HL]; exact Nat.le_refl _)]; rfl
      by_cases hm : s.size ≤ 65535
      · have hc : Hid (chk (sb s) = 0) := by show _ = _; unfold chk; rw [if_pos ht, if_pos (by rw [unhide HL]; exact hm)]
        clear ht
        go_wp2
        go_ret
        exact .inl ⟨unhide hc, rfl, rfl⟩
      · have hc : Hid (chk (sb s) = 2) := by show _ = _; unfold chk; rw [if_pos ht, if_neg (by rw [unhide HL]; exact hm)]
        clear ht
        go_wp2_with (go_at_call 85; refine (fault_any _ _).mono ?_; rintro e w' ⟨rfl, rfl⟩)
        go_ret
        exact .inr ⟨2, unhide hc, by omega, rfl, rfl⟩
theorem check_ok (s : ByteArray) (w : World) (hs : s.size ≤ 4611686018427387904) (h : chk (sb s) = 0) : Calls Tryd.prog 83 #[.string s] w fun e w' => e = .returned .nilIface ∧ w' = w := by
  refine (check_core s w hs).mono ?_
  rintro e w' (⟨_, h1⟩ | ⟨n, h1, h2, _⟩)
  · exact h1
  · exact absurd (h1.symm.trans h) h2
theorem check_bad (s : ByteArray) (n : Int) (w : World) (hs : s.size ≤ 4611686018427387904) (h : chk (sb s) = n) (h0 : n ≠ 0) : Calls Tryd.prog 83 #[.string s] w fun e w' => e = .returned (.iface 79 (.pointer (some ⟨w.heap.size, 0, none⟩))) ∧ w' = faultW n w := by
  refine (check_core s w hs).mono ?_
  rintro e w' (⟨h1, _⟩ | ⟨m, h1, _, h3⟩)
  · exact absurd (h.symm.trans h1) h0
  · obtain rfl : m = n := h1.symm.trans h
    exact h3
/-- Check's answer, as a caller uses it that holds its number alone -/
theorem check_num (s : ByteArray) (w : World) (hs : s.size ≤ 4611686018427387904) : Calls Tryd.prog 83 #[.string s] w fun e w' => ∃ E, e = .returned E ∧ Hid (ErrIs w' E (chk (sb s))) ∧ Below w.heap.size w w' := by
  refine (check_core s w hs).mono ?_
  rintro e w' (⟨h, rfl, rfl⟩ | ⟨n, h, h0, rfl, rfl⟩)
  · exact ⟨_, rfl, .inl ⟨h, rfl⟩, Below.refl _ _⟩
  · exact ⟨_, rfl, by rw [h]; exact fault_is n w, fault_below n w⟩
end Go.Proofs.YtpfpollejhdbgaaDoor
/- Proved here: text.Put and PutBin tell a text's length in two bytes and its bytes behind, in memory of their own, or a Fault. Helper contracts. -/
namespace Go.Proofs.YtpfpollejhdbgaaDoor
open Go.RowKit

theorem Tryd.infoU8 : (Tryd.prog.info? 5).map (fun i => (i.zero, i.size, i.bytes)) = some (some (.int .u8 0), 1, 1) := by kernel_rfl
theorem strCells_sb (s : ByteArray) : Lib.strCells s = (sb s).map (Value.int .u8) := by unfold Lib.strCells sb; rw [List.map_map]; rfl
/-- a text's bytes with their length ahead -/
def tx (s : ByteArray) : List Int := [(s.size : Int) / 256, (s.size : Int) % 256] ++ sb s
theorem tx_length (s : ByteArray) : (tx s).length = 2 + s.size := by unfold tx; rw [List.length_append, sb_length]; rfl
theorem two_cell (w : World) (y z : Value) (t : TypeId) : ∀ j u, [y, z][j]? = some u → (w.alloc (.cells #[y, z] t)).cell? ((⟨w.heap.size, 0, none⟩ : Addr).add j) = some u := by
  intro j u hj
  match j, hj with
  | 0, hj => simp at hj; subst hj; simp [Addr.add]
  | 1, hj => simp at hj; subst hj; simp [Addr.add]
theorem two_one (k : IntKind) (y z : Int) : ∀ u ∈ [Value.int k y, Value.int k z], u.oneCell' = true := by
  intro u hu; simp at hu; rcases hu with rfl | rfl <;> rfl

set_option maxRecDepth 100000 in
set_option maxHeartbeats 1000000 in
theorem wl_any (s : ByteArray) (w : World) (hs : s.size ≤ 65535) : Calls Tryd.prog 84 #[.string s] w fun e w' => ∃ v, e = .returned v ∧ Hid (w'.ownsRow w.heap.size 5 1 v (2 + s.size) ((tx s).map (Value.int .u8))) ∧ Below w.heap.size w w' := by
  obtain ⟨i0, hi, hz0, hz1, hz2⟩ := info_parts Tryd.infoU8
  go_enter Tryd.func84, Tryd.ntmps84
  go_wp2_with (first
    | (at_make; refine wpList_make_own _ rfl _ _ 24 rfl w.heap.size 5 i0 (.int .u8 0) 1 Tryd.underlying24 hi hz0 hz1 .i64 .i64 _ (2 + s.size) rfl rfl (by omega) (by rw [hz2]; omega) (by unfold maxLen; omega) (Nat.le_refl _) ?_; intro w0 hown0 hgrow0)
    | (at_builtin; refine wpList_append_own _ rfl _ _ 24 rfl w.heap.size 5 i0 (.int .u8 0) 1 1 Tryd.underlying24 hi hz0 hz1 hz2 rfl (by decide) _ _ _ rfl (hown0.alloc _) ⟨w0.heap.size, 0, none⟩ 2 2 [.int .u8 ((s.size : Int) / 256), .int .u8 ((s.size : Int) % 256)] rfl rfl (two_cell _ _ _ _) (two_one _ _ _) (by unfold maxLen; omega) (by omega) (by have := hgrow0.size; simp; omega) ?_)
    | go_in)
  intro v1 w1 hown1 hgrow1 _
  have hb0 : Below w.heap.size w w0 := (Below.refl _ _).grown hgrow0 (Nat.le_refl _) (fun k hk => by cases hk)
  have hb1 : Below w.heap.size w w1 := (hb0.alloc hb0.size _).grown hgrow1 (by have := hb0.size; simp; omega) (fun k hk => (hown0.lt k hk).1)
  clear hgrow0 hgrow1 hown0 hb0
  go_wp2_with (first
    | (at_builtin; refine Lib.wpList_append_own_string _ rfl _ _ 24 9 rfl w.heap.size 5 i0 Tryd.underlying24 Tryd.underlying9 hi hz0 hz1 hz2 _ _ _ rfl hown1 s rfl (by unfold maxLen; omega) (by omega) hb1.size ?_)
    | go_in)
  intro v2 w2 hown2 hgrow2 _
  have hb2 : Below w.heap.size w w2 := hb1.grown hgrow2 hb1.size (fun k hk => (hown1.lt k hk).1)
  have hown3 : Hid (w2.ownsRow w.heap.size 5 1 v2 (2 + s.size) ((tx s).map (Value.int .u8))) := by
    unfold tx
    rw [List.map_append, ← strCells_sb]
    show World.ownsRow _ _ _ _ _ _ _
    simpa using hown2
  clear hgrow2 hown1 hb1 hown2
  go_wp2
  go_ret
  exact ⟨_, rfl, hown3, hb2⟩

/-- what Put and PutBin tell of a text that may be told -/
def TxPost (s : ByteArray) (w : World) (e : Ending) (w' : World) : Prop :=
  ∃ v, e = .returned (.tuple #[v, .nilIface]) ∧ Hid (w'.ownsRow w.heap.size 5 1 v (2 + s.size) ((tx s).map (Value.int .u8))) ∧ Below w.heap.size w w'
/-- .. and of one that may not -/
def FaPost (n : Int) (w : World) (e : Ending) (w' : World) : Prop :=
  e = .returned (.tuple #[.slice none 0 0, .iface 79 (.pointer (some ⟨w.heap.size, 0, none⟩))]) ∧ w' = faultW n w

theorem chk_0 {l : List Int} (h : chk l = 0) : l.length ≤ 65535 := by
  unfold chk at h
  by_cases h1 : utf l = true
  · rw [if_pos h1] at h
    by_cases h2 : l.length ≤ 65535
    · exact h2
    · rw [if_neg h2] at h; omega
  · rw [if_neg h1] at h; omega
theorem put_ok (s : ByteArray) (w : World) (hc : chk (sb s) = 0) : Calls Tryd.prog 69 #[.string s] w (TxPost s w) := by
  have hs : s.size ≤ 65535 := by have := chk_0 hc; rw [sb_length] at this; exact this
  unfold TxPost
  have HC := hide hc
  clear hc
  go_enter Tryd.func69, Tryd.ntmps69
  go_wp2_with (first | (go_at_call 83; refine (check_ok s _ (by omega) (unhide HC)).mono ?_; rintro e w' ⟨rfl, rfl⟩) | (go_at_call 84; refine (wl_any s _ hs).mono ?_; rintro e w' ⟨v, rfl, hown, hb⟩))
  go_ret2
  exact ⟨_, rfl, hown, hb⟩
theorem put_bad (s : ByteArray) (n : Int) (w : World) (hs : s.size ≤ 4611686018427387904) (hc : chk (sb s) = n) (hn : n ≠ 0) : Calls Tryd.prog 69 #[.string s] w (FaPost n w) := by
  unfold FaPost
  have HC := hide hc
  clear hc
  go_enter Tryd.func69, Tryd.ntmps69
  go_wp2_with (first | (go_at_call 83; refine (check_bad s n _ hs (unhide HC) hn).mono ?_; rintro e w' ⟨rfl, rfl⟩))
  go_ret2
  exact ⟨rfl, rfl⟩
theorem putBin_ok (s : ByteArray) (w : World) (hs : s.size ≤ 65535) : Calls Tryd.prog 70 #[.string s] w (TxPost s w) := by
  unfold TxPost
  go_enter Tryd.func70, Tryd.ntmps70
  go_wp2_with (go_at_call 84; refine (wl_any s _ hs).mono ?_; rintro e w' ⟨v, rfl, hown, hb⟩)
  go_ret2
  exact ⟨_, rfl, hown, hb⟩
theorem putBin_bad (s : ByteArray) (w : World) (hs : 65535 < s.size) : Calls Tryd.prog 70 #[.string s] w (FaPost 2 w) := by
  unfold FaPost
  go_enter Tryd.func70, Tryd.ntmps70
  go_wp2_with (go_at_call 85; refine (fault_any _ _).mono ?_; rintro e w' ⟨rfl, rfl⟩)
  go_ret2
  exact ⟨rfl, rfl⟩
theorem tx_range (s : ByteArray) (hs : s.size ≤ 65535) : ∀ j, 0 ≤ (tx s).getD j 0 ∧ (tx s).getD j 0 ≤ 255 := by
  intro j
  unfold tx
  rcases j with _ | _ | j
  · simp; omega
  · simp; omega
  · simpa using sb_range s j
end Go.Proofs.YtpfpollejhdbgaaDoor
/- Proved here: varint.sizeOf tells how many groups of seven bits a number from 0 to 268435455 takes. Helper contracts. -/
namespace Go.Proofs.YtpfpollejhdbgaaDoor.V
open Go.RowKit
set_option maxRecDepth 100000

/-- how many groups -/
def sz (n : Int) : Int := if n < 128 then 1 else if n < 16384 then 2 else if n < 2097152 then 3 else 4

theorem bitLen_ge (k x : Nat) (h : 2 ^ k ≤ x) (hx : x < 2 ^ 64) : k + 1 ≤ Lib.bitLen x := by
  rw [Lib.bitLen_shift k x h hx]
  have h1 : x / 2 ^ k ≠ 0 := by
    have := Nat.div_pos h (Nat.two_pow_pos k); omega
  rw [Lib.bitLen_half _ h1 (Nat.lt_of_le_of_lt (Nat.div_le_self _ _) hx)]
  omega

theorem sz_of (n : Int) (h0 : 0 ≤ n) (h1 : n ≤ 268435455) : max 1 ((Lib.bitLen n.toNat + 6 : Int) / 7) = sz n := by
  unfold sz
  obtain ⟨m, rfl⟩ := Int.eq_ofNat_of_zero_le h0
  rw [Int.toNat_natCast]
  have hx : m < 2 ^ 64 := by omega
  by_cases a : m < 128
  · have := Lib.bitLen_le m 7 (by omega) a
    rw [if_pos (show (m : Int) < 128 by omega)]
    omega
  · by_cases b : m < 16384
    · have l := bitLen_ge 7 m (by omega) hx
      have u := Lib.bitLen_le m 14 (by omega) b
      rw [if_neg (show ¬ (m : Int) < 128 by omega), if_pos (show (m : Int) < 16384 by omega)]
      omega
    · by_cases c : m < 2097152
      · have l := bitLen_ge 14 m (by omega) hx
        have u := Lib.bitLen_le m 21 (by omega) c
        rw [if_neg (show ¬ (m : Int) < 128 by omega), if_neg (show ¬ (m : Int) < 16384 by omega), if_pos (show (m : Int) < 2097152 by omega)]
        omega
      · have l := bitLen_ge 21 m (by omega) hx
        have u := Lib.bitLen_le m 28 (by omega) (by omega)
        rw [if_neg (show ¬ (m : Int) < 128 by omega), if_neg (show ¬ (m : Int) < 16384 by omega), if_neg (show ¬ (m : Int) < 2097152 by omega)]
        omega

set_option maxHeartbeats 4000000 in
set_option maxRecDepth 100000 in
theorem len64_any (x : Int) (w : World) (h0 : 0 ≤ x) (h1 : x ≤ 268435455) :
    Calls Tryd.prog 75 #[.int .u64 x] w fun e w' => e = .returned (.int .i64 (Lib.bitLen x.toNat)) ∧ w' = w := by
  have t9 := Tryd.underlying9
  by_cases a : x ≤ 255
  · have l := Lib.bitLen_le8' x h0 a
    go_enter Tryd.func75, Tryd.ntmps75
    go_wp2
    go_ret
    refine ⟨congrArg Ending.returned (congrArg (Value.int IntKind.i64) ?_), rfl⟩
    rw [Lib.len8_of x h0 a]
    simp only [wrap64]
    omega
  · by_cases b : x ≤ 65535
    · have c0 : 0 ≤ x / 256 := by omega
      have c1 : x / 256 ≤ 255 := by omega
      have l := Lib.bitLen_le8' (x / 256) c0 c1
      have s := Lib.bitLen_shift8 x.toNat (by omega) (by omega)
      have S := hide s
      clear s
      go_enter Tryd.func75, Tryd.ntmps75
      go_wp2
      go_ret
      refine ⟨congrArg Ending.returned (congrArg (Value.int IntKind.i64) ?_), rfl⟩
      rw [Lib.len8_of (x / 256) c0 c1, unhide S, show (x / 256).toNat = x.toNat / 256 from by omega]
      rw [show (x / 256).toNat = x.toNat / 256 from by omega] at l
      simp only [wrap64]
      omega
    · by_cases c : x ≤ 16777215
      · have c0 : 0 ≤ x / 65536 := by omega
        have c1 : x / 65536 ≤ 255 := by omega
        have l := Lib.bitLen_le8' (x / 65536) c0 c1
        have s := Lib.bitLen_shift16 x.toNat (by omega) (by omega)
        have S := hide s
        clear s
        go_enter Tryd.func75, Tryd.ntmps75
        go_wp2
        go_ret
        refine ⟨congrArg Ending.returned (congrArg (Value.int IntKind.i64) ?_), rfl⟩
        rw [Lib.len8_of (x / 65536) c0 c1, unhide S, show (x / 65536).toNat = x.toNat / 65536 from by omega]
        rw [show (x / 65536).toNat = x.toNat / 65536 from by omega] at l
        simp only [wrap64]
        omega
      · have c0 : 0 ≤ x / 65536 / 256 := by omega
        have c1 : x / 65536 / 256 ≤ 255 := by omega
        have l := Lib.bitLen_le8' (x / 65536 / 256) c0 c1
        have s := Lib.bitLen_shift24 x.toNat (by omega) (by omega)
        have S := hide s
        clear s
        go_enter Tryd.func75, Tryd.ntmps75
        go_wp2
        go_ret
        refine ⟨congrArg Ending.returned (congrArg (Value.int IntKind.i64) ?_), rfl⟩
        rw [Lib.len8_of (x / 65536 / 256) c0 c1, unhide S, show (x / 65536 / 256).toNat = x.toNat / 16777216 from by omega]
        rw [show (x / 65536 / 256).toNat = x.toNat / 16777216 from by omega] at l
        simp only [wrap64]
        omega

theorem len_any (x : Int) (w : World) (h0 : 0 ≤ x) (h1 : x ≤ 268435455) :
    Calls Tryd.prog 60 #[.int .u64 x] w fun e w' => e = .returned (.int .i64 (Lib.bitLen x.toNat)) ∧ w' = w := by
  go_enter Tryd.func60, Tryd.ntmps60
  go_wp2_with (go_at_call 75; refine (len64_any _ _ h0 h1).mono ?_; rintro e w' ⟨rfl, rfl⟩)
  go_ret
  exact ⟨rfl, rfl⟩

theorem sizeOf_any (n : Int) (w : World) (h0 : 0 ≤ n) (h1 : n ≤ 268435455) :
    Calls Tryd.prog 47 #[.int .i64 n] w fun e w' => e = .returned (.int .i64 (sz n)) ∧ w' = w := by
  have hs := hide (sz_of n h0 h1)
  have hl := Lib.bitLen_le n.toNat 28 (by omega) (by omega)
  go_enter Tryd.func47, Tryd.ntmps47
  go_wp2_with (go_at_call 60; refine (len_any _ _ h0 h1).mono ?_; rintro e w' ⟨rfl, rfl⟩)
  go_ret
  exact ⟨congrArg Ending.returned (congrArg (Value.int IntKind.i64) (unhide hs)), rfl⟩
end Go.Proofs.YtpfpollejhdbgaaDoor.V
/- Proved here: varint.Put tells a number's groups of seven bits, the lowest first, or a Fault around ErrForm. Helper contracts. -/
namespace Go.Proofs.YtpfpollejhdbgaaDoor.V
open Go.RowKit
set_option maxRecDepth 100000

theorem fault_any (n : Int) (w : World) : Calls Tryd.prog 46 #[.int .i64 n] w fun e w' => e = .returned (.iface 79 (.pointer (some ⟨w.heap.size, 0, none⟩))) ∧ w' = w.alloc (.cells #[.string ⟨#[118, 97, 114, 105, 110, 116]⟩, .iface 65 (.int .i64 n)] 81) := by
  go_enter Tryd.func46, Tryd.ntmps46
  go_wp2
  go_ret
  exact ⟨rfl, rfl⟩

/-- the bytes of a number from 0 to 268435455 -/
def put (n : Int) : List Int :=
  if n < 128 then [n] else if n < 16384 then [n % 128 + 128, n / 128] else if n < 2097152 then [n % 128 + 128, n / 128 % 128 + 128, n / 16384]
  else [n % 128 + 128, n / 128 % 128 + 128, n / 16384 % 128 + 128, n / 2097152]

theorem put_bad (n : Int) (w : World) (h : n < 0 ∨ 268435455 < n) :
    Calls Tryd.prog 30 #[.int .i64 n] w fun e w' => e = .returned (.tuple #[.slice none 0 0, .iface 79 (.pointer (some ⟨w.heap.size, 0, none⟩))]) ∧ w' = w.alloc (.cells #[.string ⟨#[118, 97, 114, 105, 110, 116]⟩, .iface 65 (.int .i64 1)] 81) := by
  rcases h with h | h
  · go_enter Tryd.func30, Tryd.ntmps30
    go_wp2_with (go_at_call 46; refine (fault_any _ _).mono ?_; rintro e w' ⟨rfl, rfl⟩)
    go_ret2
    exact ⟨rfl, rfl⟩
  · have h' : ¬ n < 0 := by omega
    go_enter Tryd.func30, Tryd.ntmps30
    go_wp2_with (go_at_call 46; refine (fault_any _ _).mono ?_; rintro e w' ⟨rfl, rfl⟩)
    go_ret2
    exact ⟨rfl, rfl⟩

theorem make1 (w : World) : (Instr.makeSlice 24 (.int .i64 1) (.int .i64 1)).run Tryd.prog w = .ok (.slice (some ⟨w.heap.size, 0, none⟩) 1 1) (w.alloc (.cells #[.int .u8 0] 5)) := by kernel_rfl
theorem make2 (w : World) : (Instr.makeSlice 24 (.int .i64 2) (.int .i64 2)).run Tryd.prog w = .ok (.slice (some ⟨w.heap.size, 0, none⟩) 2 2) (w.alloc (.cells #[.int .u8 0, .int .u8 0] 5)) := by kernel_rfl
theorem make3 (w : World) : (Instr.makeSlice 24 (.int .i64 3) (.int .i64 3)).run Tryd.prog w = .ok (.slice (some ⟨w.heap.size, 0, none⟩) 3 3) (w.alloc (.cells #[.int .u8 0, .int .u8 0, .int .u8 0] 5)) := by kernel_rfl
theorem make4 (w : World) : (Instr.makeSlice 24 (.int .i64 4) (.int .i64 4)).run Tryd.prog w = .ok (.slice (some ⟨w.heap.size, 0, none⟩) 4 4) (w.alloc (.cells #[.int .u8 0, .int .u8 0, .int .u8 0, .int .u8 0] 5)) := by kernel_rfl

theorem or128_all : ∀ x : Fin 256, bits .or .u8 (x.val : Int) 128 = (x.val : Int) % 128 + 128 := by decide +kernel
theorem and127_all : ∀ x : Fin 256, bits .and .u8 (x.val : Int) 127 = (x.val : Int) % 128 := by decide +kernel
theorem and128_all : ∀ x : Fin 256, bits .and .u8 (x.val : Int) 128 = if (x.val : Int) < 128 then 0 else 128 := by decide +kernel
theorem or128 (x : Int) (h0 : 0 ≤ x) (h1 : x < 256) : bits .or .u8 x 128 = x % 128 + 128 := by
  have := or128_all ⟨x.toNat, by omega⟩
  simpa only [Int.toNat_of_nonneg h0] using this
theorem and127 (x : Int) (h0 : 0 ≤ x) (h1 : x < 256) : bits .and .u8 x 127 = x % 128 := by
  have := and127_all ⟨x.toNat, by omega⟩
  simpa only [Int.toNat_of_nonneg h0] using this
theorem and128 (x : Int) (h0 : 0 ≤ x) (h1 : x < 256) : bits .and .u8 x 128 = if x < 128 then 0 else 128 := by
  have := and128_all ⟨x.toNat, by omega⟩
  simpa only [Int.toNat_of_nonneg h0] using this
theorem last_of (x : Int) (h0 : 0 ≤ x) (h1 : x < 128) : bits .and .u8 (bits .or .u8 x 128) 127 = x := by
  rw [or128 x h0 (by omega), and127 _ (by omega) (by omega)]; omega
theorem more_of (x : Int) : bits .or .u8 (x % 256) 128 = x % 128 + 128 := by
  rw [or128 _ (by omega) (by omega)]; omega
theorem more_of' (x : Int) (h0 : 0 ≤ x) (h1 : x < 256) : bits .or .u8 x 128 = x % 128 + 128 := or128 x h0 h1

/-- Put's answer, exactly -/
def PutPost (n : Int) (w : World) (e : Ending) (w' : World) : Prop :=
  e = .returned (.tuple #[.slice (some ⟨w.heap.size, 0, none⟩) (put n).length (put n).length, .nilIface]) ∧ w' = w.alloc (.cells ((put n).map (Value.int .u8)).toArray 5)

theorem put_1 (n : Int) (w : World) (h0 : 0 ≤ n) (h1 : n < 128) : Calls Tryd.prog 30 #[.int .i64 n] w (PutPost n w) := by
  have hp : put n = [n] := by simp [put, h1]
  unfold PutPost
  rw [hp]
  clear hp
  have hm := make1 w
  have hs : sz n = 1 := by simp [sz, h1]
  go_enter Tryd.func30, Tryd.ntmps30
  go_wp2_with (go_at_call 47; refine (sizeOf_any _ _ h0 (by omega)).mono ?_; rintro e w' ⟨rfl, rfl⟩)
  go_ret2
  refine ⟨rfl, ?_⟩
  rw [last_of n h0 h1]
  rfl
theorem put_2 (n : Int) (w : World) (h0 : 128 ≤ n) (h1 : n < 16384) : Calls Tryd.prog 30 #[.int .i64 n] w (PutPost n w) := by
  have hp : put n = [n % 128 + 128, n / 128] := by unfold put; rw [if_neg (by omega), if_pos (by omega)]
  unfold PutPost
  rw [hp]
  clear hp
  have hm := make2 w
  have hs : sz n = 2 := by unfold sz; rw [if_neg (by omega), if_pos (by omega)]
  go_enter Tryd.func30, Tryd.ntmps30
  go_wp2_with (go_at_call 47; refine (sizeOf_any _ _ (by omega) (by omega)).mono ?_; rintro e w' ⟨rfl, rfl⟩)
  go_ret2
  refine ⟨rfl, ?_⟩
  rw [last_of (n / 128) (by omega) (by omega), more_of]
  rfl
theorem put_3 (n : Int) (w : World) (h0 : 16384 ≤ n) (h1 : n < 2097152) : Calls Tryd.prog 30 #[.int .i64 n] w (PutPost n w) := by
  have hp : put n = [n % 128 + 128, n / 128 % 128 + 128, n / 16384] := by unfold put; rw [if_neg (by omega), if_neg (by omega), if_pos (by omega)]
  unfold PutPost
  rw [hp]
  clear hp
  have hm := make3 w
  have hs : sz n = 3 := by unfold sz; rw [if_neg (by omega), if_neg (by omega), if_pos (by omega)]
  go_enter Tryd.func30, Tryd.ntmps30
  go_wp2_with (go_at_call 47; refine (sizeOf_any _ _ (by omega) (by omega)).mono ?_; rintro e w' ⟨rfl, rfl⟩)
  go_ret2
  refine ⟨rfl, ?_⟩
  rw [last_of (n / 16384) (by omega) (by omega), more_of, more_of]
  rfl
theorem put_4 (n : Int) (w : World) (h0 : 2097152 ≤ n) (h1 : n ≤ 268435455) : Calls Tryd.prog 30 #[.int .i64 n] w (PutPost n w) := by
  have hp : put n = [n % 128 + 128, n / 128 % 128 + 128, n / 16384 % 128 + 128, n / 2097152] := by unfold put; rw [if_neg (by omega), if_neg (by omega), if_neg (by omega)]
  unfold PutPost
  rw [hp]
  clear hp
  have hm := make4 w
  have hs : sz n = 4 := by unfold sz; rw [if_neg (by omega), if_neg (by omega), if_neg (by omega)]
  go_enter Tryd.func30, Tryd.ntmps30
  go_wp2_with (go_at_call 47; refine (sizeOf_any _ _ (by omega) (by omega)).mono ?_; rintro e w' ⟨rfl, rfl⟩)
  go_ret2
  refine ⟨rfl, ?_⟩
  rw [last_of (n / 2097152) (by omega) (by omega), more_of, more_of, more_of]
  rfl
theorem put_good (n : Int) (w : World) (h0 : 0 ≤ n) (h1 : n ≤ 268435455) : Calls Tryd.prog 30 #[.int .i64 n] w (PutPost n w) := by
  by_cases a : n < 128
  · exact put_1 n w h0 a
  · by_cases b : n < 16384
    · exact put_2 n w (by omega) b
    · by_cases c : n < 2097152
      · exact put_3 n w (by omega) c
      · exact put_4 n w (by omega) h1
theorem put_range (n : Int) (h0 : 0 ≤ n) (h1 : n ≤ 268435455) : ∀ j, 0 ≤ (put n).getD j 0 ∧ (put n).getD j 0 ≤ 255 := by
  intro j
  unfold put
  split
  · rcases j with _ | j <;> simp <;> omega
  · split
    · rcases j with _ | _ | j <;> simp <;> omega
    · split
      · rcases j with _ | _ | _ | j <;> simp <;> omega
      · rcases j with _ | _ | _ | _ | j <;> simp <;> omega
theorem put_len (n : Int) : 1 ≤ (put n).length ∧ (put n).length ≤ 4 := by
  unfold put
  split <;> (try split) <;> (try split) <;> simp
theorem put_byt (n : Int) (w : World) (h0 : 0 ≤ n) (h1 : n ≤ 268435455) : Byt (w.alloc (.cells ((put n).map (Value.int .u8)).toArray 5)) (.slice (some ⟨w.heap.size, 0, none⟩) (put n).length (put n).length) (put n) := by
  refine ⟨_, _, rfl, ⟨Nat.le_refl _, by have := put_len n; unfold maxLen; omega⟩, put_range n h0 h1, .inr ⟨_, _, rfl, fun j hj => ?_⟩⟩
  rw [World.cell?_alloc_at _ _ _ _ rfl]
  simp [hj]
/-- Put's answer, as a caller uses it -/
theorem put_use (x : Int) (w : World) (h0 : 0 ≤ x) (h1 : x ≤ 268435455) : Calls Tryd.prog 30 #[.int .i64 x] w fun e w' => ∃ n : Nat, Hid (n = (put x).length) ∧ e = .returned (.tuple #[.slice (some ⟨w.heap.size, 0, none⟩) n n, .nilIface]) ∧
    Hid (w'.ownsRow w.heap.size 5 1 (.slice (some ⟨w.heap.size, 0, none⟩) n n) n ((put x).map (Value.int .u8))) ∧ Below w.heap.size w w' := by
  refine (put_good x w h0 h1).mono ?_
  rintro e w' ⟨rfl, rfl⟩
  have hl := put_len x
  exact ⟨_, rfl, rfl, World.ownsRow_lit w _ _ (Nat.le_refl _) (by unfold maxLen; omega) (by simp), (Below.refl _ _).alloc (Nat.le_refl _) _⟩
end Go.Proofs.YtpfpollejhdbgaaDoor.V
