/- Proved here: what text.sizeByFirst, least, mayBe and point tell. Helper contracts. -/
import Derived.Test.YtdjpllmgjmnolaaGreatDoorProg
import Derived.Test.YtdjpllmgjmnolaaGreatDoorZTBits
namespace Go.Proofs.YtdjpllmgjmnolaaGreatDoor
open Go.RowKit

def szf (c : Int) : Int := if c < 128 then 1 else if c < 192 then 0 else if c < 224 then 2 else if c < 240 then 3 else if c < 248 then 4 else 0
theorem szf_any (c : Int) (w : World) : Calls Tryz.prog 85 #[.int .u8 c] w fun e w' => e = .returned (.int .i64 (szf c)) ∧ w' = w := by
  have fin : ∀ x : Int, szf c = x → ∀ w' : World, w' = w → Ending.returned (.int .i64 x) = .returned (.int .i64 (szf c)) ∧ w' = w := fun x h w' hw => ⟨by rw [h], hw⟩
  by_cases h1 : c < 128
  · have hz : Hid (szf c = 1) := by show szf c = 1; simp [szf, h1]
    go_enter Tryz.func85, Tryz.ntmps85
    go_wp2
    go_ret
    exact fin _ (unhide hz) _ rfl
  · by_cases h2 : c < 192
    · have hz : Hid (szf c = 0) := by show szf c = 0; simp [szf, h1, h2]
      go_enter Tryz.func85, Tryz.ntmps85
      go_wp2
      go_ret
      exact fin _ (unhide hz) _ rfl
    · by_cases h3 : c < 224
      · have hz : Hid (szf c = 2) := by show szf c = 2; simp [szf, h1, h2, h3]
        go_enter Tryz.func85, Tryz.ntmps85
        go_wp2
        go_ret
        exact fin _ (unhide hz) _ rfl
      · by_cases h4 : c < 240
        · have hz : Hid (szf c = 3) := by show szf c = 3; simp [szf, h1, h2, h3, h4]
          go_enter Tryz.func85, Tryz.ntmps85
          go_wp2
          go_ret
          exact fin _ (unhide hz) _ rfl
        · by_cases h5 : c < 248
          · have hz : Hid (szf c = 4) := by show szf c = 4; simp [szf, h1, h2, h3, h4, h5]
            go_enter Tryz.func85, Tryz.ntmps85
            go_wp2
            go_ret
            exact fin _ (unhide hz) _ rfl
          · have hz : Hid (szf c = 0) := by show szf c = 0; simp [szf, h1, h2, h3, h4, h5]
            go_enter Tryz.func85, Tryz.ntmps85
            go_wp2
            go_ret
            exact fin _ (unhide hz) _ rfl

theorem least_1 (w : World) : Calls Tryz.prog 110 #[.int .i64 1] w fun e w' => e = .returned (.int .i32 1) ∧ w' = w := by
  go_enter Tryz.func110, Tryz.ntmps110
  go_wp2
  go_ret
  exact ⟨rfl, rfl⟩
theorem least_2 (w : World) : Calls Tryz.prog 110 #[.int .i64 2] w fun e w' => e = .returned (.int .i32 128) ∧ w' = w := by
  go_enter Tryz.func110, Tryz.ntmps110
  go_wp2
  go_ret
  exact ⟨rfl, rfl⟩
theorem least_3 (w : World) : Calls Tryz.prog 110 #[.int .i64 3] w fun e w' => e = .returned (.int .i32 2048) ∧ w' = w := by
  go_enter Tryz.func110, Tryz.ntmps110
  go_wp2
  go_ret
  exact ⟨rfl, rfl⟩
theorem least_4 (w : World) : Calls Tryz.prog 110 #[.int .i64 4] w fun e w' => e = .returned (.int .i32 65536) ∧ w' = w := by
  go_enter Tryz.func110, Tryz.ntmps110
  go_wp2
  go_ret
  exact ⟨rfl, rfl⟩

theorem mayBe_any (p n L : Int) (w : World) (hL : ∀ w, Calls Tryz.prog 110 #[.int .i64 n] w fun e w' => e = .returned (.int .i32 L) ∧ w' = w) (b : Bool)
    (hb : Hid (b = (!(decide (55296 ≤ p) && decide (p ≤ 57343)) && (decide (L ≤ p) && decide (p ≤ 1114111))))) :
    Calls Tryz.prog 86 #[.int .i32 p, .int .i64 n] w fun e w' => e = .returned (.bool b) ∧ w' = w := by
  by_cases h1 : 55296 ≤ p
  · by_cases h2 : p ≤ 57343
    · obtain rfl : b = false := by rw [unhide hb]; simp [h1, h2]
      go_enter Tryz.func86, Tryz.ntmps86
      go_wp2
      go_ret
      exact ⟨rfl, rfl⟩
    · by_cases h3 : L ≤ p
      · by_cases h4 : p ≤ 1114111
        · obtain rfl : b = true := by rw [unhide hb]; simp [h2, h3, h4]
          go_enter Tryz.func86, Tryz.ntmps86
          go_wp2_with (go_at_call 110; refine (hL _).mono ?_; rintro e w' ⟨rfl, rfl⟩)
          go_ret
          exact ⟨rfl, rfl⟩
        · obtain rfl : b = false := by rw [unhide hb]; simp [h4]
          have h4' : decide (p ≤ 1114111) = false := by simpa using h4
          go_enter Tryz.func86, Tryz.ntmps86
          go_wp2_with (go_at_call 110; refine (hL _).mono ?_; rintro e w' ⟨rfl, rfl⟩)
          go_ret
          exact ⟨rfl, rfl⟩
      · obtain rfl : b = false := by rw [unhide hb]; simp [h3]
        go_enter Tryz.func86, Tryz.ntmps86
        go_wp2_with (go_at_call 110; refine (hL _).mono ?_; rintro e w' ⟨rfl, rfl⟩)
        go_ret
        exact ⟨rfl, rfl⟩
  · by_cases h3 : L ≤ p
    · have h4 : p ≤ 1114111 := by omega
      obtain rfl : b = true := by rw [unhide hb]; simp [h1, h3, h4]
      go_enter Tryz.func86, Tryz.ntmps86
      go_wp2_with (go_at_call 110; refine (hL _).mono ?_; rintro e w' ⟨rfl, rfl⟩)
      go_ret
      exact ⟨rfl, rfl⟩
    · obtain rfl : b = false := by rw [unhide hb]; simp [h3]
      go_enter Tryz.func86, Tryz.ntmps86
      go_wp2_with (go_at_call 110; refine (hL _).mono ?_; rintro e w' ⟨rfl, rfl⟩)
      go_ret
      exact ⟨rfl, rfl⟩

theorem ret_int {k : IntKind} {a b : Int} (h : a = b) : Ending.returned (.int k a) = .returned (.int k b) := by rw [h]
theorem ret_bool {a b : Bool} (h : a = b) : Ending.returned (.bool a) = .returned (.bool b) := by rw [h]
theorem w32 (x : Int) (h0 : 0 ≤ x) (h1 : x < 2147483648) : wrap32 x = x := by unfold wrap32; omega
theorem p2_eq (a b : Int) (a0 : 0 ≤ a) (a1 : a ≤ 255) (b0 : 0 ≤ b) (b1 : b ≤ 255) : bits .or .i32 (wrap32 (bits .and .i32 (wrap32 a) 31 * 64)) (wrap32 (bits .and .u8 b 63)) = pv2 a b := by
  rw [w32 a (by omega) (by omega), b31 a a0 a1, a63 b b0 b1, w32 (a % 32 * 64) (by omega) (by omega), w32 (b % 64) (by omega) (by omega), or_i32 _ _ 6 (by omega) (by omega) (by omega) (by omega) (by omega) (by omega)]
  rfl
theorem p3_eq (a b c : Int) (a0 : 0 ≤ a) (a1 : a ≤ 255) (b0 : 0 ≤ b) (b1 : b ≤ 255) (c0 : 0 ≤ c) (c1 : c ≤ 255) : bits .or .i32 (wrap32 (bits .or .i32 (wrap32 (bits .and .i32 (wrap32 a) 15 * 64)) (wrap32 (bits .and .u8 b 63)) * 64)) (wrap32 (bits .and .u8 c 63)) = pv3 a b c := by
  rw [w32 a (by omega) (by omega), b15 a a0 a1, a63 b b0 b1, a63 c c0 c1, w32 (a % 16 * 64) (by omega) (by omega), w32 (b % 64) (by omega) (by omega), w32 (c % 64) (by omega) (by omega),
    or_i32 (a % 16 * 64) (b % 64) 6 (by omega) (by omega) (by omega) (by omega) (by omega) (by omega), w32 ((a % 16 * 64 + b % 64) * 64) (by omega) (by omega), or_i32 _ (c % 64) 6 (by omega) (by omega) (by omega) (by omega) (by omega) (by omega)]
  rfl
theorem p4_eq (a b c d : Int) (a0 : 0 ≤ a) (a1 : a ≤ 255) (b0 : 0 ≤ b) (b1 : b ≤ 255) (c0 : 0 ≤ c) (c1 : c ≤ 255) (d0 : 0 ≤ d) (d1 : d ≤ 255) : bits .or .i32 (wrap32 (bits .or .i32 (wrap32 (bits .or .i32 (wrap32 (bits .and .i32 (wrap32 a) 7 * 64)) (wrap32 (bits .and .u8 b 63)) * 64)) (wrap32 (bits .and .u8 c 63)) * 64)) (wrap32 (bits .and .u8 d 63)) = pv4 a b c d := by
  rw [w32 a (by omega) (by omega), b7 a a0 a1, a63 b b0 b1, a63 c c0 c1, a63 d d0 d1, w32 (a % 8 * 64) (by omega) (by omega), w32 (b % 64) (by omega) (by omega), w32 (c % 64) (by omega) (by omega), w32 (d % 64) (by omega) (by omega),
    or_i32 (a % 8 * 64) (b % 64) 6 (by omega) (by omega) (by omega) (by omega) (by omega) (by omega), w32 ((a % 8 * 64 + b % 64) * 64) (by omega) (by omega), or_i32 _ (c % 64) 6 (by omega) (by omega) (by omega) (by omega) (by omega) (by omega),
    w32 (((a % 8 * 64 + b % 64) * 64 + c % 64) * 64) (by omega) (by omega), or_i32 _ (d % 64) 6 (by omega) (by omega) (by omega) (by omega) (by omega) (by omega)]
  rfl
theorem u8_le (b : UInt8) : 0 ≤ (b.toNat : Int) ∧ (b.toNat : Int) ≤ 255 := ⟨by omega, by have := b.toNat_lt; omega⟩
theorem point_1 (s : ByteArray) (w : World) (hs : s.size = 1) : Calls Tryz.prog 87 #[.string s] w fun e w' => e = .returned (.int .i32 ((sb s).getD 0 0)) ∧ w' = w := by
  go_enter Tryz.func87, Tryz.ntmps87
  go_wp2
  go_ret
  refine ⟨ret_int ?_, rfl⟩
  rw [← sb_get s 0 (by omega)]
  exact w32 _ (u8_le _).1 (by have := (u8_le s[0]).2; omega)
theorem point_2 (s : ByteArray) (w : World) (hs : s.size = 2) : Calls Tryz.prog 87 #[.string s] w fun e w' => e = .returned (.int .i32 (pv2 ((sb s).getD 0 0) ((sb s).getD 1 0))) ∧ w' = w := by
  go_enter Tryz.func87, Tryz.ntmps87
  go_wp2
  go_ret
  refine ⟨ret_int ?_, rfl⟩
  rw [← sb_get s 0 (by omega), ← sb_get s 1 (by omega)]
  exact p2_eq _ _ (u8_le _).1 (u8_le _).2 (u8_le _).1 (u8_le _).2
theorem point_3 (s : ByteArray) (w : World) (hs : s.size = 3) : Calls Tryz.prog 87 #[.string s] w fun e w' => e = .returned (.int .i32 (pv3 ((sb s).getD 0 0) ((sb s).getD 1 0) ((sb s).getD 2 0))) ∧ w' = w := by
  go_enter Tryz.func87, Tryz.ntmps87
  go_wp2
  go_ret
  refine ⟨ret_int ?_, rfl⟩
  rw [← sb_get s 0 (by omega), ← sb_get s 1 (by omega), ← sb_get s 2 (by omega)]
  exact p3_eq _ _ _ (u8_le _).1 (u8_le _).2 (u8_le _).1 (u8_le _).2 (u8_le _).1 (u8_le _).2
theorem point_4 (s : ByteArray) (w : World) (hs : s.size = 4) : Calls Tryz.prog 87 #[.string s] w fun e w' => e = .returned (.int .i32 (pv4 ((sb s).getD 0 0) ((sb s).getD 1 0) ((sb s).getD 2 0) ((sb s).getD 3 0))) ∧ w' = w := by
  go_enter Tryz.func87, Tryz.ntmps87
  go_wp2
  go_ret
  refine ⟨ret_int ?_, rfl⟩
  rw [← sb_get s 0 (by omega), ← sb_get s 1 (by omega), ← sb_get s 2 (by omega), ← sb_get s 3 (by omega)]
  exact p4_eq _ _ _ _ (u8_le _).1 (u8_le _).2 (u8_le _).1 (u8_le _).2 (u8_le _).1 (u8_le _).2 (u8_le _).1 (u8_le _).2
end Go.Proofs.YtdjpllmgjmnolaaGreatDoor
