/- Proved here: helpers, one text behind the other. -/
import Derived.Test.YtgdfnopnmdjklaaGreatDoorProg
import Derived.Test.YtgdfnopnmdjklaaGreatDoorM1
import Derived.Handy
import Derived.Lib.AppendStr
import Derived.Laws.AppendOwnNone
import Derived.Deep.RegionHeld3
import Derived.Deep.AppendLies
import Derived.Laws.IdiomStrings
import Derived.Lib.BitFns
import Derived.Lib.Walk
/- Proved here: what text.sizeByFirst, least, mayBe and point tell. Helper contracts. -/
namespace Go.Proofs.YtgdfnopnmdjklaaGreatDoor
open Go.RowKit

def szf (c : Int) : Int := if c < 128 then 1 else if c < 192 then 0 else if c < 224 then 2 else if c < 240 then 3 else if c < 248 then 4 else 0
theorem szf_any (c : Int) (w : World) : Calls Tryz.prog 104 #[.int .u8 c] w fun e w' => e = .returned (.int .i64 (szf c)) ∧ w' = w := by
  have fin : ∀ x : Int, szf c = x → ∀ w' : World, w' = w → Ending.returned (.int .i64 x) = .returned (.int .i64 (szf c)) ∧ w' = w := fun x h w' hw => ⟨by rw [h], hw⟩
  by_cases h1 : c < 128
  · have hz : Hid (szf c = 1) := by show szf c = 1; simp [szf, h1]
    go_enter Tryz.func104, Tryz.ntmps104
    go_wp2
    go_ret
    exact fin _ (unhide hz) _ rfl
  · by_cases h2 : c < 192
    · have hz : Hid (szf c = 0) := by show szf c = 0; simp [szf, h1, h2]
      go_enter Tryz.func104, Tryz.ntmps104
      go_wp2
      go_ret
      exact fin _ (unhide hz) _ rfl
    · by_cases h3 : c < 224
      · have hz : Hid (szf c = 2) := by show szf c = 2; simp [szf, h1, h2, h3]
        go_enter Tryz.func104, Tryz.ntmps104
        go_wp2
        go_ret
        exact fin _ (unhide hz) _ rfl
      · by_cases h4 : c < 240
        · have hz : Hid (szf c = 3) := by show szf c = 3; simp [szf, h1, h2, h3, h4]
          go_enter Tryz.func104, Tryz.ntmps104
          go_wp2
          go_ret
          exact fin _ (unhide hz) _ rfl
        · by_cases h5 : c < 248
          · have hz : Hid (szf c = 4) := by show szf c = 4; simp [szf, h1, h2, h3, h4, h5]
            go_enter Tryz.func104, Tryz.ntmps104
            go_wp2
            go_ret
            exact fin _ (unhide hz) _ rfl
          · have hz : Hid (szf c = 0) := by show szf c = 0; simp [szf, h1, h2, h3, h4, h5]
            go_enter Tryz.func104, Tryz.ntmps104
            go_wp2
            go_ret
            exact fin _ (unhide hz) _ rfl

theorem least_1 (w : World) : Calls Tryz.prog 111 #[.int .i64 1] w fun e w' => e = .returned (.int .i32 1) ∧ w' = w := by
  go_enter Tryz.func111, Tryz.ntmps111
  go_wp2
  go_ret
  exact ⟨rfl, rfl⟩
theorem least_2 (w : World) : Calls Tryz.prog 111 #[.int .i64 2] w fun e w' => e = .returned (.int .i32 128) ∧ w' = w := by
  go_enter Tryz.func111, Tryz.ntmps111
  go_wp2
  go_ret
  exact ⟨rfl, rfl⟩
theorem least_3 (w : World) : Calls Tryz.prog 111 #[.int .i64 3] w fun e w' => e = .returned (.int .i32 2048) ∧ w' = w := by
  go_enter Tryz.func111, Tryz.ntmps111
  go_wp2
  go_ret
  exact ⟨rfl, rfl⟩
theorem least_4 (w : World) : Calls Tryz.prog 111 #[.int .i64 4] w fun e w' => e = .returned (.int .i32 65536) ∧ w' = w := by
  go_enter Tryz.func111, Tryz.ntmps111
  go_wp2
  go_ret
  exact ⟨rfl, rfl⟩

theorem mayBe_any (p n L : Int) (w : World) (hL : ∀ w, Calls Tryz.prog 111 #[.int .i64 n] w fun e w' => e = .returned (.int .i32 L) ∧ w' = w) (b : Bool)
    (hb : Hid (b = (!(decide (55296 ≤ p) && decide (p ≤ 57343)) && (decide (L ≤ p) && decide (p ≤ 1114111))))) :
    Calls Tryz.prog 105 #[.int .i32 p, .int .i64 n] w fun e w' => e = .returned (.bool b) ∧ w' = w := by
  by_cases h1 : 55296 ≤ p
  · by_cases h2 : p ≤ 57343
    · obtain rfl : b = false := by rw [unhide hb]; simp [h1, h2]
      go_enter Tryz.func105, Tryz.ntmps105
      go_wp2
      go_ret
      exact ⟨rfl, rfl⟩
    · by_cases h3 : L ≤ p
      · by_cases h4 : p ≤ 1114111
        · obtain rfl : b = true := by rw [unhide hb]; simp [h2, h3, h4]
          go_enter Tryz.func105, Tryz.ntmps105
          go_wp2_with (go_at_call 111; refine (hL _).mono ?_; rintro e w' ⟨rfl, rfl⟩)
          go_ret
          exact ⟨rfl, rfl⟩
        · obtain rfl : b = false := by rw [unhide hb]; simp [h4]
          have h4' : decide (p ≤ 1114111) = false := by simpa using h4
          go_enter Tryz.func105, Tryz.ntmps105
          go_wp2_with (go_at_call 111; refine (hL _).mono ?_; rintro e w' ⟨rfl, rfl⟩)
          go_ret
          exact ⟨rfl, rfl⟩
      · obtain rfl : b = false := by rw [unhide hb]; simp [h3]
        go_enter Tryz.func105, Tryz.ntmps105
        go_wp2_with (go_at_call 111; refine (hL _).mono ?_; rintro e w' ⟨rfl, rfl⟩)
        go_ret
        exact ⟨rfl, rfl⟩
  · by_cases h3 : L ≤ p
    · have h4 : p ≤ 1114111 := by omega
      obtain rfl : b = true := by rw [unhide hb]; simp [h1, h3, h4]
      go_enter Tryz.func105, Tryz.ntmps105
      go_wp2_with (go_at_call 111; refine (hL _).mono ?_; rintro e w' ⟨rfl, rfl⟩)
      go_ret
      exact ⟨rfl, rfl⟩
    · obtain rfl : b = false := by rw [unhide hb]; simp [h3]
      go_enter Tryz.func105, Tryz.ntmps105
      go_wp2_with (go_at_call 111; refine (hL _).mono ?_; rintro e w' ⟨rfl, rfl⟩)
      go_ret
      exact ⟨rfl, rfl⟩

theorem ret_int {k : IntKind} {a b : Int} (h : a = b) : Ending.returned (.int k a) = .returned (.int k b) := by rw [h]
theorem ret_bool {a b : Bool} (h : a = b) : Ending.returned (.bool a) = .returned (.bool b) := by rw [h]
theorem w32 (x : Int) (h0 : 0 ≤ x) (h1 : x < 2147483648) : wrap32 x = x := by unfold wrap32; omega
theorem p2_eq (a b : Int) (a0 : 0 ≤ a) (a1 : a ≤ 255) (b0 : 0 ≤ b) (b1 : b ≤ 255) : bits .or .i32 (wrap32 (bits .and .i32 (wrap32 a) 31 * 64)) (wrap32 (bits .and .u8 b 63)) = pv2 a b := by
  rw [w32 a (by omega) (by omega), b31 a a0 a1, a63 b b0 b1, w32 (a % 32 * 64) (by omega) (by omega), w32 (b % 64) (by omega) (by omega), or_i32 _ _ 6 (by omega) (by omega) (by omega) (by omega) (by omega) (by omega)]
  rfl
theorem p3_eq (a b c : Int) (a0 : 0 ≤ a) (a1 : a ≤ 255) (b0 : 0 ≤ b) (b1 : b ≤ 255) (c0 : 0 ≤ c) (c1 : c ≤ 255) : bits .or .i32 (wrap32 (bits .or .i32 (wrap32 (bits .and .i32 (wrap32 a) 15 * 64)) (wrap32 (bits .and .u8 b 63)) * 64)) (wrap32 (bits .and .u8 c 63)) = pv3 a b c := by
  rw [w32 a (by omega) (by omega), b15 a a0 a1, a63 b b0 b1, a63 c c0 c1, w32 (a % 16 * 64) (by omega) (by omega), w32 (b % 64) (by omega) (by omega), w32 (c % 64) (by omega) (by omega),
    or_i32 (a % 16 * 64) (b % 64) 6 (by omega) (by omega) (by omega) (by omega) (by omega) (by omega), w32 ((a % 16 * 64 + b % 64) * 64) (by omega) (by omega), or_i32 _ (c % 64) 6 (by omega) (by omega) (by omega) (by omega) (by omega) (by omega)]
  rfl
theorem p4_eq (a b c d : Int) (a0 : 0 ≤ a) (a1 : a ≤ 255) (b0 : 0 ≤ b) (b1 : b ≤ 255) (c0 : 0 ≤ c) (c1 : c ≤ 255) (d0 : 0 ≤ d) (d1 : d ≤ 255) : bits .or .i32 (wrap32 (bits .or .i32 (wrap32 (bits .or .i32 (wrap32 (bits .and .i32 (wrap32 a) 7 * 64)) (wrap32 (bits .and .u8 b 63)) * 64)) (wrap32 (bits .and .u8 c 63)) * 64)) (wrap32 (bits .and .u8 d 63)) = pv4 a b c d := by
  rw [w32 a (by omega) (by omega), b7 a a0 a1, a63 b b0 b1, a63 c c0 c1, a63 d d0 d1, w32 (a % 8 * 64) (by omega) (by omega), w32 (b % 64) (by omega) (by omega), w32 (c % 64) (by omega) (by omega), w32 (d % 64) (by omega) (by omega),
    or_i32 (a % 8 * 64) (b % 64) 6 (by omega) (by omega) (by omega) (by omega) (by omega) (by omega), w32 ((a % 8 * 64 + b % 64) * 64) (by omega) (by omega), or_i32 _ (c % 64) 6 (by omega) (by omega) (by omega) (by omega) (by omega) (by omega),
    w32 (((a % 8 * 64 + b % 64) * 64 + c % 64) * 64) (by omega) (by omega), or_i32 _ (d % 64) 6 (by omega) (by omega) (by omega) (by omega) (by omega) (by omega)]
  rfl
theorem u8_le (b : UInt8) : 0 ≤ (b.toNat : Int) ∧ (b.toNat : Int) ≤ 255 := ⟨by omega, by have := b.toNat_lt; omega⟩
theorem point_1 (s : ByteArray) (w : World) (hs : s.size = 1) : Calls Tryz.prog 106 #[.string s] w fun e w' => e = .returned (.int .i32 ((sb s).getD 0 0)) ∧ w' = w := by
  go_enter Tryz.func106, Tryz.ntmps106
  go_wp2
  go_ret
  refine ⟨ret_int ?_, rfl⟩
  rw [← sb_get s 0 (by omega)]
  exact w32 _ (u8_le _).1 (by have := (u8_le s[0]).2; omega)
theorem point_2 (s : ByteArray) (w : World) (hs : s.size = 2) : Calls Tryz.prog 106 #[.string s] w fun e w' => e = .returned (.int .i32 (pv2 ((sb s).getD 0 0) ((sb s).getD 1 0))) ∧ w' = w := by
  go_enter Tryz.func106, Tryz.ntmps106
  go_wp2
  go_ret
  refine ⟨ret_int ?_, rfl⟩
  rw [← sb_get s 0 (by omega), ← sb_get s 1 (by omega)]
  exact p2_eq _ _ (u8_le _).1 (u8_le _).2 (u8_le _).1 (u8_le _).2
theorem point_3 (s : ByteArray) (w : World) (hs : s.size = 3) : Calls Tryz.prog 106 #[.string s] w fun e w' => e = .returned (.int .i32 (pv3 ((sb s).getD 0 0) ((sb s).getD 1 0) ((sb s).getD 2 0))) ∧ w' = w := by
  go_enter Tryz.func106, Tryz.ntmps106
  go_wp2
  go_ret
  refine ⟨ret_int ?_, rfl⟩
  rw [← sb_get s 0 (by omega), ← sb_get s 1 (by omega), ← sb_get s 2 (by omega)]
  exact p3_eq _ _ _ (u8_le _).1 (u8_le _).2 (u8_le _).1 (u8_le _).2 (u8_le _).1 (u8_le _).2
theorem point_4 (s : ByteArray) (w : World) (hs : s.size = 4) : Calls Tryz.prog 106 #[.string s] w fun e w' => e = .returned (.int .i32 (pv4 ((sb s).getD 0 0) ((sb s).getD 1 0) ((sb s).getD 2 0) ((sb s).getD 3 0))) ∧ w' = w := by
  go_enter Tryz.func106, Tryz.ntmps106
  go_wp2
  go_ret
  refine ⟨ret_int ?_, rfl⟩
  rw [← sb_get s 0 (by omega), ← sb_get s 1 (by omega), ← sb_get s 2 (by omega), ← sb_get s 3 (by omega)]
  exact p4_eq _ _ _ _ (u8_le _).1 (u8_le _).2 (u8_le _).1 (u8_le _).2 (u8_le _).1 (u8_le _).2 (u8_le _).1 (u8_le _).2
end Go.Proofs.YtgdfnopnmdjklaaGreatDoor
/- Proved here: errors.Is at an api.Errno and at an *api.Fault around one, and prop's wrap, fault, few, broken. Helper contracts. -/
namespace Go.Proofs.YtgdfnopnmdjklaaGreatDoor
open Go.RowKit Go.Extern.Stop Go.Stop Go.Extern
set_option maxRecDepth 100000

abbrev wrapW (v : Value) (w : World) : World := w.alloc (.cells #[.string ⟨#[112, 114, 111, 112]⟩, v] 66)
theorem wrap_any (t : TypeId) (x : Value) (w : World) : Calls Tryz.prog 65 #[.iface t x] w fun e w' => e = .returned (.iface 64 (.pointer (some ⟨w.heap.size, 0, none⟩))) ∧ w' = wrapW (.iface t x) w := by
  go_enter Tryz.func65, Tryz.ntmps65
  go_wp2
  go_ret
  exact ⟨rfl, rfl⟩
theorem pfault_any (n : Int) (w : World) : Calls Tryz.prog 66 #[.int .i64 n] w fun e w' => e = .returned (.iface 64 (.pointer (some ⟨w.heap.size, 0, none⟩))) ∧ w' = wrapW (.iface 40 (.int .i64 n)) w := by
  go_enter Tryz.func66, Tryz.ntmps66
  go_wp2_with (go_at_call 65; refine (wrap_any _ _ _).mono ?_; rintro e w' ⟨rfl, rfl⟩)
  go_ret
  exact ⟨rfl, rfl⟩
/-- an error value of prop: nil, a Fault around the number, or one around a Fault of below -/
def ErrP (w : World) (v : Value) (n : Int) : Prop :=
  ErrIs w v n ∨ ∃ b c, v = .iface 64 (.pointer (some ⟨b, 0, none⟩)) ∧ w.cell? ⟨b, 1, none⟩ = some (.iface 64 (.pointer (some ⟨c, 0, none⟩))) ∧ w.cell? ⟨c, 1, none⟩ = some (.iface 40 (.int .i64 n))
/-- an error of below: a number, or a Fault around one -/
def Inn (w : World) (v : Value) (n : Int) : Prop := v = .iface 40 (.int .i64 n) ∨ ∃ b, v = .iface 64 (.pointer (some ⟨b, 0, none⟩)) ∧ w.cell? ⟨b, 1, none⟩ = some (.iface 40 (.int .i64 n))
theorem ErrP.below {w w' : World} {v : Value} {n : Int} (h : ErrP w v n) (hb : Below w.heap.size w w') : ErrP w' v n := by
  rcases h with h | ⟨b, c, h1, h2, h3⟩
  · exact .inl (h.below hb)
  · exact .inr ⟨b, c, h1, by rw [hb.cell (p := ⟨b, 1, none⟩) (cell_lt h2)]; exact h2, by rw [hb.cell (p := ⟨c, 1, none⟩) (cell_lt h3)]; exact h3⟩
theorem ErrP.nil (w : World) : ErrP w .nilIface 0 := .inl (.inl ⟨rfl, rfl⟩)
theorem Inn.below {w w' : World} {v : Value} {n : Int} (h : Inn w v n) (hb : Below w.heap.size w w') : Inn w' v n := by
  rcases h with h | ⟨b, h1, h2⟩
  · exact .inl h
  · exact .inr ⟨b, h1, by rw [hb.cell (p := ⟨b, 1, none⟩) (cell_lt h2)]; exact h2⟩
theorem wrap_is (n : Int) (v : Value) (w : World) (h : Inn w v n) : ErrP (wrapW v w) (.iface 64 (.pointer (some ⟨w.heap.size, 0, none⟩))) n := by
  rcases h with rfl | ⟨b, rfl, hc⟩
  · exact .inl (.inr ⟨_, rfl, by simp⟩)
  · exact .inr ⟨_, b, rfl, by simp, by rw [World.cell?_alloc_lt _ _ ⟨b, 1, none⟩ (cell_lt hc)]; exact hc⟩
theorem wrap_below (v : Value) (w : World) : Below w.heap.size w (wrapW v w) := (Below.refl _ _).alloc (Nat.le_refl _) _
/-- fault's answer, as a caller uses it -/
theorem pfault_use (n : Int) (w : World) : Calls Tryz.prog 66 #[.int .i64 n] w fun e w' => ∃ E, e = .returned (.iface 64 E) ∧ Hid (ErrP w' (.iface 64 E) n) ∧ Below w.heap.size w w' := by
  refine (pfault_any n w).mono ?_
  rintro e w' ⟨rfl, rfl⟩
  exact ⟨_, rfl, wrap_is n _ w (.inl rfl), wrap_below _ _⟩
theorem wrap_use (v : Value) (n : Int) (w : World) (h : Inn w v n) : Calls Tryz.prog 65 #[v] w fun e w' => ∃ E, e = .returned (.iface 64 E) ∧ Hid (ErrP w' (.iface 64 E) n) ∧ Below w.heap.size w w' := by
  obtain ⟨t, x, rfl⟩ : ∃ t x, v = .iface t x := by rcases h with rfl | ⟨b, rfl, _⟩ <;> exact ⟨_, _, rfl⟩
  refine (wrap_any t x w).mono ?_
  rintro e w' ⟨rfl, rfl⟩
  exact ⟨_, rfl, wrap_is n _ w h, wrap_below _ _⟩
theorem few_ok (n : Int) (w : World) (h : n ≤ 32) : Calls Tryz.prog 68 #[.int .i64 n] w fun e w' => e = .returned .nilIface ∧ w' = w := by
  go_enter Tryz.func68, Tryz.ntmps68
  go_wp2
  go_ret
  exact ⟨rfl, rfl⟩
theorem few_bad (n : Int) (w : World) (h : 32 < n) : Calls Tryz.prog 68 #[.int .i64 n] w fun e w' => ∃ E, e = .returned (.iface 64 E) ∧ Hid (ErrP w' (.iface 64 E) 2) ∧ Below w.heap.size w w' := by
  go_enter Tryz.func68, Tryz.ntmps68
  go_wp2_with (go_at_call 66; refine (pfault_use 2 _).mono ?_; rintro e w' ⟨E, rfl, hE, hb⟩)
  go_ret
  exact ⟨_, rfl, hE, hb⟩

theorem methodComp (h : Value) (w : World) : (Go.method 309 112 (.agg #[h]) "Comparable").run Tryz.prog w = .ok (141, .agg #[h]) w := by kernel_rfl
theorem compE (w : World) : ((ReflectliteType.method fun t => do Rtype.noPackHeld "Comparable" t; (fun a => Value.bool a.comparable) <$> typeInfo t) #[.agg #[.pointer (some ⟨1, 40, none⟩)]]).run Tryz.prog w = .ok (.bool true) w := by kernel_rfl
theorem noIsF (v : Value) (xT : TypeId) (w : World) : (Instr.typeAssert (.iface 64 v) xT 114 true).run Tryz.prog w = .ok (.tuple #[.nilIface, .bool false]) w := run_typeAssert_lacksB Tryz.underlying114 (by kernel_rfl) (by kernel_rfl) v xT w
theorem noIsE (v : Value) (xT : TypeId) (w : World) : (Instr.typeAssert (.iface 40 v) xT 114 true).run Tryz.prog w = .ok (.tuple #[.nilIface, .bool false]) w := run_typeAssert_lacksB Tryz.underlying114 (by kernel_rfl) (by kernel_rfl) v xT w
theorem noUnwrapE (v : Value) (xT : TypeId) (w : World) : (Instr.typeAssert (.iface 40 v) xT 117 true).run Tryz.prog w = .ok (.tuple #[.nilIface, .bool false]) w := run_typeAssert_lacksB Tryz.underlying117 (by kernel_rfl) (by kernel_rfl) v xT w
theorem noUnwrapsE (v : Value) (xT : TypeId) (w : World) : (Instr.typeAssert (.iface 40 v) xT 119 true).run Tryz.prog w = .ok (.tuple #[.nilIface, .bool false]) w := run_typeAssert_lacksB Tryz.underlying119 (by kernel_rfl) (by kernel_rfl) v xT w

theorem eqE (n : Int) (w : World) : (binOp .eql 32 (.iface 40 (.int .i64 n)) (.iface 40 (.int .i64 1))).run Tryz.prog w = .ok (.bool (n == 1)) w := by kernel_rfl
theorem eqF (v u : Value) (w : World) : (binOp .eql 32 (.iface 64 v) (.iface 40 u)).run Tryz.prog w = .ok (.bool false) w := by kernel_rfl
theorem eqN (t : TypeId) (v : Value) (w : World) : (binOp .eql 32 (.iface t v) .nilIface).run Tryz.prog w = .ok (.bool false) w := by kernel_rfl
set_option maxHeartbeats 4000000 in
theorem is_errno (n : Int) (w : World) : Calls Tryz.prog 43 #[.iface 40 (.int .i64 n), .iface 40 (.int .i64 1), .bool true] w fun e w' => e = .returned (.bool (n == 1)) ∧ w' = w := by
  have nI := noIsE
  have q1 := eqE
  have q2 := eqF
  have nU := noUnwrapE
  have nV := noUnwrapsE
  by_cases h : n = 1
  · subst h
    go_enter Tryz.func43, Tryz.ntmps43
    go_wp2
    refine wp_loop_rounds 1 ?_
    rw [rounds_succ]
    go_wp2
    go_ret
    exact ⟨rfl, rfl⟩
  · have hb : (n == 1) = false := beq_eq_false_iff_ne.2 h
    go_enter Tryz.func43, Tryz.ntmps43
    go_wp2
    refine wp_loop_rounds 1 ?_
    rw [rounds_succ]
    go_wp2
    go_ret
    exact ⟨ret_bool hb.symm, rfl⟩
set_option maxHeartbeats 4000000 in
theorem is_fault (b : Nat) (n : Int) (w : World) (hc : w.cell? ⟨b, 1, none⟩ = some (.iface 40 (.int .i64 n))) : Calls Tryz.prog 43 #[.iface 64 (.pointer (some ⟨b, 0, none⟩)), .iface 40 (.int .i64 1), .bool true] w fun e w' => e = .returned (.bool (n == 1)) ∧ w' = w := by
  have nI := noIsE
  have q1 := eqE
  have q2 := eqF
  have nU := noUnwrapE
  have nV := noUnwrapsE
  have nF := noIsF
  have hU := hasUnwrapF
  have mU := methodUnwrap
  by_cases h : n = 1
  · subst h
    go_enter Tryz.func43, Tryz.ntmps43
    go_wp2
    refine wp_loop_rounds 2 ?_
    rw [rounds_succ]
    go_wp2_with (go_at_call 135; refine (unwrap_any _ _ _ hc).mono ?_; rintro e w' ⟨rfl, rfl⟩)
    rw [rounds_succ]
    go_wp2
    go_ret
    exact ⟨rfl, rfl⟩
  · have hb : (n == 1) = false := beq_eq_false_iff_ne.2 h
    go_enter Tryz.func43, Tryz.ntmps43
    go_wp2
    refine wp_loop_rounds 2 ?_
    rw [rounds_succ]
    go_wp2_with (go_at_call 135; refine (unwrap_any _ _ _ hc).mono ?_; rintro e w' ⟨rfl, rfl⟩)
    rw [rounds_succ]
    go_wp2
    go_ret
    exact ⟨ret_bool hb.symm, rfl⟩
theorem is_inn (v : Value) (n : Int) (w : World) (h : Inn w v n) : Calls Tryz.prog 43 #[v, .iface 40 (.int .i64 1), .bool true] w fun e w' => e = .returned (.bool (n == 1)) ∧ w' = w := by
  rcases h with rfl | ⟨b, rfl, hc⟩
  · exact is_errno n w
  · exact is_fault b n w hc
set_option maxHeartbeats 4000000 in
theorem Is_inn (t : TypeId) (x : Value) (n : Int) (w : World) (h : Inn w (.iface t x) n) : Calls Tryz.prog 26 #[.iface t x, .iface 40 (.int .i64 1)] w fun e w' => e = .returned (.bool (n == 1)) ∧ w' = w := by
  have H := hide h
  clear h
  have hT := @run_callFunc_extern Tryz.prog 42 _ ReflectliteType.typeOf Tryz.func42 (by kernel_rfl) (by kernel_rfl) (by kernel_rfl) (by kernel_rfl)
  have hC := @run_callFunc_extern Tryz.prog 141 _ (ReflectliteType.method fun t => do Rtype.noPackHeld "Comparable" t; pure (.bool (← typeInfo t).comparable)) Tryz.func141 (by kernel_rfl) (by kernel_rfl) (by kernel_rfl) (by kernel_rfl)
  have tO := typeOfE
  have mC := methodComp
  have cE := compE
  go_enter Tryz.func26, Tryz.ntmps26
  go_wp2_with (go_at_call 43; refine (is_inn _ n _ (unhide H)).mono ?_; rintro e w' ⟨rfl, rfl⟩)
  go_ret
  exact ⟨rfl, rfl⟩
theorem broken_use (v : Value) (n : Int) (w : World) (h : Inn w v n) : Calls Tryz.prog 89 #[v] w fun e w' => ∃ E, e = .returned (.iface 64 E) ∧ Hid (ErrP w' (.iface 64 E) 1) ∧ Below w.heap.size w w' := by
  obtain ⟨t, x, rfl⟩ : ∃ t x, v = .iface t x := by rcases h with rfl | ⟨b, rfl, _⟩ <;> exact ⟨_, _, rfl⟩
  have H := hide h
  clear h
  by_cases h : n = 1
  · subst h
    go_enter Tryz.func89, Tryz.ntmps89
    go_wp2_with (first | (go_at_call 26; refine (Is_inn t x 1 _ (unhide H)).mono ?_; rintro e w' ⟨rfl, rfl⟩) | (go_at_call 65; refine (wrap_use _ 1 _ (unhide H)).mono ?_; rintro e w' ⟨E, rfl, hE, hb⟩))
    go_ret
    exact ⟨_, rfl, hE, hb⟩
  · have hb : (n == 1) = false := beq_eq_false_iff_ne.2 h
    go_enter Tryz.func89, Tryz.ntmps89
    go_wp2_with (first | (go_at_call 26; refine (Is_inn t x n _ (unhide H)).mono ?_; rintro e w' ⟨rfl, rfl⟩) | (go_at_call 66; refine (pfault_use 1 _).mono ?_; rintro e w' ⟨E, rfl, hE, hb'⟩))
    go_ret
    exact ⟨_, rfl, hE, hb'⟩
end Go.Proofs.YtgdfnopnmdjklaaGreatDoor
/- Proved here: errors.Is at an api.Errno and at up to three *api.Faults around one. Helper contracts. -/
namespace Go.Proofs.YtgdfnopnmdjklaaGreatDoor
open Go.RowKit Go.Extern.Stop Go.Stop Go.Extern
set_option maxRecDepth 100000

/-- an error that is the number n, with d Faults around it -/
def Er (w : World) : Nat → Value → Int → Prop
  | 0, v, n => v = .iface 40 (.int .i64 n)
  | d + 1, v, n => ∃ b u, v = .iface 64 (.pointer (some ⟨b, 0, none⟩)) ∧ w.cell? ⟨b, 1, none⟩ = some u ∧ Er w d u n
theorem Er.below {w w' : World} (hb : Below w.heap.size w w') : ∀ {d : Nat} {v : Value} {n : Int}, Er w d v n → Er w' d v n
  | 0, _, _, h => h
  | _ + 1, _, _, ⟨b, u, h1, h2, h3⟩ => ⟨b, u, h1, by rw [hb.cell (p := ⟨b, 1, none⟩) (cell_lt h2)]; exact h2, Er.below hb h3⟩
theorem Er.iface {w : World} : ∀ {d : Nat} {v : Value} {n : Int}, Er w d v n → ∃ t x, v = .iface t x
  | 0, _, _, h => ⟨_, _, h⟩
  | _ + 1, _, _, ⟨_, _, h, _⟩ => ⟨_, _, h⟩
theorem eqEm (n m : Int) (w : World) : (binOp .eql 32 (.iface 40 (.int .i64 n)) (.iface 40 (.int .i64 m))).run Tryz.prog w = .ok (.bool (n == m)) w := by kernel_rfl
set_option maxHeartbeats 4000000 in
theorem er_is0 (n m : Int) (w : World)  : Calls Tryz.prog 43 #[.iface 40 (.int .i64 n), .iface 40 (.int .i64 m), .bool true] w fun e w' => e = .returned (.bool (n == m)) ∧ w' = w := by
  have nI := noIsE
  have q1 := eqEm
  have q2 := eqF
  have nU := noUnwrapE
  have nV := noUnwrapsE
  have nF := noIsF
  have hU := hasUnwrapF
  have mU := methodUnwrap
  by_cases h : n = m
  · subst h
    have hb : (n == n) = true := by simp
    go_enter Tryz.func43, Tryz.ntmps43
    go_wp2
    refine wp_loop_rounds 1 ?_
    rw [rounds_succ]
    go_wp2
    go_ret
    exact ⟨ret_bool hb.symm, rfl⟩
  · have hb : (n == m) = false := beq_eq_false_iff_ne.2 h
    go_enter Tryz.func43, Tryz.ntmps43
    go_wp2
    refine wp_loop_rounds 1 ?_
    rw [rounds_succ]
    go_wp2
    go_ret
    exact ⟨ret_bool hb.symm, rfl⟩
set_option maxHeartbeats 4000000 in
theorem er_is1 (b0 : Nat) (n m : Int) (w : World) (h0 : w.cell? ⟨b0, 1, none⟩ = some (.iface 40 (.int .i64 n))) : Calls Tryz.prog 43 #[.iface 64 (.pointer (some ⟨b0, 0, none⟩)), .iface 40 (.int .i64 m), .bool true] w fun e w' => e = .returned (.bool (n == m)) ∧ w' = w := by
  have nI := noIsE
  have q1 := eqEm
  have q2 := eqF
  have nU := noUnwrapE
  have nV := noUnwrapsE
  have nF := noIsF
  have hU := hasUnwrapF
  have mU := methodUnwrap
  by_cases h : n = m
  · subst h
    have hb : (n == n) = true := by simp
    go_enter Tryz.func43, Tryz.ntmps43
    go_wp2
    refine wp_loop_rounds 2 ?_
    rw [rounds_succ]
    go_wp2_with (go_at_call 135; refine (unwrap_any _ _ _ h0).mono ?_; rintro e w' ⟨rfl, rfl⟩)
    rw [rounds_succ]
    go_wp2
    go_ret
    exact ⟨ret_bool hb.symm, rfl⟩
  · have hb : (n == m) = false := beq_eq_false_iff_ne.2 h
    go_enter Tryz.func43, Tryz.ntmps43
    go_wp2
    refine wp_loop_rounds 2 ?_
    rw [rounds_succ]
    go_wp2_with (go_at_call 135; refine (unwrap_any _ _ _ h0).mono ?_; rintro e w' ⟨rfl, rfl⟩)
    rw [rounds_succ]
    go_wp2
    go_ret
    exact ⟨ret_bool hb.symm, rfl⟩
set_option maxHeartbeats 4000000 in
theorem er_is2 (b0 b1 : Nat) (n m : Int) (w : World) (h0 : w.cell? ⟨b0, 1, none⟩ = some (.iface 64 (.pointer (some ⟨b1, 0, none⟩)))) (h1 : w.cell? ⟨b1, 1, none⟩ = some (.iface 40 (.int .i64 n))) : Calls Tryz.prog 43 #[.iface 64 (.pointer (some ⟨b0, 0, none⟩)), .iface 40 (.int .i64 m), .bool true] w fun e w' => e = .returned (.bool (n == m)) ∧ w' = w := by
  have nI := noIsE
  have q1 := eqEm
  have q2 := eqF
  have nU := noUnwrapE
  have nV := noUnwrapsE
  have nF := noIsF
  have hU := hasUnwrapF
  have mU := methodUnwrap
  by_cases h : n = m
  · subst h
    have hb : (n == n) = true := by simp
    go_enter Tryz.func43, Tryz.ntmps43
    go_wp2
    refine wp_loop_rounds 3 ?_
    rw [rounds_succ]
    go_wp2_with (go_at_call 135; refine (unwrap_any _ _ _ h0).mono ?_; rintro e w' ⟨rfl, rfl⟩)
    rw [rounds_succ]
    go_wp2_with (go_at_call 135; refine (unwrap_any _ _ _ h1).mono ?_; rintro e w' ⟨rfl, rfl⟩)
    rw [rounds_succ]
    go_wp2
    go_ret
    exact ⟨ret_bool hb.symm, rfl⟩
  · have hb : (n == m) = false := beq_eq_false_iff_ne.2 h
    go_enter Tryz.func43, Tryz.ntmps43
    go_wp2
    refine wp_loop_rounds 3 ?_
    rw [rounds_succ]
    go_wp2_with (go_at_call 135; refine (unwrap_any _ _ _ h0).mono ?_; rintro e w' ⟨rfl, rfl⟩)
    rw [rounds_succ]
    go_wp2_with (go_at_call 135; refine (unwrap_any _ _ _ h1).mono ?_; rintro e w' ⟨rfl, rfl⟩)
    rw [rounds_succ]
    go_wp2
    go_ret
    exact ⟨ret_bool hb.symm, rfl⟩
set_option maxHeartbeats 4000000 in
theorem er_is3 (b0 b1 b2 : Nat) (n m : Int) (w : World) (h0 : w.cell? ⟨b0, 1, none⟩ = some (.iface 64 (.pointer (some ⟨b1, 0, none⟩)))) (h1 : w.cell? ⟨b1, 1, none⟩ = some (.iface 64 (.pointer (some ⟨b2, 0, none⟩)))) (h2 : w.cell? ⟨b2, 1, none⟩ = some (.iface 40 (.int .i64 n))) : Calls Tryz.prog 43 #[.iface 64 (.pointer (some ⟨b0, 0, none⟩)), .iface 40 (.int .i64 m), .bool true] w fun e w' => e = .returned (.bool (n == m)) ∧ w' = w := by
  have nI := noIsE
  have q1 := eqEm
  have q2 := eqF
  have nU := noUnwrapE
  have nV := noUnwrapsE
  have nF := noIsF
  have hU := hasUnwrapF
  have mU := methodUnwrap
  by_cases h : n = m
  · subst h
    have hb : (n == n) = true := by simp
    go_enter Tryz.func43, Tryz.ntmps43
    go_wp2
    refine wp_loop_rounds 4 ?_
    rw [rounds_succ]
    go_wp2_with (go_at_call 135; refine (unwrap_any _ _ _ h0).mono ?_; rintro e w' ⟨rfl, rfl⟩)
    rw [rounds_succ]
    go_wp2_with (go_at_call 135; refine (unwrap_any _ _ _ h1).mono ?_; rintro e w' ⟨rfl, rfl⟩)
    rw [rounds_succ]
    go_wp2_with (go_at_call 135; refine (unwrap_any _ _ _ h2).mono ?_; rintro e w' ⟨rfl, rfl⟩)
    rw [rounds_succ]
    go_wp2
    go_ret
    exact ⟨ret_bool hb.symm, rfl⟩
  · have hb : (n == m) = false := beq_eq_false_iff_ne.2 h
    go_enter Tryz.func43, Tryz.ntmps43
    go_wp2
    refine wp_loop_rounds 4 ?_
    rw [rounds_succ]
    go_wp2_with (go_at_call 135; refine (unwrap_any _ _ _ h0).mono ?_; rintro e w' ⟨rfl, rfl⟩)
    rw [rounds_succ]
    go_wp2_with (go_at_call 135; refine (unwrap_any _ _ _ h1).mono ?_; rintro e w' ⟨rfl, rfl⟩)
    rw [rounds_succ]
    go_wp2_with (go_at_call 135; refine (unwrap_any _ _ _ h2).mono ?_; rintro e w' ⟨rfl, rfl⟩)
    rw [rounds_succ]
    go_wp2
    go_ret
    exact ⟨ret_bool hb.symm, rfl⟩
theorem er_is (d : Nat) (hd : d ≤ 3) (v : Value) (n m : Int) (w : World) (h : Er w d v n) : Calls Tryz.prog 43 #[v, .iface 40 (.int .i64 m), .bool true] w fun e w' => e = .returned (.bool (n == m)) ∧ w' = w := by
  match d, hd, h with
  | 0, _, h => cases h; exact er_is0 n m w
  | 1, _, ⟨b, u, h1, h2, h3⟩ => cases h1; cases h3; exact er_is1 b n m w h2
  | 2, _, ⟨b, u, h1, h2, b', u', h3, h4, h5⟩ => cases h1; cases h3; cases h5; exact er_is2 b b' n m w h2 h4
  | 3, _, ⟨b, u, h1, h2, b', u', h3, h4, b'', u'', h5, h6, h7⟩ => cases h1; cases h3; cases h5; cases h7; exact er_is3 b b' b'' n m w h2 h4 h6
set_option maxHeartbeats 4000000 in
theorem er_Is (d : Nat) (hd : d ≤ 3) (v : Value) (n m : Int) (w : World) (h : Er w d v n) : Calls Tryz.prog 26 #[v, .iface 40 (.int .i64 m)] w fun e w' => e = .returned (.bool (n == m)) ∧ w' = w := by
  obtain ⟨t, x, rfl⟩ := h.iface
  have H := hide h
  clear h
  have hT := @run_callFunc_extern Tryz.prog 42 _ ReflectliteType.typeOf Tryz.func42 (by kernel_rfl) (by kernel_rfl) (by kernel_rfl) (by kernel_rfl)
  have hC := @run_callFunc_extern Tryz.prog 141 _ (ReflectliteType.method fun t => do Rtype.noPackHeld "Comparable" t; pure (.bool (← typeInfo t).comparable)) Tryz.func141 (by kernel_rfl) (by kernel_rfl) (by kernel_rfl) (by kernel_rfl)
  have tO := typeOfE
  have mC := methodComp
  have cE := compE
  go_enter Tryz.func26, Tryz.ntmps26
  go_wp2_with (go_at_call 43; refine (er_is d hd _ n m _ (unhide H)).mono ?_; rintro e w' ⟨rfl, rfl⟩)
  go_ret
  exact ⟨rfl, rfl⟩
end Go.Proofs.YtgdfnopnmdjklaaGreatDoor
/- Proved here: text.pointSize tells how many bytes the code point has with which a text begins, or 0. Helper contracts. -/
namespace Go.Proofs.YtgdfnopnmdjklaaGreatDoor
open Go.RowKit

def pvn (n : Nat) (l : List Int) : Int := if n = 1 then l.getD 0 0 else if n = 2 then pv2 (l.getD 0 0) (l.getD 1 0) else if n = 3 then pv3 (l.getD 0 0) (l.getD 1 0) (l.getD 2 0) else pv4 (l.getD 0 0) (l.getD 1 0) (l.getD 2 0) (l.getD 3 0)
def lstn (n : Nat) : Int := if n = 1 then 1 else if n = 2 then 128 else if n = 3 then 2048 else 65536
def mbn (n : Nat) (l : List Int) : Bool := !(decide (55296 ≤ pvn n l) && decide (pvn n l ≤ 57343)) && (decide (lstn n ≤ pvn n l) && decide (pvn n l ≤ 1114111))

theorem szf_cases (c : Int) : (c < 128 ∧ szf c = 1) ∨ (128 ≤ c ∧ c < 192 ∧ szf c = 0) ∨ (192 ≤ c ∧ c < 224 ∧ szf c = 2) ∨ (224 ≤ c ∧ c < 240 ∧ szf c = 3) ∨ (240 ≤ c ∧ c < 248 ∧ szf c = 4) ∨ (248 ≤ c ∧ szf c = 0) := by
  unfold szf
  split
  · omega
  · split
    · omega
    · split
      · omega
      · split
        · omega
        · split <;> omega
theorem pt_1 (l : List Int) (h : l.getD 0 0 < 128) : pt l = if 0 < l.getD 0 0 then 1 else 0 := by unfold pt; rw [if_pos h]
theorem pt_2 (l : List Int) (h : 192 ≤ l.getD 0 0) (h' : l.getD 0 0 < 224) : pt l = if 2 ≤ l.length ∧ ok2 (l.getD 0 0) (l.getD 1 0) = true then 2 else 0 := by
  unfold pt; rw [if_neg (by omega), if_neg (by omega), if_pos h']
theorem pt_3 (l : List Int) (h : 224 ≤ l.getD 0 0) (h' : l.getD 0 0 < 240) : pt l = if 3 ≤ l.length ∧ ok3 (l.getD 0 0) (l.getD 1 0) (l.getD 2 0) = true then 3 else 0 := by
  unfold pt; rw [if_neg (by omega), if_neg (by omega), if_neg (by omega), if_pos h']
theorem pt_4 (l : List Int) (h : 240 ≤ l.getD 0 0) (h' : l.getD 0 0 < 248) : pt l = if 4 ≤ l.length ∧ ok4 (l.getD 0 0) (l.getD 1 0) (l.getD 2 0) (l.getD 3 0) = true then 4 else 0 := by
  unfold pt; rw [if_neg (by omega), if_neg (by omega), if_neg (by omega), if_neg (by omega), if_pos h']
theorem pt_0 (l : List Int) (h : szf (l.getD 0 0) = 0) : pt l = 0 := by
  rcases szf_cases (l.getD 0 0) with h1 | h1 | h1 | h1 | h1 | h1
  all_goals first | omega | skip
  · unfold pt; rw [if_neg (by omega), if_pos (by omega)]
  · unfold pt; rw [if_neg (by omega), if_neg (by omega), if_neg (by omega), if_neg (by omega), if_neg (by omega)]
theorem pt_short (l : List Int) (n : Nat) (hn : szf (l.getD 0 0) = n) (h0 : 1 ≤ l.length) (h : l.length < n) : pt l = 0 := by
  rcases szf_cases (l.getD 0 0) with h1 | h1 | h1 | h1 | h1 | h1
  all_goals first | omega | skip
  · rw [pt_2 l h1.1 h1.2.1, if_neg (by omega)]
  · rw [pt_3 l h1.1 h1.2.1, if_neg (by omega)]
  · rw [pt_4 l h1.1 h1.2.1, if_neg (by omega)]
theorem pt_cont (l : List Int) (n : Nat) (hn : szf (l.getD 0 0) = n) (j : Nat) (hj1 : 1 ≤ j) (hj : j < n) (hc : cont (l.getD j 0) = false) : pt l = 0 := by
  rcases szf_cases (l.getD 0 0) with h1 | h1 | h1 | h1 | h1 | h1
  all_goals first | omega | skip
  · obtain rfl : j = 1 := by omega
    rw [pt_2 l h1.1 h1.2.1, if_neg (by unfold ok2; rw [hc]; simp)]
  · rw [pt_3 l h1.1 h1.2.1, if_neg]
    rintro ⟨_, h2⟩
    unfold ok3 at h2
    obtain rfl | rfl : j = 1 ∨ j = 2 := by omega
    · rw [hc] at h2; simp at h2
    · rw [hc] at h2; simp at h2
  · rw [pt_4 l h1.1 h1.2.1, if_neg]
    rintro ⟨_, h2⟩
    unfold ok4 at h2
    obtain rfl | rfl | rfl : j = 1 ∨ j = 2 ∨ j = 3 := by omega
    · rw [hc] at h2; simp at h2
    · rw [hc] at h2; simp at h2
    · rw [hc] at h2; simp at h2
theorem if_iff {p q : Prop} [Decidable p] [Decidable q] {a b : Nat} (h : p ↔ q) : (if p then a else b) = if q then a else b := by
  by_cases hp : p
  · rw [if_pos hp, if_pos (h.1 hp)]
  · rw [if_neg hp, if_neg (fun hq => hp (h.2 hq))]
theorem pt_mb (l : List Int) (n : Nat) (hn : szf (l.getD 0 0) = n) (h0 : 1 ≤ n) (hl : n ≤ l.length) (hc : ∀ j, 1 ≤ j → j < n → cont (l.getD j 0) = true) : pt l = if mbn n l = true then n else 0 := by
  unfold mbn
  simp only [Bool.and_eq_true, Bool.not_eq_true', Bool.and_eq_false_iff, decide_eq_true_eq, decide_eq_false_iff_not]
  rcases szf_cases (l.getD 0 0) with h1 | h1 | h1 | h1 | h1 | h1
  all_goals first | omega | skip
  · obtain rfl : n = 1 := by omega
    rw [pt_1 l h1.1]
    refine if_iff ?_
    have e : pvn 1 l = l.getD 0 0 := rfl
    have e2 : lstn 1 = 1 := rfl
    rw [e, e2]
    omega
  · obtain rfl : n = 2 := by omega
    rw [pt_2 l h1.1 h1.2.1]
    refine if_iff ?_
    have e : pvn 2 l = pv2 (l.getD 0 0) (l.getD 1 0) := rfl
    have e2 : lstn 2 = 128 := rfl
    rw [e, e2]
    unfold ok2
    simp only [hc 1 (by omega) (by omega), Bool.true_and, decide_eq_true_eq]
    have : 0 ≤ pv2 (l.getD 0 0) (l.getD 1 0) ∧ pv2 (l.getD 0 0) (l.getD 1 0) < 2048 := by unfold pv2; omega
    omega
  · obtain rfl : n = 3 := by omega
    rw [pt_3 l h1.1 h1.2.1]
    refine if_iff ?_
    have e : pvn 3 l = pv3 (l.getD 0 0) (l.getD 1 0) (l.getD 2 0) := rfl
    have e2 : lstn 3 = 2048 := rfl
    rw [e, e2]
    unfold ok3
    simp only [hc 1 (by omega) (by omega), hc 2 (by omega) (by omega), Bool.true_and, Bool.and_eq_true, Bool.not_eq_true', Bool.and_eq_false_iff, decide_eq_true_eq, decide_eq_false_iff_not]
    have : 0 ≤ pv3 (l.getD 0 0) (l.getD 1 0) (l.getD 2 0) ∧ pv3 (l.getD 0 0) (l.getD 1 0) (l.getD 2 0) < 65536 := by unfold pv3; omega
    omega
  · obtain rfl : n = 4 := by omega
    rw [pt_4 l h1.1 h1.2.1]
    refine if_iff ?_
    have e : pvn 4 l = pv4 (l.getD 0 0) (l.getD 1 0) (l.getD 2 0) (l.getD 3 0) := rfl
    have e2 : lstn 4 = 65536 := rfl
    rw [e, e2]
    unfold ok4
    simp only [hc 1 (by omega) (by omega), hc 2 (by omega) (by omega), hc 3 (by omega) (by omega), Bool.true_and, Bool.and_eq_true, decide_eq_true_eq]
    omega

theorem getD_take (l : List Int) (n j : Nat) (h : j < n) : (l.take n).getD j 0 = l.getD j 0 := by
  rw [List.getD_eq_getElem?_getD, List.getElem?_take, if_pos h, ← List.getD_eq_getElem?_getD]
theorem pvn_take (n : Nat) (l : List Int) (h1 : 1 ≤ n) (h4 : n ≤ 4) : pvn n (l.take n) = pvn n l := by
  obtain rfl | rfl | rfl | rfl : n = 1 ∨ n = 2 ∨ n = 3 ∨ n = 4 := by omega
  · simp only [pvn, if_true]; rw [getD_take _ _ _ (by omega)]
  · show pv2 _ _ = pv2 _ _
    rw [getD_take _ _ _ (by omega), getD_take _ _ _ (by omega)]
  · show pv3 _ _ _ = pv3 _ _ _
    rw [getD_take _ _ _ (by omega), getD_take _ _ _ (by omega), getD_take _ _ _ (by omega)]
  · show pv4 _ _ _ _ = pv4 _ _ _ _
    rw [getD_take _ _ _ (by omega), getD_take _ _ _ (by omega), getD_take _ _ _ (by omega), getD_take _ _ _ (by omega)]
theorem point_any (s : ByteArray) (n : Nat) (w : World) (h1 : 1 ≤ n) (h4 : n ≤ 4) (hn : n ≤ s.size) : Calls Tryz.prog 106 #[.string (s.extract 0 n)] w fun e w' => e = .returned (.int .i32 (pvn n (sb s))) ∧ w' = w := by
  have hz : (s.extract 0 n).size = n := by rw [ByteArray.size_extract]; omega
  rw [← pvn_take n (sb s) h1 h4, ← sb_take]
  obtain rfl | rfl | rfl | rfl : n = 1 ∨ n = 2 ∨ n = 3 ∨ n = 4 := by omega
  · exact point_1 _ w hz
  · exact point_2 _ w hz
  · exact point_3 _ w hz
  · exact point_4 _ w hz
theorem least_any (n : Nat) (h1 : 1 ≤ n) (h4 : n ≤ 4) (w : World) : Calls Tryz.prog 111 #[.int .i64 n] w fun e w' => e = .returned (.int .i32 (lstn n)) ∧ w' = w := by
  obtain rfl | rfl | rfl | rfl : n = 1 ∨ n = 2 ∨ n = 3 ∨ n = 4 := by omega
  · exact least_1 w
  · exact least_2 w
  · exact least_3 w
  · exact least_4 w

theorem ps_0 (s : ByteArray) (w : World) (h : 0 < s.size) (hz : szf (s[0].toNat : Int) = 0) : Calls Tryz.prog 96 #[.string s] w fun e w' => e = .returned (.int .i64 0) ∧ w' = w := by
  go_enter Tryz.func96, Tryz.ntmps96
  go_wp2_with (go_at_call 104; refine (szf_any _ _).mono ?_; rintro e w' ⟨rfl, rfl⟩)
  go_ret
  exact ⟨rfl, rfl⟩
theorem ps_short (s : ByteArray) (n : Nat) (w : World) (h : 0 < s.size) (hz : szf (s[0].toNat : Int) = n) (hn : s.size < n) : Calls Tryz.prog 96 #[.string s] w fun e w' => e = .returned (.int .i64 0) ∧ w' = w := by
  have hn0 : ((n : Int) == 0) = false := beq_eq_false_iff_ne.2 (by omega)
  go_enter Tryz.func96, Tryz.ntmps96
  go_wp2_with (go_at_call 104; refine (szf_any _ _).mono ?_; rintro e w' ⟨rfl, rfl⟩)
  go_ret
  exact ⟨rfl, rfl⟩
set_option maxRecDepth 100000 in
set_option maxHeartbeats 1000000 in
theorem ps_good (s : ByteArray) (n : Nat) (w : World) (h : 0 < s.size) (hz : szf (s[0].toNat : Int) = n) (h1 : 1 ≤ n) (hn : n ≤ s.size) (h4 : n ≤ 4) : Calls Tryz.prog 96 #[.string s] w fun e w' => e = .returned (.int .i64 (pt (sb s))) ∧ w' = w := by
  have hn0 : ((n : Int) == 0) = false := beq_eq_false_iff_ne.2 (by omega)
  have hz' : Hid (szf ((sb s).getD 0 0) = n) := by show _ = _; rw [← sb_get s 0 h]; exact hz
  have hl : Hid (n ≤ (sb s).length) := by show _ ≤ _; rw [sb_length]; exact hn
  go_enter Tryz.func96, Tryz.ntmps96
  go_wp2_with (first | (go_at_call 104; refine (szf_any _ _).mono ?_; rintro e w' ⟨rfl, rfl⟩))
  go_loop [4] (fun i => ∃ k : Nat, 1 ≤ k ∧ k ≤ n ∧ i = .int .i64 k ∧ Hid (∀ j, 1 ≤ j → j < k → cont ((sb s).getD j 0) = true)) (fun i => n - (intOf i).toNat)
  case atStart => exact ⟨1, by omega, by omega, rfl, fun j h1 h2 => by omega⟩
  case round =>
    obtain ⟨k, hk1, hkn, rfl, hall⟩ := hrel
    by_cases hlt : k < n
    · have hks : k < s.size := by omega
      have hcs : Hid ((bits .and .u8 (s[k].toNat : Int) 192 == 128) = cont ((sb s).getD k 0)) := by show _ = _; rw [← sb_get s k hks]; exact a192 _ (u8_le _).1 (u8_le _).2
      by_cases hc : cont ((sb s).getD k 0) = true
      · have hb : (bits .and .u8 (s[k].toNat : Int) 192 == 128) = true := (unhide hcs).trans hc
        have HC := hide hc
        clear hc
        go_wp2
        go_round
        case rel => exact ⟨k + 1, by omega, by omega, by go_num, fun j h1 h2 => by
          rcases Nat.lt_succ_iff_lt_or_eq.1 h2 with h | h
          · exact (unhide hall) j h1 h
          · rw [h]; exact unhide HC⟩
        case measure => simp [intOf]; omega
      · have hb : (bits .and .u8 (s[k].toNat : Int) 192 == 128) = false := by rw [unhide hcs]; simpa using hc
        have HC := hide hc
        clear hc
        go_wp2
        go_ret
        refine ⟨ret_int ?_, rfl⟩
        rw [pt_cont (sb s) n (unhide hz') k hk1 hlt (by simpa using unhide HC)]
        rfl
    · obtain rfl : k = n := by omega
      have hpt := hide (pt_mb (sb s) k (unhide hz') h1 (unhide hl) (unhide hall))
      by_cases hm : mbn k (sb s) = true
      · have hr : Hid (pt (sb s) = k) := by show _ = _; rw [unhide hpt, if_pos hm]
        have hm' : Hid (true = mbn k (sb s)) := hm.symm
        clear hm hpt
        go_wp2_with (first | (go_at_call 106; refine (point_any s k _ h1 h4 hn).mono ?_; rintro e w' ⟨rfl, rfl⟩) | (go_at_call 105; refine (mayBe_any _ _ (lstn k) _ (least_any k h1 h4) true hm').mono ?_; rintro e w' ⟨rfl, rfl⟩))
        go_ret
        refine ⟨ret_int ?_, rfl⟩
        rw [unhide hr]
      · have hr : Hid (pt (sb s) = 0) := by show _ = _; rw [unhide hpt, if_neg hm]
        have hm' : Hid (false = mbn k (sb s)) := by show _ = _; cases h : mbn k (sb s) with | false => rfl | true => exact absurd h hm
        clear hm hpt
        go_wp2_with (first | (go_at_call 106; refine (point_any s k _ h1 h4 hn).mono ?_; rintro e w' ⟨rfl, rfl⟩) | (go_at_call 105; refine (mayBe_any _ _ (lstn k) _ (least_any k h1 h4) false hm').mono ?_; rintro e w' ⟨rfl, rfl⟩))
        go_ret
        refine ⟨ret_int ?_, rfl⟩
        rw [unhide hr]
        rfl
theorem szf_nat (c : Int) : ∃ n : Nat, szf c = n ∧ n ≤ 4 := by
  rcases szf_cases c with h1 | h1 | h1 | h1 | h1 | h1
  · exact ⟨1, by omega, by omega⟩
  · exact ⟨0, by omega, by omega⟩
  · exact ⟨2, by omega, by omega⟩
  · exact ⟨3, by omega, by omega⟩
  · exact ⟨4, by omega, by omega⟩
  · exact ⟨0, by omega, by omega⟩
theorem ps_any (s : ByteArray) (w : World) (h : 0 < s.size) : Calls Tryz.prog 96 #[.string s] w fun e w' => e = .returned (.int .i64 (pt (sb s))) ∧ w' = w := by
  obtain ⟨n, hn, h4⟩ := szf_nat (s[0].toNat : Int)
  have hz' : szf ((sb s).getD 0 0) = n := by rw [← sb_get s 0 h]; exact hn
  by_cases h0 : n = 0
  · subst h0
    rw [pt_0 _ hz']
    exact ps_0 s w h hn
  · by_cases hs : s.size < n
    · rw [pt_short (sb s) n hz' (by rw [sb_length]; exact h) (by rw [sb_length]; exact hs)]
      exact ps_short s n w h hn hs
    · exact ps_good s n w h hn (by omega) (by omega) h4
end Go.Proofs.YtgdfnopnmdjklaaGreatDoor
/- Proved here: dovecoteref1.point tells how many bytes the code point has with which bytes begin, or 0. Helper contracts. -/
namespace Go.Proofs.YtgdfnopnmdjklaaGreatDoor
open Go.RowKit

/-- the code point as far as k bytes more than the first tell it -/
def acc (m : Int) (l : List Int) : Nat → Int
  | 0 => l.getD 0 0 % m
  | k + 1 => acc m l k * 64 + l.getD (k + 1) 0 % 64
theorem acc_pos (m : Int) (l : List Int) (hm : 0 < m) : ∀ k, 0 ≤ acc m l k
  | 0 => Int.emod_nonneg _ (by omega)
  | k + 1 => by have := acc_pos m l hm k; simp only [acc]; omega
theorem acc_lt (m : Int) (l : List Int) (hm : 0 < m) (h32 : m ≤ 32) (k : Nat) (hk : k ≤ 3) : acc m l k < 8388608 := by
  have h0 : acc m l 0 < 32 := by have := Int.emod_lt_of_pos (l.getD 0 0) hm; simp only [acc]; omega
  have h1 : acc m l 1 < 2048 := by simp only [acc] at h0 ⊢; omega
  have h2 : acc m l 2 < 131072 := by simp only [acc] at h0 h1 ⊢; omega
  have h3 : acc m l 3 < 8388608 := by simp only [acc] at h0 h1 h2 ⊢; omega
  obtain rfl | rfl | rfl | rfl : k = 0 ∨ k = 1 ∨ k = 2 ∨ k = 3 := by omega
  all_goals omega
/-- bytes in memory, as point's walk wants them -/
def Mem (w : World) (b off len : Nat) (l : List Int) : Prop := l.length = len ∧ (∀ j, j < len → w.cell? ⟨b, off + j, none⟩ = some (.int .u8 (l.getD j 0))) ∧ ∀ j, 0 ≤ l.getD j 0 ∧ l.getD j 0 ≤ 255
theorem Mem.len {w : World} {b off len : Nat} {l : List Int} (h : Mem w b off len l) : l.length = len := h.1
theorem Mem.cell {w : World} {b off len : Nat} {l : List Int} (h : Mem w b off len l) : ∀ j, j < len → w.cell? ⟨b, off + j, none⟩ = some (.int .u8 (l.getD j 0)) := h.2.1
theorem Mem.range {w : World} {b off len : Nat} {l : List Int} (h : Mem w b off len l) : ∀ j, 0 ≤ l.getD j 0 ∧ l.getD j 0 ≤ 255 := h.2.2
theorem Mem.cell0 {w : World} {b off len : Nat} {l : List Int} (h : Mem w b off len l) (h0 : 0 < len) : w.cell? ⟨b, off, none⟩ = some (.int .u8 (l.getD 0 0)) := h.cell 0 h0

end Go.Proofs.YtgdfnopnmdjklaaGreatDoor
/- Proved here: dovecoteref1.Utf tells whether bytes are UTF-8 as the chapter has it. Helper contract. -/
namespace Go.Proofs.YtgdfnopnmdjklaaGreatDoor
open Go.RowKit

end Go.Proofs.YtgdfnopnmdjklaaGreatDoor
/- Proved here: text.Check tells nil, or a Fault around ErrForm where a text is no UTF-8, around ErrLimit where it is too long. Helper contracts. -/
namespace Go.Proofs.YtgdfnopnmdjklaaGreatDoor
open Go.RowKit

/-- the world behind a new Fault around the number n -/
abbrev faultW (n : Int) (w : World) : World := w.alloc (.cells #[.string ⟨#[116, 101, 120, 116]⟩, .iface 40 (.int .i64 n)] 66)
theorem fault_any (n : Int) (w : World) : Calls Tryz.prog 87 #[.int .i64 n] w fun e w' => e = .returned (.iface 64 (.pointer (some ⟨w.heap.size, 0, none⟩))) ∧ w' = faultW n w := by
  go_enter Tryz.func87, Tryz.ntmps87
  go_wp2
  go_ret
  exact ⟨rfl, rfl⟩
theorem fault_is (n : Int) (w : World) : ErrIs (faultW n w) (.iface 64 (.pointer (some ⟨w.heap.size, 0, none⟩))) n := .inr ⟨_, rfl, by simp⟩
theorem fault_below (n : Int) (w : World) : Below w.heap.size w (faultW n w) := (Below.refl _ _).alloc (Nat.le_refl _) _

def ChkPost (l : List Int) (w : World) (e : Ending) (w' : World) : Prop :=
  (chk l = 0 ∧ e = .returned .nilIface ∧ w' = w) ∨ (∃ n, chk l = n ∧ n ≠ 0 ∧ e = .returned (.iface 64 (.pointer (some ⟨w.heap.size, 0, none⟩))) ∧ w' = faultW n w)

set_option maxRecDepth 100000 in
set_option maxHeartbeats 1000000 in
theorem check_core (s : ByteArray) (w : World) (hs : s.size ≤ 4611686018427387904) : Calls Tryz.prog 86 #[.string s] w (ChkPost (sb s) w) := by
  have HL := hide (sb_length s)
  go_enter Tryz.func86, Tryz.ntmps86
  go_wp2
  go_loop [3] (fun i => ∃ k : Nat, k ≤ s.size ∧ i = .int .i64 k ∧ Hid (utf ((sb s).drop k) = utf (sb s))) (fun i => s.size - (intOf i).toNat)
  case atStart => exact ⟨0, Nat.zero_le _, rfl, rfl⟩
  case round =>
    obtain ⟨k, hk, rfl, hu⟩ := hrel
    by_cases hlt : k < s.size
    · have hps : ∀ w, Calls Tryz.prog 96 #[.string (s.extract k s.size)] w fun e w' => e = .returned (.int .i64 (pt ((sb s).drop k))) ∧ w' = w := fun w => by
        rw [← sb_drop]
        exact ps_any _ w (by rw [ByteArray.size_extract]; omega)
      have HPS := hide hps
      clear hps
      have h4 := pt_le4 ((sb s).drop k)
      have hle : pt ((sb s).drop k) + k ≤ s.size := by
        have := pt_le ((sb s).drop k)
        rw [List.length_drop, unhide HL] at this
        omega
      have hnot := hide (utf_not (sb s) k (by rw [unhide HL]; exact hlt))
      have hyes := hide (utf_drop (sb s) k (by rw [unhide HL]; exact hlt))
      generalize pt ((sb s).drop k) = p at HPS h4 hle hnot hyes
      by_cases hp : p = 0
      · subst hp
        have hc : Hid (chk (sb s) = 1) := by show _ = _; unfold chk; rw [if_neg]; rw [← unhide hu, (unhide hnot) rfl]; simp
        clear hyes
        go_wp2_with (first | (go_at_call 96; refine ((unhide HPS) _).mono ?_; rintro e w' ⟨rfl, rfl⟩) | (go_at_call 87; refine (fault_any _ _).mono ?_; rintro e w' ⟨rfl, rfl⟩))
        go_ret
        exact .inr ⟨1, unhide hc, by omega, rfl, rfl⟩
      · have hp0 : ((p : Int) == 0) = false := beq_eq_false_iff_ne.2 (by omega)
        have hu' : Hid (utf ((sb s).drop (k + p)) = utf (sb s)) := by show _ = _; rw [← (unhide hyes) hp]; exact unhide hu
        clear hnot hyes
        go_wp2_with (first | (go_at_call 96; refine ((unhide HPS) _).mono ?_; rintro e w' ⟨rfl, rfl⟩))
        go_round
        case rel => exact ⟨k + p, by omega, by go_num, hu'⟩
        case measure => simp [intOf]; omega
    · obtain rfl : k = s.size := by omega
      have ht : utf (sb s) = true := by rw [← unhide hu, List.drop_of_length_le (by rw [unhide HL]; exact Nat.le_refl _)]; rfl
      by_cases hm : s.size ≤ 65535
      · have hc : Hid (chk (sb s) = 0) := by show _ = _; unfold chk; rw [if_pos ht, if_pos (by rw [unhide HL]; exact hm)]
        clear ht
        go_wp2
        go_ret
        exact .inl ⟨unhide hc, rfl, rfl⟩
      · have hc : Hid (chk (sb s) = 2) := by show _ = _; unfold chk; rw [if_pos ht, if_neg (by rw [unhide HL]; exact hm)]
        clear ht
        go_wp2_with (go_at_call 87; refine (fault_any _ _).mono ?_; rintro e w' ⟨rfl, rfl⟩)
        go_ret
        exact .inr ⟨2, unhide hc, by omega, rfl, rfl⟩
theorem check_ok (s : ByteArray) (w : World) (hs : s.size ≤ 4611686018427387904) (h : chk (sb s) = 0) : Calls Tryz.prog 86 #[.string s] w fun e w' => e = .returned .nilIface ∧ w' = w := by
  refine (check_core s w hs).mono ?_
  rintro e w' (⟨_, h1⟩ | ⟨n, h1, h2, _⟩)
  · exact h1
  · exact absurd (h1.symm.trans h) h2
theorem check_bad (s : ByteArray) (n : Int) (w : World) (hs : s.size ≤ 4611686018427387904) (h : chk (sb s) = n) (h0 : n ≠ 0) : Calls Tryz.prog 86 #[.string s] w fun e w' => e = .returned (.iface 64 (.pointer (some ⟨w.heap.size, 0, none⟩))) ∧ w' = faultW n w := by
  refine (check_core s w hs).mono ?_
  rintro e w' (⟨h1, _⟩ | ⟨m, h1, _, h3⟩)
  · exact absurd (h.symm.trans h1) h0
  · obtain rfl : m = n := h1.symm.trans h
    exact h3
/-- Check's answer, as a caller uses it that holds its number alone -/
theorem check_num (s : ByteArray) (w : World) (hs : s.size ≤ 4611686018427387904) : Calls Tryz.prog 86 #[.string s] w fun e w' => ∃ E, e = .returned E ∧ Hid (ErrIs w' E (chk (sb s))) ∧ Below w.heap.size w w' := by
  refine (check_core s w hs).mono ?_
  rintro e w' (⟨h, rfl, rfl⟩ | ⟨n, h, h0, rfl, rfl⟩)
  · exact ⟨_, rfl, .inl ⟨h, rfl⟩, Below.refl _ _⟩
  · exact ⟨_, rfl, by rw [h]; exact fault_is n w, fault_below n w⟩
end Go.Proofs.YtgdfnopnmdjklaaGreatDoor
/- Proved here: text.Put and PutBin tell a text's length in two bytes and its bytes behind, in memory of their own, or a Fault. Helper contracts. -/
namespace Go.Proofs.YtgdfnopnmdjklaaGreatDoor
open Go.RowKit

theorem Tryz.infoU8 : (Tryz.prog.info? 5).map (fun i => (i.zero, i.size, i.bytes)) = some (some (.int .u8 0), 1, 1) := by kernel_rfl
theorem strCells_sb (s : ByteArray) : Lib.strCells s = (sb s).map (Value.int .u8) := by unfold Lib.strCells sb; rw [List.map_map]; rfl
/-- a text's bytes with their length ahead -/
def tx (s : ByteArray) : List Int := [(s.size : Int) / 256, (s.size : Int) % 256] ++ sb s
theorem tx_length (s : ByteArray) : (tx s).length = 2 + s.size := by unfold tx; rw [List.length_append, sb_length]; rfl
theorem two_cell (w : World) (y z : Value) (t : TypeId) : ∀ j u, [y, z][j]? = some u → (w.alloc (.cells #[y, z] t)).cell? ((⟨w.heap.size, 0, none⟩ : Addr).add j) = some u := by
  intro j u hj
  match j, hj with
  | 0, hj => simp at hj; subst hj; simp [Addr.add]
  | 1, hj => simp at hj; subst hj; simp [Addr.add]
theorem two_one (k : IntKind) (y z : Int) : ∀ u ∈ [Value.int k y, Value.int k z], u.oneCell' = true := by
  intro u hu; simp at hu; rcases hu with rfl | rfl <;> rfl

set_option maxRecDepth 100000 in
set_option maxHeartbeats 1000000 in
theorem wl_any (s : ByteArray) (w : World) (hs : s.size ≤ 65535) : Calls Tryz.prog 102 #[.string s] w fun e w' => ∃ v, e = .returned v ∧ Hid (w'.ownsRow w.heap.size 5 1 v (2 + s.size) ((tx s).map (Value.int .u8))) ∧ Below w.heap.size w w' := by
  obtain ⟨i0, hi, hz0, hz1, hz2⟩ := info_parts Tryz.infoU8
  go_enter Tryz.func102, Tryz.ntmps102
  go_wp2_with (first
    | (at_make; refine wpList_make_own _ rfl _ _ 23 rfl w.heap.size 5 i0 (.int .u8 0) 1 Tryz.underlying23 hi hz0 hz1 .i64 .i64 _ (2 + s.size) rfl rfl (by omega) (by rw [hz2]; omega) (by unfold maxLen; omega) (Nat.le_refl _) ?_; intro w0 hown0 hgrow0)
    | (at_builtin; refine wpList_append_own _ rfl _ _ 23 rfl w.heap.size 5 i0 (.int .u8 0) 1 1 Tryz.underlying23 hi hz0 hz1 hz2 rfl (by decide) _ _ _ rfl (hown0.alloc _) ⟨w0.heap.size, 0, none⟩ 2 2 [.int .u8 ((s.size : Int) / 256), .int .u8 ((s.size : Int) % 256)] rfl rfl (two_cell _ _ _ _) (two_one _ _ _) (by unfold maxLen; omega) (by omega) (by have := hgrow0.size; simp; omega) ?_)
    | go_in)
  intro v1 w1 hown1 hgrow1 _
  have hb0 : Below w.heap.size w w0 := (Below.refl _ _).grown hgrow0 (Nat.le_refl _) (fun k hk => by cases hk)
  have hb1 : Below w.heap.size w w1 := (hb0.alloc hb0.size _).grown hgrow1 (by have := hb0.size; simp; omega) (fun k hk => (hown0.lt k hk).1)
  clear hgrow0 hgrow1 hown0 hb0
  go_wp2_with (first
    | (at_builtin; refine Lib.wpList_append_own_string _ rfl _ _ 23 9 rfl w.heap.size 5 i0 Tryz.underlying23 Tryz.underlying9 hi hz0 hz1 hz2 _ _ _ rfl hown1 s rfl (by unfold maxLen; omega) (by omega) hb1.size ?_)
    | go_in)
  intro v2 w2 hown2 hgrow2 _
  have hb2 : Below w.heap.size w w2 := hb1.grown hgrow2 hb1.size (fun k hk => (hown1.lt k hk).1)
  have hown3 : Hid (w2.ownsRow w.heap.size 5 1 v2 (2 + s.size) ((tx s).map (Value.int .u8))) := by
    unfold tx
    rw [List.map_append, ← strCells_sb]
    show World.ownsRow _ _ _ _ _ _ _
    simpa using hown2
  clear hgrow2 hown1 hb1 hown2
  go_wp2
  go_ret
  exact ⟨_, rfl, hown3, hb2⟩

/-- what Put and PutBin tell of a text that may be told -/
def TxPost (s : ByteArray) (w : World) (e : Ending) (w' : World) : Prop :=
  ∃ v, e = .returned (.tuple #[v, .nilIface]) ∧ Hid (w'.ownsRow w.heap.size 5 1 v (2 + s.size) ((tx s).map (Value.int .u8))) ∧ Below w.heap.size w w'
/-- .. and of one that may not -/
def FaPost (n : Int) (w : World) (e : Ending) (w' : World) : Prop :=
  e = .returned (.tuple #[.slice none 0 0, .iface 64 (.pointer (some ⟨w.heap.size, 0, none⟩))]) ∧ w' = faultW n w

theorem chk_0 {l : List Int} (h : chk l = 0) : l.length ≤ 65535 := by
  unfold chk at h
  by_cases h1 : utf l = true
  · rw [if_pos h1] at h
    by_cases h2 : l.length ≤ 65535
    · exact h2
    · rw [if_neg h2] at h; omega
  · rw [if_neg h1] at h; omega
theorem put_ok (s : ByteArray) (w : World) (hc : chk (sb s) = 0) : Calls Tryz.prog 91 #[.string s] w (TxPost s w) := by
  have hs : s.size ≤ 65535 := by have := chk_0 hc; rw [sb_length] at this; exact this
  unfold TxPost
  have HC := hide hc
  clear hc
  go_enter Tryz.func91, Tryz.ntmps91
  go_wp2_with (first | (go_at_call 86; refine (check_ok s _ (by omega) (unhide HC)).mono ?_; rintro e w' ⟨rfl, rfl⟩) | (go_at_call 102; refine (wl_any s _ hs).mono ?_; rintro e w' ⟨v, rfl, hown, hb⟩))
  go_ret2
  exact ⟨_, rfl, hown, hb⟩
theorem put_bad (s : ByteArray) (n : Int) (w : World) (hs : s.size ≤ 4611686018427387904) (hc : chk (sb s) = n) (hn : n ≠ 0) : Calls Tryz.prog 91 #[.string s] w (FaPost n w) := by
  unfold FaPost
  have HC := hide hc
  clear hc
  go_enter Tryz.func91, Tryz.ntmps91
  go_wp2_with (first | (go_at_call 86; refine (check_bad s n _ hs (unhide HC) hn).mono ?_; rintro e w' ⟨rfl, rfl⟩))
  go_ret2
  exact ⟨rfl, rfl⟩
theorem putBin_ok (s : ByteArray) (w : World) (hs : s.size ≤ 65535) : Calls Tryz.prog 92 #[.string s] w (TxPost s w) := by
  unfold TxPost
  go_enter Tryz.func92, Tryz.ntmps92
  go_wp2_with (go_at_call 102; refine (wl_any s _ hs).mono ?_; rintro e w' ⟨v, rfl, hown, hb⟩)
  go_ret2
  exact ⟨_, rfl, hown, hb⟩
theorem putBin_bad (s : ByteArray) (w : World) (hs : 65535 < s.size) : Calls Tryz.prog 92 #[.string s] w (FaPost 2 w) := by
  unfold FaPost
  go_enter Tryz.func92, Tryz.ntmps92
  go_wp2_with (go_at_call 87; refine (fault_any _ _).mono ?_; rintro e w' ⟨rfl, rfl⟩)
  go_ret2
  exact ⟨rfl, rfl⟩
theorem tx_range (s : ByteArray) (hs : s.size ≤ 65535) : ∀ j, 0 ≤ (tx s).getD j 0 ∧ (tx s).getD j 0 ≤ 255 := by
  intro j
  unfold tx
  rcases j with _ | _ | j
  · simp; omega
  · simp; omega
  · simpa using sb_range s j
end Go.Proofs.YtgdfnopnmdjklaaGreatDoor
/- Proved here: dovecoteref0.CopyBytes tells the same bytes in memory of its own; what append does to bytes of the caller's own, whatever bytes come behind. Helper contracts. -/
namespace Go.Proofs.YtgdfnopnmdjklaaGreatDoor
open Go.RowKit

theorem take_snoc_getD (xs : List Int) (k : Nat) (h : k < xs.length) : xs.take k ++ [xs.getD k 0] = xs.take (k + 1) := by
  rw [List.take_succ_eq_append_getElem h, List.getD_eq_getElem?_getD, List.getElem?_eq_getElem h]; rfl

theorem addr_add (b off j : Nat) : (⟨b, off, none⟩ : Addr).add j = ⟨b, off + j, none⟩ := by unfold Addr.add; split <;> simp_all

/-- append of any bytes to bytes of the caller's own -/
theorem run_append_byt (w : World) (base : Nat) (ty : TypeId) (v : Value) (n : Nat) (xs : List Int) (hown : w.ownsRow base 5 1 v n (xs.map (Value.int .u8))) (vx : Value) (ys : List Int) (hy : Byt w vx ys)
    (hbytes : n + ys.length ≤ 140737488355328) (hbase : base ≤ w.heap.size) :
    ∃ v' w', (Builtin.append_ #[23, 23] ty #[v, vx]).run Tryz.prog w = .ok v' w' ∧ w'.ownsRow base 5 1 v' (n + ys.length) ((xs ++ ys).map (Value.int .u8)) ∧ w.grownBy w' v.ownBlock := by
  obtain ⟨i0, hi, hz0, hz1, hz2⟩ := info_parts Tryz.infoU8
  obtain ⟨ao, cap, rfl, hlen, hr, hcase⟩ := hy
  have key : ∀ (a : Addr), (∀ j, j < ys.length → w.cell? (a.add j) = some (.int .u8 (ys.getD j 0))) → ∃ v' w', (Builtin.append_ #[23, 23] ty #[v, .slice (some a) ys.length cap]).run Tryz.prog w = .ok v' w' ∧ w'.ownsRow base 5 1 v' (n + ys.length) ((xs ++ ys).map (Value.int .u8)) ∧ w.grownBy w' v.ownBlock := by
    intro a ha
    obtain ⟨v', w', h1, h2, h3, _⟩ := run_append_own (P := Tryz.prog) w base 23 ty 5 i0 (.int .u8 0) 1 1 Tryz.underlying23 hi hz0 hz1 hz2 rfl (by decide) v n _ hown a ys.length cap (ys.map (Value.int .u8)) (by simp)
      (fun j u hj => by
        rw [List.getElem?_map] at hj
        by_cases hjl : j < ys.length
        · rw [ha j hjl]
          rw [List.getElem?_eq_getElem hjl] at hj
          rw [List.getD_eq_getElem?_getD, List.getElem?_eq_getElem hjl]
          exact hj
        · rw [List.getElem?_eq_none (by omega)] at hj; cases hj)
      (fun u hu => by obtain ⟨_, _, rfl⟩ := List.mem_map.1 hu; rfl) (by unfold maxLen; omega) (by omega) hbase
    exact ⟨v', w', h1, by rw [List.map_append]; exact h2, h3⟩
  rcases hcase with rfl | ⟨b, off, rfl, hc⟩
  · cases ao with
    | none =>
      refine ⟨v, w, ?_, ?_, ⟨rfl, rfl, rfl, Nat.le_refl _, fun _ _ _ => rfl⟩⟩
      · rcases hown.2 with ⟨rfl, rfl⟩ | ⟨g, cap', cur, rfl, _, _, hnc, _⟩
        · simp [Builtin.append_, run_underlying Tryz.underlying23, sizeOf, typeInfo, hi, Builtin.lenOf, Builtin.firstCells]
        · simp [Builtin.append_, run_underlying Tryz.underlying23, sizeOf, typeInfo, hi, Builtin.lenOf, Builtin.firstCells, hnc, storeCells]
      · simpa using hown
    | some a => exact key a (fun j hj => by simp at hj)
  · exact key ⟨b, off, none⟩ (fun j hj => by rw [addr_add]; exact hc j hj)

/-- the same, at a step of a region that draws its order -/
theorem step_append_byt {w : World} {ops : Array Oper} {o : Oper} {a : Act} {K : Act → World → Prop} {Q : Exit → Act → World → Prop} {E : Prop} (hgd : o.guard = none) (s x : Operand)
    (ho : o.op = .call { callee := .builtin .append, args := #[s, x], argTypes := #[23, 23] })
    (base : Nat) (v : Value) (n : Nat) (xs : List Int) (hs : a.eval s = v) (hown : w.ownsRow base 5 1 v n (xs.map (Value.int .u8))) (vx : Value) (ys : List Int) (hx : a.eval x = vx) (hy : Byt w vx ys)
    (hbytes : n + ys.length ≤ 140737488355328) (hbase : base ≤ w.heap.size)
    (h : ∀ v' w', w'.ownsRow base 5 1 v' (n + ys.length) ((xs ++ ys).map (Value.int .u8)) → w.grownBy w' v.ownBlock → K (a.put o.dst v') w') :
    if Region.wanted o (yielded ops a.tmps) = true then Oper.wp Tryz.prog o a w K Q else E := by
  have hw : Region.wanted o (yielded ops a.tmps) = true := by simp [Region.wanted, hgd]
  rw [if_pos hw]
  obtain ⟨v', w', hr, h2, h3⟩ := run_append_byt w base o.type v n xs hown vx ys hy hbytes hbase
  unfold Oper.wp execOp
  simp only [ho, resolve, invoke, builtin, Sem.run_bind, Sem.run_pure, Result.andThen_ok, List.map_toArray, List.map_cons, List.map_nil, hs, hx, hr]
  exact h v' w' h2 h3
end Go.Proofs.YtgdfnopnmdjklaaGreatDoor
/- Proved here: dovecoteref1.Check and Bin tell what text.Check and PutBin tell. Helper contracts. -/
namespace Go.Proofs.YtgdfnopnmdjklaaGreatDoor
open Go.RowKit

/-- a text turned into bytes -/
theorem conv_str (s : ByteArray) (hs : s.size ≤ maxLen) (w : World) : ∃ v w1, (convert 9 23 (.string s)).run Tryz.prog w = .ok v w1 ∧ Byt w1 v (sb s) ∧ Below w.heap.size w w1 := by
  refine ⟨_, _, run_bytes_of_string w 9 23 5 s Tryz.underlying9 Tryz.underlying23 Tryz.underlying5, ?_, ?_⟩
  · refine ⟨_, _, by rw [sb_length], ⟨by rw [sb_length]; exact grownCap_ge _ _ _ _, grownCap_le_maxLen _ _ _ _ hs⟩, sb_range s, .inr ⟨_, _, rfl, fun j hj => ?_⟩⟩
    rw [sb_length] at hj
    have h1 := World.cell?_alloc_mark w.drew (bytesRow s (grownCap w s.size 0 5)) 5 ((bytesRow s (grownCap w s.size 0 5)).size, (bytesRow s (grownCap w s.size 0 5)).size + 1) j
    rw [Nat.zero_add]
    refine h1.trans ?_
    rw [bytesRow_at s _ j hj, ← sb_get s j hj]
    rfl
  · exact (below_drewN (Below.refl _ _) 1).alloc (Nat.le_refl _) _
/-- append of any bytes to bytes of the caller's own, at an operation of a walk -/
theorem wpList_append_byt (w : World) {ops : Array Oper} {rest : List Oper} {o : Oper} {a : Act} {Q : Exit → Act → World → Prop} (hgd : o.guard = none) (s x : Operand)
    (ho : o.op = .call { callee := .builtin .append, args := #[s, x], argTypes := #[23, 23] })
    (base : Nat) (v : Value) (n : Nat) (xs : List Int) (hs : a.eval s = v) (hown : w.ownsRow base 5 1 v n (xs.map (Value.int .u8))) (vx : Value) (ys : List Int) (hx : a.eval x = vx) (hy : Byt w vx ys)
    (hbytes : n + ys.length ≤ 140737488355328) (hbase : base ≤ w.heap.size)
    (h : ∀ v' w', w'.ownsRow base 5 1 v' (n + ys.length) ((xs ++ ys).map (Value.int .u8)) → w.grownBy w' v.ownBlock → wpList Tryz.prog ops Q rest (a.put o.dst v') w') : wpList Tryz.prog ops Q (o :: rest) a w := by
  refine wpList_plain hgd fun K hK => ?_
  obtain ⟨v', w', hr, h2, h3⟩ := run_append_byt w base o.type v n xs hown vx ys hy hbytes hbase
  unfold Oper.wp execOp
  simp only [ho, resolve, invoke, builtin, Sem.run_bind, Sem.run_pure, Result.andThen_ok, List.map_toArray, List.map_cons, List.map_nil, hs, hx, hr]
  exact hK _ _ (h v' w' h2 h3)

end Go.Proofs.YtgdfnopnmdjklaaGreatDoor
/- Proved here: text.GetBin and dovecoteref1.GetBin tell the bytes with which bytes begin, and how many they are with their length, or that they end too early. Helper contracts. -/
namespace Go.Proofs.YtgdfnopnmdjklaaGreatDoor
open Go.RowKit

/-- how many bytes the two first ones tell -/
def nb (l : List Int) : Nat := (l.getD 0 0 * 256 + l.getD 1 0).toNat
/-- the bytes themselves -/
def gbs (l : List Int) : ByteArray := bs ((l.drop 2).take (nb l))
theorem conv_bytes (w : World) (b off cap : Nat) (l : List Int) (hr : ∀ j, 0 ≤ l.getD j 0 ∧ l.getD j 0 ≤ 255) (hc : ∀ j, j < l.length → w.cell? ⟨b, off + j, none⟩ = some (.int .u8 (l.getD j 0))) :
    (convert 23 9 (.slice (some ⟨b, off, none⟩) l.length cap)).run Tryz.prog w = .ok (.string (bs l)) w := by
  have h := run_convert_bytes_back (P := Tryz.prog) w 23 9 5 ⟨b, off, none⟩ cap (l.map fun n => UInt8.ofNat n.toNat) Tryz.underlying23 Tryz.underlying5 Tryz.underlying9 (fun j hj => by
    rw [List.length_map] at hj
    have h1 := hr j
    rw [addr_add, hc j hj]
    rw [List.getD_eq_getElem?_getD, List.getElem?_eq_getElem hj] at h1 ⊢
    simp only [Option.getD_some] at h1
    simp only [Option.getD_some, List.getElem_map, UInt8.toNat_ofNat']
    congr 2
    omega)
  rw [List.length_map] at h
  exact h
/-- what two bytes ahead tell, as the walks want it -/
theorem nb_or (l : List Int) (h0 : 0 ≤ l.getD 0 0 ∧ l.getD 0 0 ≤ 255) (h1 : 0 ≤ l.getD 1 0 ∧ l.getD 1 0 ≤ 255) : bits .or .i64 (l.getD 0 0 * 256) (l.getD 1 0) = (nb l : Int) ∧ nb l ≤ 65535 := by
  rw [or_i64 _ _ 8 (by omega) (by omega) (by omega) (by omega) (by omega) (by omega)]
  unfold nb
  omega

theorem take_drop_length (l : List Int) (k n : Nat) (h : k + n ≤ l.length) : ((l.drop k).take n).length = n := by rw [List.length_take, List.length_drop]; omega
theorem take_drop_getD (l : List Int) (k n j : Nat) (hj : j < n) : ((l.drop k).take n).getD j 0 = l.getD (k + j) 0 := by
  rw [List.getD_eq_getElem?_getD, List.getElem?_take, if_pos hj, List.getElem?_drop, ← List.getD_eq_getElem?_getD]
theorem take_drop_range (l : List Int) (k n : Nat) (h : ∀ j, 0 ≤ l.getD j 0 ∧ l.getD j 0 ≤ 255) : ∀ j, 0 ≤ ((l.drop k).take n).getD j 0 ∧ ((l.drop k).take n).getD j 0 ≤ 255 := by
  intro j
  by_cases hj : j < n
  · rw [take_drop_getD l k n j hj]; exact h _
  · rw [List.getD_eq_getElem?_getD, List.getElem?_take, if_neg hj]; simp
/-- the bytes behind the length, turned into a text, in the forms that the walks meet -/
theorem gbs_conv (b off len cap : Nat) (l : List Int) (w : World) (hm : Mem w b off len l) (hl : 2 + nb l ≤ len) :
    ∀ q, (convert 23 9 (.slice (some ⟨b, off + 2, none⟩) (nb l) (cap - 2))).run Tryz.prog (w.drewN q) = .ok (.string (gbs l)) (w.drewN q) := by
  intro q
  have hlen := take_drop_length l 2 (nb l) (by rw [hm.len]; exact hl)
  have h := conv_bytes (w.drewN q) b (off + 2) (cap - 2) ((l.drop 2).take (nb l)) (take_drop_range l 2 _ hm.range) (fun j hj => by
    rw [hlen] at hj
    rw [World.cell?_drewN, take_drop_getD l 2 _ j hj, Nat.add_assoc]
    exact hm.cell (2 + j) (by omega))
  rw [hlen] at h
  exact h
theorem gbs_conv0 (b off : Nat) (l : List Int) (w : World) (h0 : nb l = 0) :
    ∀ q, (convert 23 9 (.slice (some ⟨b, off, none⟩) 0 0)).run Tryz.prog (w.drewN q) = .ok (.string (gbs l)) (w.drewN q) := by
  intro q
  have h := conv_bytes (w.drewN q) b off 0 [] (by intro j; simp) (by intro j hj; simp at hj)
  unfold gbs
  rw [h0]
  exact h

set_option maxRecDepth 100000 in
set_option maxHeartbeats 1000000 in
theorem gb_ok (b off len cap : Nat) (l : List Int) (w : World) (hm : Mem w b off len l) (hl2 : 2 ≤ len) (hl : 2 + nb l ≤ len) (hcap : len ≤ cap) (hcm : cap ≤ maxLen) :
    Calls Tryz.prog 64 #[.slice (some ⟨b, off, none⟩) len cap] w fun e w' => e = .returned (.tuple #[.string (gbs l), .int .i64 (2 + nb l : Nat), .nilIface]) ∧ ∃ q, w' = w.drewN q := by
  unfold maxLen at hcm
  have hc0 := hm.cell0 (by omega)
  have hc1 := hm.cell 1 (by omega)
  have hr0 := hm.range 0
  have hr1 := hm.range 1
  obtain ⟨hor, hn⟩ := nb_or l hr0 hr1
  have hconv := gbs_conv b off len cap l w hm hl
  have hconv0 := gbs_conv0 b off l w
  have HM := hide hm
  clear hm
  generalize hg : gbs l = g at hconv hconv0
  have HG := hide hg
  generalize hnn : nb l = n at hl hor hn hconv hconv0
  have HN := hide hnn
  generalize l.getD 0 0 = c0 at hc0 hr0 hor
  generalize l.getD 1 0 = c1 at hc1 hr1 hor
  clear hg hnn
  by_cases hc2 : cap = 2
  · subst hc2
    obtain rfl : n = 0 := by omega
    obtain rfl : len = 2 := by omega
    have hconv1 := hconv0 rfl
    clear hconv hconv0
    go_enter Tryz.func64, Tryz.ntmps64
    go_wp2
    go_quiet (fail)
    go_wp2
    go_ret3
    exact ⟨rfl, _, rfl⟩
  · clear hconv0
    go_enter Tryz.func64, Tryz.ntmps64
    go_wp2
    go_quiet (fail)
    go_wp2
    go_ret3
    exact ⟨rfl, _, rfl⟩
theorem gb_short2 (ao : Option Addr) (len cap : Nat) (w : World) (hl : len < 2) :
    Calls Tryz.prog 64 #[.slice ao len cap] w fun e w' => e = .returned (.tuple #[.string ⟨#[]⟩, .int .i64 0, .iface 64 (.pointer (some ⟨w.heap.size, 0, none⟩))]) ∧ w' = faultW 3 w := by
  go_enter Tryz.func64, Tryz.ntmps64
  go_wp2_with (go_at_call 87; refine (fault_any _ _).mono ?_; rintro e w' ⟨rfl, rfl⟩)
  go_ret3
  exact ⟨rfl, rfl⟩
set_option maxRecDepth 100000 in
theorem gb_short (b off len cap : Nat) (l : List Int) (w : World) (hm : Mem w b off len l) (hl2 : 2 ≤ len) (hl : len < 2 + nb l) :
    Calls Tryz.prog 64 #[.slice (some ⟨b, off, none⟩) len cap] w fun e w' => e = .returned (.tuple #[.string ⟨#[]⟩, .int .i64 0, .iface 64 (.pointer (some ⟨w.heap.size, 0, none⟩))]) ∧ ∃ q, w' = faultW 3 (w.drewN q) := by
  have hc0 := hm.cell0 (by omega)
  have hc1 := hm.cell 1 (by omega)
  have hr0 := hm.range 0
  have hr1 := hm.range 1
  obtain ⟨hor, hn⟩ := nb_or l hr0 hr1
  have HM := hide hm
  clear hm
  generalize hnn : nb l = n at hl hor hn
  have HN := hide hnn
  generalize l.getD 0 0 = c0 at hc0 hr0 hor
  generalize l.getD 1 0 = c1 at hc1 hr1 hor
  clear hnn
  go_enter Tryz.func64, Tryz.ntmps64
  go_wp2
  go_quiet (fail)
  go_wp2_with (go_at_call 87; refine (fault_any _ _).mono ?_; rintro e w' ⟨rfl, rfl⟩)
  go_ret3
  exact ⟨rfl, _, rfl⟩

/-- bytes are there in full -/
def full (l : List Int) : Bool := decide (2 ≤ l.length) && decide (2 + nb l ≤ l.length)
theorem gbin_ok (v : Value) (l : List Int) (w : World) (hv : Byt w v l) (h : full l = true) : Calls Tryz.prog 64 #[v] w fun e w' => e = .returned (.tuple #[.string (gbs l), .int .i64 (2 + nb l : Nat), .nilIface]) ∧ ∃ q, w' = w.drewN q := by
  simp only [full, Bool.and_eq_true, decide_eq_true_eq] at h
  obtain ⟨ao, cap, rfl, hlen, hr, hcase⟩ := hv
  rcases hcase with rfl | ⟨b, off, rfl, hc⟩
  · simp at h
  · exact gb_ok b off l.length cap l w ⟨rfl, hc, hr⟩ h.1 h.2 hlen.1 hlen.2
theorem gbin_short (v : Value) (l : List Int) (w : World) (hv : Byt w v l) (h : full l = false) : Calls Tryz.prog 64 #[v] w fun e w' => e = .returned (.tuple #[.string ⟨#[]⟩, .int .i64 0, .iface 64 (.pointer (some ⟨w.heap.size, 0, none⟩))]) ∧ ∃ q, w' = faultW 3 (w.drewN q) := by
  simp only [full, Bool.and_eq_false_iff, decide_eq_false_iff_not] at h
  obtain ⟨ao, cap, rfl, hlen, hr, hcase⟩ := hv
  by_cases h2 : l.length < 2
  · refine (gb_short2 ao l.length cap w h2).mono ?_
    rintro e w' ⟨rfl, rfl⟩
    exact ⟨rfl, 0, rfl⟩
  · rcases hcase with rfl | ⟨b, off, rfl, hc⟩
    · simp at h2
    · exact gb_short b off l.length cap l w ⟨rfl, hc, hr⟩ (by omega) (by omega)
end Go.Proofs.YtgdfnopnmdjklaaGreatDoor
/- Proved here: text.Get and dovecoteref1.GetText tell the text with which bytes begin, and how many bytes it is with its length, or that it is none, or not all there. Helper contracts. -/
namespace Go.Proofs.YtgdfnopnmdjklaaGreatDoor
open Go.RowKit

/-- GetBin's answer: the bytes, how many with their length, the error's number -/
def gbn (l : List Int) : ByteArray × Int × Int := if full l = true then (gbs l, (2 + nb l : Nat), 0) else (⟨#[]⟩, 0, 3)
/-- Get's -/
def gt (l : List Int) : ByteArray × Int × Int := if full l = true then (if utf (sb (gbs l)) = true then (gbs l, (2 + nb l : Nat), 0) else (⟨#[]⟩, 0, 1)) else (⟨#[]⟩, 0, 3)
theorem gbs_size (l : List Int) (hr : ∀ j, 0 ≤ l.getD j 0 ∧ l.getD j 0 ≤ 255) : (gbs l).size ≤ 65535 := by
  rw [← sb_length]
  unfold gbs
  rw [sb_bs _ (take_drop_range l 2 _ hr), List.length_take]
  have := (nb_or l (hr 0) (hr 1)).2
  omega
theorem below_q {w : World} (q : Nat) : Below w.heap.size w (w.drewN q) := below_drewN (Below.refl _ _) q

theorem getBin_any (v : Value) (l : List Int) (w : World) (hv : Byt w v l) : Calls Tryz.prog 64 #[v] w fun e w' => ∃ E, e = .returned (.tuple #[.string (gbn l).1, .int .i64 (gbn l).2.1, E]) ∧ Hid (ErrIs w' E (gbn l).2.2) ∧ Below w.heap.size w w' := by
  by_cases hf : full l = true
  · unfold gbn
    rw [if_pos hf]
    refine (gbin_ok v l w hv hf).mono ?_
    rintro e w' ⟨rfl, q, rfl⟩
    exact ⟨_, rfl, .inl ⟨rfl, rfl⟩, below_q q⟩
  · unfold gbn
    rw [if_neg hf]
    refine (gbin_short v l w hv (by simpa using hf)).mono ?_
    rintro e w' ⟨rfl, q, rfl⟩
    exact ⟨_, rfl, fault_is 3 (w.drewN q), (below_q q).trans (fault_below 3 (w.drewN q))⟩
theorem get_short (v : Value) (l : List Int) (w : World) (hv : Byt w v l) (h : full l = false) : Calls Tryz.prog 62 #[v] w fun e w' => e = .returned (.tuple #[.string ⟨#[]⟩, .int .i64 0, .iface 64 (.pointer (some ⟨w.heap.size, 0, none⟩))]) ∧ ∃ q, w' = faultW 3 (w.drewN q) := by
  have HG := hide (gbin_short v l w hv h)
  have HV := hide hv
  clear hv
  go_enter Tryz.func62, Tryz.ntmps62
  go_wp2_with (go_at_call 64; refine (unhide HG).mono ?_; rintro e w' ⟨rfl, q, rfl⟩)
  go_ret3
  exact ⟨rfl, _, rfl⟩
theorem get_ok (v : Value) (l : List Int) (w : World) (hv : Byt w v l) (h : full l = true) (hu : utf (sb (gbs l)) = true) : Calls Tryz.prog 62 #[v] w fun e w' => e = .returned (.tuple #[.string (gbs l), .int .i64 (2 + nb l : Nat), .nilIface]) ∧ ∃ q, w' = w.drewN q := by
  have HG := hide (gbin_ok v l w hv h)
  have hz := gbs_size l hv.range
  have HC : Hid (chk (sb (gbs l)) = 0) := by show _ = _; unfold chk; rw [if_pos hu, if_pos (by rw [sb_length]; exact hz)]
  have hnb := (nb_or l (hv.range 0) (hv.range 1)).2
  have HV := hide hv
  have HU := hide hu
  clear hv hu
  generalize nb l = n at HG hnb
  generalize gbs l = g at HG hz HC
  go_enter Tryz.func62, Tryz.ntmps62
  go_wp2_with (first | (go_at_call 64; refine (unhide HG).mono ?_; rintro e w' ⟨rfl, q, rfl⟩) | (go_at_call 86; refine (check_ok g _ (by omega) (unhide HC)).mono ?_; rintro e w' ⟨rfl, rfl⟩))
  go_ret3
  exact ⟨rfl, _, rfl⟩
theorem get_form (v : Value) (l : List Int) (w : World) (hv : Byt w v l) (h : full l = true) (hu : utf (sb (gbs l)) = false) : Calls Tryz.prog 62 #[v] w fun e w' => e = .returned (.tuple #[.string ⟨#[]⟩, .int .i64 0, .iface 64 (.pointer (some ⟨w.heap.size, 0, none⟩))]) ∧ ∃ q, w' = faultW 1 (w.drewN q) := by
  have HG := hide (gbin_ok v l w hv h)
  have hz := gbs_size l hv.range
  have HC : Hid (chk (sb (gbs l)) = 1) := by show _ = _; unfold chk; rw [if_neg (by rw [hu]; simp)]
  have HV := hide hv
  have HU := hide hu
  clear hv hu
  generalize nb l = n at HG
  generalize gbs l = g at HG hz HC
  go_enter Tryz.func62, Tryz.ntmps62
  go_wp2_with (first | (go_at_call 64; refine (unhide HG).mono ?_; rintro e w' ⟨rfl, q, rfl⟩) | (go_at_call 86; refine (check_bad g 1 _ (by omega) (unhide HC) (by decide)).mono ?_; rintro e w' ⟨rfl, rfl⟩))
  go_ret3
  exact ⟨rfl, _, rfl⟩
theorem get_any (v : Value) (l : List Int) (w : World) (hv : Byt w v l) : Calls Tryz.prog 62 #[v] w fun e w' => ∃ E, e = .returned (.tuple #[.string (gt l).1, .int .i64 (gt l).2.1, E]) ∧ Hid (ErrIs w' E (gt l).2.2) ∧ Below w.heap.size w w' := by
  unfold gt
  by_cases hf : full l = true
  · rw [if_pos hf]
    by_cases hu : utf (sb (gbs l)) = true
    · rw [if_pos hu]
      refine (get_ok v l w hv hf hu).mono ?_
      rintro e w' ⟨rfl, q, rfl⟩
      exact ⟨_, rfl, .inl ⟨rfl, rfl⟩, below_q q⟩
    · rw [if_neg hu]
      refine (get_form v l w hv hf (by simpa using hu)).mono ?_
      rintro e w' ⟨rfl, q, rfl⟩
      exact ⟨_, rfl, fault_is 1 (w.drewN q), (below_q q).trans (fault_below 1 (w.drewN q))⟩
  · rw [if_neg hf]
    refine (get_short v l w hv (by simpa using hf)).mono ?_
    rintro e w' ⟨rfl, q, rfl⟩
    exact ⟨_, rfl, fault_is 3 (w.drewN q), (below_q q).trans (fault_below 3 (w.drewN q))⟩

end Go.Proofs.YtgdfnopnmdjklaaGreatDoor
/- Proved here: packet's reader: must, one, two, id, text, bin as steps of a plain reader, which has bytes that are left or something was wrong. Helper contracts. -/
namespace Go.Proofs.YtgdfnopnmdjklaaGreatDoor.K
open Go.RowKit
set_option maxRecDepth 100000

/-- an error whose Faults lie outside of the blocks X -/
def ErO (w : World) (X : Nat → Prop) : Nat → Value → Int → Prop
  | 0, v, n => v = .iface 40 (.int .i64 n)
  | d + 1, v, n => ∃ b u, v = .iface 64 (.pointer (some ⟨b, 0, none⟩)) ∧ ¬ X b ∧ w.cell? ⟨b, 1, none⟩ = some u ∧ ErO w X d u n
theorem ErO.er {w : World} {X : Nat → Prop} : ∀ {d : Nat} {v : Value} {n : Int}, ErO w X d v n → Er w d v n
  | 0, _, _, h => h
  | _ + 1, _, _, ⟨b, u, h1, _, h2, h3⟩ => ⟨b, u, h1, h2, h3.er⟩
theorem ErO.bx {w w' : World} {R : Nat} {X : Nat → Prop} {may : Nat → Prop} (hx : BX R may w w') (hX : X R) : ∀ {d : Nat} {v : Value} {n : Int}, ErO w X d v n → ErO w' X d v n
  | 0, _, _, h => h
  | _ + 1, _, _, ⟨b, u, h1, hR, h2, h3⟩ => ⟨b, u, h1, hR, hx.far h2 (fun e => by simp only at e; subst e; exact hR hX), ErO.bx hx hX h3⟩
theorem ErO.of {w : World} {R : Nat} {c : Bool} (hR : w.cell? ⟨R, 1, none⟩ = some (.bool c)) : ∀ {d : Nat} {v : Value} {n : Int}, Er w d v n → ErO w (fun k => k = R) d v n
  | 0, _, _, h => h
  | 1, _, _, ⟨b, u, h1, h2, h3⟩ => ⟨b, u, h1, (fun e => by subst e; cases h3; rw [hR] at h2; cases h2), h2, h3⟩
  | _ + 2, _, _, ⟨b, u, h1, h2, h3⟩ => ⟨b, u, h1, (fun e => by subst e; obtain ⟨_, _, rfl, _⟩ := h3; rw [hR] at h2; cases h2), h2, ErO.of hR h3⟩
theorem ErO.weak {w : World} {X Y : Nat → Prop} (hXY : ∀ k, Y k → X k) : ∀ {d : Nat} {v : Value} {n : Int}, ErO w X d v n → ErO w Y d v n
  | 0, _, _, h => h
  | _ + 1, _, _, ⟨b, u, h1, hR, h2, h3⟩ => ⟨b, u, h1, fun e => hR (hXY b e), h2, ErO.weak hXY h3⟩
theorem ErO.iface {w : World} {X : Nat → Prop} {d : Nat} {v : Value} {n : Int} (h : ErO w X d v n) : ∃ t x, v = .iface t x := h.er.iface
/-- what a reader has: the bytes that are left (nothing was wrong so far), or none: something was wrong -/
def RSX (w0 w : World) (R : Nat) (X : Nat → Prop) (st : Option (List Int)) : Prop :=
  (X R ∧ ∀ k, X k → k < w.heap.size) ∧ (∃ x, w.cell? ⟨R, 1, none⟩ = some (.bool x)) ∧ ∃ bv l E, Rdr w R bv E ∧ Byt w0 bv l ∧ Below w0.heap.size w0 w ∧ w0.heap.size ≤ R ∧
    ((st = some l ∧ E = .nilIface) ∨ (st = none ∧ ∃ d n, d ≤ 2 ∧ ErO w X d E n))
theorem RSX.lt {w0 w : World} {R : Nat} {X : Nat → Prop} {st : Option (List Int)} (h : RSX w0 w R X st) : R < w.heap.size := by
  obtain ⟨_, ⟨x, h⟩, _⟩ := h
  exact cell_lt h
theorem RSX.keep {w0 w : World} {R : Nat} {X : Nat → Prop} {st : Option (List Int)} (h : RSX w0 w R X st) : Below w0.heap.size w0 w := by
  obtain ⟨_, _, _, _, _, _, _, h, _⟩ := h
  exact h
/-- a step that tells what f reads -/
def Stp {α : Type} (f : List Int → Option (α × List Int)) (st : Option (List Int)) (x : α) (st' : Option (List Int)) : Prop :=
  match st with
  | none => st' = none
  | some l => match f l with
    | none => st' = none
    | some (y, l') => x = y ∧ st' = some l'
/-- the same blocks stay away, as the world grows -/
theorem xs_grow {X : Nat → Prop} {R : Nat} {w w' : World} (h : X R ∧ ∀ k, X k → k < w.heap.size) (hs : w.heap.size ≤ w'.heap.size) : X R ∧ ∀ k, X k → k < w'.heap.size := ⟨h.1, fun k hk => Nat.lt_of_lt_of_le (h.2 k hk) hs⟩
theorem RSX.move {w0 w w' : World} {R : Nat} {X : Nat → Prop} {st : Option (List Int)} {may : Nat → Prop} (h : RSX w0 w R X st) (hx : BX R may w w') (h19 : ¬ may 19) (h20 : ¬ may 20) (h1 : ¬ may 1) : RSX w0 w' R X st := by
  obtain ⟨hX, ⟨x, hd⟩, bv, l, E, ⟨r1, r2, r3, r4⟩, hb, hw, hR, hst⟩ := h
  refine ⟨xs_grow hX hx.size, ⟨x, (hx.cell 1 h1).trans hd⟩, bv, l, E, ⟨(hx.cell 19 h19).trans r1, (hx.frozen 19).trans r2, (hx.cell 20 h20).trans r3, (hx.frozen 20).trans r4⟩, hb, hx.keep hw hR, hR, ?_⟩
  rcases hst with h | ⟨h, d, n, hd, he⟩
  · exact .inl h
  · exact .inr ⟨h, d, n, hd, he.bx hx hX.1⟩
theorem RSX.below {w0 w w' : World} {R : Nat} {X : Nat → Prop} {st : Option (List Int)} (h : RSX w0 w R X st) (hb : Below w.heap.size w w') : RSX w0 w' R X st := h.move (BX.of_below (may := fun _ => False) hb h.lt) (fun h => h) (fun h => h) (fun h => h)
/-- fewer blocks that are kept away from; with nothing wrong: other ones -/
theorem RSX.less {w0 w : World} {R : Nat} {X : Nat → Prop} {st : Option (List Int)} (h : RSX w0 w R X st) (Y : Nat → Prop) (hY : Y R) (hXY : ∀ k, Y k → X k) : RSX w0 w R Y st := by
  obtain ⟨hX, hd, bv, l, E, hr, hb, hw, hR, hst⟩ := h
  refine ⟨⟨hY, fun k hk => hX.2 k (hXY k hk)⟩, hd, bv, l, E, hr, hb, hw, hR, ?_⟩
  rcases hst with h | ⟨h, d, n, hd, he⟩
  · exact .inl h
  · exact .inr ⟨h, d, n, hd, he.weak hXY⟩
theorem RSX.good {w0 w : World} {R : Nat} {X : Nat → Prop} {l : List Int} (h : RSX w0 w R X (some l)) (Y : Nat → Prop) (hY : Y R ∧ ∀ k, Y k → k < w.heap.size) : RSX w0 w R Y (some l) := by
  obtain ⟨hX, hd, bv, l', E, hr, hb, hw, hR, hst⟩ := h
  refine ⟨hY, hd, bv, l', E, hr, hb, hw, hR, ?_⟩
  rcases hst with h | ⟨h, _⟩
  · exact .inl h
  · cases h
/-- what a reader has, whose error stays away from its own block -/
abbrev RS (w0 w : World) (R : Nat) (st : Option (List Int)) : Prop := RSX w0 w R (fun k => k = R) st
theorem isRE1 : ¬ isRE 1 := by unfold isRE; omega
/-- must -/
theorem must_anyX (R : Nat) (X : Nat → Prop) (b : Bool) (st : Option (List Int)) (w0 w : World) (h : RSX w0 w R X st) : Calls Tryz.prog 20 #[.pointer (some ⟨R, 0, none⟩), .bool b] w fun e w' => e = .returned (.tuple #[]) ∧ RSX w0 w' R X (if b then st else none) ∧ BX R isRE w w' := by
  obtain ⟨hX, ⟨x, hd⟩, bv, l, E, hr, hb, hw, hR, hst⟩ := h
  cases b
  · rcases hst with ⟨rfl, rfl⟩ | ⟨rfl, d, n, hd', he⟩
    · refine (must_false R bv w hr).mono ?_
      rintro e w' ⟨rfl, hr', hx⟩
      have hx' : BX R isRE w w' := hx.weak (fun j hj => .inr hj)
      exact ⟨rfl, ⟨xs_grow hX hx.size, ⟨x, (hx'.cell 1 isRE1).trans hd⟩, bv, l, _, hr', hb, hx.keep hw hR, hR, .inr ⟨rfl, 0, 1, by omega, rfl⟩⟩, hx'⟩
    · obtain ⟨t, y, rfl⟩ := he.iface
      refine (must_false2 R bv t y w hr).mono ?_
      rintro e w' ⟨rfl, rfl⟩
      exact ⟨rfl, ⟨hX, ⟨x, hd⟩, bv, l, _, hr, hb, hw, hR, .inr ⟨rfl, d, n, hd', he⟩⟩, BX.refl _ _ _⟩
  · refine (must_true R w).mono ?_
    rintro e w' ⟨rfl, rfl⟩
    exact ⟨rfl, ⟨hX, ⟨x, hd⟩, bv, l, E, hr, hb, hw, hR, hst⟩, BX.refl _ _ _⟩
theorem must_any (R : Nat) (b : Bool) (st : Option (List Int)) (w0 w : World) (h : RS w0 w R st) : Calls Tryz.prog 20 #[.pointer (some ⟨R, 0, none⟩), .bool b] w fun e w' => e = .returned (.tuple #[]) ∧ RS w0 w' R (if b then st else none) ∧ BX R isRE w w' := must_anyX R _ b st w0 w h
/-- a step that tells a number -/
def RdIX (w0 : World) (R : Nat) (X : Nat → Prop) (hi : Nat) (f : List Int → Option (Int × List Int)) (st : Option (List Int)) (w : World) (e : Ending) (w' : World) : Prop :=
  ∃ x st', e = .returned (.int .i64 x) ∧ (0 ≤ x ∧ x ≤ hi) ∧ Stp f st x st' ∧ RSX w0 w' R X st' ∧ BX R isRE w w'
abbrev RdI (w0 : World) (R hi : Nat) (f : List Int → Option (Int × List Int)) (st : Option (List Int)) (w : World) (e : Ending) (w' : World) : Prop := RdIX w0 R (fun k => k = R) hi f st w e w'
theorem int_any {fn : FuncId} (w0 : World) (R : Nat) (X : Nat → Prop) (hi : Nat) (f : List Int → Option (Int × List Int)) (st : Option (List Int)) (w : World) (h : RSX w0 w R X st)
    (hf : ∀ l x l', f l = some (x, l') → (∀ j, 0 ≤ l.getD j 0 ∧ l.getD j 0 ≤ 255) → 0 ≤ x ∧ x ≤ hi)
    (good : ∀ bv l, Rdr w R bv .nilIface → Byt w0 bv l → Below w0.heap.size w0 w → w0.heap.size ≤ R → Calls Tryz.prog fn #[.pointer (some ⟨R, 0, none⟩)] w (IntRes w0 R hi (f l) w))
    (bad : ∀ bv t z l, Rdr w R bv (.iface t z) → Byt w0 bv l → Below w0.heap.size w0 w → w0.heap.size ≤ R → Calls Tryz.prog fn #[.pointer (some ⟨R, 0, none⟩)] w (IntBad w0 R hi t z w)) :
    Calls Tryz.prog fn #[.pointer (some ⟨R, 0, none⟩)] w (RdIX w0 R X hi f st w) := by
  obtain ⟨hX, ⟨x, hd⟩, bv, l, E, hr, hb, hw, hR, hst⟩ := h
  rcases hst with ⟨rfl, rfl⟩ | ⟨rfl, d, n, hd', he⟩
  · refine (good bv l hr hb hw hR).mono ?_
    rintro e w' (⟨y, l', bv', h1, rfl, h3, h4, h5⟩ | ⟨h1, y, l', bv', n, rfl, h2, h3, h4, h5⟩)
    · exact ⟨y, some l', rfl, hf l y l' h1 hb.range, by simp [Stp, h1], ⟨xs_grow hX h5.size, ⟨x, (h5.cell 1 isRE1).trans hd⟩, bv', l', _, h4, h3, h5.keep hw hR, hR, .inl ⟨rfl, rfl⟩⟩, h5⟩
    · exact ⟨y, none, rfl, h2, by simp [Stp, h1], ⟨xs_grow hX h5.size, ⟨x, (h5.cell 1 isRE1).trans hd⟩, bv', l', _, h4, h3, h5.keep hw hR, hR, .inr ⟨rfl, 0, n, by omega, rfl⟩⟩, h5⟩
  · obtain ⟨t, z, rfl⟩ := he.iface
    refine (bad bv t z l hr hb hw hR).mono ?_
    rintro e w' ⟨y, l', bv', rfl, h2, h3, h4, h5⟩
    exact ⟨y, none, rfl, h2, rfl, ⟨xs_grow hX h5.size, ⟨x, (h5.cell 1 isRE1).trans hd⟩, bv', l', _, h4, h3, h5.keep hw hR, hR, .inr ⟨rfl, d, n, hd', he.bx h5 hX.1⟩⟩, h5⟩
theorem one?_hi (l : List Int) (x : Int) (l' : List Int) (h : one? l = some (x, l')) (hr : ∀ j, 0 ≤ l.getD j 0 ∧ l.getD j 0 ≤ 255) : 0 ≤ x ∧ x ≤ (255 : Nat) := by
  cases l with
  | nil => cases h
  | cons a t => simp [one?] at h; obtain ⟨rfl, _⟩ := h; simpa using hr 0
theorem two?_hi (l : List Int) (x : Int) (l' : List Int) (h : two? l = some (x, l')) (hr : ∀ j, 0 ≤ l.getD j 0 ∧ l.getD j 0 ≤ 255) : 0 ≤ x ∧ x ≤ (65535 : Nat) := by
  match l, h with
  | [], h => cases h
  | [a], h => cases h
  | a :: b :: t, h =>
    simp [two?] at h
    obtain ⟨rfl, _⟩ := h
    have h0 := hr 0
    have h1 := hr 1
    simp at h0 h1
    omega
theorem id?_hi (l : List Int) (x : Int) (l' : List Int) (h : id? l = some (x, l')) (hr : ∀ j, 0 ≤ l.getD j 0 ∧ l.getD j 0 ≤ 255) : 0 ≤ x ∧ x ≤ (65535 : Nat) := by
  unfold id? at h
  cases h2 : two? l with
  | none => rw [h2] at h; cases h
  | some p =>
    obtain ⟨y, t⟩ := p
    rw [h2] at h
    simp only at h
    split at h
    · cases h
    · simp at h
      obtain ⟨rfl, rfl⟩ := h
      exact two?_hi l y t h2 hr
theorem one_anyX (R : Nat) (X : Nat → Prop) (st : Option (List Int)) (w0 w : World) (h : RSX w0 w R X st) : Calls Tryz.prog 19 #[.pointer (some ⟨R, 0, none⟩)] w (RdIX w0 R X 255 one? st w) :=
  int_any w0 R X 255 one? st w h one?_hi (fun bv l h1 h2 h3 h4 => one_good R bv l w0 w h1 h2 h3 h4) (fun bv t z l h1 h2 h3 h4 => one_bad R bv t z l w0 w h1 h2 h3 h4)
theorem one_any (R : Nat) (st : Option (List Int)) (w0 w : World) (h : RS w0 w R st) : Calls Tryz.prog 19 #[.pointer (some ⟨R, 0, none⟩)] w (RdI w0 R 255 one? st w) := one_anyX R _ st w0 w h
theorem two_anyX (R : Nat) (X : Nat → Prop) (st : Option (List Int)) (w0 w : World) (h : RSX w0 w R X st) : Calls Tryz.prog 35 #[.pointer (some ⟨R, 0, none⟩)] w (RdIX w0 R X 65535 two? st w) :=
  int_any w0 R X 65535 two? st w h two?_hi (fun bv l h1 h2 h3 h4 => two_good R bv l w0 w h1 h2 h3 h4) (fun bv t z l h1 h2 h3 h4 => two_bad R bv t z l w0 w h1 h2 h3 h4)
theorem two_any (R : Nat) (st : Option (List Int)) (w0 w : World) (h : RS w0 w R st) : Calls Tryz.prog 35 #[.pointer (some ⟨R, 0, none⟩)] w (RdI w0 R 65535 two? st w) := two_anyX R _ st w0 w h
theorem id_anyX (R : Nat) (X : Nat → Prop) (st : Option (List Int)) (w0 w : World) (h : RSX w0 w R X st) : Calls Tryz.prog 23 #[.pointer (some ⟨R, 0, none⟩)] w (RdIX w0 R X 65535 id? st w) :=
  int_any w0 R X 65535 id? st w h id?_hi (fun bv l h1 h2 h3 h4 => id_good R bv l w0 w h1 h2 h3 h4) (fun bv t z l h1 h2 h3 h4 => id_bad R bv t z l w0 w h1 h2 h3 h4)
theorem id_any (R : Nat) (st : Option (List Int)) (w0 w : World) (h : RS w0 w R st) : Calls Tryz.prog 23 #[.pointer (some ⟨R, 0, none⟩)] w (RdI w0 R 65535 id? st w) := id_anyX R _ st w0 w h
/-- the first of two errors -/
def orE : Value → Value → Value
  | .nilIface, b => b
  | a, _ => a
theorem fail_any (R : Nat) (bv E F : Value) (w : World) (h : Rdr w R bv E) (hE : E = .nilIface ∨ ∃ t x, E = .iface t x) (hF : F = .nilIface ∨ ∃ t x, F = .iface t x) : Calls Tryz.prog 38 #[.pointer (some ⟨R, 0, none⟩), F] w fun e w' => e = .returned (.tuple #[]) ∧ Rdr w' R bv (orE E F) ∧ BX R isRE w w' := by
  rcases hE with rfl | ⟨t, x, rfl⟩
  · rcases hF with rfl | ⟨t, x, rfl⟩
    · refine (fail_nils R bv w h).mono ?_
      rintro e w' ⟨rfl, h1, h2⟩
      exact ⟨rfl, h1, h2.weak (fun j hj => .inr hj)⟩
    · refine (fail_nil R bv t x w h).mono ?_
      rintro e w' ⟨rfl, h1, h2⟩
      exact ⟨rfl, h1, h2.weak (fun j hj => .inr hj)⟩
  · refine (fail_set R bv F t x w h).mono ?_
    rintro e w' ⟨rfl, rfl⟩
    exact ⟨rfl, h, BX.refl _ _ _⟩
/-- an error of below: none, or a number with up to two Faults around it, which keep away from X -/
def Bel (w : World) (X : Nat → Prop) (v : Value) (n : Int) : Prop := (n = 0 ∧ v = .nilIface) ∨ (n ≠ 0 ∧ ∃ d, d ≤ 2 ∧ ErO w X d v n)
theorem Bel.form {w : World} {X : Nat → Prop} {v : Value} {n : Int} (h : Bel w X v n) : v = .nilIface ∨ ∃ t x, v = .iface t x := by
  rcases h with ⟨_, h⟩ | ⟨_, d, _, h⟩
  · exact .inl h
  · exact .inr h.iface
theorem er_of_is {w : World} {v : Value} {n : Int} (h : ErrIs w v n) : (n = 0 ∧ v = .nilIface) ∨ ∃ d, d ≤ 2 ∧ Er w d v n := by
  rcases h with h | ⟨b, h1, h2⟩
  · exact .inl h
  · exact .inr ⟨1, by omega, b, _, h1, h2, rfl⟩
theorem er_of_p {w : World} {v : Value} {n : Int} (h : ErrP w v n) : (n = 0 ∧ v = .nilIface) ∨ ∃ d, d ≤ 2 ∧ Er w d v n := by
  rcases h with h | ⟨b, c, h1, h2, h3⟩
  · exact er_of_is h
  · exact .inr ⟨2, by omega, b, _, h1, h2, c, _, rfl, h3, rfl⟩
/-- a new Fault keeps away from what was there -/
theorem bel_new {w w' : World} {X : Nat → Prop} {b : Nat} {n : Int} (hX : ∀ k, X k → k < w.heap.size) (hb : w.heap.size ≤ b) (h : ErrIs w' (.iface 64 (.pointer (some ⟨b, 0, none⟩))) n) (hn : n ≠ 0) : Bel w' X (.iface 64 (.pointer (some ⟨b, 0, none⟩))) n := by
  rcases h with ⟨h, _⟩ | ⟨b', h1, h2⟩
  · exact absurd h hn
  · cases h1
    exact .inr ⟨hn, 1, by omega, b, _, rfl, fun e => by have := hX b e; omega, h2, rfl⟩
/-- behind a part that Get read: fail, next -/
theorem after (w0 w w1 w2 w3 : World) (R : Nat) (X : Nat → Prop) (bv' E F : Value) (st : Option (List Int)) (l : List Int) (n : Nat) (m : Int) (c : Bool) (hX : X R ∧ ∀ k, X k → k < w.heap.size)
    (hd : w.cell? ⟨R, 1, none⟩ = some (.bool c)) (hw : Below w0.heap.size w0 w) (hR : w0.heap.size ≤ R) (hst : (st = some l ∧ E = .nilIface) ∨ (st = none ∧ ∃ d n, d ≤ 2 ∧ ErO w X d E n))
    (hB : Below w.heap.size w w1) (hF : Bel w1 X F m) (hx2 : BX R isRE w1 w2) (hx3 : BX R isRE w2 w3) (hb' : Byt w0 bv' (l.drop n)) (hr3 : Rdr w3 R bv' (orE E F)) :
    RSX w0 w3 R X (if m = 0 then st.map (fun l => l.drop n) else none) ∧ BX R isRE w w3 := by
  have hx1 : BX R isRE w w1 := BX.of_below hB (cell_lt hd)
  have hx : BX R isRE w w3 := (hx1.trans hx2).trans hx3
  refine ⟨⟨xs_grow hX hx.size, ⟨c, (hx.cell 1 isRE1).trans hd⟩, bv', l.drop n, orE E F, hr3, hb', hx.keep hw hR, hR, ?_⟩, hx⟩
  rcases hst with ⟨rfl, rfl⟩ | ⟨rfl, d, k, hd', he⟩
  · rcases hF with ⟨rfl, rfl⟩ | ⟨h0, d, hd', he⟩
    · exact .inl ⟨rfl, rfl⟩
    · obtain ⟨t, x, rfl⟩ := he.iface
      rw [if_neg h0]
      exact .inr ⟨rfl, d, m, hd', he.bx (hx2.trans hx3) hX.1⟩
  · obtain ⟨t, x, rfl⟩ := he.iface
    refine .inr ⟨?_, d, k, hd', he.bx hx hX.1⟩
    split <;> rfl
theorem Rdr.below {w w' : World} {R : Nat} {bv E : Value} (h : Rdr w R bv E) (hb : Below w.heap.size w w') : Rdr w' R bv E :=
  ⟨(hb.cell (p := ⟨R, 19, none⟩) h.lt).trans h.1, (hb.frozen (p := ⟨R, 19, none⟩) h.lt).trans h.2.1, (hb.cell (p := ⟨R, 20, none⟩) h.lt).trans h.2.2.1, (hb.frozen (p := ⟨R, 20, none⟩) h.lt).trans h.2.2.2⟩
theorem st_form {w : World} {X : Nat → Prop} {E : Value} {st : Option (List Int)} {l : List Int} (hst : (st = some l ∧ E = .nilIface) ∨ (st = none ∧ ∃ d n, d ≤ 2 ∧ ErO w X d E n)) : E = .nilIface ∨ ∃ t x, E = .iface t x := by
  rcases hst with ⟨_, h⟩ | ⟨_, d, n, _, h⟩
  · exact .inl h
  · exact .inr h.iface
theorem getx (X : Nat → Prop) (v : Value) (l : List Int) (w : World) (hX : ∀ k, X k → k < w.heap.size) (hv : Byt w v l) : Calls Tryz.prog 62 #[v] w fun e w' => ∃ E, e = .returned (.tuple #[.string (gt l).1, .int .i64 (gt l).2.1, E]) ∧ Hid (Bel w' X E (gt l).2.2) ∧ Below w.heap.size w w' := by
  unfold gt
  by_cases hf : full l = true
  · rw [if_pos hf]
    by_cases hu : utf (sb (gbs l)) = true
    · rw [if_pos hu]
      refine (get_ok v l w hv hf hu).mono ?_
      rintro e w' ⟨rfl, q, rfl⟩
      exact ⟨_, rfl, .inl ⟨rfl, rfl⟩, below_q q⟩
    · rw [if_neg hu]
      refine (get_form v l w hv hf (by simpa using hu)).mono ?_
      rintro e w' ⟨rfl, q, rfl⟩
      exact ⟨_, rfl, bel_new hX (Nat.le_refl _) (fault_is 1 (w.drewN q)) (by decide), (below_q q).trans (fault_below 1 (w.drewN q))⟩
  · rw [if_neg hf]
    refine (get_short v l w hv (by simpa using hf)).mono ?_
    rintro e w' ⟨rfl, q, rfl⟩
    exact ⟨_, rfl, bel_new hX (Nat.le_refl _) (fault_is 3 (w.drewN q)) (by decide), (below_q q).trans (fault_below 3 (w.drewN q))⟩
theorem getBinx (X : Nat → Prop) (v : Value) (l : List Int) (w : World) (hX : ∀ k, X k → k < w.heap.size) (hv : Byt w v l) : Calls Tryz.prog 64 #[v] w fun e w' => ∃ E, e = .returned (.tuple #[.string (gbn l).1, .int .i64 (gbn l).2.1, E]) ∧ Hid (Bel w' X E (gbn l).2.2) ∧ Below w.heap.size w w' := by
  by_cases hf : full l = true
  · unfold gbn
    rw [if_pos hf]
    refine (gbin_ok v l w hv hf).mono ?_
    rintro e w' ⟨rfl, q, rfl⟩
    exact ⟨_, rfl, .inl ⟨rfl, rfl⟩, below_q q⟩
  · unfold gbn
    rw [if_neg hf]
    refine (gbin_short v l w hv (by simpa using hf)).mono ?_
    rintro e w' ⟨rfl, q, rfl⟩
    exact ⟨_, rfl, bel_new hX (Nat.le_refl _) (fault_is 3 (w.drewN q)) (by decide), (below_q q).trans (fault_below 3 (w.drewN q))⟩
theorem full_len (l : List Int) (h : full l = true) : 2 + nb l ≤ l.length := by
  unfold full at h
  simp at h
  omega
theorem es_size : (⟨#[]⟩ : ByteArray).size ≤ 65535 := by decide
theorem gt_len (l : List Int) (hr : ∀ j, 0 ≤ l.getD j 0 ∧ l.getD j 0 ≤ 255) : ∃ N : Nat, (gt l).2.1 = (N : Int) ∧ N ≤ l.length ∧ (gt l).1.size ≤ 65535 := by
  unfold gt
  by_cases hf : full l = true
  · rw [if_pos hf]
    by_cases hu : utf (sb (gbs l)) = true
    · rw [if_pos hu]
      exact ⟨2 + nb l, rfl, full_len l hf, gbs_size l hr⟩
    · rw [if_neg hu]
      exact ⟨0, rfl, Nat.zero_le _, es_size⟩
  · rw [if_neg hf]
    exact ⟨0, rfl, Nat.zero_le _, es_size⟩
theorem gbn_len (l : List Int) (hr : ∀ j, 0 ≤ l.getD j 0 ∧ l.getD j 0 ≤ 255) : ∃ N : Nat, (gbn l).2.1 = (N : Int) ∧ N ≤ l.length ∧ (gbn l).1.size ≤ 65535 := by
  unfold gbn
  by_cases hf : full l = true
  · rw [if_pos hf]
    exact ⟨2 + nb l, rfl, full_len l hf, gbs_size l hr⟩
  · rw [if_neg hf]
    exact ⟨0, rfl, Nat.zero_le _, es_size⟩
def text? (l : List Int) : Option (ByteArray × List Int) := if (gt l).2.2 = 0 then some ((gt l).1, l.drop (gt l).2.1.toNat) else none
def bin? (l : List Int) : Option (ByteArray × List Int) := if (gbn l).2.2 = 0 then some ((gbn l).1, l.drop (gbn l).2.1.toNat) else none
/-- a step that tells a text -/
def RdSX (w0 : World) (R : Nat) (X : Nat → Prop) (f : List Int → Option (ByteArray × List Int)) (st : Option (List Int)) (w : World) (e : Ending) (w' : World) : Prop :=
  ∃ x st', e = .returned (.string x) ∧ x.size ≤ 65535 ∧ Stp f st x st' ∧ RSX w0 w' R X st' ∧ BX R isRE w w'
abbrev RdS (w0 : World) (R : Nat) (f : List Int → Option (ByteArray × List Int)) (st : Option (List Int)) (w : World) (e : Ending) (w' : World) : Prop := RdSX w0 R (fun k => k = R) f st w e w'
theorem stp_get {α : Type} (f : List Int → Option (α × List Int)) (st : Option (List Int)) (l : List Int) (x : α) (n : Nat) (m : Int) (hst : st = some l ∨ st = none) (hf : f l = if m = 0 then some (x, l.drop n) else none) : Stp f st x (if m = 0 then st.map (fun l => l.drop n) else none) := by
  rcases hst with rfl | rfl
  · unfold Stp
    simp only [hf]
    by_cases h : m = 0
    · simp [h]
    · simp [h]
  · show (if m = 0 then _ else _) = none
    split <;> rfl
set_option maxHeartbeats 1000000 in
theorem text_anyX (R : Nat) (X : Nat → Prop) (st : Option (List Int)) (w0 w : World) (h : RSX w0 w R X st) : Calls Tryz.prog 33 #[.pointer (some ⟨R, 0, none⟩)] w (RdSX w0 R X text? st w) := by
  obtain ⟨hX, ⟨c, hd⟩, bv, l, E, hr, hb, hw, hR, hst⟩ := h
  obtain ⟨n, hN, hn, hsz⟩ := gt_len l hb.range
  have HG := hide (getx X bv l w hX.2 (hb.below hw))
  have HQ : Hid (text? l = if (gt l).2.2 = 0 then some ((gt l).1, l.drop n) else none) := by
    show text? l = _
    unfold text?
    rw [hN, Int.toNat_natCast]
  rw [hN] at HG
  have hE := st_form hst
  have hst' : st = some l ∨ st = none := hst.imp And.left And.left
  have HR := hide hr
  have HB := hide hb
  have HA := hide (after w0 w)
  have HD := hide hd
  have HW := hide hw
  have HS := hide hst
  have HS' := hide hst'
  have HE := hide hE
  have HX := hide hX
  generalize (gt l).1 = g at HG HQ hsz
  generalize (gt l).2.2 = m at HG HQ
  obtain ⟨h1, h2, h3, h4⟩ := hr
  clear hN hd hb hw hst hst' hE h2 h3 h4 hX
  go_enter Tryz.func33, Tryz.ntmps33
  go_wp2_with fail
  refine (unhide HG).mono ?_
  rintro e w1 ⟨F, rfl, hF, hB⟩
  have HB1 := hide hB
  have HR1 := hide ((unhide HR).below hB)
  clear hB h1
  go_wp2_with fail
  refine (fail_any R bv E F w1 (unhide HR1) (unhide HE) (unhide hF).form).mono ?_
  rintro e w2 ⟨rfl, hr2, hx2⟩
  have HR2 := hide hr2
  have HX2 := hide hx2
  clear hr2 hx2
  go_wp2_with fail
  refine (next_ok R bv (orE E F) l n w0 w2 (unhide HR2) (unhide HB) hn).mono ?_
  rintro e w3 ⟨v, bv', rfl, hv, hbv, hr3, hx3⟩
  have HV := hide hbv
  have HR3 := hide hr3
  have HX3 := hide hx3
  clear hv hbv hr3 hx3
  go_wp2
  go_ret
  have k := (unhide HA) w1 w2 w3 R X bv' E F st l n m c (unhide HX) (unhide HD) (unhide HW) hR (unhide HS) (unhide HB1) (unhide hF) (unhide HX2) (unhide HX3) (unhide HV) (unhide HR3)
  exact ⟨g, _, rfl, hsz, stp_get text? st l g n m (unhide HS') (unhide HQ), k.1, k.2⟩
theorem text_any (R : Nat) (st : Option (List Int)) (w0 w : World) (h : RS w0 w R st) : Calls Tryz.prog 33 #[.pointer (some ⟨R, 0, none⟩)] w (RdS w0 R text? st w) := text_anyX R _ st w0 w h
set_option maxHeartbeats 1000000 in
theorem bin_anyX (R : Nat) (X : Nat → Prop) (st : Option (List Int)) (w0 w : World) (h : RSX w0 w R X st) : Calls Tryz.prog 36 #[.pointer (some ⟨R, 0, none⟩)] w (RdSX w0 R X bin? st w) := by
  obtain ⟨hX, ⟨c, hd⟩, bv, l, E, hr, hb, hw, hR, hst⟩ := h
  obtain ⟨n, hN, hn, hsz⟩ := gbn_len l hb.range
  have HG := hide (getBinx X bv l w hX.2 (hb.below hw))
  have HQ : Hid (bin? l = if (gbn l).2.2 = 0 then some ((gbn l).1, l.drop n) else none) := by
    show bin? l = _
    unfold bin?
    rw [hN, Int.toNat_natCast]
  rw [hN] at HG
  have hE := st_form hst
  have hst' : st = some l ∨ st = none := hst.imp And.left And.left
  have HR := hide hr
  have HB := hide hb
  have HA := hide (after w0 w)
  have HD := hide hd
  have HW := hide hw
  have HS := hide hst
  have HS' := hide hst'
  have HE := hide hE
  have HX := hide hX
  generalize (gbn l).1 = g at HG HQ hsz
  generalize (gbn l).2.2 = m at HG HQ
  obtain ⟨h1, h2, h3, h4⟩ := hr
  clear hN hd hb hw hst hst' hE h2 h3 h4 hX
  go_enter Tryz.func36, Tryz.ntmps36
  go_wp2_with fail
  refine (unhide HG).mono ?_
  rintro e w1 ⟨F, rfl, hF, hB⟩
  have HB1 := hide hB
  have HR1 := hide ((unhide HR).below hB)
  clear hB h1
  go_wp2_with fail
  refine (fail_any R bv E F w1 (unhide HR1) (unhide HE) (unhide hF).form).mono ?_
  rintro e w2 ⟨rfl, hr2, hx2⟩
  have HR2 := hide hr2
  have HX2 := hide hx2
  clear hr2 hx2
  go_wp2_with fail
  refine (next_ok R bv (orE E F) l n w0 w2 (unhide HR2) (unhide HB) hn).mono ?_
  rintro e w3 ⟨v, bv', rfl, hv, hbv, hr3, hx3⟩
  have HV := hide hbv
  have HR3 := hide hr3
  have HX3 := hide hx3
  clear hv hbv hr3 hx3
  go_wp2
  go_ret
  have k := (unhide HA) w1 w2 w3 R X bv' E F st l n m c (unhide HX) (unhide HD) (unhide HW) hR (unhide HS) (unhide HB1) (unhide hF) (unhide HX2) (unhide HX3) (unhide HV) (unhide HR3)
  exact ⟨g, _, rfl, hsz, stp_get bin? st l g n m (unhide HS') (unhide HQ), k.1, k.2⟩
theorem bin_any (R : Nat) (st : Option (List Int)) (w0 w : World) (h : RS w0 w R st) : Calls Tryz.prog 36 #[.pointer (some ⟨R, 0, none⟩)] w (RdS w0 R bin? st w) := bin_anyX R _ st w0 w h
end Go.Proofs.YtgdfnopnmdjklaaGreatDoor.K
/- Proved here: a packet's fields as cells of a block (Pk), and stores into them. Helpers that name no function. -/
namespace Go.Proofs.YtgdfnopnmdjklaaGreatDoor.K
open Go.RowKit
set_option maxRecDepth 100000

/-- a packet's cells -/
def Pkv.cell (p : Pkv) : Nat → Value
  | 0 => .int .i64 p.kind
  | 1 => .bool p.dup
  | 2 => .int .i64 p.qos
  | 3 => .bool p.retain
  | 4 => .string p.topic
  | 5 => .int .i64 p.id
  | 6 => .string p.payload
  | 7 => p.props.val
  | 8 => .string p.client
  | 9 => .bool p.clean
  | 10 => .int .i64 p.keep
  | 11 => p.wills.val
  | 12 => p.user.val
  | 13 => p.pass.val
  | 14 => .int .i64 p.code
  | 15 => .bool p.session
  | 16 => p.subs.val
  | 17 => p.filters.val
  | 18 => p.codes.val
  | _ => .nilIface
/-- the packet p lies at the beginning of the block R -/
def Pk (w : World) (R : Nat) (p : Pkv) : Prop := ∀ j, j < 19 → w.cell? ⟨R, j, none⟩ = some (p.cell j) ∧ w.frozen? ⟨R, j, none⟩ = false
abbrev isF (j : Nat) : Prop := j ≠ 1 ∧ j ≠ 19 ∧ j ≠ 20
abbrev isAny (_ : Nat) : Prop := True
theorem BX.any {R : Nat} {may : Nat → Prop} {a b : World} (h : BX R may a b) : BX R isAny a b := h.weak (fun _ _ => trivial)
theorem Pk.bx {w w' : World} {R : Nat} {p : Pkv} (h : Pk w R p) (hx : BX R isRE w w') : Pk w' R p := fun j hj =>
  ⟨(hx.cell j (by unfold isRE; omega)).trans (h j hj).1, (hx.frozen j).trans (h j hj).2⟩
theorem Pk.below {w w' : World} {R : Nat} {p : Pkv} (h : Pk w R p) (hb : Below w.heap.size w w') : Pk w' R p := h.bx (BX.of_below hb (cell_lt (h 0 (by omega)).1))
theorem Pk.set {w : World} {R : Nat} {p : Pkv} (h : Pk w R p) (q : Pkv) (i : Nat) (hi : i < 19) (hq : ∀ j, j ≠ i → q.cell j = p.cell j) : Pk (w.setCell ⟨R, i, none⟩ (q.cell i)) R q := fun j hj => by
  refine ⟨?_, by simpa using (h j hj).2⟩
  by_cases hji : j = i
  · subst hji
    exact World.cell?_setCell_same _ _ _ (h j hj).1
  · rw [World.cell?_setCell_other _ _ _ _ (by intro e; injection e with _ e; exact hji e.symm), hq j hji]
    exact (h j hj).1
theorem RSX.set {w0 w : World} {R : Nat} {X : Nat → Prop} {st : Option (List Int)} (h : RSX w0 w R X st) (j : Nat) (u : Value) (hj : isF j) : RSX w0 (w.setCell ⟨R, j, none⟩ u) R X st :=
  h.move (may := fun i => i = j) ((BX.refl _ _ _).set j u rfl) (fun e => hj.2.1 e.symm) (fun e => hj.2.2 e.symm) (fun e => hj.1 e.symm)
theorem BX.setOut {R : Nat} {may : Nat → Prop} {a b : World} (h : BX R may a b) (V j : Nat) (u : Value) (hV : a.heap.size ≤ V) (hR : R < a.heap.size) : BX R may a (b.setCell ⟨V, j, none⟩ u) :=
  h.trans' ⟨rfl, rfl, rfl, by simp [World.setCell], fun k hk _ => Below.heap_setCell _ _ _ _ (by show k ≠ V; omega), fun i _ => World.cell?_setCell_other _ _ _ _ (fun e => by injection e with e1 _; omega), fun i => World.frozen?_setCell ..⟩
theorem ErO.setOut {w : World} {X : Nat → Prop} {V j : Nat} {u : Value} (hV : ∀ t x, w.cell? ⟨V, 1, none⟩ ≠ some (.iface t x)) : ∀ {d : Nat} {v : Value} {n : Int}, ErO w X d v n → ErO (w.setCell ⟨V, j, none⟩ u) X d v n
  | 0, _, _, h => h
  | _ + 1, _, _, ⟨b, u', h1, hR, h2, h3⟩ => ⟨b, u', h1, hR, by
      rw [World.cell?_setCell_other _ _ _ _ (fun e => by
        injection e with e1 _
        subst e1
        obtain ⟨t, x, rfl⟩ := h3.iface
        exact hV t x h2)]
      exact h2, ErO.setOut hV h3⟩
theorem RSX.setOut {w0 w : World} {R : Nat} {X : Nat → Prop} {st : Option (List Int)} (h : RSX w0 w R X st) (V j : Nat) (u : Value) (hR : V ≠ R) (h0 : w0.heap.size ≤ V) (hV : ∀ t x, w.cell? ⟨V, 1, none⟩ ≠ some (.iface t x)) : RSX w0 (w.setCell ⟨V, j, none⟩ u) R X st := by
  obtain ⟨hX, ⟨x, hd⟩, bv, l, E, ⟨r1, r2, r3, r4⟩, hb, hw, hR0, hst⟩ := h
  have ne : ∀ i, (⟨V, j, none⟩ : Addr) ≠ ⟨R, i, none⟩ := fun i e => by injection e with e1 _; exact hR e1
  refine ⟨xs_grow hX (by simp [World.setCell]), ⟨x, (World.cell?_setCell_other _ _ _ _ (ne 1)).trans hd⟩, bv, l, E, ⟨(World.cell?_setCell_other _ _ _ _ (ne 19)).trans r1, by simpa using r2, (World.cell?_setCell_other _ _ _ _ (ne 20)).trans r3, by simpa using r4⟩, hb, ⟨hw.os, hw.tape, hw.output, by simpa [World.setCell] using hw.size, fun k hk => (Below.heap_setCell _ _ _ _ (by show k ≠ V; omega)).trans (hw.block k hk)⟩, hR0, ?_⟩
  rcases hst with h | ⟨h, d, n, hd, he⟩
  · exact .inl h
  · exact .inr ⟨h, d, n, hd, he.setOut hV⟩
theorem owns_bx {w w' : World} {R : Nat} {may : Nat → Prop} {B : Nat} {e : TypeId} {s : Nat} {v : Value} {n : Nat} {xs : List Value} (h : w.ownsRow B e s v n xs) (hx : BX R may w w') (hR : R < B) : w'.ownsRow B e s v n xs := by
  refine ⟨h.1, ?_⟩
  rcases h.2 with h1 | ⟨g, cap, cur, hv, hB, hg, rest⟩
  · exact .inl h1
  · exact .inr ⟨g, cap, cur, hv, hB, by rw [hx.block g (Array.getElem?_eq_some_iff.1 hg).1 (by omega)]; exact hg, rest⟩
theorem owns_sl {w : World} {B : Nat} {e : TypeId} {s : Nat} {v : Value} {n : Nat} {xs : List Value} (h : w.ownsRow B e s v n xs) : ∃ t : Sl, v = t.val ∧ t.n = n := by
  rcases h.2 with ⟨rfl, h1⟩ | ⟨g, cap, cur, hv, _⟩
  · exact ⟨⟨none, 0, 0⟩, rfl, h1.symm⟩
  · exact ⟨⟨_, n, cap⟩, hv, rfl⟩
theorem Pk.kind {w : World} {R : Nat} {p : Pkv} (h : Pk w R p) : w.cell? ⟨R, 0, none⟩ = some (.int .i64 p.kind) := (h 0 (by omega)).1
theorem Pk.kind_f {w : World} {R : Nat} {p : Pkv} (h : Pk w R p) : w.frozen? ⟨R, 0, none⟩ = false := (h 0 (by omega)).2
theorem Pk.dup {w : World} {R : Nat} {p : Pkv} (h : Pk w R p) : w.cell? ⟨R, 1, none⟩ = some (.bool p.dup) := (h 1 (by omega)).1
theorem Pk.dup_f {w : World} {R : Nat} {p : Pkv} (h : Pk w R p) : w.frozen? ⟨R, 1, none⟩ = false := (h 1 (by omega)).2
theorem Pk.set_dup {w : World} {R : Nat} {p : Pkv} (h : Pk w R p) (x : Bool) : Pk (w.setCell ⟨R, 1, none⟩ (.bool x)) R { p with dup := x } := h.set { p with dup := x } 1 (by omega) (fun j hj => by unfold Pkv.cell; split <;> first | rfl | exact absurd rfl hj)
theorem Pk.qos {w : World} {R : Nat} {p : Pkv} (h : Pk w R p) : w.cell? ⟨R, 2, none⟩ = some (.int .i64 p.qos) := (h 2 (by omega)).1
theorem Pk.qos_f {w : World} {R : Nat} {p : Pkv} (h : Pk w R p) : w.frozen? ⟨R, 2, none⟩ = false := (h 2 (by omega)).2
theorem Pk.set_qos {w : World} {R : Nat} {p : Pkv} (h : Pk w R p) (x : Int) : Pk (w.setCell ⟨R, 2, none⟩ (.int .i64 x)) R { p with qos := x } := h.set { p with qos := x } 2 (by omega) (fun j hj => by unfold Pkv.cell; split <;> first | rfl | exact absurd rfl hj)
theorem Pk.retain {w : World} {R : Nat} {p : Pkv} (h : Pk w R p) : w.cell? ⟨R, 3, none⟩ = some (.bool p.retain) := (h 3 (by omega)).1
theorem Pk.retain_f {w : World} {R : Nat} {p : Pkv} (h : Pk w R p) : w.frozen? ⟨R, 3, none⟩ = false := (h 3 (by omega)).2
theorem Pk.set_retain {w : World} {R : Nat} {p : Pkv} (h : Pk w R p) (x : Bool) : Pk (w.setCell ⟨R, 3, none⟩ (.bool x)) R { p with retain := x } := h.set { p with retain := x } 3 (by omega) (fun j hj => by unfold Pkv.cell; split <;> first | rfl | exact absurd rfl hj)
theorem Pk.topic {w : World} {R : Nat} {p : Pkv} (h : Pk w R p) : w.cell? ⟨R, 4, none⟩ = some (.string p.topic) := (h 4 (by omega)).1
theorem Pk.topic_f {w : World} {R : Nat} {p : Pkv} (h : Pk w R p) : w.frozen? ⟨R, 4, none⟩ = false := (h 4 (by omega)).2
theorem Pk.set_topic {w : World} {R : Nat} {p : Pkv} (h : Pk w R p) (x : ByteArray) : Pk (w.setCell ⟨R, 4, none⟩ (.string x)) R { p with topic := x } := h.set { p with topic := x } 4 (by omega) (fun j hj => by unfold Pkv.cell; split <;> first | rfl | exact absurd rfl hj)
theorem Pk.id {w : World} {R : Nat} {p : Pkv} (h : Pk w R p) : w.cell? ⟨R, 5, none⟩ = some (.int .i64 p.id) := (h 5 (by omega)).1
theorem Pk.id_f {w : World} {R : Nat} {p : Pkv} (h : Pk w R p) : w.frozen? ⟨R, 5, none⟩ = false := (h 5 (by omega)).2
theorem Pk.set_id {w : World} {R : Nat} {p : Pkv} (h : Pk w R p) (x : Int) : Pk (w.setCell ⟨R, 5, none⟩ (.int .i64 x)) R { p with id := x } := h.set { p with id := x } 5 (by omega) (fun j hj => by unfold Pkv.cell; split <;> first | rfl | exact absurd rfl hj)
theorem Pk.payload {w : World} {R : Nat} {p : Pkv} (h : Pk w R p) : w.cell? ⟨R, 6, none⟩ = some (.string p.payload) := (h 6 (by omega)).1
theorem Pk.payload_f {w : World} {R : Nat} {p : Pkv} (h : Pk w R p) : w.frozen? ⟨R, 6, none⟩ = false := (h 6 (by omega)).2
theorem Pk.set_payload {w : World} {R : Nat} {p : Pkv} (h : Pk w R p) (x : ByteArray) : Pk (w.setCell ⟨R, 6, none⟩ (.string x)) R { p with payload := x } := h.set { p with payload := x } 6 (by omega) (fun j hj => by unfold Pkv.cell; split <;> first | rfl | exact absurd rfl hj)
theorem Pk.props {w : World} {R : Nat} {p : Pkv} (h : Pk w R p) : w.cell? ⟨R, 7, none⟩ = some (p.props.val) := (h 7 (by omega)).1
theorem Pk.props_f {w : World} {R : Nat} {p : Pkv} (h : Pk w R p) : w.frozen? ⟨R, 7, none⟩ = false := (h 7 (by omega)).2
theorem Pk.set_props {w : World} {R : Nat} {p : Pkv} (h : Pk w R p) (x : Sl) : Pk (w.setCell ⟨R, 7, none⟩ (x.val)) R { p with props := x } := h.set { p with props := x } 7 (by omega) (fun j hj => by unfold Pkv.cell; split <;> first | rfl | exact absurd rfl hj)
theorem Pk.client {w : World} {R : Nat} {p : Pkv} (h : Pk w R p) : w.cell? ⟨R, 8, none⟩ = some (.string p.client) := (h 8 (by omega)).1
theorem Pk.client_f {w : World} {R : Nat} {p : Pkv} (h : Pk w R p) : w.frozen? ⟨R, 8, none⟩ = false := (h 8 (by omega)).2
theorem Pk.set_client {w : World} {R : Nat} {p : Pkv} (h : Pk w R p) (x : ByteArray) : Pk (w.setCell ⟨R, 8, none⟩ (.string x)) R { p with client := x } := h.set { p with client := x } 8 (by omega) (fun j hj => by unfold Pkv.cell; split <;> first | rfl | exact absurd rfl hj)
theorem Pk.clean {w : World} {R : Nat} {p : Pkv} (h : Pk w R p) : w.cell? ⟨R, 9, none⟩ = some (.bool p.clean) := (h 9 (by omega)).1
theorem Pk.clean_f {w : World} {R : Nat} {p : Pkv} (h : Pk w R p) : w.frozen? ⟨R, 9, none⟩ = false := (h 9 (by omega)).2
theorem Pk.set_clean {w : World} {R : Nat} {p : Pkv} (h : Pk w R p) (x : Bool) : Pk (w.setCell ⟨R, 9, none⟩ (.bool x)) R { p with clean := x } := h.set { p with clean := x } 9 (by omega) (fun j hj => by unfold Pkv.cell; split <;> first | rfl | exact absurd rfl hj)
theorem Pk.keep {w : World} {R : Nat} {p : Pkv} (h : Pk w R p) : w.cell? ⟨R, 10, none⟩ = some (.int .i64 p.keep) := (h 10 (by omega)).1
theorem Pk.keep_f {w : World} {R : Nat} {p : Pkv} (h : Pk w R p) : w.frozen? ⟨R, 10, none⟩ = false := (h 10 (by omega)).2
theorem Pk.set_keep {w : World} {R : Nat} {p : Pkv} (h : Pk w R p) (x : Int) : Pk (w.setCell ⟨R, 10, none⟩ (.int .i64 x)) R { p with keep := x } := h.set { p with keep := x } 10 (by omega) (fun j hj => by unfold Pkv.cell; split <;> first | rfl | exact absurd rfl hj)
theorem Pk.wills {w : World} {R : Nat} {p : Pkv} (h : Pk w R p) : w.cell? ⟨R, 11, none⟩ = some (p.wills.val) := (h 11 (by omega)).1
theorem Pk.wills_f {w : World} {R : Nat} {p : Pkv} (h : Pk w R p) : w.frozen? ⟨R, 11, none⟩ = false := (h 11 (by omega)).2
theorem Pk.set_wills {w : World} {R : Nat} {p : Pkv} (h : Pk w R p) (x : Sl) : Pk (w.setCell ⟨R, 11, none⟩ (x.val)) R { p with wills := x } := h.set { p with wills := x } 11 (by omega) (fun j hj => by unfold Pkv.cell; split <;> first | rfl | exact absurd rfl hj)
theorem Pk.user {w : World} {R : Nat} {p : Pkv} (h : Pk w R p) : w.cell? ⟨R, 12, none⟩ = some (p.user.val) := (h 12 (by omega)).1
theorem Pk.user_f {w : World} {R : Nat} {p : Pkv} (h : Pk w R p) : w.frozen? ⟨R, 12, none⟩ = false := (h 12 (by omega)).2
theorem Pk.set_user {w : World} {R : Nat} {p : Pkv} (h : Pk w R p) (x : Sl) : Pk (w.setCell ⟨R, 12, none⟩ (x.val)) R { p with user := x } := h.set { p with user := x } 12 (by omega) (fun j hj => by unfold Pkv.cell; split <;> first | rfl | exact absurd rfl hj)
theorem Pk.pass {w : World} {R : Nat} {p : Pkv} (h : Pk w R p) : w.cell? ⟨R, 13, none⟩ = some (p.pass.val) := (h 13 (by omega)).1
theorem Pk.pass_f {w : World} {R : Nat} {p : Pkv} (h : Pk w R p) : w.frozen? ⟨R, 13, none⟩ = false := (h 13 (by omega)).2
theorem Pk.set_pass {w : World} {R : Nat} {p : Pkv} (h : Pk w R p) (x : Sl) : Pk (w.setCell ⟨R, 13, none⟩ (x.val)) R { p with pass := x } := h.set { p with pass := x } 13 (by omega) (fun j hj => by unfold Pkv.cell; split <;> first | rfl | exact absurd rfl hj)
theorem Pk.code {w : World} {R : Nat} {p : Pkv} (h : Pk w R p) : w.cell? ⟨R, 14, none⟩ = some (.int .i64 p.code) := (h 14 (by omega)).1
theorem Pk.code_f {w : World} {R : Nat} {p : Pkv} (h : Pk w R p) : w.frozen? ⟨R, 14, none⟩ = false := (h 14 (by omega)).2
theorem Pk.set_code {w : World} {R : Nat} {p : Pkv} (h : Pk w R p) (x : Int) : Pk (w.setCell ⟨R, 14, none⟩ (.int .i64 x)) R { p with code := x } := h.set { p with code := x } 14 (by omega) (fun j hj => by unfold Pkv.cell; split <;> first | rfl | exact absurd rfl hj)
theorem Pk.session {w : World} {R : Nat} {p : Pkv} (h : Pk w R p) : w.cell? ⟨R, 15, none⟩ = some (.bool p.session) := (h 15 (by omega)).1
theorem Pk.session_f {w : World} {R : Nat} {p : Pkv} (h : Pk w R p) : w.frozen? ⟨R, 15, none⟩ = false := (h 15 (by omega)).2
theorem Pk.set_session {w : World} {R : Nat} {p : Pkv} (h : Pk w R p) (x : Bool) : Pk (w.setCell ⟨R, 15, none⟩ (.bool x)) R { p with session := x } := h.set { p with session := x } 15 (by omega) (fun j hj => by unfold Pkv.cell; split <;> first | rfl | exact absurd rfl hj)
theorem Pk.subs {w : World} {R : Nat} {p : Pkv} (h : Pk w R p) : w.cell? ⟨R, 16, none⟩ = some (p.subs.val) := (h 16 (by omega)).1
theorem Pk.subs_f {w : World} {R : Nat} {p : Pkv} (h : Pk w R p) : w.frozen? ⟨R, 16, none⟩ = false := (h 16 (by omega)).2
theorem Pk.set_subs {w : World} {R : Nat} {p : Pkv} (h : Pk w R p) (x : Sl) : Pk (w.setCell ⟨R, 16, none⟩ (x.val)) R { p with subs := x } := h.set { p with subs := x } 16 (by omega) (fun j hj => by unfold Pkv.cell; split <;> first | rfl | exact absurd rfl hj)
theorem Pk.filters {w : World} {R : Nat} {p : Pkv} (h : Pk w R p) : w.cell? ⟨R, 17, none⟩ = some (p.filters.val) := (h 17 (by omega)).1
theorem Pk.filters_f {w : World} {R : Nat} {p : Pkv} (h : Pk w R p) : w.frozen? ⟨R, 17, none⟩ = false := (h 17 (by omega)).2
theorem Pk.set_filters {w : World} {R : Nat} {p : Pkv} (h : Pk w R p) (x : Sl) : Pk (w.setCell ⟨R, 17, none⟩ (x.val)) R { p with filters := x } := h.set { p with filters := x } 17 (by omega) (fun j hj => by unfold Pkv.cell; split <;> first | rfl | exact absurd rfl hj)
theorem Pk.codes {w : World} {R : Nat} {p : Pkv} (h : Pk w R p) : w.cell? ⟨R, 18, none⟩ = some (p.codes.val) := (h 18 (by omega)).1
theorem Pk.codes_f {w : World} {R : Nat} {p : Pkv} (h : Pk w R p) : w.frozen? ⟨R, 18, none⟩ = false := (h 18 (by omega)).2
theorem Pk.set_codes {w : World} {R : Nat} {p : Pkv} (h : Pk w R p) (x : Sl) : Pk (w.setCell ⟨R, 18, none⟩ (x.val)) R { p with codes := x } := h.set { p with codes := x } 18 (by omega) (fun j hj => by unfold Pkv.cell; split <;> first | rfl | exact absurd rfl hj)
/-- what is left, as the walk reads it -/
theorem RSX.rest {w0 w : World} {R : Nat} {X : Nat → Prop} {st : Option (List Int)} (h : RSX w0 w R X st) : ∃ ao n cap, w.cell? ⟨R, 19, none⟩ = some (.slice ao n cap) ∧ (n ≤ cap ∧ cap ≤ maxLen) ∧ ∀ l, st = some l → l.length = n := by
  obtain ⟨_, _, bv, l, E, hr, hb, _, _, hst⟩ := h
  obtain ⟨ao, cap, rfl, hc⟩ := hb.form
  refine ⟨ao, l.length, cap, hr.1, hc, fun l' hl => ?_⟩
  rcases hst with ⟨rfl, _⟩ | ⟨rfl, _⟩
  · cases hl; rfl
  · cases hl
end Go.Proofs.YtgdfnopnmdjklaaGreatDoor.K
/- Proved here: varint.sizeOf tells how many groups of seven bits a number from 0 to 268435455 takes. Helper contracts. -/
namespace Go.Proofs.YtgdfnopnmdjklaaGreatDoor.V
open Go.RowKit
set_option maxRecDepth 100000

/-- how many groups -/
def sz (n : Int) : Int := if n < 128 then 1 else if n < 16384 then 2 else if n < 2097152 then 3 else 4

theorem bitLen_ge (k x : Nat) (h : 2 ^ k ≤ x) (hx : x < 2 ^ 64) : k + 1 ≤ Lib.bitLen x := by
  rw [Lib.bitLen_shift k x h hx]
  have h1 : x / 2 ^ k ≠ 0 := by
    have := Nat.div_pos h (Nat.two_pow_pos k); omega
  rw [Lib.bitLen_half _ h1 (Nat.lt_of_le_of_lt (Nat.div_le_self _ _) hx)]
  omega

theorem sz_of (n : Int) (h0 : 0 ≤ n) (h1 : n ≤ 268435455) : max 1 ((Lib.bitLen n.toNat + 6 : Int) / 7) = sz n := by
  unfold sz
  obtain ⟨m, rfl⟩ := Int.eq_ofNat_of_zero_le h0
  rw [Int.toNat_natCast]
  have hx : m < 2 ^ 64 := by omega
  by_cases a : m < 128
  · have := Lib.bitLen_le m 7 (by omega) a
    rw [if_pos (show (m : Int) < 128 by omega)]
    omega
  · by_cases b : m < 16384
    · have l := bitLen_ge 7 m (by omega) hx
      have u := Lib.bitLen_le m 14 (by omega) b
      rw [if_neg (show ¬ (m : Int) < 128 by omega), if_pos (show (m : Int) < 16384 by omega)]
      omega
    · by_cases c : m < 2097152
      · have l := bitLen_ge 14 m (by omega) hx
        have u := Lib.bitLen_le m 21 (by omega) c
        rw [if_neg (show ¬ (m : Int) < 128 by omega), if_neg (show ¬ (m : Int) < 16384 by omega), if_pos (show (m : Int) < 2097152 by omega)]
        omega
      · have l := bitLen_ge 21 m (by omega) hx
        have u := Lib.bitLen_le m 28 (by omega) (by omega)
        rw [if_neg (show ¬ (m : Int) < 128 by omega), if_neg (show ¬ (m : Int) < 16384 by omega), if_neg (show ¬ (m : Int) < 2097152 by omega)]
        omega

set_option maxHeartbeats 4000000 in
set_option maxRecDepth 100000 in
theorem len64_any (x : Int) (w : World) (h0 : 0 ≤ x) (h1 : x ≤ 268435455) :
    Calls Tryz.prog 95 #[.int .u64 x] w fun e w' => e = .returned (.int .i64 (Lib.bitLen x.toNat)) ∧ w' = w := by
  have t9 := Tryz.underlying9
  by_cases a : x ≤ 255
  · have l := Lib.bitLen_le8' x h0 a
    go_enter Tryz.func95, Tryz.ntmps95
    go_wp2
    go_ret
    refine ⟨congrArg Ending.returned (congrArg (Value.int IntKind.i64) ?_), rfl⟩
    rw [Lib.len8_of x h0 a]
    simp only [wrap64]
    omega
  · by_cases b : x ≤ 65535
    · have c0 : 0 ≤ x / 256 := by omega
      have c1 : x / 256 ≤ 255 := by omega
      have l := Lib.bitLen_le8' (x / 256) c0 c1
      have s := Lib.bitLen_shift8 x.toNat (by omega) (by omega)
      have S := hide s
      clear s
      go_enter Tryz.func95, Tryz.ntmps95
      go_wp2
      go_ret
      refine ⟨congrArg Ending.returned (congrArg (Value.int IntKind.i64) ?_), rfl⟩
      rw [Lib.len8_of (x / 256) c0 c1, unhide S, show (x / 256).toNat = x.toNat / 256 from by omega]
      rw [show (x / 256).toNat = x.toNat / 256 from by omega] at l
      simp only [wrap64]
      omega
    · by_cases c : x ≤ 16777215
      · have c0 : 0 ≤ x / 65536 := by omega
        have c1 : x / 65536 ≤ 255 := by omega
        have l := Lib.bitLen_le8' (x / 65536) c0 c1
        have s := Lib.bitLen_shift16 x.toNat (by omega) (by omega)
        have S := hide s
        clear s
        go_enter Tryz.func95, Tryz.ntmps95
        go_wp2
        go_ret
        refine ⟨congrArg Ending.returned (congrArg (Value.int IntKind.i64) ?_), rfl⟩
        rw [Lib.len8_of (x / 65536) c0 c1, unhide S, show (x / 65536).toNat = x.toNat / 65536 from by omega]
        rw [show (x / 65536).toNat = x.toNat / 65536 from by omega] at l
        simp only [wrap64]
        omega
      · have c0 : 0 ≤ x / 65536 / 256 := by omega
        have c1 : x / 65536 / 256 ≤ 255 := by omega
        have l := Lib.bitLen_le8' (x / 65536 / 256) c0 c1
        have s := Lib.bitLen_shift24 x.toNat (by omega) (by omega)
        have S := hide s
        clear s
        go_enter Tryz.func95, Tryz.ntmps95
        go_wp2
        go_ret
        refine ⟨congrArg Ending.returned (congrArg (Value.int IntKind.i64) ?_), rfl⟩
        rw [Lib.len8_of (x / 65536 / 256) c0 c1, unhide S, show (x / 65536 / 256).toNat = x.toNat / 16777216 from by omega]
        rw [show (x / 65536 / 256).toNat = x.toNat / 16777216 from by omega] at l
        simp only [wrap64]
        omega

theorem len_any (x : Int) (w : World) (h0 : 0 ≤ x) (h1 : x ≤ 268435455) :
    Calls Tryz.prog 85 #[.int .u64 x] w fun e w' => e = .returned (.int .i64 (Lib.bitLen x.toNat)) ∧ w' = w := by
  go_enter Tryz.func85, Tryz.ntmps85
  go_wp2_with (go_at_call 95; refine (len64_any _ _ h0 h1).mono ?_; rintro e w' ⟨rfl, rfl⟩)
  go_ret
  exact ⟨rfl, rfl⟩

theorem sizeOf_any (n : Int) (w : World) (h0 : 0 ≤ n) (h1 : n ≤ 268435455) :
    Calls Tryz.prog 61 #[.int .i64 n] w fun e w' => e = .returned (.int .i64 (sz n)) ∧ w' = w := by
  have hs := hide (sz_of n h0 h1)
  have hl := Lib.bitLen_le n.toNat 28 (by omega) (by omega)
  go_enter Tryz.func61, Tryz.ntmps61
  go_wp2_with (go_at_call 85; refine (len_any _ _ h0 h1).mono ?_; rintro e w' ⟨rfl, rfl⟩)
  go_ret
  exact ⟨congrArg Ending.returned (congrArg (Value.int IntKind.i64) (unhide hs)), rfl⟩
end Go.Proofs.YtgdfnopnmdjklaaGreatDoor.V
/- Proved here: varint.Put tells a number's groups of seven bits, the lowest first, or a Fault around ErrForm. Helper contracts. -/
namespace Go.Proofs.YtgdfnopnmdjklaaGreatDoor.V
open Go.RowKit
set_option maxRecDepth 100000

theorem fault_any (n : Int) (w : World) : Calls Tryz.prog 60 #[.int .i64 n] w fun e w' => e = .returned (.iface 64 (.pointer (some ⟨w.heap.size, 0, none⟩))) ∧ w' = w.alloc (.cells #[.string ⟨#[118, 97, 114, 105, 110, 116]⟩, .iface 40 (.int .i64 n)] 66) := by
  go_enter Tryz.func60, Tryz.ntmps60
  go_wp2
  go_ret
  exact ⟨rfl, rfl⟩

/-- the bytes of a number from 0 to 268435455 -/
def put (n : Int) : List Int :=
  if n < 128 then [n] else if n < 16384 then [n % 128 + 128, n / 128] else if n < 2097152 then [n % 128 + 128, n / 128 % 128 + 128, n / 16384]
  else [n % 128 + 128, n / 128 % 128 + 128, n / 16384 % 128 + 128, n / 2097152]

theorem put_bad (n : Int) (w : World) (h : n < 0 ∨ 268435455 < n) :
    Calls Tryz.prog 29 #[.int .i64 n] w fun e w' => e = .returned (.tuple #[.slice none 0 0, .iface 64 (.pointer (some ⟨w.heap.size, 0, none⟩))]) ∧ w' = w.alloc (.cells #[.string ⟨#[118, 97, 114, 105, 110, 116]⟩, .iface 40 (.int .i64 1)] 66) := by
  rcases h with h | h
  · go_enter Tryz.func29, Tryz.ntmps29
    go_wp2_with (go_at_call 60; refine (fault_any _ _).mono ?_; rintro e w' ⟨rfl, rfl⟩)
    go_ret2
    exact ⟨rfl, rfl⟩
  · have h' : ¬ n < 0 := by omega
    go_enter Tryz.func29, Tryz.ntmps29
    go_wp2_with (go_at_call 60; refine (fault_any _ _).mono ?_; rintro e w' ⟨rfl, rfl⟩)
    go_ret2
    exact ⟨rfl, rfl⟩

theorem make1 (w : World) : (Instr.makeSlice 23 (.int .i64 1) (.int .i64 1)).run Tryz.prog w = .ok (.slice (some ⟨w.heap.size, 0, none⟩) 1 1) (w.alloc (.cells #[.int .u8 0] 5)) := by kernel_rfl
theorem make2 (w : World) : (Instr.makeSlice 23 (.int .i64 2) (.int .i64 2)).run Tryz.prog w = .ok (.slice (some ⟨w.heap.size, 0, none⟩) 2 2) (w.alloc (.cells #[.int .u8 0, .int .u8 0] 5)) := by kernel_rfl
theorem make3 (w : World) : (Instr.makeSlice 23 (.int .i64 3) (.int .i64 3)).run Tryz.prog w = .ok (.slice (some ⟨w.heap.size, 0, none⟩) 3 3) (w.alloc (.cells #[.int .u8 0, .int .u8 0, .int .u8 0] 5)) := by kernel_rfl
theorem make4 (w : World) : (Instr.makeSlice 23 (.int .i64 4) (.int .i64 4)).run Tryz.prog w = .ok (.slice (some ⟨w.heap.size, 0, none⟩) 4 4) (w.alloc (.cells #[.int .u8 0, .int .u8 0, .int .u8 0, .int .u8 0] 5)) := by kernel_rfl

theorem or128_all : ∀ x : Fin 256, bits .or .u8 (x.val : Int) 128 = (x.val : Int) % 128 + 128 := by decide +kernel
theorem and127_all : ∀ x : Fin 256, bits .and .u8 (x.val : Int) 127 = (x.val : Int) % 128 := by decide +kernel
theorem and128_all : ∀ x : Fin 256, bits .and .u8 (x.val : Int) 128 = if (x.val : Int) < 128 then 0 else 128 := by decide +kernel
theorem or128 (x : Int) (h0 : 0 ≤ x) (h1 : x < 256) : bits .or .u8 x 128 = x % 128 + 128 := by
  have := or128_all ⟨x.toNat, by omega⟩
  simpa only [Int.toNat_of_nonneg h0] using this
theorem and127 (x : Int) (h0 : 0 ≤ x) (h1 : x < 256) : bits .and .u8 x 127 = x % 128 := by
  have := and127_all ⟨x.toNat, by omega⟩
  simpa only [Int.toNat_of_nonneg h0] using this
theorem and128 (x : Int) (h0 : 0 ≤ x) (h1 : x < 256) : bits .and .u8 x 128 = if x < 128 then 0 else 128 := by
  have := and128_all ⟨x.toNat, by omega⟩
  simpa only [Int.toNat_of_nonneg h0] using this
theorem last_of (x : Int) (h0 : 0 ≤ x) (h1 : x < 128) : bits .and .u8 (bits .or .u8 x 128) 127 = x := by
  rw [or128 x h0 (by omega), and127 _ (by omega) (by omega)]; omega
theorem more_of (x : Int) : bits .or .u8 (x % 256) 128 = x % 128 + 128 := by
  rw [or128 _ (by omega) (by omega)]; omega
theorem more_of' (x : Int) (h0 : 0 ≤ x) (h1 : x < 256) : bits .or .u8 x 128 = x % 128 + 128 := or128 x h0 h1

/-- Put's answer, exactly -/
def PutPost (n : Int) (w : World) (e : Ending) (w' : World) : Prop :=
  e = .returned (.tuple #[.slice (some ⟨w.heap.size, 0, none⟩) (put n).length (put n).length, .nilIface]) ∧ w' = w.alloc (.cells ((put n).map (Value.int .u8)).toArray 5)

theorem put_1 (n : Int) (w : World) (h0 : 0 ≤ n) (h1 : n < 128) : Calls Tryz.prog 29 #[.int .i64 n] w (PutPost n w) := by
  have hp : put n = [n] := by simp [put, h1]
  unfold PutPost
  rw [hp]
  clear hp
  have hm := make1 w
  have hs : sz n = 1 := by simp [sz, h1]
  go_enter Tryz.func29, Tryz.ntmps29
  go_wp2_with (go_at_call 61; refine (sizeOf_any _ _ h0 (by omega)).mono ?_; rintro e w' ⟨rfl, rfl⟩)
  go_ret2
  refine ⟨rfl, ?_⟩
  rw [last_of n h0 h1]
  rfl
theorem put_2 (n : Int) (w : World) (h0 : 128 ≤ n) (h1 : n < 16384) : Calls Tryz.prog 29 #[.int .i64 n] w (PutPost n w) := by
  have hp : put n = [n % 128 + 128, n / 128] := by unfold put; rw [if_neg (by omega), if_pos (by omega)]
  unfold PutPost
  rw [hp]
  clear hp
  have hm := make2 w
  have hs : sz n = 2 := by unfold sz; rw [if_neg (by omega), if_pos (by omega)]
  go_enter Tryz.func29, Tryz.ntmps29
  go_wp2_with (go_at_call 61; refine (sizeOf_any _ _ (by omega) (by omega)).mono ?_; rintro e w' ⟨rfl, rfl⟩)
  go_ret2
  refine ⟨rfl, ?_⟩
  rw [last_of (n / 128) (by omega) (by omega), more_of]
  rfl
theorem put_3 (n : Int) (w : World) (h0 : 16384 ≤ n) (h1 : n < 2097152) : Calls Tryz.prog 29 #[.int .i64 n] w (PutPost n w) := by
  have hp : put n = [n % 128 + 128, n / 128 % 128 + 128, n / 16384] := by unfold put; rw [if_neg (by omega), if_neg (by omega), if_pos (by omega)]
  unfold PutPost
  rw [hp]
  clear hp
  have hm := make3 w
  have hs : sz n = 3 := by unfold sz; rw [if_neg (by omega), if_neg (by omega), if_pos (by omega)]
  go_enter Tryz.func29, Tryz.ntmps29
  go_wp2_with (go_at_call 61; refine (sizeOf_any _ _ (by omega) (by omega)).mono ?_; rintro e w' ⟨rfl, rfl⟩)
  go_ret2
  refine ⟨rfl, ?_⟩
  rw [last_of (n / 16384) (by omega) (by omega), more_of, more_of]
  rfl
theorem put_4 (n : Int) (w : World) (h0 : 2097152 ≤ n) (h1 : n ≤ 268435455) : Calls Tryz.prog 29 #[.int .i64 n] w (PutPost n w) := by
  have hp : put n = [n % 128 + 128, n / 128 % 128 + 128, n / 16384 % 128 + 128, n / 2097152] := by unfold put; rw [if_neg (by omega), if_neg (by omega), if_neg (by omega)]
  unfold PutPost
  rw [hp]
  clear hp
  have hm := make4 w
  have hs : sz n = 4 := by unfold sz; rw [if_neg (by omega), if_neg (by omega), if_neg (by omega)]
  go_enter Tryz.func29, Tryz.ntmps29
  go_wp2_with (go_at_call 61; refine (sizeOf_any _ _ (by omega) (by omega)).mono ?_; rintro e w' ⟨rfl, rfl⟩)
  go_ret2
  refine ⟨rfl, ?_⟩
  rw [last_of (n / 2097152) (by omega) (by omega), more_of, more_of, more_of]
  rfl
theorem put_good (n : Int) (w : World) (h0 : 0 ≤ n) (h1 : n ≤ 268435455) : Calls Tryz.prog 29 #[.int .i64 n] w (PutPost n w) := by
  by_cases a : n < 128
  · exact put_1 n w h0 a
  · by_cases b : n < 16384
    · exact put_2 n w (by omega) b
    · by_cases c : n < 2097152
      · exact put_3 n w (by omega) c
      · exact put_4 n w (by omega) h1
theorem put_range (n : Int) (h0 : 0 ≤ n) (h1 : n ≤ 268435455) : ∀ j, 0 ≤ (put n).getD j 0 ∧ (put n).getD j 0 ≤ 255 := by
  intro j
  unfold put
  split
  · rcases j with _ | j <;> simp <;> omega
  · split
    · rcases j with _ | _ | j <;> simp <;> omega
    · split
      · rcases j with _ | _ | _ | j <;> simp <;> omega
      · rcases j with _ | _ | _ | _ | j <;> simp <;> omega
theorem put_len (n : Int) : 1 ≤ (put n).length ∧ (put n).length ≤ 4 := by
  unfold put
  split <;> (try split) <;> (try split) <;> simp
theorem put_byt (n : Int) (w : World) (h0 : 0 ≤ n) (h1 : n ≤ 268435455) : Byt (w.alloc (.cells ((put n).map (Value.int .u8)).toArray 5)) (.slice (some ⟨w.heap.size, 0, none⟩) (put n).length (put n).length) (put n) := by
  refine ⟨_, _, rfl, ⟨Nat.le_refl _, by have := put_len n; unfold maxLen; omega⟩, put_range n h0 h1, .inr ⟨_, _, rfl, fun j hj => ?_⟩⟩
  rw [World.cell?_alloc_at _ _ _ _ rfl]
  simp [hj]
/-- Put's answer, as a caller uses it -/
theorem put_use (x : Int) (w : World) (h0 : 0 ≤ x) (h1 : x ≤ 268435455) : Calls Tryz.prog 29 #[.int .i64 x] w fun e w' => ∃ n : Nat, Hid (n = (put x).length) ∧ e = .returned (.tuple #[.slice (some ⟨w.heap.size, 0, none⟩) n n, .nilIface]) ∧
    Hid (w'.ownsRow w.heap.size 5 1 (.slice (some ⟨w.heap.size, 0, none⟩) n n) n ((put x).map (Value.int .u8))) ∧ Below w.heap.size w w' := by
  refine (put_good x w h0 h1).mono ?_
  rintro e w' ⟨rfl, rfl⟩
  have hl := put_len x
  exact ⟨_, rfl, rfl, World.ownsRow_lit w _ _ (Nat.le_refl _) (by unfold maxLen; omega) (by simp), (Below.refl _ _).alloc (Nat.le_refl _) _⟩
end Go.Proofs.YtgdfnopnmdjklaaGreatDoor.V
/- Proved here: what a property is, where it may stand, which bytes it has, as plain functions; helpers that name no program's text. -/
namespace Go.Proofs.YtgdfnopnmdjklaaGreatDoor
open Go.RowKit

/-- a property: its ID, number, two texts -/
abbrev Pr := Int × Int × ByteArray × ByteArray
abbrev es : ByteArray := ⟨#[]⟩
/-- an empty text, as the walk tells it -/
abbrev emp (s : ByteArray) : Bool := s.toList.isEmpty
def p0 : Pr := (0, 0, es, es)
/-- an ID's kind: so many bytes of a number, 5 as varint, 6 a text, 7 bytes, 8 two texts, 0 none -/
def kd (id : Int) : Int :=
  if id = 1 ∨ id = 23 ∨ id = 25 ∨ id = 36 ∨ id = 37 ∨ id = 40 ∨ id = 41 ∨ id = 42 then 1
  else if id = 19 ∨ id = 33 ∨ id = 34 ∨ id = 35 then 2
  else if id = 2 ∨ id = 17 ∨ id = 24 ∨ id = 39 then 4
  else if id = 11 then 5
  else if id = 3 ∨ id = 8 ∨ id = 18 ∨ id = 21 ∨ id = 26 ∨ id = 28 ∨ id = 31 then 6
  else if id = 9 ∨ id = 22 then 7
  else if id = 38 then 8 else 0
/-- the least and the highest number of an ID -/
def lst (id : Int) : Int := if id = 11 ∨ id = 33 ∨ id = 35 ∨ id = 39 then 1 else 0
def mx (id : Int) : Int := if kd id = 1 then 1 else if kd id = 2 then 65535 else if kd id = 4 then 4294967295 else if kd id = 5 then 268435455 else 0
/-- where an ID may stand -/
def plc (id : Int) : List Int :=
  if id = 1 ∨ id = 2 ∨ id = 3 ∨ id = 8 ∨ id = 9 then [3, 16]
  else if id = 11 then [3, 8]
  else if id = 17 then [1, 2, 14]
  else if id = 18 ∨ id = 19 ∨ id = 26 ∨ id = 36 ∨ id = 37 ∨ id = 40 ∨ id = 41 ∨ id = 42 then [2]
  else if id = 21 ∨ id = 22 then [1, 2, 15]
  else if id = 23 ∨ id = 25 then [1]
  else if id = 24 then [16]
  else if id = 28 then [2, 14]
  else if id = 31 then [2, 4, 5, 6, 7, 9, 11, 14, 15]
  else if id = 33 ∨ id = 34 ∨ id = 39 then [1, 2]
  else if id = 35 then [3]
  else if id = 38 then [1, 2, 3, 4, 5, 6, 7, 8, 9, 10, 11, 14, 15, 16] else []
def mst (id place : Int) : Bool := decide (place ∈ plc id)
def rep (id place : Int) : Bool := decide (id = 38) || (decide (id = 11) && decide (place = 3))
/-- the number, and nothing beside what the ID has -/
def fit (p : Pr) : Bool := decide (lst p.1 ≤ p.2.1) && decide (p.2.1 ≤ mx p.1) &&
  (if kd p.1 = 8 then true else if kd p.1 = 6 ∨ kd p.1 = 7 then emp p.2.2.2 else emp p.2.2.1 && emp p.2.2.2)
/-- the texts -/
def txo (p : Pr) : Bool := if kd p.1 = 6 then decide (chk (sb p.2.2.1) = 0) else if kd p.1 = 7 then decide (p.2.2.1.size ≤ 65535) else if kd p.1 = 8 then decide (chk (sb p.2.2.1) = 0) && decide (chk (sb p.2.2.2) = 0) else decide (kd p.1 ≠ 0)
def may (p : Pr) : Bool := fit p && txo p
def at0 (l : List Pr) (i : Nat) : Pr := l.getD i p0
def seen (l : List Pr) (i : Nat) (id : Int) : Bool := (l.take i).any fun q => decide (q.1 = id)
def okAt (place : Int) (l : List Pr) (i : Nat) : Bool := mst (at0 l i).1 place && may (at0 l i) && (rep (at0 l i).1 place || !(seen l i (at0 l i).1))
/-- Check's number -/
def chkP (place : Int) (l : List Pr) : Int := if (∀ i, i < l.length → okAt place l i = true) then (if l.length ≤ 32 then 0 else 2) else 1
def pvb (p : Pr) : List Int :=
  if kd p.1 = 1 then [p.2.1] else if kd p.1 = 2 then [p.2.1 / 256, p.2.1 % 256]
  else if kd p.1 = 4 then [p.2.1 / 16777216, p.2.1 / 65536 % 256, p.2.1 / 256 % 256, p.2.1 % 256]
  else if kd p.1 = 5 then V.put p.2.1 else if kd p.1 = 8 then tx p.2.2.1 ++ tx p.2.2.2 else tx p.2.2.1
def pb (p : Pr) : List Int := V.put p.1 ++ pvb p
def body (l : List Pr) : List Int := l.flatMap pb
def pbs (l : List Pr) : List Int := V.put ((body l).length : Int) ++ body l

def pval (p : Pr) : Value := .agg #[.int .i64 p.1, .int .i64 p.2.1, .string p.2.2.1, .string p.2.2.2]
/-- one ID after the other -/
theorem id_cases {P : Int → Prop} (id : Int) (h1 : P 1) (h2 : P 2) (h3 : P 3) (h8 : P 8) (h9 : P 9) (h11 : P 11) (h17 : P 17) (h18 : P 18) (h19 : P 19) (h21 : P 21) (h22 : P 22) (h23 : P 23) (h24 : P 24) (h25 : P 25) (h26 : P 26) (h28 : P 28) (h31 : P 31) (h33 : P 33) (h34 : P 34) (h35 : P 35) (h36 : P 36) (h37 : P 37) (h38 : P 38) (h39 : P 39) (h40 : P 40) (h41 : P 41) (h42 : P 42) (hn : id ≠ 1 → id ≠ 2 → id ≠ 3 → id ≠ 8 → id ≠ 9 → id ≠ 11 → id ≠ 17 → id ≠ 18 → id ≠ 19 → id ≠ 21 → id ≠ 22 → id ≠ 23 → id ≠ 24 → id ≠ 25 → id ≠ 26 → id ≠ 28 → id ≠ 31 → id ≠ 33 → id ≠ 34 → id ≠ 35 → id ≠ 36 → id ≠ 37 → id ≠ 38 → id ≠ 39 → id ≠ 40 → id ≠ 41 → id ≠ 42 → P id) : P id := by
  by_cases e1 : id = 1
  · rw [e1]; exact h1
  by_cases e2 : id = 2
  · rw [e2]; exact h2
  by_cases e3 : id = 3
  · rw [e3]; exact h3
  by_cases e8 : id = 8
  · rw [e8]; exact h8
  by_cases e9 : id = 9
  · rw [e9]; exact h9
  by_cases e11 : id = 11
  · rw [e11]; exact h11
  by_cases e17 : id = 17
  · rw [e17]; exact h17
  by_cases e18 : id = 18
  · rw [e18]; exact h18
  by_cases e19 : id = 19
  · rw [e19]; exact h19
  by_cases e21 : id = 21
  · rw [e21]; exact h21
  by_cases e22 : id = 22
  · rw [e22]; exact h22
  by_cases e23 : id = 23
  · rw [e23]; exact h23
  by_cases e24 : id = 24
  · rw [e24]; exact h24
  by_cases e25 : id = 25
  · rw [e25]; exact h25
  by_cases e26 : id = 26
  · rw [e26]; exact h26
  by_cases e28 : id = 28
  · rw [e28]; exact h28
  by_cases e31 : id = 31
  · rw [e31]; exact h31
  by_cases e33 : id = 33
  · rw [e33]; exact h33
  by_cases e34 : id = 34
  · rw [e34]; exact h34
  by_cases e35 : id = 35
  · rw [e35]; exact h35
  by_cases e36 : id = 36
  · rw [e36]; exact h36
  by_cases e37 : id = 37
  · rw [e37]; exact h37
  by_cases e38 : id = 38
  · rw [e38]; exact h38
  by_cases e39 : id = 39
  · rw [e39]; exact h39
  by_cases e40 : id = 40
  · rw [e40]; exact h40
  by_cases e41 : id = 41
  · rw [e41]; exact h41
  by_cases e42 : id = 42
  · rw [e42]; exact h42
  exact hn e1 e2 e3 e8 e9 e11 e17 e18 e19 e21 e22 e23 e24 e25 e26 e28 e31 e33 e34 e35 e36 e37 e38 e39 e40 e41 e42
theorem kd_none (id : Int) (n1 : id ≠ 1) (n2 : id ≠ 2) (n3 : id ≠ 3) (n8 : id ≠ 8) (n9 : id ≠ 9) (n11 : id ≠ 11) (n17 : id ≠ 17) (n18 : id ≠ 18) (n19 : id ≠ 19) (n21 : id ≠ 21) (n22 : id ≠ 22) (n23 : id ≠ 23) (n24 : id ≠ 24) (n25 : id ≠ 25) (n26 : id ≠ 26) (n28 : id ≠ 28) (n31 : id ≠ 31) (n33 : id ≠ 33) (n34 : id ≠ 34) (n35 : id ≠ 35) (n36 : id ≠ 36) (n37 : id ≠ 37) (n38 : id ≠ 38) (n39 : id ≠ 39) (n40 : id ≠ 40) (n41 : id ≠ 41) (n42 : id ≠ 42) : kd id = 0 := by
  unfold kd
  simp only [n1, n2, n3, n8, n9, n11, n17, n18, n19, n21, n22, n23, n24, n25, n26, n28, n31, n33, n34, n35, n36, n37, n38, n39, n40, n41, n42, or_false, if_false]
theorem plc_none (id : Int) (n1 : id ≠ 1) (n2 : id ≠ 2) (n3 : id ≠ 3) (n8 : id ≠ 8) (n9 : id ≠ 9) (n11 : id ≠ 11) (n17 : id ≠ 17) (n18 : id ≠ 18) (n19 : id ≠ 19) (n21 : id ≠ 21) (n22 : id ≠ 22) (n23 : id ≠ 23) (n24 : id ≠ 24) (n25 : id ≠ 25) (n26 : id ≠ 26) (n28 : id ≠ 28) (n31 : id ≠ 31) (n33 : id ≠ 33) (n34 : id ≠ 34) (n35 : id ≠ 35) (n36 : id ≠ 36) (n37 : id ≠ 37) (n38 : id ≠ 38) (n39 : id ≠ 39) (n40 : id ≠ 40) (n41 : id ≠ 41) (n42 : id ≠ 42) : plc id = [] := by
  unfold plc
  simp only [n1, n2, n3, n8, n9, n11, n17, n18, n19, n21, n22, n23, n24, n25, n26, n28, n31, n33, n34, n35, n36, n37, n38, n39, n40, n41, n42, or_false, if_false]
theorem lst_none (id : Int) (n11 : id ≠ 11) (n33 : id ≠ 33) (n35 : id ≠ 35) (n39 : id ≠ 39) : lst id = 0 := by
  unfold lst
  simp only [n11, n33, n35, n39, or_false, if_false]
theorem id_range (id place : Int) (h : mst id place = true) : 1 ≤ id ∧ id ≤ 42 := by
  refine id_cases (P := fun id => mst id place = true → 1 ≤ id ∧ id ≤ 42) id (fun _ => by omega) (fun _ => by omega) (fun _ => by omega) (fun _ => by omega) (fun _ => by omega) (fun _ => by omega) (fun _ => by omega) (fun _ => by omega) (fun _ => by omega) (fun _ => by omega) (fun _ => by omega) (fun _ => by omega) (fun _ => by omega) (fun _ => by omega) (fun _ => by omega) (fun _ => by omega) (fun _ => by omega) (fun _ => by omega) (fun _ => by omega) (fun _ => by omega) (fun _ => by omega) (fun _ => by omega) (fun _ => by omega) (fun _ => by omega) (fun _ => by omega) (fun _ => by omega) (fun _ => by omega) ?_ h
  intro n1 n2 n3 n8 n9 n11 n17 n18 n19 n21 n22 n23 n24 n25 n26 n28 n31 n33 n34 n35 n36 n37 n38 n39 n40 n41 n42 h
  unfold mst at h
  rw [plc_none id n1 n2 n3 n8 n9 n11 n17 n18 n19 n21 n22 n23 n24 n25 n26 n28 n31 n33 n34 n35 n36 n37 n38 n39 n40 n41 n42] at h
  simp at h
theorem not_may_none (id n : Int) (s t : ByteArray) (h : kd id = 0) : may (id, n, s, t) = false := by
  unfold may txo
  simp [h]
theorem tx_len_le (s : ByteArray) (h : s.size ≤ 65535) : (tx s).length ≤ 65537 := by rw [tx_length]; omega
theorem pvb_le (p : Pr) (h : may p = true) : (pvb p).length ≤ 131074 := by
  have hv := (V.put_len p.2.1).2
  unfold may txo at h
  rw [Bool.and_eq_true] at h
  have h2 := h.2
  unfold pvb
  by_cases k1 : kd p.1 = 1
  · rw [if_pos k1]; simp
  rw [if_neg k1]
  by_cases k2 : kd p.1 = 2
  · rw [if_pos k2]; simp
  rw [if_neg k2]
  by_cases k4 : kd p.1 = 4
  · rw [if_pos k4]; simp
  rw [if_neg k4]
  by_cases k5 : kd p.1 = 5
  · rw [if_pos k5]; omega
  rw [if_neg k5]
  by_cases k8 : kd p.1 = 8
  · rw [if_pos k8]
    rw [if_neg (by omega), if_neg (by omega), if_pos k8, Bool.and_eq_true, decide_eq_true_eq, decide_eq_true_eq] at h2
    have a := chk_0 h2.1
    have b := chk_0 h2.2
    rw [sb_length] at a b
    rw [List.length_append, tx_length, tx_length]
    omega
  rw [if_neg k8]
  by_cases k6 : kd p.1 = 6
  · rw [if_pos k6, decide_eq_true_eq] at h2
    have a := chk_0 h2
    rw [sb_length] at a
    rw [tx_length]; omega
  rw [if_neg k6] at h2
  by_cases k7 : kd p.1 = 7
  · rw [if_pos k7, decide_eq_true_eq] at h2
    rw [tx_length]; omega
  rw [if_neg k7, if_neg k8, decide_eq_true_eq] at h2
  exfalso
  revert h2 k1 k2 k4 k5 k6 k7 k8
  unfold kd
  repeat' split
  all_goals omega
theorem pb_le (p : Pr) (h : may p = true) : 1 ≤ (pb p).length ∧ (pb p).length ≤ 131078 := by
  have a := V.put_len p.1
  have b := pvb_le p h
  unfold pb
  rw [List.length_append]; omega
theorem body_snoc (l : List Pr) (p : Pr) : body (l ++ [p]) = body l ++ pb p := by unfold body; simp
theorem take_snoc0 (l : List Pr) (k : Nat) (h : k < l.length) : l.take (k + 1) = l.take k ++ [at0 l k] := by
  unfold at0
  rw [List.take_add_one, List.getD_eq_getElem?_getD, List.getElem?_eq_getElem h]; rfl
theorem body_take (l : List Pr) (k : Nat) (h : k < l.length) : body (l.take (k + 1)) = body (l.take k) ++ pb (at0 l k) := by rw [take_snoc0 l k h, body_snoc]
theorem seen_succ (l : List Pr) (k : Nat) (h : k < l.length) (id : Int) : seen l (k + 1) id = (seen l k id || decide ((at0 l k).1 = id)) := by
  unfold seen
  rw [take_snoc0 l k h, List.any_append]; simp
theorem seen_zero (l : List Pr) (id : Int) : seen l 0 id = false := by unfold seen; simp
/-- what Check tells of a list that fails at a place -/
theorem chkP_bad (place : Int) (l : List Pr) (k : Nat) (hk : k < l.length) (h : okAt place l k = false) : chkP place l = 1 := by
  unfold chkP
  rw [if_neg]
  intro a
  rw [a k hk] at h
  cases h
theorem chkP_ok (place : Int) (l : List Pr) (h : ∀ i, i < l.length → okAt place l i = true) (hl : l.length ≤ 32) : chkP place l = 0 := by
  unfold chkP
  rw [if_pos h, if_pos hl]
theorem chkP_lim (place : Int) (l : List Pr) (h : ∀ i, i < l.length → okAt place l i = true) (hl : 32 < l.length) : chkP place l = 2 := by
  unfold chkP
  rw [if_pos h, if_neg (by omega)]
/-- nothing fails ahead of the place k -/
def okTo (place : Int) (l : List Pr) (k : Nat) : Prop := ∀ i, i < k → okAt place l i = true
theorem okTo_zero (place : Int) (l : List Pr) : okTo place l 0 := fun i h => absurd h (Nat.not_lt_zero i)
theorem okTo_succ {place : Int} {l : List Pr} {k : Nat} (h : okTo place l k) (h' : okAt place l k = true) : okTo place l (k + 1) := fun i hi => by
  rcases Nat.lt_or_ge i k with a | a
  · exact h i a
  · obtain rfl : i = k := by omega
    exact h'
theorem okAt_may {place : Int} {l : List Pr} {k : Nat} (h : okAt place l k = true) : may (at0 l k) = true ∧ mst (at0 l k).1 place = true := by
  unfold okAt at h
  rw [Bool.and_eq_true, Bool.and_eq_true] at h
  exact ⟨h.1.2, h.1.1⟩
theorem body_le (l : List Pr) (place : Int) : ∀ k, k ≤ l.length → okTo place l k → (body (l.take k)).length ≤ k * 131078 := by
  intro k
  induction k with
  | zero => intro _ _; simp [body]
  | succ k ih =>
    intro hk ho
    have a := ih (by omega) (fun i hi => ho i (by omega))
    have b := (pb_le _ (okAt_may (ho k (by omega))).1).2
    rw [body_take l k (by omega), List.length_append]
    omega
end Go.Proofs.YtgdfnopnmdjklaaGreatDoor
/- Proved here: dovecoteref1.Put tells the same bytes as varint.Put, in memory of its own. Helper contract. -/
namespace Go.Proofs.YtgdfnopnmdjklaaGreatDoor.V
open Go.RowKit
set_option maxRecDepth 100000

theorem Tryz.infoU8 : (Tryz.prog.info? 5).map (fun i => (i.zero, i.size, i.bytes)) = some (some (.int .u8 0), 1, 1) := by kernel_rfl

theorem put_step (m : Int) (h0 : 128 ≤ m) (h1 : m ≤ 268435455) : put m = (m % 128 + 128) :: put (m / 128) := by
  unfold put
  rw [if_neg (show ¬ m < 128 by omega)]
  by_cases b : m < 16384
  · rw [if_pos b, if_pos (show m / 128 < 128 by omega)]
  · rw [if_neg b, if_neg (show ¬ m / 128 < 128 by omega)]
    by_cases c : m < 2097152
    · rw [if_pos c, if_pos (show m / 128 < 16384 by omega), show m / 128 / 128 = m / 16384 by omega]
    · rw [if_neg c, if_neg (show ¬ m / 128 < 16384 by omega), if_pos (show m / 128 < 2097152 by omega), show m / 128 / 128 = m / 16384 by omega, show m / 128 / 16384 = m / 2097152 by omega]

end Go.Proofs.YtgdfnopnmdjklaaGreatDoor.V
