/- Proved here: varint.Put tells a number's groups of seven bits, the lowest first, or a Fault around ErrForm. Helper contracts. -/
import Derived.Test.YtpfpollejhdbgaaDoorVSize
namespace Go.Proofs.YtpfpollejhdbgaaDoor.V
open Go.RowKit
set_option maxRecDepth 100000

theorem fault_any (n : Int) (w : World) : Calls Tryd.prog 46 #[.int .i64 n] w fun e w' => e = .returned (.iface 79 (.pointer (some ⟨w.heap.size, 0, none⟩))) ∧ w' = w.alloc (.cells #[.string ⟨#[118, 97, 114, 105, 110, 116]⟩, .iface 65 (.int .i64 n)] 81) := by
  go_enter Tryd.func46, Tryd.ntmps46
  go_wp2
  go_ret
  exact ⟨rfl, rfl⟩

/-- the bytes of a number from 0 to 268435455 -/
def put (n : Int) : List Int :=
  if n < 128 then [n] else if n < 16384 then [n % 128 + 128, n / 128] else if n < 2097152 then [n % 128 + 128, n / 128 % 128 + 128, n / 16384]
  else [n % 128 + 128, n / 128 % 128 + 128, n / 16384 % 128 + 128, n / 2097152]

theorem put_bad (n : Int) (w : World) (h : n < 0 ∨ 268435455 < n) :
    Calls Tryd.prog 30 #[.int .i64 n] w fun e w' => e = .returned (.tuple #[.slice none 0 0, .iface 79 (.pointer (some ⟨w.heap.size, 0, none⟩))]) ∧ w' = w.alloc (.cells #[.string ⟨#[118, 97, 114, 105, 110, 116]⟩, .iface 65 (.int .i64 1)] 81) := by
  rcases h with h | h
  · go_enter Tryd.func30, Tryd.ntmps30
    go_wp2_with (go_at_call 46; refine (fault_any _ _).mono ?_; rintro e w' ⟨rfl, rfl⟩)
    go_ret2
    exact ⟨rfl, rfl⟩
  · have h' : ¬ n < 0 := by omega
    go_enter Tryd.func30, Tryd.ntmps30
    go_wp2_with (go_at_call 46; refine (fault_any _ _).mono ?_; rintro e w' ⟨rfl, rfl⟩)
    go_ret2
    exact ⟨rfl, rfl⟩

theorem make1 (w : World) : (Instr.makeSlice 24 (.int .i64 1) (.int .i64 1)).run Tryd.prog w = .ok (.slice (some ⟨w.heap.size, 0, none⟩) 1 1) (w.alloc (.cells #[.int .u8 0] 5)) := by kernel_rfl
theorem make2 (w : World) : (Instr.makeSlice 24 (.int .i64 2) (.int .i64 2)).run Tryd.prog w = .ok (.slice (some ⟨w.heap.size, 0, none⟩) 2 2) (w.alloc (.cells #[.int .u8 0, .int .u8 0] 5)) := by kernel_rfl
theorem make3 (w : World) : (Instr.makeSlice 24 (.int .i64 3) (.int .i64 3)).run Tryd.prog w = .ok (.slice (some ⟨w.heap.size, 0, none⟩) 3 3) (w.alloc (.cells #[.int .u8 0, .int .u8 0, .int .u8 0] 5)) := by kernel_rfl
theorem make4 (w : World) : (Instr.makeSlice 24 (.int .i64 4) (.int .i64 4)).run Tryd.prog w = .ok (.slice (some ⟨w.heap.size, 0, none⟩) 4 4) (w.alloc (.cells #[.int .u8 0, .int .u8 0, .int .u8 0, .int .u8 0] 5)) := by kernel_rfl

theorem or128_all : ∀ x : Fin 256, bits .or .u8 (x.val : Int) 128 = (x.val : Int) % 128 + 128 := by decide +kernel
theorem and127_all : ∀ x : Fin 256, bits .and .u8 (x.val : Int) 127 = (x.val : Int) % 128 := by decide +kernel
theorem and128_all : ∀ x : Fin 256, bits .and .u8 (x.val : Int) 128 = if (x.val : Int) < 128 then 0 else 128 := by decide +kernel
theorem or128 (x : Int) (h0 : 0 ≤ x) (h1 : x < 256) : bits .or .u8 x 128 = x % 128 + 128 := by
  have := or128_all ⟨x.toNat, by omega⟩
  simpa only [Int.toNat_of_nonneg h0] using this
theorem and127 (x : Int) (h0 : 0 ≤ x) (h1 : x < 256) : bits .and .u8 x 127 = x % 128 := by
  have := and127_all ⟨x.toNat, by omega⟩
  simpa only [Int.toNat_of_nonneg h0] using this
theorem and128 (x : Int) (h0 : 0 ≤ x) (h1 : x < 256) : bits .and .u8 x 128 = if x < 128 then 0 else 128 := by
  have := and128_all ⟨x.toNat, by omega⟩
  simpa only [Int.toNat_of_nonneg h0] using this
theorem last_of (x : Int) (h0 : 0 ≤ x) (h1 : x < 128) : bits .and .u8 (bits .or .u8 x 128) 127 = x := by
  rw [or128 x h0 (by omega), and127 _ (by omega) (by omega)]; omega
theorem more_of (x : Int) : bits .or .u8 (x % 256) 128 = x % 128 + 128 := by
  rw [or128 _ (by omega) (by omega)]; omega
theorem more_of' (x : Int) (h0 : 0 ≤ x) (h1 : x < 256) : bits .or .u8 x 128 = x % 128 + 128 := or128 x h0 h1

/-- Put's answer, exactly -/
def PutPost (n : Int) (w : World) (e : Ending) (w' : World) : Prop :=
  e = .returned (.tuple #[.slice (some ⟨w.heap.size, 0, none⟩) (put n).length (put n).length, .nilIface]) ∧ w' = w.alloc (.cells ((put n).map (Value.int .u8)).toArray 5)

theorem put_1 (n : Int) (w : World) (h0 : 0 ≤ n) (h1 : n < 128) : Calls Tryd.prog 30 #[.int .i64 n] w (PutPost n w) := by
  have hp : put n = [n] := by simp [put, h1]
  unfold PutPost
  rw [hp]
  clear hp
  have hm := make1 w
  have hs : sz n = 1 := by simp [sz, h1]
  go_enter Tryd.func30, Tryd.ntmps30
  go_wp2_with (go_at_call 47; refine (sizeOf_any _ _ h0 (by omega)).mono ?_; rintro e w' ⟨rfl, rfl⟩)
  go_ret2
  refine ⟨rfl, ?_⟩
  rw [last_of n h0 h1]
  rfl
theorem put_2 (n : Int) (w : World) (h0 : 128 ≤ n) (h1 : n < 16384) : Calls Tryd.prog 30 #[.int .i64 n] w (PutPost n w) := by
  have hp : put n = [n % 128 + 128, n / 128] := by unfold put; rw [if_neg (by omega), if_pos (by omega)]
  unfold PutPost
  rw [hp]
  clear hp
  have hm := make2 w
  have hs : sz n = 2 := by unfold sz; rw [if_neg (by omega), if_pos (by omega)]
  go_enter Tryd.func30, Tryd.ntmps30
  go_wp2_with (go_at_call 47; refine (sizeOf_any _ _ (by omega) (by omega)).mono ?_; rintro e w' ⟨rfl, rfl⟩)
  go_ret2
  refine ⟨rfl, ?_⟩
  rw [last_of (n / 128) (by omega) (by omega), more_of]
  rfl
theorem put_3 (n : Int) (w : World) (h0 : 16384 ≤ n) (h1 : n < 2097152) : Calls Tryd.prog 30 #[.int .i64 n] w (PutPost n w) := by
  have hp : put n = [n % 128 + 128, n / 128 % 128 + 128, n / 16384] := by unfold put; rw [if_neg (by omega), if_neg (by omega), if_pos (by omega)]
  unfold PutPost
  rw [hp]
  clear hp
  have hm := make3 w
  have hs : sz n = 3 := by unfold sz; rw [if_neg (by omega), if_neg (by omega), if_pos (by omega)]
  go_enter Tryd.func30, Tryd.ntmps30
  go_wp2_with (go_at_call 47; refine (sizeOf_any _ _ (by omega) (by omega)).mono ?_; rintro e w' ⟨rfl, rfl⟩)
  go_ret2
  refine ⟨rfl, ?_⟩
  rw [last_of (n / 16384) (by omega) (by omega), more_of, more_of]
  rfl
theorem put_4 (n : Int) (w : World) (h0 : 2097152 ≤ n) (h1 : n ≤ 268435455) : Calls Tryd.prog 30 #[.int .i64 n] w (PutPost n w) := by
  have hp : put n = [n % 128 + 128, n / 128 % 128 + 128, n / 16384 % 128 + 128, n / 2097152] := by unfold put; rw [if_neg (by omega), if_neg (by omega), if_neg (by omega)]
  unfold PutPost
  rw [hp]
  clear hp
  have hm := make4 w
  have hs : sz n = 4 := by unfold sz; rw [if_neg (by omega), if_neg (by omega), if_neg (by omega)]
  go_enter Tryd.func30, Tryd.ntmps30
  go_wp2_with (go_at_call 47; refine (sizeOf_any _ _ (by omega) (by omega)).mono ?_; rintro e w' ⟨rfl, rfl⟩)
  go_ret2
  refine ⟨rfl, ?_⟩
  rw [last_of (n / 2097152) (by omega) (by omega), more_of, more_of, more_of]
  rfl
theorem put_good (n : Int) (w : World) (h0 : 0 ≤ n) (h1 : n ≤ 268435455) : Calls Tryd.prog 30 #[.int .i64 n] w (PutPost n w) := by
  by_cases a : n < 128
  · exact put_1 n w h0 a
  · by_cases b : n < 16384
    · exact put_2 n w (by omega) b
    · by_cases c : n < 2097152
      · exact put_3 n w (by omega) c
      · exact put_4 n w (by omega) h1
theorem put_range (n : Int) (h0 : 0 ≤ n) (h1 : n ≤ 268435455) : ∀ j, 0 ≤ (put n).getD j 0 ∧ (put n).getD j 0 ≤ 255 := by
  intro j
  unfold put
  split
  · rcases j with _ | j <;> simp <;> omega
  · split
    · rcases j with _ | _ | j <;> simp <;> omega
    · split
      · rcases j with _ | _ | _ | j <;> simp <;> omega
      · rcases j with _ | _ | _ | _ | j <;> simp <;> omega
theorem put_len (n : Int) : 1 ≤ (put n).length ∧ (put n).length ≤ 4 := by
  unfold put
  split <;> (try split) <;> (try split) <;> simp
theorem put_byt (n : Int) (w : World) (h0 : 0 ≤ n) (h1 : n ≤ 268435455) : Byt (w.alloc (.cells ((put n).map (Value.int .u8)).toArray 5)) (.slice (some ⟨w.heap.size, 0, none⟩) (put n).length (put n).length) (put n) := by
  refine ⟨_, _, rfl, ⟨Nat.le_refl _, by have := put_len n; unfold maxLen; omega⟩, put_range n h0 h1, .inr ⟨_, _, rfl, fun j hj => ?_⟩⟩
  rw [World.cell?_alloc_at _ _ _ _ rfl]
  simp [hj]
/-- Put's answer, as a caller uses it -/
theorem put_use (x : Int) (w : World) (h0 : 0 ≤ x) (h1 : x ≤ 268435455) : Calls Tryd.prog 30 #[.int .i64 x] w fun e w' => ∃ n : Nat, Hid (n = (put x).length) ∧ e = .returned (.tuple #[.slice (some ⟨w.heap.size, 0, none⟩) n n, .nilIface]) ∧
    Hid (w'.ownsRow w.heap.size 5 1 (.slice (some ⟨w.heap.size, 0, none⟩) n n) n ((put x).map (Value.int .u8))) ∧ Below w.heap.size w w' := by
  refine (put_good x w h0 h1).mono ?_
  rintro e w' ⟨rfl, rfl⟩
  have hl := put_len x
  exact ⟨_, rfl, rfl, World.ownsRow_lit w _ _ (Nat.le_refl _) (by unfold maxLen; omega) (by simp), (Below.refl _ _).alloc (Nat.le_refl _) _⟩
end Go.Proofs.YtpfpollejhdbgaaDoor.V
