/- Proved here: helpers, one text behind the other. -/
import Derived.Test.YtemedclhglkfjaaGreatDoorProg
import Derived.Test.YtemedclhglkfjaaGreatDoorM1
import Derived.Lib.BitFns
import Derived.Lib.Walk
set_option maxHeartbeats 20000000
namespace Go.Proofs.YtemedclhglkfjaaGreatDoor.V
open Go.RowKit
set_option maxRecDepth 100000
def sz (n : Int) : Int := if n < 128 then 1 else if n < 16384 then 2 else if n < 2097152 then 3 else 4
theorem bitLen_ge (k x : Nat) (h : 2 ^ k <= x) (hx : x < 2 ^ 64) : k + 1 <= Lib.bitLen x := by
 rw [Lib.bitLen_shift k x h hx]
 have h1 : x / 2 ^ k ≠ 0 := by
  have := Nat.div_pos h (Nat.two_pow_pos k); omega
 rw [Lib.bitLen_half _ h1 (Nat.lt_of_le_of_lt (Nat.div_le_self _ _) hx)]
 omega
theorem sz_of (n : Int) (h0 : 0 <= n) (h1 : n <= 268435455) : max 1 ((Lib.bitLen n.toNat + 6 : Int) / 7) = sz n := by
 unfold sz
 obtain ⟨m,rfl⟩ := Int.eq_ofNat_of_zero_le h0
 rw [Int.toNat_natCast]
 have hx : m < 2 ^ 64 := by omega
 by_cases a : m < 128
 ·have := Lib.bitLen_le m 7 (by omega) a
  rw [if_pos (show (m : Int) < 128 by omega)]
  omega
 ·by_cases b : m < 16384
  ·have l := bitLen_ge 7 m (by omega) hx
   have u := Lib.bitLen_le m 14 (by omega) b
   rw [if_neg (show ¬ (m : Int) < 128 by omega),if_pos (show (m : Int) < 16384 by omega)]
   omega
  ·by_cases c : m < 2097152
   ·have l := bitLen_ge 14 m (by omega) hx
    have u := Lib.bitLen_le m 21 (by omega) c
    rw [if_neg (show ¬ (m : Int) < 128 by omega),if_neg (show ¬ (m : Int) < 16384 by omega),if_pos (show (m : Int) < 2097152 by omega)]
    omega
   ·have l := bitLen_ge 21 m (by omega) hx
    have u := Lib.bitLen_le m 28 (by omega) (by omega)
    rw [if_neg (show ¬ (m : Int) < 128 by omega),if_neg (show ¬ (m : Int) < 16384 by omega),if_neg (show ¬ (m : Int) < 2097152 by omega)]
    omega
set_option maxRecDepth 100000 in
theorem len64_any (x : Int) (w : World) (h0 : 0 <= x) (h1 : x <= 268435455) :
  Calls Tryz.prog 124 #[.int .u64 x] w fun e w' => e = .returned (.int .i64 (Lib.bitLen x.toNat)) /\ w' = w := by
 have t9 := Tryz.underlying9
 by_cases a : x <= 255
 ·have l := Lib.bitLen_le8' x h0 a
  go_enter Tryz.func124,Tryz.ntmps124
  go_wp2
  go_ret
  refine ⟨congrArg Ending.returned (congrArg (Value.int IntKind.i64) ?_),rfl⟩
  rw [Lib.len8_of x h0 a]
  simp only [wrap64]
  omega
 ·by_cases b : x <= 65535
  ·have c0 : 0 <= x / 256 := by omega
   have c1 : x / 256 <= 255 := by omega
   have l := Lib.bitLen_le8' (x / 256) c0 c1
   have s := Lib.bitLen_shift8 x.toNat (by omega) (by omega)
   have S := zh s
   clear s
   go_enter Tryz.func124,Tryz.ntmps124
   go_wp2
   go_ret
   refine ⟨congrArg Ending.returned (congrArg (Value.int IntKind.i64) ?_),rfl⟩
   rw [Lib.len8_of (x / 256) c0 c1,uh S,show (x / 256).toNat = x.toNat / 256 from by omega]
   rw [show (x / 256).toNat = x.toNat / 256 from by omega] at l
   simp only [wrap64]
   omega
  ·by_cases c : x <= 16777215
   ·have c0 : 0 <= x / 65536 := by omega
    have c1 : x / 65536 <= 255 := by omega
    have l := Lib.bitLen_le8' (x / 65536) c0 c1
    have s := Lib.bitLen_shift16 x.toNat (by omega) (by omega)
    have S := zh s
    clear s
    go_enter Tryz.func124,Tryz.ntmps124
    go_wp2
    go_ret
    refine ⟨congrArg Ending.returned (congrArg (Value.int IntKind.i64) ?_),rfl⟩
    rw [Lib.len8_of (x / 65536) c0 c1,uh S,show (x / 65536).toNat = x.toNat / 65536 from by omega]
    rw [show (x / 65536).toNat = x.toNat / 65536 from by omega] at l
    simp only [wrap64]
    omega
   ·have c0 : 0 <= x / 65536 / 256 := by omega
    have c1 : x / 65536 / 256 <= 255 := by omega
    have l := Lib.bitLen_le8' (x / 65536 / 256) c0 c1
    have s := Lib.bitLen_shift24 x.toNat (by omega) (by omega)
    have S := zh s
    clear s
    go_enter Tryz.func124,Tryz.ntmps124
    go_wp2
    go_ret
    refine ⟨congrArg Ending.returned (congrArg (Value.int IntKind.i64) ?_),rfl⟩
    rw [Lib.len8_of (x / 65536 / 256) c0 c1,uh S,show (x / 65536 / 256).toNat = x.toNat / 16777216 from by omega]
    rw [show (x / 65536 / 256).toNat = x.toNat / 16777216 from by omega] at l
    simp only [wrap64]
    omega
theorem len_any (x : Int) (w : World) (h0 : 0 <= x) (h1 : x <= 268435455) :
  Calls Tryz.prog 100 #[.int .u64 x] w fun e w' => e = .returned (.int .i64 (Lib.bitLen x.toNat)) /\ w' = w := by
 go_enter Tryz.func100,Tryz.ntmps100
 go_wp2_with (go_at_call 124; refine (len64_any _ _ h0 h1).mono ?_; rintro e w' ⟨rfl,rfl⟩)
 go_ret
 exact ⟨rfl,rfl⟩
theorem sizeOf_any (n : Int) (w : World) (h0 : 0 <= n) (h1 : n <= 268435455) :
  Calls Tryz.prog 58 #[.int .i64 n] w fun e w' => e = .returned (.int .i64 (sz n)) /\ w' = w := by
 have hs := zh (sz_of n h0 h1)
 have hl := Lib.bitLen_le n.toNat 28 (by omega) (by omega)
 go_enter Tryz.func58,Tryz.ntmps58
 go_wp2_with (go_at_call 100; refine (len_any _ _ h0 h1).mono ?_; rintro e w' ⟨rfl,rfl⟩)
 go_ret
 exact ⟨congrArg Ending.returned (congrArg (Value.int IntKind.i64) (uh hs)),rfl⟩
theorem fault_any (n : Int) (w : World) : Calls Tryz.prog 57 #[.int .i64 n] w fun e w' => e = .returned (.iface 112 (.pointer (some ⟨w.heap.size,0,none⟩))) /\ w' = w.alloc (.cells #[.string ⟨#[118,97,114,105,110,116]⟩,.iface 63 (.int .i64 n)] 114) := by
 go_enter Tryz.func57,Tryz.ntmps57
 go_wp2
 go_ret
 exact ⟨rfl,rfl⟩
def put (n : Int) : List Int :=
 if n < 128 then [n] else if n < 16384 then [n % 128 + 128,n / 128] else if n < 2097152 then [n % 128 + 128,n / 128 % 128 + 128,n / 16384]
 else [n % 128 + 128,n / 128 % 128 + 128,n / 16384 % 128 + 128,n / 2097152]
theorem put_bad (n : Int) (w : World) (h : n < 0 \/ 268435455 < n) :
  Calls Tryz.prog 26 #[.int .i64 n] w fun e w' => e = .returned (.tuple #[.slice none 0 0,.iface 112 (.pointer (some ⟨w.heap.size,0,none⟩))]) /\ w' = w.alloc (.cells #[.string ⟨#[118,97,114,105,110,116]⟩,.iface 63 (.int .i64 1)] 114) := by
 rcases h with h | h
 ·go_enter Tryz.func26,Tryz.ntmps26
  go_wp2_with (go_at_call 57; refine (fault_any _ _).mono ?_; rintro e w' ⟨rfl,rfl⟩)
  go_ret2
  exact ⟨rfl,rfl⟩
 ·have h' : ¬ n < 0 := by omega
  go_enter Tryz.func26,Tryz.ntmps26
  go_wp2_with (go_at_call 57; refine (fault_any _ _).mono ?_; rintro e w' ⟨rfl,rfl⟩)
  go_ret2
  exact ⟨rfl,rfl⟩
theorem make1 (w : World) : (Instr.makeSlice 31 (.int .i64 1) (.int .i64 1)).run Tryz.prog w = .ok (.slice (some ⟨w.heap.size,0,none⟩) 1 1) (w.alloc (.cells #[.int .u8 0] 5)) := by kernel_rfl
theorem make2 (w : World) : (Instr.makeSlice 31 (.int .i64 2) (.int .i64 2)).run Tryz.prog w = .ok (.slice (some ⟨w.heap.size,0,none⟩) 2 2) (w.alloc (.cells #[.int .u8 0,.int .u8 0] 5)) := by kernel_rfl
theorem make3 (w : World) : (Instr.makeSlice 31 (.int .i64 3) (.int .i64 3)).run Tryz.prog w = .ok (.slice (some ⟨w.heap.size,0,none⟩) 3 3) (w.alloc (.cells #[.int .u8 0,.int .u8 0,.int .u8 0] 5)) := by kernel_rfl
theorem make4 (w : World) : (Instr.makeSlice 31 (.int .i64 4) (.int .i64 4)).run Tryz.prog w = .ok (.slice (some ⟨w.heap.size,0,none⟩) 4 4) (w.alloc (.cells #[.int .u8 0,.int .u8 0,.int .u8 0,.int .u8 0] 5)) := by kernel_rfl
theorem or128_all : ∀ x : Fin 256,bits .or .u8 (x.val : Int) 128 = (x.val : Int) % 128 + 128 := by decide +kernel
theorem and127_all : ∀ x : Fin 256,bits .and .u8 (x.val : Int) 127 = (x.val : Int) % 128 := by decide +kernel
theorem and128_all : ∀ x : Fin 256,bits .and .u8 (x.val : Int) 128 = if (x.val : Int) < 128 then 0 else 128 := by decide +kernel
theorem or128 (x : Int) (h0 : 0 <= x) (h1 : x < 256) : bits .or .u8 x 128 = x % 128 + 128 := by
 have := or128_all ⟨x.toNat,by omega⟩
 simpa only [Int.toNat_of_nonneg h0] using this
theorem and127 (x : Int) (h0 : 0 <= x) (h1 : x < 256) : bits .and .u8 x 127 = x % 128 := by
 have := and127_all ⟨x.toNat,by omega⟩
 simpa only [Int.toNat_of_nonneg h0] using this
theorem and128 (x : Int) (h0 : 0 <= x) (h1 : x < 256) : bits .and .u8 x 128 = if x < 128 then 0 else 128 := by
 have := and128_all ⟨x.toNat,by omega⟩
 simpa only [Int.toNat_of_nonneg h0] using this
theorem last_of (x : Int) (h0 : 0 <= x) (h1 : x < 128) : bits .and .u8 (bits .or .u8 x 128) 127 = x := by
 rw [or128 x h0 (by omega),and127 _ (by omega) (by omega)]; omega
theorem more_of (x : Int) : bits .or .u8 (x % 256) 128 = x % 128 + 128 := by
 rw [or128 _ (by omega) (by omega)]; omega
def PutPost (n : Int) (w : World) (e : Ending) (w' : World) : Prop :=
 e = .returned (.tuple #[.slice (some ⟨w.heap.size,0,none⟩) (put n).length (put n).length,.nilIface]) /\ w' = w.alloc (.cells ((put n).map (Value.int .u8)).toArray 5)
theorem put_1 (n : Int) (w : World) (h0 : 0 <= n) (h1 : n < 128) : Calls Tryz.prog 26 #[.int .i64 n] w (PutPost n w) := by
 have hp : put n = [n] := by simp [put,h1]
 unfold PutPost
 rw [hp]
 clear hp
 have hm := make1 w
 have hs : sz n = 1 := by simp [sz,h1]
 go_enter Tryz.func26,Tryz.ntmps26
 go_wp2_with (go_at_call 58; refine (sizeOf_any _ _ h0 (by omega)).mono ?_; rintro e w' ⟨rfl,rfl⟩)
 go_ret2
 refine ⟨rfl,?_⟩
 rw [last_of n h0 h1]
 rfl
theorem put_2 (n : Int) (w : World) (h0 : 128 <= n) (h1 : n < 16384) : Calls Tryz.prog 26 #[.int .i64 n] w (PutPost n w) := by
 have hp : put n = [n % 128 + 128,n / 128] := by unfold put; rw [if_neg (by omega),if_pos (by omega)]
 unfold PutPost
 rw [hp]
 clear hp
 have hm := make2 w
 have hs : sz n = 2 := by unfold sz; rw [if_neg (by omega),if_pos (by omega)]
 go_enter Tryz.func26,Tryz.ntmps26
 go_wp2_with (go_at_call 58; refine (sizeOf_any _ _ (by omega) (by omega)).mono ?_; rintro e w' ⟨rfl,rfl⟩)
 go_ret2
 refine ⟨rfl,?_⟩
 rw [last_of (n / 128) (by omega) (by omega),more_of]
 rfl
theorem put_3 (n : Int) (w : World) (h0 : 16384 <= n) (h1 : n < 2097152) : Calls Tryz.prog 26 #[.int .i64 n] w (PutPost n w) := by
 have hp : put n = [n % 128 + 128,n / 128 % 128 + 128,n / 16384] := by unfold put; rw [if_neg (by omega),if_neg (by omega),if_pos (by omega)]
 unfold PutPost
 rw [hp]
 clear hp
 have hm := make3 w
 have hs : sz n = 3 := by unfold sz; rw [if_neg (by omega),if_neg (by omega),if_pos (by omega)]
 go_enter Tryz.func26,Tryz.ntmps26
 go_wp2_with (go_at_call 58; refine (sizeOf_any _ _ (by omega) (by omega)).mono ?_; rintro e w' ⟨rfl,rfl⟩)
 go_ret2
 refine ⟨rfl,?_⟩
 rw [last_of (n / 16384) (by omega) (by omega),more_of,more_of]
 rfl
theorem put_4 (n : Int) (w : World) (h0 : 2097152 <= n) (h1 : n <= 268435455) : Calls Tryz.prog 26 #[.int .i64 n] w (PutPost n w) := by
 have hp : put n = [n % 128 + 128,n / 128 % 128 + 128,n / 16384 % 128 + 128,n / 2097152] := by unfold put; rw [if_neg (by omega),if_neg (by omega),if_neg (by omega)]
 unfold PutPost
 rw [hp]
 clear hp
 have hm := make4 w
 have hs : sz n = 4 := by unfold sz; rw [if_neg (by omega),if_neg (by omega),if_neg (by omega)]
 go_enter Tryz.func26,Tryz.ntmps26
 go_wp2_with (go_at_call 58; refine (sizeOf_any _ _ (by omega) (by omega)).mono ?_; rintro e w' ⟨rfl,rfl⟩)
 go_ret2
 refine ⟨rfl,?_⟩
 rw [last_of (n / 2097152) (by omega) (by omega),more_of,more_of,more_of]
 rfl
theorem put_good (n : Int) (w : World) (h0 : 0 <= n) (h1 : n <= 268435455) : Calls Tryz.prog 26 #[.int .i64 n] w (PutPost n w) := by
 by_cases a : n < 128
 ·exact put_1 n w h0 a
 ·by_cases b : n < 16384
  ·exact put_2 n w (by omega) b
  ·by_cases c : n < 2097152
   ·exact put_3 n w (by omega) c
   ·exact put_4 n w (by omega) h1
theorem put_range (n : Int) (h0 : 0 <= n) (h1 : n <= 268435455) : ∀ j,0 <= (put n).getD j 0 /\ (put n).getD j 0 <= 255 := by
 intro j
 unfold put
 split
 ·rcases j with _ | j <;> simp <;> omega
 ·split
  ·rcases j with _ | _ | j <;> simp <;> omega
  ·split
   ·rcases j with _ | _ | _ | j <;> simp <;> omega
   ·rcases j with _ | _ | _ | _ | j <;> simp <;> omega
theorem put_len (n : Int) : 1 <= (put n).length /\ (put n).length <= 4 := by
 unfold put
 split <;> (try split) <;> (try split) <;> simp
theorem put_use (x : Int) (w : World) (h0 : 0 <= x) (h1 : x <= 268435455) : Calls Tryz.prog 26 #[.int .i64 x] w fun e w' => ∃ n : Nat,Hid (n = (put x).length) /\ e = .returned (.tuple #[.slice (some ⟨w.heap.size,0,none⟩) n n,.nilIface]) /\
  Hid (w'.ownsRow w.heap.size 5 1 (.slice (some ⟨w.heap.size,0,none⟩) n n) n ((put x).map (Value.int .u8))) /\ Below w.heap.size w w' := by
 refine (put_good x w h0 h1).mono ?_
 rintro e w' ⟨rfl,rfl⟩
 have hl := put_len x
 exact ⟨_,rfl,rfl,World.ownsRow_lit w _ _ (Nat.le_refl _) (by unfold maxLen; omega) (by simp),bal _ _⟩
theorem Tryz.infoU8 : (Tryz.prog.info? 5).map (fun i => (i.zero,i.size,i.bytes)) = some (some (.int .u8 0),1,1) := by kernel_rfl
end Go.Proofs.YtemedclhglkfjaaGreatDoor.V
