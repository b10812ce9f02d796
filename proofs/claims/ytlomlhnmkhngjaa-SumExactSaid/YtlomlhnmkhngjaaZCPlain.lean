/- Proved here: CRC-32 on plain numbers: one step of the register is one-to-one, so that one turned bit changes the sum; the sum of two parts. Helpers that name no program. -/
import Derived.Test.YtlomlhnmkhngjaaZBase
namespace Go.Proofs.Ytlomlhnmkhngjaa.C
open Go.RowKit

/-- one bit's step of the register -/
def st (c : Nat) : Nat := if c % 2 = 1 then (c / 2) ^^^ 3988292384 else c / 2
def st8 (c : Nat) : Nat := st (st (st (st (st (st (st (st c)))))))
/-- one byte's -/
def bt1 (c b : Nat) : Nat := st8 (c ^^^ b)
def run (c : Nat) (l : List Nat) : Nat := l.foldl bt1 c
/-- the sum, behind the sum s -/
def crc (s : Nat) (l : List Nat) : Nat := 4294967295 ^^^ run (4294967295 ^^^ s) l
theorem lt_pow {a : Nat} : a < 4294967296 ↔ a < 2 ^ 32 := by rw [show (2 : Nat) ^ 32 = 4294967296 from rfl]
theorem xor_lt {a b : Nat} (ha : a < 4294967296) (hb : b < 4294967296) : a ^^^ b < 4294967296 := lt_pow.2 (Nat.xor_lt_two_pow (lt_pow.1 ha) (lt_pow.1 hb))
theorem st_lt {c : Nat} (h : c < 4294967296) : st c < 4294967296 := by
  unfold st
  split
  · exact xor_lt (by omega) (by decide)
  · omega
theorem st8_lt {c : Nat} (h : c < 4294967296) : st8 c < 4294967296 := st_lt (st_lt (st_lt (st_lt (st_lt (st_lt (st_lt (st_lt h)))))))
theorem run_app (c : Nat) (l m : List Nat) : run c (l ++ m) = run (run c l) m := List.foldl_append
theorem neg_lt {x : Nat} (h : x < 4294967296) : 4294967295 ^^^ x < 4294967296 := xor_lt (by decide) h
/-- some bits' steps -/
def stn : Nat → Nat → Nat
  | 0, c => c
  | j + 1, c => st (stn j c)
theorem stn_lt {c : Nat} (h : c < 4294967296) : ∀ j, stn j c < 4294967296
  | 0 => h
  | j + 1 => st_lt (stn_lt h j)
theorem stn8 (c : Nat) : stn 8 c = st8 c := rfl
theorem run_snoc (c : Nat) (l : List Nat) (k : Nat) (h : k < l.length) : run c (l.take (k + 1)) = bt1 (run c (l.take k)) (l.getD k 0) := by
  rw [List.take_add_one, run_app, List.getElem?_eq_getElem h, List.getD_eq_getElem?_getD, List.getElem?_eq_getElem h]
  rfl
end Go.Proofs.Ytlomlhnmkhngjaa.C
