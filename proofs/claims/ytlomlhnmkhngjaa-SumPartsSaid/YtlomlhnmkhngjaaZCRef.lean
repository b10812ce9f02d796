/- Proved here: bytes as plain numbers; the contract of the page's Sum. Helper contract. -/
import Derived.Test.YtlomlhnmkhngjaaProg
import Derived.Test.YtlomlhnmkhngjaaZCPlain
import Derived.Laws.BitsAllLaws
namespace Go.Proofs.Ytlomlhnmkhngjaa.C
open Go.RowKit
set_option maxRecDepth 100000

/-- the value reads as these bytes, as plain numbers -/
def Nbs (w : World) (v : Value) (l : List Nat) : Prop := ∃ ao cap, v = .slice ao l.length cap ∧ (l.length ≤ cap ∧ cap ≤ maxLen) ∧ (∀ x ∈ l, x < 256) ∧ (l = [] ∨ ∃ b off, ao = some ⟨b, off, none⟩ ∧ ∀ j, j < l.length → w.cell? ⟨b, off + j, none⟩ = some (.int .u8 ((l.getD j 0 : Nat) : Int)))
/-- the operations on the register, as the model tells them -/
theorem op_neg (s : Nat) (h : s < 4294967296) : bits .xor .u32 IntKind.u32.max (s : Int) = ((4294967295 ^^^ s : Nat) : Int) := u32_xor_nat 4294967295 s (by decide) h
theorem op_xor (r x : Nat) (hr : r < 4294967296) (hx : x < 256) : bits .xor .u32 (r : Int) (x : Int) = ((r ^^^ x : Nat) : Int) := u32_xor_nat r x hr (by omega)
theorem op_one (c : Nat) (h : c < 4294967296) : bits .and .u32 (c : Int) 1 = ((c % 2 : Nat) : Int) := by
  rw [show (1 : Int) = ((1 : Nat) : Int) from rfl, u32_and_nat c 1 h (by decide), Nat.and_one_is_mod]
theorem op_st1 (c : Nat) (h : c < 4294967296) (h1 : c % 2 = 1) : bits .xor .u32 ((c : Int) / 2) 3988292384 = ((st c : Nat) : Int) := by
  rw [show (c : Int) / 2 = ((c / 2 : Nat) : Int) from by omega, show (3988292384 : Int) = ((3988292384 : Nat) : Int) from rfl, u32_xor_nat (c / 2) 3988292384 (by omega) (by decide)]
  unfold st
  rw [if_pos h1]
theorem op_st0 (c : Nat) (h1 : ¬ c % 2 = 1) : (c : Int) / 2 = ((st c : Nat) : Int) := by
  unfold st
  rw [if_neg h1]
  omega
end Go.Proofs.Ytlomlhnmkhngjaa.C
