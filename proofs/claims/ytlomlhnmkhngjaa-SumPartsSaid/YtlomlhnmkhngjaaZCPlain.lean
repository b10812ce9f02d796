/- Proved here: CRC-32 on plain numbers: one step of the register is one-to-one, so that one turned bit changes the sum; the sum of two parts. Helpers that name no program. -/
import Derived.Test.YtlomlhnmkhngjaaZBase
namespace Go.Proofs.Ytlomlhnmkhngjaa.C
open Go.RowKit

/-- one bit's step of the register -/
def st (c : Nat) : Nat := if c % 2 = 1 then (c / 2) ^^^ 3988292384 else c / 2
def st8 (c : Nat) : Nat := st (st (st (st (st (st (st (st c)))))))
/-- one byte's -/
def bt1 (c b : Nat) : Nat := st8 (c ^^^ b)
def run (c : Nat) (l : List Nat) : Nat := l.foldl bt1 c
/-- the sum, behind the sum s -/
def crc (s : Nat) (l : List Nat) : Nat := 4294967295 ^^^ run (4294967295 ^^^ s) l
theorem lt_pow {a : Nat} : a < 4294967296 ↔ a < 2 ^ 32 := by rw [show (2 : Nat) ^ 32 = 4294967296 from rfl]
theorem xor_lt {a b : Nat} (ha : a < 4294967296) (hb : b < 4294967296) : a ^^^ b < 4294967296 := lt_pow.2 (Nat.xor_lt_two_pow (lt_pow.1 ha) (lt_pow.1 hb))
theorem st_lt {c : Nat} (h : c < 4294967296) : st c < 4294967296 := by
  unfold st
  split
  · exact xor_lt (by omega) (by decide)
  · omega
theorem st8_lt {c : Nat} (h : c < 4294967296) : st8 c < 4294967296 := st_lt (st_lt (st_lt (st_lt (st_lt (st_lt (st_lt (st_lt h)))))))
theorem bt1_lt {c b : Nat} (h : c < 4294967296) (hb : b < 256) : bt1 c b < 4294967296 := st8_lt (xor_lt h (by omega))
theorem st_top {c : Nat} (h : c < 4294967296) : (st c).testBit 31 = decide (c % 2 = 1) := by
  have h31 : (c / 2).testBit 31 = false := Nat.testBit_lt_two_pow (by rw [show (2 : Nat) ^ 31 = 2147483648 from rfl]; omega)
  unfold st
  split
  · rename_i h1
    rw [Nat.testBit_xor, h31, decide_eq_true h1]; decide
  · rename_i h1
    rw [h31, decide_eq_false h1]
theorem xor_cancel {a b p : Nat} (h : a ^^^ p = b ^^^ p) : a = b := by
  have := congrArg (· ^^^ p) h
  simpa [Nat.xor_assoc] using this
theorem xor_cancel' {a b p : Nat} (h : p ^^^ a = p ^^^ b) : a = b := xor_cancel (p := p) (by rw [Nat.xor_comm a, Nat.xor_comm b]; exact h)
theorem st_inj {a b : Nat} (ha : a < 4294967296) (hb : b < 4294967296) (h : st a = st b) : a = b := by
  have h1 := st_top ha
  have h2 := st_top hb
  rw [h] at h1
  rw [h1] at h2
  have hp : a % 2 = 1 ↔ b % 2 = 1 := by
    constructor
    · intro e; rw [decide_eq_true e] at h2; exact of_decide_eq_true h2.symm
    · intro e; rw [decide_eq_true e] at h2; exact of_decide_eq_true h2
  unfold st at h
  by_cases e : a % 2 = 1
  · rw [if_pos e, if_pos (hp.1 e)] at h
    have := xor_cancel h
    have := hp.1 e
    omega
  · rw [if_neg e, if_neg (fun k => e (hp.2 k))] at h
    have : ¬ b % 2 = 1 := fun k => e (hp.2 k)
    omega
theorem st8_inj {a b : Nat} (ha : a < 4294967296) (hb : b < 4294967296) (h : st8 a = st8 b) : a = b := by
  have L := @st_lt
  unfold st8 at h
  exact st_inj ha hb (st_inj (L ha) (L hb) (st_inj (L (L ha)) (L (L hb)) (st_inj (L (L (L ha))) (L (L (L hb))) (st_inj (L (L (L (L ha)))) (L (L (L (L hb)))) (st_inj (L (L (L (L (L ha))))) (L (L (L (L (L hb))))) (st_inj (L (L (L (L (L (L ha)))))) (L (L (L (L (L (L hb)))))) (st_inj (L (L (L (L (L (L (L ha))))))) (L (L (L (L (L (L (L hb))))))) h)))))))
theorem bt1_inj {a b x : Nat} (ha : a < 4294967296) (hb : b < 4294967296) (hx : x < 256) (h : bt1 a x = bt1 b x) : a = b :=
  xor_cancel (st8_inj (xor_lt ha (by omega)) (xor_lt hb (by omega)) h)
theorem run_lt : ∀ (l : List Nat) (c : Nat), c < 4294967296 → (∀ x ∈ l, x < 256) → run c l < 4294967296
  | [], c, h, _ => h
  | x :: l, c, h, hl => run_lt l (bt1 c x) (bt1_lt h (hl x (by simp))) (fun y hy => hl y (by simp [hy]))
theorem run_inj : ∀ (l : List Nat) (a b : Nat), a < 4294967296 → b < 4294967296 → (∀ x ∈ l, x < 256) → run a l = run b l → a = b
  | [], _, _, _, _, _, h => h
  | x :: l, a, b, ha, hb, hl, h => bt1_inj ha hb (hl x (by simp)) (run_inj l _ _ (bt1_lt ha (hl x (by simp))) (bt1_lt hb (hl x (by simp))) (fun y hy => hl y (by simp [hy])) h)
theorem run_app (c : Nat) (l m : List Nat) : run c (l ++ m) = run (run c l) m := List.foldl_append
theorem neg_neg (x : Nat) : 4294967295 ^^^ (4294967295 ^^^ x) = x := by rw [← Nat.xor_assoc, Nat.xor_self, Nat.zero_xor]
theorem neg_lt {x : Nat} (h : x < 4294967296) : 4294967295 ^^^ x < 4294967296 := xor_lt (by decide) h
theorem crc_lt {s : Nat} {l : List Nat} (hs : s < 4294967296) (hl : ∀ x ∈ l, x < 256) : crc s l < 4294967296 := neg_lt (run_lt l _ (neg_lt hs) hl)
theorem crc_nil (s : Nat) : crc s [] = s := neg_neg s
theorem crc_app (s : Nat) (l m : List Nat) : crc (crc s l) m = crc s (l ++ m) := by
  unfold crc
  rw [run_app, neg_neg]
/-- one byte that is another one changes the sum -/
theorem crc_diff {s x y : Nat} {l m : List Nat} (hs : s < 4294967296) (hl : ∀ z ∈ l, z < 256) (hm : ∀ z ∈ m, z < 256) (hx : x < 256) (hy : y < 256) (hxy : x ≠ y) : crc s (l ++ x :: m) ≠ crc s (l ++ y :: m) := by
  intro h
  have hr := run_lt l (4294967295 ^^^ s) (neg_lt hs) hl
  have e : ∀ z, run (4294967295 ^^^ s) (l ++ z :: m) = run (bt1 (run (4294967295 ^^^ s) l) z) m := fun z => by rw [run_app]; rfl
  unfold crc at h
  rw [e x, e y] at h
  have h3 := run_inj m _ _ (bt1_lt hr hx) (bt1_lt hr hy) hm (xor_cancel' h)
  unfold bt1 at h3
  have h4 := st8_inj (xor_lt hr (by omega)) (xor_lt hr (by omega)) h3
  exact hxy (xor_cancel' h4)
/-- some bits' steps -/
def stn : Nat → Nat → Nat
  | 0, c => c
  | j + 1, c => st (stn j c)
theorem stn_lt {c : Nat} (h : c < 4294967296) : ∀ j, stn j c < 4294967296
  | 0 => h
  | j + 1 => st_lt (stn_lt h j)
theorem run_snoc (c : Nat) (l : List Nat) (k : Nat) (h : k < l.length) : run c (l.take (k + 1)) = bt1 (run c (l.take k)) (l.getD k 0) := by
  rw [List.take_add_one, run_app, List.getElem?_eq_getElem h, List.getD_eq_getElem?_getD, List.getElem?_eq_getElem h]
  rfl
/-- a turned bit makes a byte another one -/
theorem turn_ne (x k : Nat) : x ^^^ (2 ^ k) ≠ x := by
  intro e
  have h1 : (x ^^^ (2 ^ k)).testBit k = x.testBit k := by rw [e]
  rw [Nat.testBit_xor, Nat.testBit_two_pow_self] at h1
  cases x.testBit k <;> simp at h1
end Go.Proofs.Ytlomlhnmkhngjaa.C
