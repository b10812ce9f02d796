/- Proved here: text.Put and PutBin tell a text's length in two bytes and its bytes behind, in memory of their own, or a Fault. Helper contracts. -/
import Derived.Test.YtdjpllmgjmnolaaGreatDoorZTCheck
import Derived.Lib.AppendStr
namespace Go.Proofs.YtdjpllmgjmnolaaGreatDoor
open Go.RowKit

theorem Tryz.infoU8 : (Tryz.prog.info? 5).map (fun i => (i.zero, i.size, i.bytes)) = some (some (.int .u8 0), 1, 1) := by kernel_rfl
theorem strCells_sb (s : ByteArray) : Lib.strCells s = (sb s).map (Value.int .u8) := by unfold Lib.strCells sb; rw [List.map_map]; rfl
/-- a text's bytes with their length ahead -/
def tx (s : ByteArray) : List Int := [(s.size : Int) / 256, (s.size : Int) % 256] ++ sb s
theorem tx_length (s : ByteArray) : (tx s).length = 2 + s.size := by unfold tx; rw [List.length_append, sb_length]; rfl
theorem two_cell (w : World) (y z : Value) (t : TypeId) : ∀ j u, [y, z][j]? = some u → (w.alloc (.cells #[y, z] t)).cell? ((⟨w.heap.size, 0, none⟩ : Addr).add j) = some u := by
  intro j u hj
  match j, hj with
  | 0, hj => simp at hj; subst hj; simp [Addr.add]
  | 1, hj => simp at hj; subst hj; simp [Addr.add]
theorem two_one (k : IntKind) (y z : Int) : ∀ u ∈ [Value.int k y, Value.int k z], u.oneCell' = true := by
  intro u hu; simp at hu; rcases hu with rfl | rfl <;> rfl

/-- what Put and PutBin tell of a text that may be told -/
def TxPost (s : ByteArray) (w : World) (e : Ending) (w' : World) : Prop :=
  ∃ v, e = .returned (.tuple #[v, .nilIface]) ∧ Hid (w'.ownsRow w.heap.size 5 1 v (2 + s.size) ((tx s).map (Value.int .u8))) ∧ Below w.heap.size w w'
/-- .. and of one that may not -/
def FaPost (n : Int) (w : World) (e : Ending) (w' : World) : Prop :=
  e = .returned (.tuple #[.slice none 0 0, .iface 86 (.pointer (some ⟨w.heap.size, 0, none⟩))]) ∧ w' = faultW n w

theorem chk_0 {l : List Int} (h : chk l = 0) : l.length ≤ 65535 := by
  unfold chk at h
  by_cases h1 : utf l = true
  · rw [if_pos h1] at h
    by_cases h2 : l.length ≤ 65535
    · exact h2
    · rw [if_neg h2] at h; omega
  · rw [if_neg h1] at h; omega
theorem tx_range (s : ByteArray) (hs : s.size ≤ 65535) : ∀ j, 0 ≤ (tx s).getD j 0 ∧ (tx s).getD j 0 ≤ 255 := by
  intro j
  unfold tx
  rcases j with _ | _ | j
  · simp; omega
  · simp; omega
  · simpa using sb_range s j
end Go.Proofs.YtdjpllmgjmnolaaGreatDoor
