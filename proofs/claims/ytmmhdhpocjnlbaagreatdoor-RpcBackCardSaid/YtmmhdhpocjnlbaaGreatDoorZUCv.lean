/- Proved here: texts turned into bytes and back. Helpers. -/
import Derived.Test.YtmmhdhpocjnlbaaGreatDoorZNFr
import Derived.Test.YtmmhdhpocjnlbaaGreatDoorZTPlain
import Derived.Laws.IdiomStrings
import Derived.Laws.BytesString
namespace Go.Proofs.YtmmhdhpocjnlbaaGreatDoor.Qu
open Go.RowKit Nt

theorem addr_add (b off j : Nat) : (⟨b, off, none⟩ : Addr).add j = ⟨b, off + j, none⟩ := by unfold Addr.add; split <;> simp_all

theorem conv_str (s : ByteArray) (hs : s.size ≤ maxLen) (w : World) : ∃ v w1, (convert 9 29 (.string s)).run Tryz.prog w = .ok v w1 ∧ Byt w1 v (sb s) ∧ Below w.heap.size w w1 := by
  refine ⟨_, _, run_bytes_of_string w 9 29 5 s Tryz.underlying9 Tryz.underlying29 Tryz.underlying5, ?_, ?_⟩
  · refine ⟨_, _, by rw [sb_length], ⟨by rw [sb_length]; exact grownCap_ge _ _ _ _, grownCap_le_maxLen _ _ _ _ hs⟩, sb_range s, .inr ⟨_, _, rfl, fun j hj => ?_⟩⟩
    rw [sb_length] at hj
    have h1 := World.cell?_alloc_mark w.drew (bytesRow s (grownCap w s.size 0 5)) 5 ((bytesRow s (grownCap w s.size 0 5)).size, (bytesRow s (grownCap w s.size 0 5)).size + 1) j
    rw [Nat.zero_add]
    refine h1.trans ?_
    rw [bytesRow_at s _ j hj, ← sb_get s j hj]
    rfl
  · exact (below_drewN (Below.refl _ _) 1).alloc (Nat.le_refl _) _
theorem conv_bytes (w : World) (b off cap : Nat) (l : List Int) (hr : ∀ j, 0 ≤ l.getD j 0 ∧ l.getD j 0 ≤ 255) (hc : ∀ j, j < l.length → w.cell? ⟨b, off + j, none⟩ = some (.int .u8 (l.getD j 0))) :
    (convert 29 9 (.slice (some ⟨b, off, none⟩) l.length cap)).run Tryz.prog w = .ok (.string (bs l)) w := by
  have h := run_convert_bytes_back (P := Tryz.prog) w 29 9 5 ⟨b, off, none⟩ cap (l.map fun n => UInt8.ofNat n.toNat) Tryz.underlying29 Tryz.underlying5 Tryz.underlying9 (fun j hj => by
    rw [List.length_map] at hj
    have h1 := hr j
    rw [addr_add, hc j hj]
    rw [List.getD_eq_getElem?_getD, List.getElem?_eq_getElem hj] at h1 ⊢
    simp only [Option.getD_some] at h1
    simp only [Option.getD_some, List.getElem_map, UInt8.toNat_ofNat']
    congr 2
    omega)
  rw [List.length_map] at h
  exact h
theorem conv_byt (w : World) (v : Value) (l : List Int) (h : Byt w v l) : (convert 29 9 v).run Tryz.prog w = .ok (.string (bs l)) w := by
  obtain ⟨ao, cap, rfl, hlen, hr, hcase⟩ := h
  rcases hcase with rfl | ⟨b, off, rfl, hc⟩
  · cases ao with
    | none =>
      rw [run_convert_bytes_string w 29 9 5 none _ cap Tryz.underlying29 Tryz.underlying5 Tryz.underlying9]
      rfl
    | some a =>
      exact run_convert_bytes_back (P := Tryz.prog) w 29 9 5 a cap [] Tryz.underlying29 Tryz.underlying5 Tryz.underlying9 (fun j hj => by simp at hj)
  · exact conv_bytes w b off cap l hr hc
theorem bs_size (l : List Int) : (bs l).size = l.length := by
  unfold bs
  show Array.size _ = _
  simp
end Go.Proofs.YtmmhdhpocjnlbaaGreatDoor.Qu
