/- Proved here: a net in memory: its block, its row of parcels, their rows; contracts of New, Count, Clear. Helper contracts. -/
import Derived.Test.YtfgelagmjjjlgaaZNCm
import Derived.Test.YtfgelagmjjjlgaaZNDv
namespace Go.Proofs.Ytfgelagmjjjlgaa.Nt
open Go.RowKit
set_option maxRecDepth 100000

def prow (ps : List Pc) : List Value := ps.flatMap pcs
theorem prow_len (ps : List Pc) : (prow ps).length = ps.length * 13 := by
  induction ps with
  | nil => rfl
  | cons p l ih => rw [show prow (p :: l) = pcs p ++ prow l from rfl, List.length_append, ih, pcs_len, List.length_cons]; omega
theorem prow_app (a b : List Pc) : prow (a ++ b) = prow a ++ prow b := by unfold prow; rw [List.flatMap_append]
theorem prow_get (ps : List Pc) : ∀ k p, ps[k]? = some p → ∀ j, j < 13 → (prow ps)[k * 13 + j]? = (pcs p)[j]? := by
  induction ps with
  | nil => intro k q hk; simp at hk
  | cons p l ih =>
    intro k q hk j hj
    have e : prow (p :: l) = pcs p ++ prow l := rfl
    rw [e]
    rcases k with _ | k
    · simp at hk
      subst hk
      rw [List.getElem?_append_left (by rw [pcs_len]; omega)]
      simp
    · rw [List.getElem?_append_right (by rw [pcs_len]; omega), pcs_len, show (k + 1) * 13 + j - 13 = k * 13 + j from by omega]
      exact ih k q (by simpa using hk) j hj
def pb (p : Pc) : List Nat := qb p.q
/-- a net's blocks -/
def fp (n : Nat) (v : Value) (ps : List Pc) : List Nat := n :: (bl v ++ ps.flatMap pb)
/-- a net in memory -/
structure NS (w : World) (B n : Nat) (v : Value) (ps : List Pc) : Prop where
  box : Bx w n [v] 50
  low : B ≤ n
  row : w.ownsRow B 53 13 v ps.length (prow ps)
  own : ∀ p ∈ ps, MqOwn w B p.q
  ok : ∀ p ∈ ps, Pok p
  nd : (fp n v ps).Nodup
theorem mem_fp {n : Nat} {v : Value} {ps : List Pc} {g : Nat} : g ∈ fp n v ps ↔ g = n ∨ g ∈ bl v ∨ ∃ p ∈ ps, g ∈ pb p := by
  unfold fp
  simp [List.mem_flatMap]
theorem NS.fr {F : Nat → Prop} {w w' : World} {B n : Nat} {v : Value} {ps : List Pc} (h : NS w B n v ps) (hf : Fr F w w') (hs : ∀ g ∈ fp n v ps, ¬ F g) : NS w' B n v ps :=
  ⟨h.box.fr hf (hs n (mem_fp.2 (.inl rfl))), h.low, owns_fr h.row hf (fun g hg => hs g (mem_fp.2 (.inr (.inl (mem_bl.2 hg))))), fun p hp => (h.own p hp).fr hf (fun g hg => hs g (mem_fp.2 (.inr (.inr ⟨p, hp, hg⟩)))), h.ok, h.nd⟩
theorem NS.below {w w' : World} {B n : Nat} {v : Value} {ps : List Pc} (h : NS w B n v ps) (hb : Below w.heap.size w w') : NS w' B n v ps := h.fr (F := fun _ => False) (Fr.of_below hb) (fun _ _ => id)
theorem NS.lt {w : World} {B n : Nat} {v : Value} {ps : List Pc} (h : NS w B n v ps) : ∀ g ∈ fp n v ps, B ≤ g ∧ g < w.heap.size := fun g hg => by
  rcases mem_fp.1 hg with rfl | hg | ⟨p, hp, hg⟩
  · exact ⟨h.low, h.box.lt⟩
  · exact owns_blk h.row g (mem_bl.1 hg)
  · exact (h.own p hp).blk g hg
theorem NS.shape {w : World} {B n : Nat} {v : Value} {ps : List Pc} (h : NS w B n v ps) : ∃ ao cap, v = .slice ao ps.length cap := owns_slice h.row
/-- what a message on its way is: it, and when it comes -/
abbrev It := Rp × Int
def it (p : Pc) : It := (p.q.r, p.put + p.delay)
def addI (I : List It) (x : It) : List It := if I.length < 4096 then I ++ [x] else I
/-- blocks of before, or new ones -/
def Ext (F F' : List Nat) (w : World) : Prop := ∀ g ∈ F', g ∈ F ∨ w.heap.size ≤ g
theorem new_any (w : World) : Calls Try.prog 7 #[] w fun e w' => e = .returned (.pointer (some ⟨w.heap.size, 0, none⟩)) ∧ NS w' w.heap.size w.heap.size (.slice none 0 0) [] ∧ Below w.heap.size w w' := by
  have HB : Hid (Bx (w.alloc (.cells #[.slice none 0 0] 50)) w.heap.size [.slice none 0 0] 50) := Bx.new w [.slice none 0 0] 50 _ rfl
  have HW : Hid (Below w.heap.size w (w.alloc (.cells #[.slice none 0 0] 50))) := (Below.refl _ _).alloc (Nat.le_refl _) _
  go_enter Try.func7, Try.ntmps7
  go_wp2
  go_ret
  exact ⟨rfl, ⟨unhide HB, Nat.le_refl _, World.ownsRow_nil _ _ _ _, fun p hp => by simp at hp, fun p hp => by simp at hp, by simp [fp, bl, Value.ownBlock]⟩, unhide HW⟩
theorem count_any (w : World) (B n : Nat) (v : Value) (ps : List Pc) (h : NS w B n v ps) : Calls Try.prog 19 #[.pointer (some ⟨n, 0, none⟩)] w fun e w' => e = .returned (.int .i64 (ps.length : Nat)) ∧ w' = w := by
  obtain ⟨ao, cap, rfl⟩ := h.shape
  have c0 := h.box.cell 0 _ rfl
  clear h
  generalize ps.length = k at c0 ⊢
  go_enter Try.func19, Try.ntmps19
  go_wp2
  go_ret
  exact ⟨rfl, rfl⟩
theorem clear_any (w : World) (B n : Nat) (v : Value) (ps : List Pc) (h : NS w B n v ps) : Calls Try.prog 13 #[.pointer (some ⟨n, 0, none⟩)] w fun e w' => e = .returned (.tuple #[]) ∧ NS w' B n (.slice none 0 0) [] ∧ Fr (fun k => k = n) w w' := by
  obtain ⟨ao, cap, rfl⟩ := h.shape
  have HS := hide h
  have c0 := h.box.cell 0 _ rfl
  have f0 := h.box.frz 0
  clear h
  generalize hk : ps.length = k at c0
  clear hk
  go_enter Try.func13, Try.ntmps13
  go_wp2
  go_end0
  exact ⟨rfl, ⟨(unhide HS).box.set 0 _ (by simp), (unhide HS).low, World.ownsRow_nil _ _ _ _, fun p hp => by simp at hp, fun p hp => by simp at hp, by simp [fp, bl, Value.ownBlock]⟩, set_fr (F := fun k => k = n) rfl⟩
end Go.Proofs.Ytfgelagmjjjlgaa.Nt
