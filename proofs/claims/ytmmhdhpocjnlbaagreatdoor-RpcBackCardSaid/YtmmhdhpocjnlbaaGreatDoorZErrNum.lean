/- Proved here: dovecotelaw0.Num tells 0 at nil and the wrapped number at an *api.Fault around an api.Errno. Helper contracts. -/
import Derived.Test.YtmmhdhpocjnlbaaGreatDoorZErrAs
import Derived.Test.YtmmhdhpocjnlbaaGreatDoorZBase
namespace Go.Proofs.YtmmhdhpocjnlbaaGreatDoor
open Go.RowKit Go.Extern.Stop Go.Stop Go.Extern

/-- an error value: nil (0) or a Fault around the number -/
def ErrIs (w : World) (v : Value) (n : Int) : Prop :=
  (n = 0 ∧ v = .nilIface) ∨ (∃ b, v = .iface 64 (.pointer (some ⟨b, 0, none⟩)) ∧ w.cell? ⟨b, 1, none⟩ = some (.iface 61 (.int .i64 n)))

theorem Laid.below {w w' : World} {B : Nat} (h : Laid w) (hb : Below B w w') (hB : 0 < B) : Laid w' := by
  unfold Laid at *
  rw [hb.cell (p := ⟨0, 0, none⟩) hB]; exact h
theorem Laid.pos {w : World} (h : Laid w) : 0 < w.heap.size := by
  unfold Laid at h
  rcases Nat.eq_zero_or_pos w.heap.size with h0 | h1
  · simp [World.cell?, h0] at h
  · exact h1
theorem ErrIs.below {w w' : World} {v : Value} {n : Int} (h : ErrIs w v n) (hb : Below w.heap.size w w') : ErrIs w' v n := by
  rcases h with h | ⟨b, h1, h2⟩
  · exact .inl h
  · exact .inr ⟨b, h1, by rw [hb.cell (p := ⟨b, 1, none⟩) (cell_lt h2)]; exact h2⟩
theorem ErrIs.drewN {w : World} {v : Value} {n : Int} (h : ErrIs w v n) (k : Nat) : ErrIs (w.drewN k) v n := by
  rcases h with h | ⟨b, h1, h2⟩
  · exact .inl h
  · exact .inr ⟨b, h1, by rw [World.cell?_drewN]; exact h2⟩

theorem num_nil (w : World) : Calls Tryz.prog 25 #[.nilIface] w fun e w' => e = .returned (.int .i64 0) ∧ w' = w := by
  go_enter Tryz.func25, Tryz.ntmps25
  go_wp2
  go_ret
  exact ⟨rfl, rfl⟩

set_option maxHeartbeats 1000000 in
theorem num_fault (b : Nat) (n : Int) (w : World) (hg : Laid w) (hc : w.cell? ⟨b, 1, none⟩ = some (.iface 61 (.int .i64 n))) :
    Calls Tryz.prog 25 #[.iface 64 (.pointer (some ⟨b, 0, none⟩))] w fun e w' => e = .returned (.int .i64 n) ∧ Below w.heap.size w w' := by
  have hb := cell_lt hc
  have hg1 : Laid (w.alloc (.cells #[.int .i64 0] 61)) := hg.below ((Below.refl _ _).alloc (Nat.le_refl _) _) hg.pos
  have hc1 : (w.alloc (.cells #[.int .i64 0] 61)).cell? ⟨b, 1, none⟩ = some (.iface 61 (.int .i64 n)) := by
    rw [World.cell?_alloc_lt _ _ ⟨b, 1, none⟩ hb]; exact hc
  have HG := hide hg1
  clear hg1 hg hc hb
  go_enter Tryz.func25, Tryz.ntmps25
  go_wp2_with fail
  refine (as_fault b n ⟨w.heap.size, 0, none⟩ (.int .i64 0) _ (unhide HG) hc1 (by simp) (by simp)).mono ?_
  rintro e w' ⟨rfl, rfl⟩
  go_wp2
  go_ret
  refine ⟨rfl, ?_⟩
  exact (((((((Below.refl _ _).alloc (Nat.le_refl _) _).alloc (by simp) _).alloc (by simp; omega) _).alloc (by simp; omega) _).alloc (by simp; omega) _))

theorem num_any (v : Value) (n : Int) (w : World) (hg : Laid w) (hv : ErrIs w v n) :
    Calls Tryz.prog 25 #[v] w fun e w' => e = .returned (.int .i64 n) ∧ Below w.heap.size w w' := by
  rcases hv with ⟨rfl, rfl⟩ | ⟨b, rfl, hc⟩
  · refine (num_nil w).mono ?_
    rintro e w' ⟨rfl, rfl⟩
    exact ⟨rfl, Below.refl _ _⟩
  · exact num_fault b n w hg hc
end Go.Proofs.YtmmhdhpocjnlbaaGreatDoor
