/- Proved here: dovecotelaw0.Num tells 0 at nil and the wrapped number at an *api.Fault around an api.Errno. Helper contracts. -/
import Derived.Test.YtemedclhglkfjaaGreatDoorM2
import Derived.Test.YtemedclhglkfjaaGreatDoorM1
namespace Go.Proofs.YtemedclhglkfjaaGreatDoor
open Go.RowKit Go.Extern.Stop Go.Stop Go.Extern
def ErrIs (w : World) (v : Value) (n : Int) : Prop :=
 (n = 0 /\ v = .nilIface) \/ (∃ b,v = .iface 112 (.pointer (some ⟨b,0,none⟩)) /\ w.cell? ⟨b,1,none⟩ = some (.iface 63 (.int .i64 n)))
theorem Laid.below {w w' : World} {B : Nat} (h : Laid w) (hb : Below B w w') (hB : 0 < B) : Laid w' := by
 unfold Laid at *
 rw [hb.cell (p := ⟨0,0,none⟩) hB]; exact h
theorem Laid.pos {w : World} (h : Laid w) : 0 < w.heap.size := by
 unfold Laid at h
 rcases Nat.eq_zero_or_pos w.heap.size with h0 | h1
 ·simp [World.cell?,h0] at h
 ·exact h1
theorem ErrIs.below {w w' : World} {v : Value} {n : Int} (h : ErrIs w v n) (hb : Below w.heap.size w w') : ErrIs w' v n := by
 rcases h with h | ⟨b,h1,h2⟩
 ·exact .inl h
 ·exact .inr ⟨b,h1,by rw [hb.cell (p := ⟨b,1,none⟩) (cell_lt h2)]; exact h2⟩
theorem ErrIs.drewN {w : World} {v : Value} {n : Int} (h : ErrIs w v n) (k : Nat) : ErrIs (w.drewN k) v n := by
 rcases h with h | ⟨b,h1,h2⟩
 ·exact .inl h
 ·exact .inr ⟨b,h1,by rw [World.cell?_drewN]; exact h2⟩
theorem num_nil (w : World) : Calls Tryz.prog 31 #[.nilIface] w fun e w' => e = .returned (.int .i64 0) /\ w' = w := by
 go_enter Tryz.func31,Tryz.ntmps31
 go_wp2
 go_ret
 exact ⟨rfl,rfl⟩
end Go.Proofs.YtemedclhglkfjaaGreatDoor
