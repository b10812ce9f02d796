/- Proved here: dovecotelaw0.Num and dovecotelaw3's num tell the number within an error of prop. Helper contracts. -/
import Derived.Test.YtpfpollejhdbgaaDoorPErrAs
import Derived.Test.YtpfpollejhdbgaaDoorPErr
namespace Go.Proofs.YtpfpollejhdbgaaDoor
open Go.RowKit Go.Extern.Stop Go.Stop Go.Extern

set_option maxHeartbeats 1000000 in
theorem num_fault2 (b c : Nat) (n : Int) (w : World) (hg : Laid w) (hc : w.cell? ⟨b, 1, none⟩ = some (.iface 79 (.pointer (some ⟨c, 0, none⟩)))) (hd : w.cell? ⟨c, 1, none⟩ = some (.iface 65 (.int .i64 n))) :
    Calls Tryd.prog 33 #[.iface 79 (.pointer (some ⟨b, 0, none⟩))] w fun e w' => e = .returned (.int .i64 n) ∧ Below w.heap.size w w' := by
  have hb := cell_lt hc
  have hbd := cell_lt hd
  have hg1 : Laid (w.alloc (.cells #[.int .i64 0] 65)) := hg.below ((Below.refl _ _).alloc (Nat.le_refl _) _) hg.pos
  have hc1 : (w.alloc (.cells #[.int .i64 0] 65)).cell? ⟨b, 1, none⟩ = some (.iface 79 (.pointer (some ⟨c, 0, none⟩))) := by
    rw [World.cell?_alloc_lt _ _ ⟨b, 1, none⟩ hb]; exact hc
  have hd1 : (w.alloc (.cells #[.int .i64 0] 65)).cell? ⟨c, 1, none⟩ = some (.iface 65 (.int .i64 n)) := by
    rw [World.cell?_alloc_lt _ _ ⟨c, 1, none⟩ hbd]; exact hd
  have HG := hide hg1
  clear hg1 hg hc hd hb hbd
  go_enter Tryd.func33, Tryd.ntmps33
  go_wp2_with fail
  refine (as_fault2 b c n ⟨w.heap.size, 0, none⟩ (.int .i64 0) _ (unhide HG) hc1 hd1 (by simp) (by simp)).mono ?_
  rintro e w' ⟨rfl, rfl⟩
  go_wp2
  go_ret
  refine ⟨rfl, ?_⟩
  exact (((((((Below.refl _ _).alloc (Nat.le_refl _) _).alloc (by simp) _).alloc (by simp; omega) _).alloc (by simp; omega) _).alloc (by simp; omega) _))
theorem nump (v : Value) (n : Int) (w : World) (hg : Laid w) (hv : ErrP w v n) : Calls Tryd.prog 33 #[v] w fun e w' => e = .returned (.int .i64 n) ∧ Below w.heap.size w w' := by
  rcases hv with hv | ⟨b, c, rfl, hc, hd⟩
  · exact num_any v n w hg hv
  · exact num_fault2 b c n w hg hc hd
theorem numlp (v : Value) (n : Int) (w : World) (hg : Laid w) (hv : ErrP w v n) : Calls Tryd.prog 15 #[v] w fun e w' => e = .returned (.int .i64 n) ∧ Below w.heap.size w w' := by
  have HG := hide hg
  have HV := hide hv
  clear hg hv
  go_enter Tryd.func15, Tryd.ntmps15
  go_wp2_with (go_at_call 33; refine (nump v n _ (unhide HG) (unhide HV)).mono ?_; rintro e w' ⟨rfl, hb⟩)
  go_ret
  exact ⟨rfl, hb⟩
end Go.Proofs.YtpfpollejhdbgaaDoor
