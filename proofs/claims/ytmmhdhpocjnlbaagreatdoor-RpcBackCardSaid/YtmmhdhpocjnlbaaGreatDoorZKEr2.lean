/- Proved here: errors.As and dovecotelaw0.Num at an api.Errno with up to three *api.Faults around it. Helper contracts. -/
import Derived.Test.YtmmhdhpocjnlbaaGreatDoorZKEr
import Derived.Test.YtmmhdhpocjnlbaaGreatDoorZKAs0
import Derived.Test.YtmmhdhpocjnlbaaGreatDoorZKAs1
import Derived.Test.YtmmhdhpocjnlbaaGreatDoorZKAs2
import Derived.Test.YtmmhdhpocjnlbaaGreatDoorZKAs3
namespace Go.Proofs.YtmmhdhpocjnlbaaGreatDoor
open Go.RowKit Go.Extern.Stop Go.Stop Go.Extern

theorem er_as (d : Nat) (hd : d ≤ 3) (v : Value) (n : Int) (t : Addr) (old : Value) (w : World) (hg : Laid w) (h : Er w d v n) (ht0 : w.cell? t = some old) (hf0 : w.frozen? t = false) :
    Calls Tryz.prog 37 #[v, .iface 63 (.pointer (some t))] w fun ev w' => ev = .returned (.bool true) ∧ w' = ((((w.alloc (.cells #[.pointer (some t)] 63)).alloc (.cells #[.pointer (some ⟨1, 63, none⟩), .pointer (some ⟨w.heap.size, 0, none⟩), .int .u64 150] 75)).alloc (.cells #[.pointer (some ⟨1, 63, none⟩), .pointer (some ⟨w.heap.size, 0, none⟩), .int .u64 150] 75)).alloc (.cells #[.int .i64 n] 61)).setCell t (.int .i64 n) := by
  match d, hd, h with
  | 0, _, h => cases h; exact er_as0 n t old w hg ht0 hf0
  | 1, _, ⟨b, u, h1, h2, h3⟩ => cases h1; cases h3; exact er_as1 b n t old w hg h2 ht0 hf0
  | 2, _, ⟨b, u, h1, h2, b', u', h3, h4, h5⟩ => cases h1; cases h3; cases h5; exact er_as2 b b' n t old w hg h2 h4 ht0 hf0
  | 3, _, ⟨b, u, h1, h2, b', u', h3, h4, b'', u'', h5, h6, h7⟩ => cases h1; cases h3; cases h5; cases h7; exact er_as3 b b' b'' n t old w hg h2 h4 h6 ht0 hf0
set_option maxHeartbeats 1000000 in
theorem er_num (d : Nat) (hd : d ≤ 3) (v : Value) (n : Int) (w : World) (hg : Laid w) (h : Er w d v n) :
    Calls Tryz.prog 25 #[v] w fun e w' => e = .returned (.int .i64 n) ∧ Below w.heap.size w w' := by
  have hB : Below w.heap.size w (w.alloc (.cells #[.int .i64 0] 61)) := (Below.refl _ _).alloc (Nat.le_refl _) _
  have HG := hide (hg.below hB hg.pos)
  have HE := hide (h.below hB)
  obtain ⟨tt, x, rfl⟩ := h.iface
  clear hg h hB
  go_enter Tryz.func25, Tryz.ntmps25
  go_wp2_with fail
  refine (er_as d hd _ n ⟨w.heap.size, 0, none⟩ (.int .i64 0) _ (unhide HG) (unhide HE) (by simp) (by simp)).mono ?_
  rintro e w' ⟨rfl, rfl⟩
  go_wp2
  go_ret
  refine ⟨rfl, ?_⟩
  exact (((((((Below.refl _ _).alloc (Nat.le_refl _) _).alloc (by simp) _).alloc (by simp; omega) _).alloc (by simp; omega) _).alloc (by simp; omega) _))
/-- an error as a call tells it: none (0), or a number with up to three Faults around it -/
def ErrX (w : World) (v : Value) (n : Int) : Prop := (n = 0 ∧ v = .nilIface) ∨ ∃ d, d ≤ 3 ∧ Er w d v n
theorem ErrX.below {w w' : World} {v : Value} {n : Int} (h : ErrX w v n) (hb : Below w.heap.size w w') : ErrX w' v n := by
  rcases h with h | ⟨d, hd, h⟩
  · exact .inl h
  · exact .inr ⟨d, hd, h.below hb⟩
theorem numx (v : Value) (n : Int) (w : World) (hg : Laid w) (hv : ErrX w v n) : Calls Tryz.prog 25 #[v] w fun e w' => e = .returned (.int .i64 n) ∧ Below w.heap.size w w' := by
  rcases hv with ⟨rfl, rfl⟩ | ⟨d, hd, h⟩
  · refine (num_nil w).mono ?_
    rintro e w' ⟨rfl, rfl⟩
    exact ⟨rfl, Below.refl _ _⟩
  · exact er_num d hd v n w hg h
end Go.Proofs.YtmmhdhpocjnlbaaGreatDoor
