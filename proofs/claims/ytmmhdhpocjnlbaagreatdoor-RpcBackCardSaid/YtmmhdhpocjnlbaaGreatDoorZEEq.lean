/- Proved here: EqLog of two logs that are one; heavy and ok: what they let pass. Helper contracts. -/
import Derived.Test.YtmmhdhpocjnlbaaGreatDoorM3
namespace Go.Proofs.YtmmhdhpocjnlbaaGreatDoor.Et
open Go.RowKit Nt
set_option maxRecDepth 100000

set_option maxHeartbeats 2000000 in
theorem lw_core (b off cap : Nat) (l : List En) (len : Nat) (w : World) (hlen : l.length = len) (hl : EnAt w b off l) :
    Calls Tryz.prog 16 #[.slice (some ⟨b, off, none⟩) len cap] w fun e w' => (∃ z : Int, e = .returned (.int .i64 z)) ∧ w' = w := by
  have HL := hide hl
  have HLEN := hide hlen
  clear hl hlen
  go_enter Tryz.func16, Tryz.ntmps16
  go_wp2
  go_loopw [3, 4] (fun n i wr => ∃ (k : Nat) (z : Int), k ≤ len ∧ i = .int .i64 k ∧ n = .int .i64 z ∧ wr = w) (fun _ i _ => len - (intOf i).toNat)
  case atStart => exact ⟨0, _, Nat.zero_le _, rfl, rfl, rfl⟩
  case round =>
    obtain ⟨k, z, hk, rfl, rfl, rfl⟩ := hrel
    by_cases hlt : k < len
    · by_cases h2 : k < 2000
      · have c3 := ((unhide HL) k (by rw [unhide HLEN]; exact hlt)).2.2.2
        generalize (en0 l k).2.2.2 = s at c3
        go_wp2
        go_roundw
        case rel => exact ⟨k + 1, _, by omega, by go_num, rfl, by first | rfl | trivial⟩
        case measure => simp [intOf]; omega
      · have h2d : decide ((k : Int) < 2000) = false := decide_eq_false (by omega)
        have h2z : ¬ (k : Int) < 2000 := by omega
        go_wp2
        go_ret
        exact ⟨⟨_, rfl⟩, rfl⟩
    · go_wp2
      go_ret
      exact ⟨⟨_, rfl⟩, rfl⟩
theorem lw_nil (ao : Option Addr) (cap : Nat) (w : World) : Calls Tryz.prog 16 #[.slice ao 0 cap] w fun e w' => (∃ z : Int, e = .returned (.int .i64 z)) ∧ w' = w := by
  go_enter Tryz.func16, Tryz.ntmps16
  go_wp2
  refine wp_loop_rounds 1 ?_
  rw [rounds_succ]
  go_wp2
  go_ret
  exact ⟨⟨_, rfl⟩, rfl⟩
theorem lw_any (ao : Option Addr) (n cap : Nat) (l : List En) (w : World) (h : Es w ao n cap l) : Calls Tryz.prog 16 #[.slice ao n cap] w fun e w' => (∃ z : Int, e = .returned (.int .i64 z)) ∧ w' = w := by
  obtain ⟨h1, h2, h3, h4, h5⟩ := h
  rcases h5 with rfl | ⟨b, off, rfl, hc⟩
  · exact lw_nil ao cap w
  · exact lw_core b off cap l n w h1 hc
/-- an ask -/
structure Ak where
  b : Int
  t : Int
  s : Sl
  es : List En
  i : Int
  tt : Int
  s2 : Sl
  es2 : List En
  k : Int
abbrev Ak.L (a : Ak) : Lo := ⟨a.b, a.t, a.es⟩
def Ak.v (a : Ak) : Value := .agg #[.int .i64 a.b, .int .i64 a.t, .slice a.s.a a.s.n a.s.c, .int .i64 a.i, .int .i64 a.tt, .slice a.s2.a a.s2.n a.s2.c, .int .i64 a.k]
/-- its lists in memory -/
def AkL (w : World) (a : Ak) : Prop := Es w a.s.a a.s.n a.s.c a.es ∧ Es w a.s2.a a.s2.n a.s2.c a.es2
theorem AkL.below {w w' : World} {a : Ak} (h : AkL w a) (hb : Below w.heap.size w w') : AkL w' a := ⟨h.1.below hb, h.2.below hb⟩
/-- an ask in memory -/
def AkIs (w : World) (g o : Nat) (a : Ak) : Prop := (w.cell? ⟨g, o, none⟩ = some (.int .i64 a.b) ∧ w.cell? ⟨g, o + 1, none⟩ = some (.int .i64 a.t) ∧ w.cell? ⟨g, o + 2, none⟩ = some (.slice a.s.a a.s.n a.s.c) ∧ w.cell? ⟨g, o + 3, none⟩ = some (.int .i64 a.i) ∧ w.cell? ⟨g, o + 4, none⟩ = some (.int .i64 a.tt) ∧ w.cell? ⟨g, o + 5, none⟩ = some (.slice a.s2.a a.s2.n a.s2.c) ∧ w.cell? ⟨g, o + 6, none⟩ = some (.int .i64 a.k)) ∧ AkL w a
theorem AkIs.below {w w' : World} {g o : Nat} {a : Ak} (h : AkIs w g o a) (hb : Below w.heap.size w w') : AkIs w' g o a := by
  obtain ⟨⟨h0, h1, h2, h3, h4, h5, h6⟩, hl⟩ := h
  have hlt := cell_lt h0
  exact ⟨⟨(hb.cell (p := ⟨g, o, none⟩) hlt).trans h0, (hb.cell (p := ⟨g, o + 1, none⟩) hlt).trans h1, (hb.cell (p := ⟨g, o + 2, none⟩) hlt).trans h2, (hb.cell (p := ⟨g, o + 3, none⟩) hlt).trans h3, (hb.cell (p := ⟨g, o + 4, none⟩) hlt).trans h4, (hb.cell (p := ⟨g, o + 5, none⟩) hlt).trans h5, (hb.cell (p := ⟨g, o + 6, none⟩) hlt).trans h6⟩, hl.below hb⟩
def AksIn (w : World) (g off : Nat) (f : Nat → Ak) (len : Nat) : Prop := ∀ k, k < len → AkIs w g (off + k * 7) (f k)
/-- what passes 'heavy' is short -/
def HvR (n1 n2 : Nat) (e : Ending) : Prop := ∃ d, e = .returned (.bool d) ∧ (d = false → n1 ≤ 600 ∧ n2 ≤ 600)
end Go.Proofs.YtmmhdhpocjnlbaaGreatDoor.Et
