/- Proved here: entries.fault and Check; dovecotelaw15.num: errors and their numbers. Helper contracts. -/
import Derived.Test.YtmmhdhpocjnlbaaGreatDoorM2
import Derived.Test.YtmmhdhpocjnlbaaGreatDoorZKEr2
namespace Go.Proofs.YtmmhdhpocjnlbaaGreatDoor.Et
open Go.RowKit Nt
set_option maxRecDepth 100000

/-- an error that the package tells: a Fault around a number, at B or behind -/
def ErB (w : World) (B : Nat) (E : Value) (n : Int) : Prop := ∃ g, B ≤ g ∧ E = .iface 64 (.pointer (some ⟨g, 0, none⟩)) ∧ w.cell? ⟨g, 1, none⟩ = some (.iface 61 (.int .i64 n))
theorem ErB.below {w w' : World} {B : Nat} {E : Value} {n : Int} (h : ErB w B E n) (hb : Below w.heap.size w w') : ErB w' B E n := by
  obtain ⟨g, h1, h2, h3⟩ := h
  exact ⟨g, h1, h2, (hb.cell (cell_lt h3)).trans h3⟩
theorem ErB.mono {w : World} {B B' : Nat} {E : Value} {n : Int} (h : ErB w B E n) (hb : B' ≤ B) : ErB w B' E n := by
  obtain ⟨g, h1, h2⟩ := h
  exact ⟨g, by omega, h2⟩
theorem ErB.put3 {w : World} {B R : Nat} {E : Value} {n : Int} {x y z : Value} (h : ErB w B E n) (hR : R < B) : ErB (put3 w R x y z) B E n := by
  obtain ⟨g, h1, h2, h3⟩ := h
  exact ⟨g, h1, h2, (put3_fr w R x y z).cell (by omega) h3⟩
/-- an error, or none -/
def ErrB (w : World) (B : Nat) (E : Value) (n : Int) : Prop := (n = 0 ∧ E = .nilIface) ∨ ErB w B E n
theorem ErrB.below {w w' : World} {B : Nat} {E : Value} {n : Int} (h : ErrB w B E n) (hb : Below w.heap.size w w') : ErrB w' B E n := h.imp id (·.below hb)
theorem ErrB.mono {w : World} {B B' : Nat} {E : Value} {n : Int} (h : ErrB w B E n) (hb : B' ≤ B) : ErrB w B' E n := h.imp id (·.mono hb)
theorem ErrB.put3 {w : World} {B R : Nat} {E : Value} {n : Int} {x y z : Value} (h : ErrB w B E n) (hR : R < B) : ErrB (put3 w R x y z) B E n := h.imp id (·.put3 hR)
theorem ErB.errX {w : World} {B : Nat} {E : Value} {n : Int} (h : ErB w B E n) : ErrX w E n := by
  obtain ⟨g, _, h2, h3⟩ := h
  exact .inr ⟨1, by omega, g, _, h2, h3, rfl⟩
theorem ErrB.errX {w : World} {B : Nat} {E : Value} {n : Int} (h : ErrB w B E n) : ErrX w E n := by
  rcases h with h | h
  · exact .inl h
  · exact h.errX
set_option maxHeartbeats 1000000 in
theorem fault_any (t : TypeId) (x : Value) (w : World) : Calls Tryz.prog 63 #[.iface t x] w fun e w' => e = .returned (.iface 64 (.pointer (some ⟨w.heap.size, 0, none⟩))) ∧ w' = w.alloc (.cells #[.string ⟨#[101, 110, 116, 114, 105, 101, 115]⟩, .iface t x] 66) := by
  go_enter Tryz.func63, Tryz.ntmps63
  go_wp2
  go_ret
  exact ⟨rfl, rfl⟩
theorem fault_n (n : Int) (w : World) : Calls Tryz.prog 63 #[.iface 61 (.int .i64 n)] w fun e w' => ∃ x, e = .returned (.iface 64 x) ∧ Hid (ErB w' w.heap.size (.iface 64 x) n) ∧ Hid (Below w.heap.size w w') := by
  refine (fault_any _ _ w).mono ?_
  rintro e w' ⟨rfl, rfl⟩
  exact ⟨_, rfl, ⟨_, Nat.le_refl _, rfl, by simp⟩, (Below.refl _ _).alloc (Nat.le_refl _) _⟩
set_option maxHeartbeats 1000000 in
theorem check_ok (b t : Int) (ao : Option Addr) (n cap : Nat) (l : List En) (w : World) (h : Es w ao n cap l) (hm : May ⟨b, t, l⟩) :
    Calls Tryz.prog 60 #[.agg #[.int .i64 b, .int .i64 t, .slice ao n cap]] w fun e w' => e = .returned .nilIface ∧ Below w.heap.size w w' := by
  have HB0 : Hid (Below w.heap.size w (w.alloc (.cells #[.int .i64 b, .int .i64 t, .slice ao n cap] 85))) := (Below.refl _ _).alloc (Nat.le_refl _) _
  have HE := hide (h.below (unhide HB0))
  have HM := hide (decide_eq_true hm)
  clear h hm
  go_enter Tryz.func60, Tryz.ntmps60
  go_wp2_with fail
  refine (isLog_any b t ao n cap l _ (unhide HE)).mono ?_
  rintro e w2 ⟨rfl, hb⟩
  rw [unhide HM]
  have HB : Hid (Below w.heap.size w w2) := bnx (unhide HB0) hb
  clear hb
  go_wp2
  go_ret
  exact ⟨rfl, unhide HB⟩
set_option maxHeartbeats 1000000 in
theorem check_bad (b t : Int) (ao : Option Addr) (n cap : Nat) (l : List En) (w : World) (h : Es w ao n cap l) (hm : ¬ May ⟨b, t, l⟩) :
    Calls Tryz.prog 60 #[.agg #[.int .i64 b, .int .i64 t, .slice ao n cap]] w fun e w' => ∃ x, e = .returned (.iface 64 x) ∧ Hid (ErB w' w.heap.size (.iface 64 x) 1) ∧ Hid (Below w.heap.size w w') := by
  have HB0 : Hid (Below w.heap.size w (w.alloc (.cells #[.int .i64 b, .int .i64 t, .slice ao n cap] 85))) := (Below.refl _ _).alloc (Nat.le_refl _) _
  have HE := hide (h.below (unhide HB0))
  have HM := hide (decide_eq_false hm)
  clear h hm
  go_enter Tryz.func60, Tryz.ntmps60
  go_wp2_with fail
  refine (isLog_any b t ao n cap l _ (unhide HE)).mono ?_
  rintro e w2 ⟨rfl, hb⟩
  rw [unhide HM]
  have HB : Hid (Below w.heap.size w w2) := bnx (unhide HB0) hb
  clear hb
  go_wp2_with fail
  refine (fault_n 1 w2).mono ?_
  rintro e w3 ⟨x, rfl, HER, HB2⟩
  go_wp2
  go_ret
  exact ⟨_, rfl, (unhide HER).mono (unhide HB).size, bnx (unhide HB) (unhide HB2)⟩
theorem check_any (b t : Int) (ao : Option Addr) (n cap : Nat) (l : List En) (w : World) (h : Es w ao n cap l) :
    Calls Tryz.prog 60 #[.agg #[.int .i64 b, .int .i64 t, .slice ao n cap]] w fun e w' => ∃ E, e = .returned E ∧ Hid (ErrX w' E (if May ⟨b, t, l⟩ then 0 else 1)) ∧ Hid (Below w.heap.size w w') := by
  by_cases hm : May ⟨b, t, l⟩
  · rw [if_pos hm]
    refine (check_ok b t ao n cap l w h hm).mono ?_
    rintro e w' ⟨rfl, hb⟩
    exact ⟨_, rfl, .inl ⟨rfl, rfl⟩, hb⟩
  · rw [if_neg hm]
    refine (check_bad b t ao n cap l w h hm).mono ?_
    rintro e w' ⟨x, rfl, HE, HB⟩
    exact ⟨_, rfl, (unhide HE).errX, HB⟩
end Go.Proofs.YtmmhdhpocjnlbaaGreatDoor.Et
