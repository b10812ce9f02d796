/- Proved here: what a readable argument of the statements of layer 13 is in memory. Helpers. -/
import Derived.Test.YthnhbocifbhoaaaRows
import Derived.Test.YthnhbocifbhoaaaZRLaw
import Derived.ProofKit
import Derived.SizedLaws
import Derived.Deep.SlicePairs
import Derived.ChangeSame
import Derived.RowKit
import Derived.RowKitTokens
import Derived.Stop.Joined
namespace Go.Proofs.Ythnhbocifbhoaaa.R
open Go.ChangeShapes Go.WideShapes Go.ChangeAt Go.RowKit Go.Deep
set_option maxRecDepth 100000

theorem own13 : ownKnob Try.prog.godebug = none := by kernel_rfl
theorem laidOut13 : laidOutB Try.prog = true := by kernel_rfl
theorem cellsAsk : Try.prog.cellsOf 27 = 2 := by kernel_rfl
theorem cellsInt : Try.prog.cellsOf 3 = 1 := by kernel_rfl
theorem cellsU64 : Try.prog.cellsOf 23 = 1 := by kernel_rfl
/-- what a readable argument of layer 13's statements is -/
def AsksAt (W : World) (v : Value) : Prop :=
  ∃ ao len cap, v = .slice ao len cap ∧ len ≤ maxLen ∧ (len = 0 ∨ ∃ b off, ao = some ⟨b, off, none⟩ ∧ ∃ aks : Nat → Ak, AsksIn W b off aks len)
theorem asks_open {H : Type} {enc : TypeId × Value → H} {W : World} {v : Value} {d : DataW H} {ps : List MemPlace} (h : DataW.Trod enc Try.prog W 0 (fun _ => true) true 22 v d ps) (hs : ∃ ao len cap, v = .slice ao len cap) : AsksAt W v := by
  obtain ⟨ao, len, cap, rfl⟩ := hs
  obtain ⟨fuel, hf⟩ := h
  refine ⟨ao, len, cap, rfl, ?_⟩
  rcases open_slice Try.underlying22 hf with ⟨hcs, hx⟩ | ⟨a, len', cap', m, n, D, Pl, hcs, _, hl, hm, hmm, hx, hel⟩
  · simp [Value.cells] at hcs
    obtain ⟨rfl, rfl, rfl⟩ := hcs
    exact ⟨by simp, .inl rfl⟩
  · simp [Value.cells] at hcs
    obtain ⟨rfl, rfl, rfl⟩ := hcs
    refine ⟨by omega, ?_⟩
    simp only [if_true] at hmm
    subst hmm
    by_cases h0 : len = 0
    · exact .inl h0
    right
    rw [cellsAsk] at hel
    obtain ⟨b, off, spot⟩ := a
    have hspot : spot = none := by
      obtain ⟨cs', h1, _⟩ := hel 0 (by omega)
      obtain ⟨_, hlen, hcell⟩ := World.cells?_some h1
      have hc := hcell 0 (by omega)
      rw [List.getElem?_eq_getElem (by omega)] at hc
      simpa [Addr.add] using World.cell?_spot hc
    subst hspot
    have key : ∀ i, i < len → ∃ x : Ak, AkIs W b (off + i * 2) x := by
      intro i hi
      obtain ⟨cs', h1, h2⟩ := hel i (by omega)
      obtain ⟨_, hlen, hcell⟩ := World.cells?_some h1
      obtain ⟨xs, k, hk, hxy, _, hxl, hfl⟩ := DataW.trod_struct Try.underlying27 h2
      match xs, hxl, cs', hlen with
      | [y0, y1], _, [v0, v1], _ =>
        have g0 := hfl 0 _ rfl
        have g1 := hfl 1 _ rfl
        simp [cellsInt, cellsU64] at g0 g1
        obtain ⟨z0, hz0, hy0, hw0⟩ := DataW.trod_int Try.underlying23 g0
        obtain ⟨z1, hz1, hy1, hw1⟩ := DataW.trod_int Try.underlying3 g1
        simp at hz0 hz1
        subst hz0 hz1
        have a1 : IntKind.u64.min = 0 := rfl
        have a2 : IntKind.u64.max = 18446744073709551615 := rfl
        have a3 : IntKind.i64.min = -9223372036854775808 := rfl
        have a4 : IntKind.i64.max = 9223372036854775807 := rfl
        simp only [Lit.wf, Bool.and_eq_true, decide_eq_true_eq] at hw0 hw1
        have e0 := hcell 0 (by omega)
        have e1 := hcell 1 (by omega)
        rw [add_add, add_plain] at e0 e1
        have ez : ((z0.toNat : Nat) : Int) = z0 := Int.toNat_of_nonneg (by omega)
        exact ⟨⟨z0.toNat, z1⟩, by rw [ez]; simpa using e0, by simpa [Nat.add_assoc] using e1, by show z0.toNat < 2 ^ 64; omega, by show z1 < _; omega, by show _ ≤ z1; omega⟩
    obtain ⟨f, hf'⟩ := choose_lt key
    exact ⟨b, off, rfl, f, fun k hk => hf' k hk⟩
end Go.Proofs.Ythnhbocifbhoaaa.R
