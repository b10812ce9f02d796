/- Proved here: what is asked, in memory (AskIs), for the statements of layer 8; contracts of Drop and Put by whether a list may be. Helpers. -/
import Derived.Test.YtknbgnoahfeigaaDoorZMLawW
import Derived.Test.YtknbgnoahfeigaaDoorZMList
namespace Go.Proofs.YtknbgnoahfeigaaDoor.M
open Go.RowKit
set_option maxRecDepth 100000

/-- what is asked lies there -/
def AskIs (w : World) (b off : Nat) (a : Ak) : Prop := ∃ lo lc mo mc, (w.cell? ⟨b, off, none⟩ = some (.slice lo a.l.length lc) ∧ w.cell? ⟨b, off + 1, none⟩ = some (.string a.m.topic) ∧ w.cell? ⟨b, off + 2, none⟩ = some (.string a.m.payload) ∧ w.cell? ⟨b, off + 3, none⟩ = some (.int .i64 a.m.qos) ∧ w.cell? ⟨b, off + 4, none⟩ = some (.bool a.m.ret) ∧ w.cell? ⟨b, off + 5, none⟩ = some (.string a.m.frm) ∧ w.cell? ⟨b, off + 6, none⟩ = some (.int .i64 a.m.untl) ∧ w.cell? ⟨b, off + 7, none⟩ = some (.slice mo a.m.props.length mc) ∧ w.cell? ⟨b, off + 8, none⟩ = some (.string a.f) ∧ w.cell? ⟨b, off + 9, none⟩ = some (.int .i64 a.now)) ∧ Mgs w (.slice lo a.l.length lc) a.l ∧ Pok w mo mc a.m.props ∧ TopOk a.l ∧ a.m.topic.size ≤ 140737488351232 ∧ a.f.size ≤ 140737488351232 ∧ a.l.length ≤ 140737488351232
theorem AskIs.below {w w' : World} {b off : Nat} {a : Ak} (h : AskIs w b off a) (hb : Below w.heap.size w w') : AskIs w' b off a := by
  obtain ⟨lo, lc, mo, mc, ⟨h0, h1, h2, h3, h4, h5, h6, h7, h8, h9⟩, hl, hp, rest⟩ := h
  have hl' : b < w.heap.size := cell_lt h0
  exact ⟨lo, lc, mo, mc, ⟨(hb.cell hl').trans h0, (hb.cell hl').trans h1, (hb.cell hl').trans h2, (hb.cell hl').trans h3, (hb.cell hl').trans h4, (hb.cell hl').trans h5, (hb.cell hl').trans h6, (hb.cell hl').trans h7, (hb.cell hl').trans h8, (hb.cell hl').trans h9⟩, hl.below hb, hp.below hb, rest⟩
abbrev ak0 : Ak := ⟨[], mg0, ⟨#[]⟩, 0⟩
def AsksIn (w : World) (b off : Nat) (aks : Nat → Ak) (len : Nat) : Prop := ∀ k, k < len → AskIs w b (off + k * 10) (aks k)
theorem drop_yes (v : Value) (l : List Mg) (now : Int) (w : World) (hm : mayL l) (hmx : l.length ≤ 1000000000) (ht : TopOk l) (h : Mgs w v l) : Calls Tryd.prog 12 #[v, .int .i64 now] w fun e w' => ∃ v' qs, e = .returned (.tuple #[v', .nilIface]) ∧ Hid (OwnMs w' w.heap.size v' qs ∧ qs.map (·.1) = l.filter (liv now)) ∧ Below w.heap.size w w' := by
  refine (drop_any v l now w hmx ht h).mono ?_
  rintro e w' ⟨⟨_, v', qs, rfl, HO⟩ | ⟨hn, _⟩, hb⟩
  · exact ⟨v', qs, rfl, HO, hb⟩
  · exact absurd hm hn
theorem drop_no (v : Value) (l : List Mg) (now : Int) (w : World) (hm : ¬ mayL l) (hmx : l.length ≤ 1000000000) (ht : TopOk l) (h : Mgs w v l) : Calls Tryd.prog 12 #[v, .int .i64 now] w fun e w' => ∃ x, e = .returned (.tuple #[.slice none 0 0, .iface 61 x]) ∧ Hid (Era w' (.iface 61 x) 1) ∧ Below w.heap.size w w' := by
  refine (drop_any v l now w hmx ht h).mono ?_
  rintro e w' ⟨⟨hy, _⟩ | ⟨_, x, rfl, hx⟩, hb⟩
  · exact absurd hy hm
  · exact ⟨x, rfl, hx, hb⟩
theorem rmsgs_is (v : Value) (l : List Mg) (r : Bool) (w : World) (hr : r = true ↔ mayL l) (hmx : l.length ≤ 1000000000) (ht : TopOk l) (h : Mgs w v l) : Calls Tryd.prog 7 #[v] w fun e w' => e = .returned (.bool r) ∧ Below w.heap.size w w' := by
  refine (rmsgs_any v l w hmx ht h).mono ?_
  rintro e w' ⟨⟨r', rfl, hr'⟩, hb⟩
  have : r' = r := by
    rw [Bool.eq_iff_iff]
    exact (unhide hr').trans hr.symm
  subst this
  exact ⟨rfl, hb⟩
end Go.Proofs.YtknbgnoahfeigaaDoor.M
