/- Proved here: what is asked, in memory (AskIs), for the statements of layer 8; contracts of Drop and Put by whether a list may be. Helpers. -/
import Derived.Test.YtknbgnoahfeigaaGreatDoorZMLawW
import Derived.Test.YtknbgnoahfeigaaGreatDoorZMList
namespace Go.Proofs.YtknbgnoahfeigaaGreatDoor.M
open Go.RowKit
set_option maxRecDepth 100000

/-- what is asked lies there -/
def AskIs (w : World) (b off : Nat) (a : Ak) : Prop := ∃ lo lc mo mc, (w.cell? ⟨b, off, none⟩ = some (.slice lo a.l.length lc) ∧ w.cell? ⟨b, off + 1, none⟩ = some (.string a.m.topic) ∧ w.cell? ⟨b, off + 2, none⟩ = some (.string a.m.payload) ∧ w.cell? ⟨b, off + 3, none⟩ = some (.int .i64 a.m.qos) ∧ w.cell? ⟨b, off + 4, none⟩ = some (.bool a.m.ret) ∧ w.cell? ⟨b, off + 5, none⟩ = some (.string a.m.frm) ∧ w.cell? ⟨b, off + 6, none⟩ = some (.int .i64 a.m.untl) ∧ w.cell? ⟨b, off + 7, none⟩ = some (.slice mo a.m.props.length mc) ∧ w.cell? ⟨b, off + 8, none⟩ = some (.string a.f) ∧ w.cell? ⟨b, off + 9, none⟩ = some (.int .i64 a.now)) ∧ Mgs w (.slice lo a.l.length lc) a.l ∧ Pok w mo mc a.m.props ∧ TopOk a.l ∧ a.m.topic.size ≤ 140737488351232 ∧ a.f.size ≤ 140737488351232 ∧ a.l.length ≤ 140737488351232
theorem AskIs.below {w w' : World} {b off : Nat} {a : Ak} (h : AskIs w b off a) (hb : Below w.heap.size w w') : AskIs w' b off a := by
  obtain ⟨lo, lc, mo, mc, ⟨h0, h1, h2, h3, h4, h5, h6, h7, h8, h9⟩, hl, hp, rest⟩ := h
  have hl' : b < w.heap.size := cell_lt h0
  exact ⟨lo, lc, mo, mc, ⟨(hb.cell hl').trans h0, (hb.cell hl').trans h1, (hb.cell hl').trans h2, (hb.cell hl').trans h3, (hb.cell hl').trans h4, (hb.cell hl').trans h5, (hb.cell hl').trans h6, (hb.cell hl').trans h7, (hb.cell hl').trans h8, (hb.cell hl').trans h9⟩, hl.below hb, hp.below hb, rest⟩
abbrev ak0 : Ak := ⟨[], mg0, ⟨#[]⟩, 0⟩
def AsksIn (w : World) (b off : Nat) (aks : Nat → Ak) (len : Nat) : Prop := ∀ k, k < len → AskIs w b (off + k * 10) (aks k)
theorem drop_yes (v : Value) (l : List Mg) (now : Int) (w : World) (hm : mayL l) (hmx : l.length ≤ 1000000000) (ht : TopOk l) (h : Mgs w v l) : Calls Tryz.prog 15 #[v, .int .i64 now] w fun e w' => ∃ v' qs, e = .returned (.tuple #[v', .nilIface]) ∧ Hid (OwnMs w' w.heap.size v' qs ∧ qs.map (·.1) = l.filter (liv now)) ∧ Below w.heap.size w w' := by
  refine (drop_any v l now w hmx ht h).mono ?_
  rintro e w' ⟨⟨_, v', qs, rfl, HO⟩ | ⟨hn, _⟩, hb⟩
  · exact ⟨v', qs, rfl, HO, hb⟩
  · exact absurd hm hn
theorem drop_no (v : Value) (l : List Mg) (now : Int) (w : World) (hm : ¬ mayL l) (hmx : l.length ≤ 1000000000) (ht : TopOk l) (h : Mgs w v l) : Calls Tryz.prog 15 #[v, .int .i64 now] w fun e w' => ∃ x, e = .returned (.tuple #[.slice none 0 0, .iface 76 x]) ∧ Hid (Era w' (.iface 76 x) 1) ∧ Below w.heap.size w w' := by
  refine (drop_any v l now w hmx ht h).mono ?_
  rintro e w' ⟨⟨hy, _⟩ | ⟨_, x, rfl, hx⟩, hb⟩
  · exact absurd hy hm
  · exact ⟨x, rfl, hx, hb⟩
theorem rmsgs_is (v : Value) (l : List Mg) (r : Bool) (w : World) (hr : r = true ↔ mayL l) (hmx : l.length ≤ 1000000000) (ht : TopOk l) (h : Mgs w v l) : Calls Tryz.prog 6 #[v] w fun e w' => e = .returned (.bool r) ∧ Below w.heap.size w w' := by
  refine (rmsgs_any v l w hmx ht h).mono ?_
  rintro e w' ⟨⟨r', rfl, hr'⟩, hb⟩
  have : r' = r := by
    rw [Bool.eq_iff_iff]
    exact (unhide hr').trans hr.symm
  subst this
  exact ⟨rfl, hb⟩
/-- Put's answer at a list that may be: the number, and the list -/
def putA (l : List Mg) (m : Mg) (k : Nat) : List Mg := if putN l m k = 0 then putL l m k else []
theorem put_yes (v : Value) (l : List Mg) (m : Mg) (mo : Option Addr) (mc : Nat) (k : Nat) (w : World) (hm : mayL l) (hk : At l m.topic k) (hmx : l.length ≤ 1000000) (ht : TopOk l) (h : Mgs w v l) (hp : Pok w mo mc m.props) (hts : m.topic.size ≤ 140737488351232) :
    Calls Tryz.prog 12 #[v, mval m (.slice mo m.props.length mc)] w fun e w' => ∃ v' E qs, e = .returned (.tuple #[v', E]) ∧ Hid (ErrX w' E (putN l m k)) ∧ Hid (OwnMs w' w.heap.size v' qs ∧ qs.map (·.1) = putA l m k) ∧ Below w.heap.size w w' := by
  refine (put_any v l m mo mc w hmx ht h hp hts).mono ?_
  rintro e w' ⟨⟨hn, _⟩ | ⟨_, hn, x, rfl, hx⟩ | ⟨_, hn, k', HAT, ⟨h0, v', qs, rfl, HO⟩ | ⟨h9, x, rfl, hx⟩⟩, hb⟩
  · exact absurd hm hn
  · have e5 : putN l m k = 5 := by unfold putN; rw [if_neg (by rw [hn]; simp)]
    exact ⟨_, _, [], rfl, (by rw [e5]; exact .inr (unhide hx)), ⟨OwnMs.nil _ _, by unfold putA; rw [e5]; rfl⟩, hb⟩
  · obtain rfl := (unhide HAT).uniq hk
    exact ⟨v', _, qs, rfl, .inl ⟨h0, rfl⟩, ⟨(unhide HO).1, by unfold putA; rw [if_pos h0]; exact (unhide HO).2⟩, hb⟩
  · obtain rfl := (unhide HAT).uniq hk
    exact ⟨_, _, [], rfl, (by rw [h9]; exact .inr (unhide hx)), ⟨OwnMs.nil _ _, by unfold putA; rw [h9]; rfl⟩, hb⟩
theorem put_no (v : Value) (l : List Mg) (m : Mg) (mo : Option Addr) (mc : Nat) (w : World) (hm : ¬ mayL l) (hmx : l.length ≤ 1000000) (ht : TopOk l) (h : Mgs w v l) (hp : Pok w mo mc m.props) (hts : m.topic.size ≤ 140737488351232) :
    Calls Tryz.prog 12 #[v, mval m (.slice mo m.props.length mc)] w fun e w' => ∃ x, e = .returned (.tuple #[.slice none 0 0, .iface 76 x]) ∧ Hid (Era w' (.iface 76 x) 1) ∧ Below w.heap.size w w' := by
  refine (put_any v l m mo mc w hmx ht h hp hts).mono ?_
  rintro e w' ⟨⟨_, x, rfl, hx⟩ | ⟨hy, _⟩ | ⟨hy, _⟩, hb⟩
  · exact ⟨x, rfl, hx, hb⟩
  · exact absurd hy hm
  · exact absurd hy hm
/-- there is a place for each topic -/
theorem at_ex {l : List Mg} (hm : mayL l) (t : ByteArray) : ∃ k, At l t k := by
  have : ∀ n, n ≤ l.length → (∃ k, At l t k) ∨ (∀ j, j < n → cmpB (l.getD j mg0).topic t < 0) := by
    intro n
    induction n with
    | zero => intro _; exact .inr fun j hj => absurd hj (Nat.not_lt_zero j)
    | succ n ih =>
      intro hn
      rcases ih (by omega) with h | h
      · exact .inl h
      · by_cases hc : cmpB (l.getD n mg0).topic t < 0
        · right
          intro j hj
          rcases Nat.lt_succ_iff_lt_or_eq.1 hj with h2 | h2
          · exact h j h2
          · rw [h2]; exact hc
        · left
          exact ⟨n, by omega, h, fun j h1 h2 => Int.not_lt.1 fun h3 => hc (may_mono hm t n j h1 h2 h3)⟩
  rcases this l.length (Nat.le_refl _) with h | h
  · exact h
  · exact ⟨l.length, Nat.le_refl _, h, fun j h1 h2 => absurd h2 (by omega)⟩
theorem putA_len (l : List Mg) (m : Mg) (k : Nat) : (putA l m k).length ≤ l.length + 1 := by
  unfold putA
  split
  · unfold putL
    have h2 : (wrt m).length ≤ 1 := by unfold wrt; split <;> simp
    split
    · simp only [List.length_append, List.length_take, List.length_drop]; omega
    · simp only [List.length_append, List.length_take, List.length_drop]; omega
  · simp
end Go.Proofs.YtknbgnoahfeigaaGreatDoor.M
