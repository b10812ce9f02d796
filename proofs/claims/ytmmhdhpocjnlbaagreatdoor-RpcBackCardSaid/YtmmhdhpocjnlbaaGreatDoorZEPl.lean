/- Proved here: entries and logs as plain data: which may be, where they end, their terms, what they are with entries more, cut, in parts, compacted, merged. Helper laws. -/
import Derived.Test.YtmmhdhpocjnlbaaGreatDoorZNEn
namespace Go.Proofs.YtmmhdhpocjnlbaaGreatDoor.Et
open Go.RowKit Nt
set_option maxRecDepth 100000

/-- a log -/
structure Lo where
  b : Int
  t : Int
  es : List En
def lo0 : Lo := ⟨0, 0, []⟩
def IsTerm (n : Int) : Prop := 0 ≤ n ∧ n < 1099511627776
instance (n : Int) : Decidable (IsTerm n) := by unfold IsTerm; infer_instance
def IsBase (i t : Int) : Prop := 0 ≤ i ∧ i ≤ 1099511625728 ∧ IsTerm t
instance (i t : Int) : Decidable (IsBase i t) := by unfold IsBase; infer_instance
/-- an entry that may be -/
def OkE (e : En) : Prop := 1 ≤ e.1 ∧ e.1 ≤ 1099511627776 ∧ IsTerm e.2.1 ∧ 0 ≤ e.2.2.1 ∧ e.2.2.1 ≤ 2 ∧ e.2.2.2.size ≤ 4096
instance (e : En) : Decidable (OkE e) := by unfold OkE; infer_instance
/-- the term ahead of place k -/
def tmB (t : Int) (l : List En) : Nat → Int
  | 0 => t
  | k + 1 => (en0 l k).2.1
def GoAt (i t : Int) (l : List En) (k : Nat) : Prop := (en0 l k).1 = i + 1 + (k : Nat) ∧ tmB t l k ≤ (en0 l k).2.1 ∧ OkE (en0 l k)
instance (i t : Int) (l : List En) (k : Nat) : Decidable (GoAt i t l k) := by unfold GoAt; infer_instance
/-- entries that go on behind an index and a term -/
def GoOn (i t : Int) (l : List En) : Prop := ∀ k, k < l.length → GoAt i t l k
instance (i t : Int) (l : List En) : Decidable (GoOn i t l) := by unfold GoOn; infer_instance
/-- a log that may be -/
def May (L : Lo) : Prop := IsBase L.b L.t ∧ L.es.length ≤ 512 ∧ GoOn L.b L.t L.es
instance (L : Lo) : Decidable (May L) := by unfold May; infer_instance
def lastI (L : Lo) : Int := L.b + (L.es.length : Nat)
def lastT (L : Lo) : Int := tmB L.t L.es L.es.length
def termAt (L : Lo) (i : Int) : Option Int := if i < L.b ∨ lastI L < i then none else some (tmB L.t L.es (i - L.b).toNat)
/-- what a call tells: a number, and a log -/
def apR (L : Lo) (es : List En) : Int × Lo := if GoOn (lastI L) (lastT L) es then (if 512 < L.es.length + es.length then (9, lo0) else (0, ⟨L.b, L.t, L.es ++ es⟩)) else (1, lo0)
def cutL (L : Lo) (i : Int) : Lo := ⟨L.b, L.t, L.es.take (i - L.b).toNat⟩
def cutR (L : Lo) (i : Int) : Int × Lo := if L.b ≤ i ∧ i ≤ lastI L then (0, cutL L i) else (1, lo0)
def partL (L : Lo) (i n : Int) : List En := (L.es.drop (i - L.b - 1).toNat).take n.toNat
def partR (L : Lo) (i n : Int) : Int × List En := if L.b < i ∧ i ≤ lastI L + 1 then (if n < 0 then (1, []) else (0, partL L i n)) else (8, [])
def comL (L : Lo) (i : Int) : Lo := ⟨i, tmB L.t L.es (i - L.b).toNat, L.es.drop (i - L.b).toNat⟩
def comR (L : Lo) (i : Int) : Int × Lo := if L.b < i ∧ i ≤ lastI L ∧ i ≤ 1099511625728 then (0, comL L i) else (1, lo0)
def newB (L : Lo) (i t : Int) : Bool := decide (lastT L < t) || (decide (t = lastT L) && decide (lastI L ≤ i))
def chkR (L : Lo) (r : Int × Lo) : Int × Lo := if May L then r else (1, lo0)

theorem en0_get (l : List En) (k : Nat) (h : k < l.length) : en0 l k = l[k] := by
  unfold en0; rw [List.getD_eq_getElem?_getD, List.getElem?_eq_getElem h]; rfl
theorem en0_app1 (l m : List En) (k : Nat) (h : k < l.length) : en0 (l ++ m) k = en0 l k := by
  unfold en0; rw [List.getD_eq_getElem?_getD, List.getD_eq_getElem?_getD, List.getElem?_append_left h]
theorem en0_app2 (l m : List En) (k : Nat) : en0 (l ++ m) (l.length + k) = en0 m k := by
  unfold en0; rw [List.getD_eq_getElem?_getD, List.getD_eq_getElem?_getD, List.getElem?_append_right (by omega), Nat.add_sub_cancel_left]
theorem en0_take (l : List En) (n k : Nat) (h : k < n) : en0 (l.take n) k = en0 l k := by
  unfold en0; rw [List.getD_eq_getElem?_getD, List.getD_eq_getElem?_getD, List.getElem?_take_of_lt h]
theorem en0_drop (l : List En) (n k : Nat) : en0 (l.drop n) k = en0 l (n + k) := by
  unfold en0; rw [List.getD_eq_getElem?_getD, List.getD_eq_getElem?_getD, List.getElem?_drop]
theorem tmB_app1 (t : Int) (l m : List En) (k : Nat) (h : k ≤ l.length) : tmB t (l ++ m) k = tmB t l k := by
  cases k with
  | zero => rfl
  | succ k => show (en0 _ _).2.1 = _; rw [en0_app1 _ _ _ (by omega)]; rfl
theorem tmB_app2 (t : Int) (l m : List En) (k : Nat) : tmB t (l ++ m) (l.length + k) = tmB (tmB t l l.length) m k := by
  cases k with
  | zero => rw [Nat.add_zero, tmB_app1 _ _ _ _ (Nat.le_refl _)]; rfl
  | succ k => show (en0 (l ++ m) (l.length + k)).2.1 = _; rw [en0_app2]; rfl
theorem tmB_take (t : Int) (l : List En) (n k : Nat) (h : k ≤ n) : tmB t (l.take n) k = tmB t l k := by
  cases k with
  | zero => rfl
  | succ k => show (en0 _ _).2.1 = _; rw [en0_take _ _ _ (by omega)]; rfl
theorem tmB_drop (t : Int) (l : List En) (n k : Nat) : tmB (tmB t l n) (l.drop n) k = tmB t l (n + k) := by
  cases k with
  | zero => rfl
  | succ k => show (en0 (l.drop n) k).2.1 = (en0 l (n + k)).2.1; rw [en0_drop]
theorem goOn_nil (i t : Int) : GoOn i t [] := fun k hk => absurd hk (Nat.not_lt_zero k)
theorem goOn_app (i t : Int) (l m : List En) : GoOn i t (l ++ m) ↔ GoOn i t l ∧ GoOn (i + (l.length : Nat)) (tmB t l l.length) m := by
  constructor
  · intro h
    refine ⟨fun k hk => ?_, fun k hk => ?_⟩
    · have := h k (by rw [List.length_append]; omega)
      unfold GoAt at this ⊢
      rw [en0_app1 _ _ _ hk, tmB_app1 _ _ _ _ (Nat.le_of_lt hk)] at this
      exact this
    · have := h (l.length + k) (by rw [List.length_append]; omega)
      unfold GoAt at this ⊢
      rw [en0_app2, tmB_app2] at this
      exact ⟨by rw [this.1]; omega, this.2⟩
  · rintro ⟨h1, h2⟩ k hk
    rw [List.length_append] at hk
    by_cases hl : k < l.length
    · have := h1 k hl
      unfold GoAt at this ⊢
      rw [en0_app1 _ _ _ hl, tmB_app1 _ _ _ _ (Nat.le_of_lt hl)]
      exact this
    · obtain ⟨j, rfl⟩ : ∃ j, k = l.length + j := ⟨k - l.length, by omega⟩
      have := h2 j (by omega)
      unfold GoAt at this ⊢
      rw [en0_app2, tmB_app2]
      exact ⟨by rw [this.1]; omega, this.2⟩
theorem goOn_take {i t : Int} {l : List En} (h : GoOn i t l) (n : Nat) : GoOn i t (l.take n) := by
  have := (goOn_app i t (l.take n) (l.drop n)).1 (by rw [List.take_append_drop]; exact h)
  exact this.1
theorem goOn_drop {i t : Int} {l : List En} (h : GoOn i t l) (n : Nat) (hn : n ≤ l.length) : GoOn (i + (n : Nat)) (tmB t l n) (l.drop n) := by
  have := (goOn_app i t (l.take n) (l.drop n)).1 (by rw [List.take_append_drop]; exact h)
  have e : (l.take n).length = n := by rw [List.length_take]; omega
  rw [e, tmB_take _ _ _ _ (Nat.le_refl _)] at this
  exact this.2
/-- the terms of a log that may be are terms -/
theorem May.term {L : Lo} (h : May L) (k : Nat) (hk : k ≤ L.es.length) : IsTerm (tmB L.t L.es k) := by
  cases k with
  | zero => exact h.1.2.2
  | succ k => exact (h.2.2 k (by omega)).2.2.2.2.1
theorem May.idx {L : Lo} (h : May L) (k : Nat) (hk : k < L.es.length) : (en0 L.es k).1 = L.b + 1 + (k : Nat) := (h.2.2 k hk).1
theorem May.cut {L : Lo} (h : May L) (i : Int) : May (cutL L i) :=
  ⟨h.1, by show (L.es.take _).length ≤ 512; rw [List.length_take]; have := h.2.1; omega, goOn_take h.2.2 _⟩
theorem May.com {L : Lo} (h : May L) (i : Int) (h1 : L.b < i) (h2 : i ≤ lastI L) (h3 : i ≤ 1099511625728) : May (comL L i) := by
  have hb := h.1.1
  have hle : (i - L.b).toNat ≤ L.es.length := by unfold lastI at h2; omega
  refine ⟨⟨by show 0 ≤ i; omega, h3, h.term _ hle⟩, ?_, ?_⟩
  · show (L.es.drop _).length ≤ 512
    rw [List.length_drop]; have := h.2.1; omega
  · have := goOn_drop h.2.2 _ hle
    show GoOn i _ _
    have e : L.b + ((i - L.b).toNat : Nat) = i := by omega
    rw [e] at this
    exact this
theorem May.app {L : Lo} (h : May L) (es : List En) (hl : L.es.length + es.length ≤ 512) (hg : GoOn (lastI L) (lastT L) es) : May ⟨L.b, L.t, L.es ++ es⟩ :=
  ⟨h.1, by show (L.es ++ es).length ≤ 512; rw [List.length_append]; exact hl, (goOn_app _ _ _ _).2 ⟨h.2.2, hg⟩⟩
theorem lastI_le {L : Lo} (h : May L) : 0 ≤ lastI L ∧ lastI L ≤ 1099511626240 := by
  have h1 := h.1.1
  have h2 := h.1.2.1
  have h3 := h.2.1
  unfold lastI
  omega
end Go.Proofs.YtmmhdhpocjnlbaaGreatDoor.Et
