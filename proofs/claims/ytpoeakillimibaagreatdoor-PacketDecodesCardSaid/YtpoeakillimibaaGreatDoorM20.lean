/- Proved here: helpers, one text behind the other. -/
import Derived.Test.YtpoeakillimibaaGreatDoorM18
import Derived.Test.YtpoeakillimibaaGreatDoorZPRow
/- Proved here: prop.tell tells the bytes of properties that may stand, or an error around ErrForm. Helper contracts. -/
namespace Go.Proofs.YtpoeakillimibaaGreatDoor
open Go.RowKit
set_option maxRecDepth 100000

/-- the row of what has come so far -/
def RowAt (w : World) (R : Nat) (place : Int) (f : Nat → Bool) : Prop :=
  w.cell? ⟨R, 0, none⟩ = some (.int .i64 place) ∧ ∀ j, j ≤ 42 → w.cell? ⟨R, 1 + j, none⟩ = some (.bool (f j)) ∧ w.frozen? ⟨R, 1 + j, none⟩ = false
theorem RowAt.lt {w : World} {R : Nat} {place : Int} {f : Nat → Bool} (h : RowAt w R place f) : R < w.heap.size := cell_lt h.1
theorem RowAt.below {w w' : World} {R : Nat} {place : Int} {f : Nat → Bool} (h : RowAt w R place f) (hb : Below w.heap.size w w') : RowAt w' R place f := by
  have hl := h.lt
  exact ⟨(hb.cell (p := ⟨R, 0, none⟩) hl).trans h.1, fun j hj => ⟨(hb.cell (p := ⟨R, 1 + j, none⟩) hl).trans (h.2 j hj).1, (hb.frozen (p := ⟨R, 1 + j, none⟩) hl).trans (h.2 j hj).2⟩⟩
theorem RowAt.set {w : World} {R : Nat} {place : Int} {f : Nat → Bool} (h : RowAt w R place f) (k : Nat) (hk : k ≤ 42) : RowAt (w.setCell ⟨R, 1 + k, none⟩ (.bool true)) R place (fun j => f j || decide (k = j)) := by
  refine ⟨?_, fun j hj => ⟨?_, ?_⟩⟩
  · rw [World.cell?_setCell_other _ _ _ _ (by intro e; simp at e)]; exact h.1
  · by_cases e : k = j
    · subst e
      rw [World.cell?_setCell_same _ _ _ (h.2 k hj).1]; simp
    · rw [World.cell?_setCell_other _ _ _ _ (fun e' => e (by injection e' with _ h2; omega)), (h.2 j hj).1]; simp [e]
  · rw [World.frozen?_setCell]; exact (h.2 j hj).2
theorem RowAt.congr {w : World} {R : Nat} {place : Int} {f g : Nat → Bool} (h : RowAt w R place f) (e : ∀ j, j ≤ 42 → f j = g j) : RowAt w R place g := ⟨h.1, fun j hj => by rw [← e j hj]; exact h.2 j hj⟩
theorem rowAt_new (w : World) (place : Int) : RowAt (w.alloc (.cells (rowA place) 235)) w.heap.size place (fun _ => false) := by
  refine ⟨by simp [rowA], fun j hj => ⟨?_, by simp⟩⟩
  rw [World.cell?_alloc_at _ _ _ _ rfl]
  unfold rowA
  rw [Array.getElem?_append_right (by simp)]
  rw [Array.getElem?_replicate, if_pos (show 1 + j - #[Value.int IntKind.i64 place].size < 43 from by simp; omega)]
theorem owns_set {w : World} {B : Nat} {e : TypeId} {s : Nat} {v : Value} {n : Nat} {xs : List Value} (h : w.ownsRow B e s v n xs) (p : Addr) (u : Value) (hp : p.block < B) : (w.setCell p u).ownsRow B e s v n xs := by
  refine ⟨h.1, ?_⟩
  rcases h.2 with h1 | ⟨g, cap, cur, hv, hB, hg, rest⟩
  · exact .inl h1
  · exact .inr ⟨g, cap, cur, hv, hB, by rw [Below.heap_setCell w p u g (by omega)]; exact hg, rest⟩

theorem row_grown {w w' : World} {R : Nat} {place : Int} {f : Nat → Bool} {o : Option Nat} (h : RowAt w R place f) (hg : w.grownBy w' o) (ho : ∀ g, o = some g → g ≠ R) : RowAt w' R place f := by
  have hb : w'.heap[R]? = w.heap[R]? := hg.block R h.lt (fun e => ho R e.symm rfl)
  exact ⟨(World.cell?_of_block (w := w) (a := ⟨R, 0, none⟩) hb).trans h.1, fun j hj => ⟨(World.cell?_of_block (w := w) (a := ⟨R, 1 + j, none⟩) hb).trans (h.2 j hj).1, (World.frozen?_of_block (w := w) (a := ⟨R, 1 + j, none⟩) hb).trans (h.2 j hj).2⟩⟩
/-- what take says of a property -/
def tk (place id n : Int) (s t : ByteArray) (sn : Bool) : Bool := mst id place && fit (id, n, s, t) && (rep id place || !sn)
theorem take_bad (R : Nat) (place id n : Int) (s t : ByteArray) (f : Nat → Bool) (w : World) (hR : RowAt w R place f) (h : tk place id n s t (f id.toNat) = false) :
    Calls Tryz.prog 200 #[.pointer (some ⟨R, 0, none⟩), .agg #[.int .i64 id, .int .i64 n, .string s, .string t]] w (TakeNo w) := by
  unfold tk at h
  by_cases hm : mst id place = true
  · by_cases hf : fit (id, n, s, t) = true
    · obtain ⟨h1, h2⟩ := id_range id place hm
      obtain ⟨k, rfl⟩ : ∃ k : Nat, id = k := ⟨id.toNat, by omega⟩
      rw [hm, hf] at h
      simp only [Bool.and_true, Bool.true_and, Int.toNat_natCast, Bool.or_eq_false_iff, Bool.not_eq_false'] at h
      exact take_no3 R k place n s t w (by omega) hR.1 (by rw [(hR.2 k (by omega)).1, h.2]) hm hf h.1
    · exact take_no2 R place id n s t w hR.1 hm (by simpa using hf)
  · exact take_no1 R place id n s t w hR.1 (by simpa using hm)
theorem take_good (R k : Nat) (place n : Int) (s t : ByteArray) (f : Nat → Bool) (w : World) (hk : k ≤ 42) (hR : RowAt w R place f) (h : tk place k n s t (f k) = true) :
    Calls Tryz.prog 200 #[.pointer (some ⟨R, 0, none⟩), .agg #[.int .i64 (k : Int), .int .i64 n, .string s, .string t]] w fun e w' => e = .returned .nilIface ∧ ∃ w1, Below w.heap.size w w1 ∧ w' = w1.setCell ⟨R, 1 + k, none⟩ (.bool true) := by
  unfold tk at h
  rw [Bool.and_eq_true, Bool.and_eq_true] at h
  obtain ⟨⟨hm, hf⟩, hr⟩ := h
  have hc := (hR.2 k hk).1
  have hz := (hR.2 k hk).2
  cases hs : f k
  · rw [hs] at hc
    exact take_ok0 R k place n s t w hk hR.1 hc hz hm hf
  · rw [hs] at hc hr
    exact take_ok1 R k place n s t w hk hR.1 hc hz hm hf (by simpa using hr)
/-- .. as tell and read use it -/
theorem take_use (R k : Nat) (place n : Int) (s t : ByteArray) (f g : Nat → Bool) (w : World) (hk : k ≤ 42) (hR : RowAt w R place f) (h : tk place k n s t (f k) = true) (hg : ∀ j, j ≤ 42 → (f j || decide (k = j)) = g j) (B : Nat) (hB : B ≤ R) :
    Calls Tryz.prog 200 #[.pointer (some ⟨R, 0, none⟩), .agg #[.int .i64 (k : Int), .int .i64 n, .string s, .string t]] w fun e w' => e = .returned .nilIface ∧ Hid (RowAt w' R place g) ∧ Below B w w' ∧ Hid (∀ (B' : Nat) (v : Value) (m : Nat) (xs : List Value) (e : TypeId) (q : Nat), R < B' → w.ownsRow B' e q v m xs → w'.ownsRow B' e q v m xs) ∧ Hid (∀ (b i : Nat), b ≠ R → b < w.heap.size → w'.cell? ⟨b, i, none⟩ = w.cell? ⟨b, i, none⟩) := by
  refine (take_good R k place n s t f w hk hR h).mono ?_
  rintro e w' ⟨rfl, w1, hb, rfl⟩
  have hl := hR.lt
  refine ⟨rfl, ((hR.below hb).set k hk).congr hg, (hb.mono (by omega)).setCell hB _, ?_, ?_⟩
  · intro B' v m xs e q hB' ho
    exact owns_set (owns_below ho hb) _ _ hB'
  · intro b i hbR hbw
    rw [World.cell?_setCell_far _ _ _ _ (by simpa using Ne.symm hbR)]
    exact hb.cell (p := ⟨b, i, none⟩) hbw

/-- properties in memory -/
def PrAt (w : World) (b off : Nat) (l : List Pr) : Prop := ∀ k, k < l.length → w.cell? ⟨b, off + k * 4, none⟩ = some (.int .i64 (at0 l k).1) ∧ w.cell? ⟨b, off + k * 4 + 1, none⟩ = some (.int .i64 (at0 l k).2.1) ∧ w.cell? ⟨b, off + k * 4 + 2, none⟩ = some (.string (at0 l k).2.2.1) ∧ w.cell? ⟨b, off + k * 4 + 3, none⟩ = some (.string (at0 l k).2.2.2)
theorem PrAt.below {w w' : World} {b off : Nat} {l : List Pr} (h : PrAt w b off l) (hb : Below w.heap.size w w') : PrAt w' b off l := fun k hk => by
  obtain ⟨h0, h1, h2, h3⟩ := h k hk
  have hl := cell_lt h0
  exact ⟨(hb.cell (p := ⟨b, off + k * 4, none⟩) hl).trans h0, (hb.cell (p := ⟨b, off + k * 4 + 1, none⟩) hl).trans h1, (hb.cell (p := ⟨b, off + k * 4 + 2, none⟩) hl).trans h2, (hb.cell (p := ⟨b, off + k * 4 + 3, none⟩) hl).trans h3⟩
/-- their texts are not beyond what a length tells -/
def Small (l : List Pr) : Prop := ∀ k, k < l.length → (at0 l k).2.2.1.size ≤ 4611686018427387904 ∧ (at0 l k).2.2.2.size ≤ 4611686018427387904
theorem okAt_tk (place : Int) (l : List Pr) (k : Nat) : okAt place l k = (tk place (at0 l k).1 (at0 l k).2.1 (at0 l k).2.2.1 (at0 l k).2.2.2 (seen l k (at0 l k).1) && txo (at0 l k)) := by
  unfold okAt tk may
  rw [show ((at0 l k).1, (at0 l k).2.1, (at0 l k).2.2.1, (at0 l k).2.2.2) = at0 l k from rfl]
  cases mst (at0 l k).1 place <;> cases fit (at0 l k) <;> cases txo (at0 l k) <;> cases (rep (at0 l k).1 place || !seen l k (at0 l k).1) <;> rfl
theorem tk_toNat {place id n : Int} {s t : ByteArray} {b : Bool} (f : Int → Bool) (h : tk place id n s t (f id) = b) : tk place id n s t (f (id.toNat : Int)) = b := by
  subst h
  by_cases hm : mst id place = true
  · have := id_range id place hm
    rw [show (id.toNat : Int) = id from by omega]
  · have hm' : mst id place = false := by simpa using hm
    unfold tk
    rw [hm']; rfl
theorem tk_mst {place id n : Int} {s t : ByteArray} {sn : Bool} (h : tk place id n s t sn = true) : mst id place = true ∧ fit (id, n, s, t) = true := by
  unfold tk at h
  rw [Bool.and_eq_true, Bool.and_eq_true] at h
  exact h.1
end Go.Proofs.YtpoeakillimibaaGreatDoor
/- Proved here: prop.Check and prop.Put at any properties read from memory, at most 200: the error's number (chkP), and the bytes (pbs). Helper contracts. -/
namespace Go.Proofs.YtpoeakillimibaaGreatDoor
open Go.RowKit
set_option maxRecDepth 100000

/-- the value v reads in the world w as the properties l -/
def Prp (w : World) (v : Value) (l : List Pr) : Prop := ∃ ao cap, v = .slice ao l.length cap ∧ (l = [] ∨ ∃ b off, ao = some ⟨b, off, none⟩ ∧ PrAt w b off l)
theorem Prp.below {w w' : World} {v : Value} {l : List Pr} (h : Prp w v l) (hb : Below w.heap.size w w') : Prp w' v l := by
  obtain ⟨ao, cap, h1, h2⟩ := h
  refine ⟨ao, cap, h1, ?_⟩
  rcases h2 with h2 | ⟨b, off, e, hc⟩
  · exact .inl h2
  · exact .inr ⟨b, off, e, hc.below hb⟩
theorem Prp.form {w : World} {v : Value} {l : List Pr} (h : Prp w v l) : ∃ ao cap, v = .slice ao l.length cap := by
  obtain ⟨ao, cap, h1, _⟩ := h
  exact ⟨ao, cap, h1⟩
end Go.Proofs.YtpoeakillimibaaGreatDoor
