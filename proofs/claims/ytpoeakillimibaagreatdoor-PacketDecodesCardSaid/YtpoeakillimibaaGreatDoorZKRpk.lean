/- Proved here: a packet with rows of its own reads as what it means; what Decode tells, and what the page's tells, in one. Helpers. -/
import Derived.Test.YtpoeakillimibaaGreatDoorZKEqPk
import Derived.Test.YtpoeakillimibaaGreatDoorM39
import Derived.Test.YtpoeakillimibaaGreatDoorM44
import Derived.Test.YtpoeakillimibaaGreatDoorM14
namespace Go.Proofs.YtpoeakillimibaaGreatDoor.K
open Go.RowKit
set_option maxRecDepth 100000

theorem scs_length (d : List Sb) : (scs d).length = d.length * 5 := by
  induction d with
  | nil => rfl
  | cons u us ih => unfold scs at *; simp only [List.flatMap_cons, List.length_append, ih, List.length_cons, Sb.cells, List.length_nil]; omega
theorem scs_get (d : List Sb) : ∀ (i : Nat) (u : Sb), d[i]? = some u → ∀ j, j < 5 → (scs d)[i * 5 + j]? = u.cells[j]? := by
  induction d with
  | nil => intro i u h; simp at h
  | cons v us ih =>
    intro i u h j hj
    cases i with
    | zero =>
      simp at h
      subst h
      unfold scs
      rw [List.flatMap_cons, Nat.zero_mul, Nat.zero_add, List.getElem?_append_left (by simp [Sb.cells]; omega)]
    | succ i =>
      simp at h
      have := ih i u h j hj
      unfold scs at *
      rw [List.flatMap_cons, List.getElem?_append_right (by simp [Sb.cells]; omega), ← this]
      congr 1
      simp [Sb.cells]
      omega
theorem row_form {w : World} {B : Nat} {e : TypeId} {s : Nat} {v : Value} {n : Nat} {xs : List Value} (h : w.ownsRow B e s v n xs) : ∃ ao cap, v = .slice ao n cap ∧ (n ≤ cap ∧ cap ≤ maxLen) ∧ (n = 0 ∨ ∃ b, ao = some ⟨b, 0, none⟩ ∧ ∀ j, j < n * s → w.cell? ⟨b, j, none⟩ = xs[j]?) := by
  have hl := h.1
  rcases h.2 with ⟨rfl, rfl⟩ | ⟨g, cap, cur, rfl, hB, hg, h1, h2, h3, h4⟩
  · exact ⟨none, 0, rfl, ⟨Nat.le_refl _, by simp⟩, .inl rfl⟩
  · exact ⟨_, cap, rfl, ⟨h1, h2⟩, .inr ⟨g, rfl, fun j hj => h.cellAt j hj⟩⟩
theorem sbs_of_owns {w : World} {B : Nat} {e : TypeId} {v : Value} {l : List Sb} (h : w.ownsRow B e 5 v l.length (scs l)) : Sbs w v l := by
  obtain ⟨ao, cap, rfl, hc, h0 | ⟨b, rfl, hcell⟩⟩ := row_form h
  · exact ⟨ao, cap, rfl, hc, .inl (List.length_eq_zero_iff.1 h0)⟩
  · refine ⟨_, cap, rfl, hc, .inr ⟨b, 0, rfl, fun k hk => ?_⟩⟩
    have hu : l[k]? = some (l.getD k sb0) := by rw [List.getD_eq_getElem?_getD, List.getElem?_eq_getElem hk]; rfl
    have key : ∀ j, j < 5 → w.cell? ⟨b, k * 5 + j, none⟩ = (l.getD k sb0).cells[j]? := fun j hj => (hcell (k * 5 + j) (by omega)).trans (scs_get l k _ hu j hj)
    simp only [Nat.zero_add]
    exact ⟨key 0 (by omega), key 1 (by omega), key 2 (by omega), key 3 (by omega), key 4 (by omega)⟩
theorem wls_of {w : World} {B : Nat} {v : Value} {ws : List Wv} {us : List Wl} (h : w.ownsRow B 73 5 v us.length (wcs ws)) (hw : Ws w B ws us) (hl : ∀ u ∈ us, u.props.length ≤ 32) : Wls w v us := by
  obtain ⟨ao, cap, rfl, hc, h0 | ⟨b, rfl, hcell⟩⟩ := row_form h
  · exact ⟨ao, cap, rfl, hc, .inl (List.length_eq_zero_iff.1 h0)⟩
  · refine ⟨_, cap, rfl, hc, .inr ⟨b, 0, rfl, fun k hk => ?_⟩⟩
    obtain ⟨a, ha⟩ : ∃ a, ws[k]? = some a := ⟨_, List.getElem?_eq_getElem (by rw [hw.1]; exact hk)⟩
    have hu : us[k]? = some (us.getD k wl0) := by rw [List.getD_eq_getElem?_getD, List.getElem?_eq_getElem hk]; rfl
    obtain ⟨e1, e2, e3, e4, e5⟩ := hw.2 k a _ ha hu
    have key : ∀ j, j < 5 → w.cell? ⟨b, k * 5 + j, none⟩ = a.cells[j]? := fun j hj => (hcell (k * 5 + j) (by omega)).trans (wcs_get ws k a ha j hj)
    have hm : us.getD k wl0 ∈ us := List.mem_of_getElem? hu
    rw [Nat.zero_add]
    refine ⟨a.props.ao, a.props.n, a.props.cap, ⟨?_, ?_, ?_, ?_, key 4 (by omega)⟩, prp_of_owns e5, by have := hl _ hm; omega⟩
    · rw [← e1]; exact key 0 (by omega)
    · rw [← e2]; exact key 1 (by omega)
    · rw [← e3]; exact key 2 (by omega)
    · rw [← e4]; exact key 3 (by omega)
theorem Mean.bel {w w' : World} {B : Nat} {p : Pkv} {P : Pa} (h : Mean w B p P) (hb : Below w.heap.size w w') : Mean w' B p P :=
  ⟨h.sc, owns_below h.props hb, by
    obtain ⟨ws, h1, h2, h3⟩ := h.wills
    exact ⟨ws, owns_below h1 hb, h2, fun i a b ha hb' => by
      obtain ⟨k1, k2, k3, k4, k5⟩ := h3 i a b ha hb'
      exact ⟨k1, k2, k3, k4, owns_below k5 hb⟩⟩, owns_below h.user hb, owns_below h.pass hb, owns_below h.subs hb, owns_below h.filters hb, owns_below h.codes hb⟩
theorem Mean.rpk {w : World} {B : Nat} {q : Pkv} {P : Pa} (h : Mean w B q P) (hl : Lts P) : RPk w q P := by
  obtain ⟨ws, h1, h2⟩ := h.wills
  exact ⟨h.sc, prp_of_owns h.props, wls_of h1 h2 hl.wp, txs_of_owns h.user, txs_of_owns h.pass, sbs_of_owns h.subs, txs_of_owns h.filters, nms_of_owns h.codes⟩
theorem Lts.small {P : Pa} (h : Lts P) : Small P := ⟨by have := h.props; omega, by have := h.wills; omega, by have := h.subs; omega⟩
/-- the packet that bytes tell, or none -/
def paz : Pa := pa0 0 false 0 false
def dP (l : List Int) : Pa := match dbody l with
  | some r => if dnum l = 0 then r.1 else paz
  | none => paz
def dN (l : List Int) : Nat := if dnum l = 0 then (meas l).2.1 else 0
theorem mean_z (w : World) (B : Nat) : Mean w B pkz paz := ⟨⟨rfl, rfl, rfl, rfl, rfl, rfl, rfl, rfl, rfl, rfl, rfl, rfl⟩, row0 _ _ _ _, wills0 _ _, row0 _ _ _ _, row0 _ _ _ _, row0 _ _ _ _, row0 _ _ _ _, row0 _ _ _ _⟩
theorem lts_z : Lts paz := ⟨by simp [paz, pa0], by simp [paz, pa0], by simp [paz, pa0], by simp [paz, pa0], by simp [paz, pa0], by simp [paz, pa0], by simp [paz, pa0], by simp [paz, pa0]⟩
theorem dP_lts (l : List Int) : Lts (dP l) := by
  unfold dP
  cases h : dbody l with
  | none => exact lts_z
  | some r =>
    show Lts (if dnum l = 0 then r.1 else paz)
    split
    · exact dbody_lts (P := r.1) (l' := r.2) h
    · exact lts_z
theorem dP_bad {l : List Int} (h : dnum l ≠ 0) : dP l = paz := by
  unfold dP
  cases dbody l with
  | none => rfl
  | some r => exact if_neg h
theorem dP_good {l r : List Int} {P : Pa} (h : dnum l = 0) (hd : dbody l = some (P, r)) : dP l = P := by
  unfold dP
  rw [hd]
  exact if_pos h
/-- what packet.Decode tells, in one -/
theorem dec_uni (v : Value) (l : List Int) (w : World) (h : Byt w v l) : Calls Tryz.prog 33 #[v] w fun e w' => ∃ (q : Pkv) (E : Value), e = .returned (.tuple #[q.val, .int .i64 (dN l : Nat), E]) ∧ Hid (Mean w' w.heap.size q (dP l)) ∧ Hid (ErrX w' E (dnum l)) ∧ Below w.heap.size w w' := by
  refine (decode_any v l w h).mono ?_
  rintro e w' ⟨q, n, E, rfl, h1 | h1, hb⟩
  · obtain ⟨h0, rfl, rfl, hE⟩ := h1
    obtain ⟨x, d, rfl, hd, hE⟩ := unhide hE
    exact ⟨pkz, _, by unfold dN; rw [if_neg h0], by rw [dP_bad h0]; exact mean_z _ _, .inr ⟨d, hd, hE⟩, hb⟩
  · obtain ⟨h0, rfl, rfl, P, r, hd, hm⟩ := h1
    exact ⟨q, _, by unfold dN; rw [if_pos h0], by rw [dP_good h0 hd]; exact hm, .inl ⟨h0, rfl⟩, hb⟩
/-- .. and the page's -/
theorem pdec_uni (v : Value) (l : List Int) (w : World) (h : Byt w v l) : Calls Tryz.prog 34 #[v, .int .i64 65536] w fun e w' => ∃ q : Pkv, e = .returned (.tuple #[q.val, .int .i64 (dN l : Nat), .int .i64 (dnum l)]) ∧ Hid (Mean w' w.heap.size q (dP l)) ∧ Below w.heap.size w w' := by
  refine (pdec_pg v l 65536 w h (by omega)).mono ?_
  rintro e w' ⟨q, n, rfl, h1, hb⟩
  rw [pnum_is] at h1 ⊢
  rcases h1 with ⟨h0, rfl, rfl⟩ | ⟨h0, rfl, P, r, hd, hm⟩
  · exact ⟨pkz, by unfold dN; rw [if_neg h0], by rw [dP_bad h0]; exact mean_z _ _, hb⟩
  · exact ⟨q, by unfold dN; rw [if_pos h0], by rw [dP_good h0 hd]; exact hm, hb⟩
end Go.Proofs.YtpoeakillimibaaGreatDoor.K
