/- Proved here: slices.SortStableFunc at a row of parcels of one's own, by their times: sorted by them, those of the same time in the order in which they stood. Helper contracts. -/
import Derived.Test.YtfgelagmjjjlgaaZNPu
import Derived.Sort.OwnSorted
namespace Go.Proofs.Ytfgelagmjjjlgaa.Nt
open Go.Shelf Go.RowKit Go.Lib Go.Sort
set_option maxRecDepth 100000

abbrev Tc := Pc × Nat
def ten (x : Tc) : List Value := pcs x.1
def tkey (x : Tc) : Int := tm x.1
def ttag (x : Tc) : Nat := x.2
theorem prow_get2 : ∀ (H : List Pc) (t : Nat), t < H.length * 13 → (prow H)[t]? = some ((pcs (H.getD (t / 13) default))[t % 13]!) := fun H t h => by
  have hk : t / 13 < H.length := by omega
  have hq : H[t / 13]? = some (H.getD (t / 13) default) := by rw [List.getD_eq_getElem?_getD, List.getElem?_eq_getElem hk]; rfl
  have e := prow_get H (t / 13) _ hq (t % 13) (by omega)
  rw [show t / 13 * 13 + t % 13 = t from by omega] at e
  rw [e, List.getElem?_eq_getElem (by rw [pcs_len]; omega), getElem!_pos _ _ (by rw [pcs_len]; omega)]
theorem flat_ten (d : Array Tc) : (flatK ten 13 d).toList = prow (d.toList.map (·.1)) := by
  apply List.ext_getElem?
  intro t
  by_cases ht : t < d.size * 13
  · rw [prow_get2 (d.toList.map (·.1)) t (by simpa using ht)]
    have k := get_flatK ten 13 d t ht
    have hs : t < (flatK ten 13 d).size := by simpa using ht
    rw [getElem!_pos _ t hs] at k
    rw [Array.getElem?_toList, Array.getElem?_eq_getElem hs, k]
    have hq : t / 13 < d.size := by omega
    rw [getElem!_pos d (t / 13) hq, List.getD_eq_getElem?_getD, List.getElem?_eq_getElem (by simpa using hq)]
    simp [ten]
  · rw [List.getElem?_eq_none (by simp; omega), List.getElem?_eq_none (by rw [prow_len]; simp; omega)]
theorem holds_row {w : World} {B g cap n : Nat} {H : List Tc} (hn : H.length = n) (h : w.ownsRow B 53 13 (.slice (some ⟨g, 0, none⟩) n cap) n (prow (H.map (·.1)))) : HoldsK ten 13 w g 0 H.toArray := by
  intro j hj
  rw [size_flatK] at hj
  have hj' : j < H.length * 13 := by simpa using hj
  rcases h.2 with ⟨e, _⟩ | ⟨g', cap', cur, e, _, hg, _⟩
  · cases e
  · simp only [Value.slice.injEq, Option.some.injEq, Addr.mk.injEq, and_true] at e
    obtain ⟨rfl, _⟩ := e
    refine ⟨?_, frozen_of hg _⟩
    rw [Nat.zero_add, h.cellAt j (by omega)]
    have k := congrArg (fun l : List Value => l[j]?) (flat_ten H.toArray)
    simp only [Array.getElem?_toList] at k
    rw [Array.getElem?_eq_getElem (by rw [size_flatK]; exact hj)] at k
    rw [getElem!_pos _ j (by rw [size_flatK]; exact hj)]
    exact k.symm
theorem sorted_row {w : World} {B g cap n q : Nat} {H : List Pc} {d : Array Tc} {os : Array Obj} (hd : d.size = n) (h : w.ownsRow B 53 13 (.slice (some ⟨g, 0, none⟩) n cap) n (prow H)) : (sortWorldK ten 13 w g 0 q d os).ownsRow B 53 13 (.slice (some ⟨g, 0, none⟩) n cap) n (prow (d.toList.map (·.1))) ∧ w.grownBy (sortWorldK ten 13 w g 0 q d os) (some g) := by
  rcases h.2 with ⟨e, _⟩ | ⟨g', cap', cur, e, hB, hg, h1, h2, h3, _⟩
  · cases e
  · simp only [Value.slice.injEq, Option.some.injEq, Addr.mk.injEq, and_true, true_and] at e
    obtain ⟨rfl, rfl⟩ := e
    have hlt : g < w.heap.size := (Array.getElem?_eq_some_iff.1 hg).1
    refine ⟨⟨by rw [prow_len]; simp [hd], .inr ⟨g, cap, putCells id 0 (flatK ten 13 d) cur, rfl, hB, ?_, h1, h2, by simp [putCells, h3], ?_⟩⟩, ⟨rfl, rfl, rfl, by simp [sortWorldK, putRowK], fun k hk hne => ?_⟩⟩
    · unfold sortWorldK putRowK
      rw [heap_grow_old _ _ (by simpa using hlt)]
      simp [putRow, mapBlock, Sort.ahead, Array.getElem?_modify, hg, onCells]
    · have hfl : (flatK ten 13 d).size = n * 13 := by rw [size_flatK, hd]
      apply List.ext_getElem?
      intro j
      by_cases hj : j < n * 13
      · have hc : j < cur.size := by rw [h3]; have := Nat.mul_le_mul_right 13 h1; omega
        rw [List.getElem?_take_of_lt hj, Array.getElem?_toList, ← flat_ten, Array.getElem?_toList]
        simp [putCells, hfl, hj, hc]
      · rw [List.getElem?_take_eq_none (by omega), List.getElem?_eq_none (by rw [prow_len]; simp [hd]; omega)]
    · unfold sortWorldK putRowK
      rw [heap_grow_old _ _ (by simpa using hk)]
      have : g ≠ k := fun e => hne (by rw [e])
      simp [putRow, mapBlock, Sort.ahead, Array.getElem?_modify, this]
theorem ins_nil (f : Value) (w : World) : Calls Try.prog 39 #[.slice none 0 0, .int .i64 0, .int .i64 0, f] w fun e w' => e = .returned (.tuple #[]) ∧ w' = w := by
  go_enter Try.func39, Try.ntmps39
  go_wp2
  refine wp_loop_rounds 1 ?_
  rw [rounds_succ]
  go_wp2
  go_end0
  exact ⟨rfl, rfl⟩
theorem stable_nil (f : Value) (w : World) : Calls Try.prog 34 #[.slice none 0 0, .int .i64 0, f] w fun e w' => e = .returned (.tuple #[]) ∧ w' = w := by
  go_enter Try.func34, Try.ntmps34
  go_wp2
  refine wp_loop_rounds 1 ?_
  rw [rounds_succ]
  go_wp2_with (go_at_call 39; refine (ins_nil f _).mono ?_; rintro e w' ⟨rfl, hw⟩; obtain rfl := hw.symm; clear hw)
  refine wp_loop_rounds 1 ?_
  rw [rounds_succ]
  go_wp2
  go_end0
  exact ⟨rfl, rfl⟩
theorem sort_nil (f : Value) (w : World) : Calls Try.prog 25 #[.slice none 0 0, f] w fun e w' => e = .returned (.tuple #[]) ∧ w' = w := by
  go_enter Try.func25, Try.ntmps25
  go_wp2_with (go_at_call 34; refine (stable_nil f _).mono ?_; rintro e w' ⟨rfl, hw⟩; obtain rfl := hw.symm; clear hw)
  go_end0
  exact ⟨rfl, rfl⟩
theorem zip_at (cs : List Pc) (i : Nat) (h : i < cs.length) : (cs.zipIdx.toArray)[i]! = (cs[i], i) := by
  rw [getElem!_pos _ i (by simpa using h)]
  simp
/-- parcels in a row of one's own, sorted -/
theorem sortp_any {w : World} {B : Nat} {v : Value} {cs : List Pc} (h : w.ownsRow B 53 13 v cs.length (prow cs)) (hn : cs.length ≤ 1000000000) :
    Calls Try.prog 25 #[v, .func (.func 26) #[] #[]] w fun e w' => e = .returned (.tuple #[]) ∧ Hid (∃ T : List Tc, T.Perm cs.zipIdx ∧ T.Pairwise (rr tkey ttag) ∧ w'.ownsRow B 53 13 v cs.length (prow (T.map (·.1))) ∧ w.grownBy w' v.ownBlock) := by
  rcases id h.2 with ⟨e, h0⟩ | ⟨g, cap, cur, rfl, hB, hg, _⟩
  · subst e
    refine (sort_nil _ w).mono ?_
    rintro e w' ⟨rfl, rfl⟩
    have hH : cs = [] := List.length_eq_zero_iff.1 h0
    subst hH
    exact ⟨rfl, [], List.Perm.refl _, List.Pairwise.nil, h, ⟨rfl, rfl, rfl, Nat.le_refl _, fun _ _ _ => rfl⟩⟩
  · have eg : ∀ args w, (callFunc 26 args).run Try.prog w = .ok (.enter 26 args) w := enters_of Try.func26 (by kernel_rfl) rfl
    have hzs : cs.zipIdx.toArray.size = cs.length := by simp
    have hzm : cs.zipIdx.map (·.1) = cs := by simp
    have hh : HoldsK ten 13 w g 0 cs.zipIdx.toArray := holds_row (n := cs.length) (by simp) (by rw [hzm]; exact h)
    have hcmp : CmpLays Try.prog 26 #[] ten 13 (fun x y => ci (tkey x) (tkey y)) g 0 cs.zipIdx.toArray.size w := fun m os dk _ x y => bt_any x.1 y.1 _
    have hlt : g < w.heap.size := (Array.getElem?_eq_some_iff.1 hg).1
    have R : RowK ten 13 w g 0 cs.zipIdx.toArray := ⟨fun x => pcs_len x.1, fun x => pcs_one x.1, hh, hlt⟩
    have hc := sort_any lay (fun x y => ci (tkey x) (tkey y)) tkey ttag (fun x y => ci_neg _ _) 26 #[] g 0 cap cs.length cs.zipIdx.toArray w eg hcmp R hzs hn cs.zipIdx.toArray w hzs (SWK.start hh) (fun p q hpq hq => by
      rw [zip_at cs p (by omega), zip_at cs q hq]; exact hpq)
    refine hc.mono ?_
    rintro e w' ⟨rfl, d, ⟨q, os, rfl⟩, hp, hs⟩
    have hds : d.size = cs.length := by rw [hp.1]; exact hzs
    obtain ⟨k1, k2⟩ := sorted_row (q := q) (os := os) hds h
    refine ⟨rfl, d.toList, ?_, ?_, k1, k2⟩
    · have k := hp.2.2
      rw [show d.extract 0 cs.length = d from by rw [← hds]; simp, show cs.zipIdx.toArray.extract 0 cs.length = cs.zipIdx.toArray from by simp [List.take_of_length_le]] at k
      simpa using k
    · rw [List.pairwise_iff_getElem]
      intro i j hi hj hij
      have k := hs i j (Nat.zero_le _) hij (by simp at hj; omega)
      rw [getElem!_pos d i (by simpa using hi), getElem!_pos d j (by simpa using hj)] at k
      simpa using k
end Go.Proofs.Ytfgelagmjjjlgaa.Nt
