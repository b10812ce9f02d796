/- Proved here: contracts of cmp.Or at two numbers, of the index's rising, and of slices.SortFunc by it: what was gathered, in order. Helper contracts. -/
import Derived.Test.YtdjpllmgjmnolaaGreatDoorZYVs
import Derived.Test.YtdjpllmgjmnolaaGreatDoorZYSo
import Derived.Test.YtdjpllmgjmnolaaGreatDoorZQShelf
import Derived.Sort.OwnSorted
namespace Go.Proofs.YtdjpllmgjmnolaaGreatDoor.Y
open Go.RowKit Go.Maps Go.Shelf Go.Lib Go.Sort
set_option maxRecDepth 100000

theorem or_two (a b : Int) (g : Nat) (W : World) (c0 : W.cell? ⟨g, 0, none⟩ = some (.int .i64 a)) (c1 : W.cell? ⟨g, 1, none⟩ = some (.int .i64 b)) :
    Calls Tryz.prog 53 #[.slice (some ⟨g, 0, none⟩) 2 2] W fun e w' => e = .returned (.int .i64 (if a = 0 then b else a)) ∧ w' = W := by
  by_cases ha : a = 0
  · rw [if_pos ha]
    subst ha
    by_cases hb : b = 0
    · subst hb
      go_enter Tryz.func53, Tryz.ntmps53
      go_wp2
      go_rounds 3
      go_ret
      exact ⟨rfl, rfl⟩
    · have hb' : (b != 0) = true := by simp [hb]
      go_enter Tryz.func53, Tryz.ntmps53
      go_wp2
      go_rounds 3
      go_ret
      exact ⟨rfl, rfl⟩
  · rw [if_neg ha]
    have ha' : (a != 0) = true := by simp [ha]
    go_enter Tryz.func53, Tryz.ntmps53
    go_wp2
    go_rounds 3
    go_ret
    exact ⟨rfl, rfl⟩
set_option maxHeartbeats 2000000 in
theorem rising_any (x y : Rw) (W : World) : Calls Tryz.prog 33 #[.agg #[.string x.c, .string x.s.f, .int .i64 x.s.q, .bool x.s.nl, .bool x.s.ap, .int .i64 x.s.h], .agg #[.string y.c, .string y.s.f, .int .i64 y.s.q, .bool y.s.nl, .bool y.s.ap, .int .i64 y.s.h]] W fun e w' => e = .returned (.int .i64 (cf x y)) ∧ ∃ q os', w' = grow (W.drewN q) os' := by
  have HC1 := hide (fun W => Tryz.strings_Compare x.c y.c W)
  have HC2 := hide (fun W => Tryz.strings_Compare x.s.f y.s.f W)
  have HCF : Hid (cf x y = if Lib.compareBytes x.c.data.toList y.c.data.toList = 0 then Lib.compareBytes x.s.f.data.toList y.s.f.data.toList else Lib.compareBytes x.c.data.toList y.c.data.toList) := rfl
  generalize cf x y = r at HCF ⊢
  generalize Lib.compareBytes x.c.data.toList y.c.data.toList = r1 at HC1 HCF
  generalize Lib.compareBytes x.s.f.data.toList y.s.f.data.toList = r2 at HC2 HCF
  obtain ⟨w1, HW⟩ : ∃ w1, Hid (w1 = (W.alloc (.cells #[.string x.c, .string x.s.f, .int .i64 x.s.q, .bool x.s.nl, .bool x.s.ap, .int .i64 x.s.h] 37)).alloc (.cells #[.string y.c, .string y.s.f, .int .i64 y.s.q, .bool y.s.nl, .bool y.s.ap, .int .i64 y.s.h] 37)) := ⟨_, rfl⟩
  have HX : Hid (w1.cell? ⟨W.heap.size, 0, none⟩ = some (.string x.c) ∧ w1.cell? ⟨W.heap.size, 1, none⟩ = some (.string x.s.f) ∧ w1.cell? ⟨W.heap.size + 1, 0, none⟩ = some (.string y.c) ∧ w1.cell? ⟨W.heap.size + 1, 1, none⟩ = some (.string y.s.f)) := by
    rw [unhide HW]
    refine ⟨?_, ?_, ?_, ?_⟩ <;> simp
  go_enter Tryz.func33, Tryz.ntmps33
  go_wp2_with fail
  rw [← unhide HW]
  refine wp_region_noPanic ?_
  refine wp_region_held_drew (S := fun W' => W'.cell? ⟨W.heap.size, 0, none⟩ = some (.string x.c) ∧ W'.cell? ⟨W.heap.size, 1, none⟩ = some (.string x.s.f) ∧ W'.cell? ⟨W.heap.size + 1, 0, none⟩ = some (.string y.c) ∧ W'.cell? ⟨W.heap.size + 1, 1, none⟩ = some (.string y.s.f)) (by kernel_rfl) (unhide HX) (fun hHeld => ?_)
  refine rtk 0 (h := ?_)
  refine rtk 1 (h := ?_)
  refine rtk 2 (h := ?_)
  refine rtk 3 (h := ?_)
  refine rtk 5 (h := ?_)
  refine rtk 6 (h := ?_)
  refine rtk 7 (h := ?_)
  refine rtk 8 (h := ?_)
  refine rtk 9 (h := ?_)
  refine rtk 10 (h := ?_)
  refine rcl 4 (h := fun K hK => ?_)
  go_simp
  refine ((unhide HC1) _).mono ?_
  rintro e w2 ⟨rfl, hw⟩
  obtain rfl := hw.symm
  clear hw
  refine hK.out _ _ (unhide HX) (fun hHeld => ?_)
  clear hK K
  refine rcl 11 (h := fun K hK => ?_)
  go_simp
  refine ((unhide HC2) _).mono ?_
  rintro e w2 ⟨rfl, hw⟩
  obtain rfl := hw.symm
  clear hw
  refine hK.out _ _ (unhide HX) (fun hHeld => ?_)
  clear hK K
  refine rcl 12 (h := fun K hK => ?_)
  go_simp
  refine hK.out _ _ (by obtain ⟨e1, e2, e3, e4⟩ := unhide HX; exact ⟨Lib.cell?_alloc_some _ e1, Lib.cell?_alloc_some _ e2, Lib.cell?_alloc_some _ e3, Lib.cell?_alloc_some _ e4⟩) (fun hHeld => ?_)
  clear hK K
  refine rcl 13 (h := fun K hK => ?_)
  go_simp
  refine (or_two r1 r2 w1.heap.size _ (by simp) (by simp)).mono ?_
  rintro e w2 ⟨rfl, hw⟩
  obtain rfl := hw.symm
  clear hw
  refine hK.out _ _ (by obtain ⟨e1, e2, e3, e4⟩ := unhide HX; exact ⟨Lib.cell?_alloc_some _ e1, Lib.cell?_alloc_some _ e2, Lib.cell?_alloc_some _ e3, Lib.cell?_alloc_some _ e4⟩) (fun hHeld => ?_)
  clear hK K
  rw [← unhide HCF]
  refine rtk 14 (h := ?_)
  refine wpAnyH_done (by kernel_rfl) ?_ _
  refine NoPanic.normal ?_
  go_wp2
  go_ret
  refine ⟨rfl, 1, #[.cells #[.string x.c, .string x.s.f, .int .i64 x.s.q, .bool x.s.nl, .bool x.s.ap, .int .i64 x.s.h] 37] ++ #[.cells #[.string y.c, .string y.s.f, .int .i64 y.s.q, .bool y.s.nl, .bool y.s.ap, .int .i64 y.s.h] 37] ++ #[.cells #[.int .i64 r1, .int .i64 r2] 3], ?_⟩
  rw [unhide HW, alloc_eq_grow, alloc_eq_grow, alloc_eq_grow, grow_grow, grow_grow]
  rfl
theorem hrow_len (H : List Rw) : (hrow H).length = H.length * 6 := by
  induction H with
  | nil => rfl
  | cons x l ih => rw [show hrow (x :: l) = rcs x ++ hrow l from rfl, List.length_append, ih]; simp [rcs]; omega
theorem hrow_get : ∀ (H : List Rw) (t : Nat), t < H.length * 6 → (hrow H)[t]? = some ((rcs (H.getD (t / 6) default))[t % 6]!)
  | [], t, h => by simp at h
  | x :: l, t, h => by
    rw [show hrow (x :: l) = rcs x ++ hrow l from rfl]
    by_cases ht : t < 6
    · rw [List.getElem?_append_left (by simp [rcs]; omega), show t / 6 = 0 from by omega, show t % 6 = t from by omega]
      match t, ht with
      | 0, _ => rfl
      | 1, _ => rfl
      | 2, _ => rfl
      | 3, _ => rfl
      | 4, _ => rfl
      | 5, _ => rfl
    · have hl : (rcs x).length = 6 := rfl
      rw [List.getElem?_append_right (by omega), hl, hrow_get l (t - 6) (by simp only [List.length_cons] at h; omega)]
      have e1 : t / 6 = (t - 6) / 6 + 1 := by omega
      have e2 : t % 6 = (t - 6) % 6 := by omega
      rw [e1, e2, List.getD_cons_succ]
theorem flat_hrow (d : Array Rw) : (flatK rcs 6 d).toList = hrow d.toList := by
  apply List.ext_getElem?
  intro t
  by_cases ht : t < d.size * 6
  · rw [hrow_get d.toList t (by simpa using ht)]
    have k := get_flatK rcs 6 d t ht
    have hs : t < (flatK rcs 6 d).size := by simpa using ht
    rw [getElem!_pos _ t hs] at k
    rw [Array.getElem?_toList, Array.getElem?_eq_getElem hs, k]
    have hq : t / 6 < d.size := by omega
    rw [getElem!_pos d (t / 6) hq, List.getD_eq_getElem?_getD, List.getElem?_eq_getElem (by simpa using hq)]
    simp
  · rw [List.getElem?_eq_none (by simp; omega), List.getElem?_eq_none (by rw [hrow_len]; simp; omega)]
theorem swo_cf : SWO (ltOf cf) where
  irrefl x := by unfold ltOf; exact decide_eq_false (lt_irrefl x)
  trans x y z h1 h2 := by unfold ltOf at *; exact decide_eq_true (lt_trans (of_decide_eq_true h1) (of_decide_eq_true h2))
  ntrans x y z h1 h2 := by
    unfold ltOf at *
    have h1' := of_decide_eq_false h1
    have h2' := of_decide_eq_false h2
    refine decide_eq_false (fun h => ?_)
    by_cases h3 : lt y x
    · exact h2' (lt_trans h3 h)
    · obtain ⟨e1, e2⟩ := not_lt_zero h1' h3
      apply h2'
      have : cf y z = cf x z := by unfold cf; rw [e1, e2]
      rw [this]; exact h
theorem holds_row {w : World} {B g cap n : Nat} {H : List Rw} (hn : H.length = n) (h : w.ownsRow B 37 6 (.slice (some ⟨g, 0, none⟩) n cap) n (hrow H)) : HoldsK rcs 6 w g 0 H.toArray := by
  intro j hj
  rw [size_flatK] at hj
  have hj' : j < H.length * 6 := by simpa using hj
  rcases h.2 with ⟨e, _⟩ | ⟨g', cap', cur, e, _, hg, _⟩
  · cases e
  · simp only [Value.slice.injEq, Option.some.injEq, Addr.mk.injEq, and_true] at e
    obtain ⟨rfl, _⟩ := e
    refine ⟨?_, frozen_of hg _⟩
    rw [Nat.zero_add, h.cellAt j (by omega)]
    have k := congrArg (fun l : List Value => l[j]?) (flat_hrow H.toArray)
    simp only [Array.getElem?_toList] at k
    rw [Array.getElem?_eq_getElem (by rw [size_flatK]; exact hj)] at k
    rw [getElem!_pos _ j (by rw [size_flatK]; exact hj)]
    exact k.symm
theorem sorted_row {w : World} {B g cap n q : Nat} {H : List Rw} {d : Array Rw} {os : Array Obj} (hd : d.size = n) (h : w.ownsRow B 37 6 (.slice (some ⟨g, 0, none⟩) n cap) n (hrow H)) : (sortWorldK rcs 6 w g 0 q d os).ownsRow B 37 6 (.slice (some ⟨g, 0, none⟩) n cap) n (hrow d.toList) ∧ w.grownBy (sortWorldK rcs 6 w g 0 q d os) (some g) := by
  rcases h.2 with ⟨e, _⟩ | ⟨g', cap', cur, e, hB, hg, h1, h2, h3, _⟩
  · cases e
  · simp only [Value.slice.injEq, Option.some.injEq, Addr.mk.injEq, and_true, true_and] at e
    obtain ⟨rfl, rfl⟩ := e
    have hlt : g < w.heap.size := (Array.getElem?_eq_some_iff.1 hg).1
    refine ⟨⟨by rw [hrow_len]; simp [hd], .inr ⟨g, cap, putCells id 0 (flatK rcs 6 d) cur, rfl, hB, ?_, h1, h2, by simp [putCells, h3], ?_⟩⟩, ⟨rfl, rfl, rfl, by simp [sortWorldK, putRowK], fun k hk hne => ?_⟩⟩
    · unfold sortWorldK putRowK
      rw [heap_grow_old _ _ (by simpa using hlt)]
      simp [putRow, mapBlock, Sort.ahead, Array.getElem?_modify, hg, onCells]
    · have hfl : (flatK rcs 6 d).size = n * 6 := by rw [size_flatK, hd]
      apply List.ext_getElem?
      intro j
      by_cases hj : j < n * 6
      · have hc : j < cur.size := by rw [h3]; have := Nat.mul_le_mul_right 6 h1; omega
        rw [List.getElem?_take_of_lt hj, Array.getElem?_toList, ← flat_hrow, Array.getElem?_toList]
        simp [putCells, hfl, hj, hc]
      · rw [List.getElem?_take_eq_none (by omega), List.getElem?_eq_none (by rw [hrow_len]; simp [hd]; omega)]
    · unfold sortWorldK putRowK
      rw [heap_grow_old _ _ (by simpa using hk)]
      have : g ≠ k := fun e => hne (by rw [e])
      simp [putRow, mapBlock, Sort.ahead, Array.getElem?_modify, this]
/-- what is gathered, in order -/
theorem sort_any {w : World} {B : Nat} {hv : Value} {H : List Rw} (h : w.ownsRow B 37 6 hv H.length (hrow H)) (hn : H.length ≤ 1000000) :
    Calls Tryz.prog 32 #[hv, .func (.func 33) #[] #[]] w fun e w' => e = .returned (.tuple #[]) ∧ Hid (∃ H', H'.Perm H ∧ (∀ i j, i < j → j < H'.length → ¬ lt (H'.getD j default) (H'.getD i default)) ∧ w'.ownsRow B 37 6 hv H.length (hrow H') ∧ w.grownBy w' hv.ownBlock) := by
  rcases id h.2 with ⟨e, h0⟩ | ⟨g, cap, cur, rfl, hB, hg, _⟩
  · subst e
    have hc := AnyF.slices_SortFunc_none { Tryz.sortHit with } none 0 (.func (.func 33) #[] #[]) w
    change Calls Tryz.prog 32 _ _ _ at hc
    refine hc.mono ?_
    rintro e w' ⟨rfl, rfl⟩
    have hH : H = [] := List.length_eq_zero_iff.1 h0
    subst hH
    exact ⟨rfl, [], List.Perm.refl _, fun i j _ hj => absurd hj (Nat.not_lt_zero _), h, ⟨rfl, rfl, rfl, Nat.le_refl _, fun _ _ _ => rfl⟩⟩
  · have eg : ∀ args w, (callFunc 33 args).run Tryz.prog w = .ok (.enter 33 args) w := enters_of Tryz.func33 (by kernel_rfl) rfl
    have hcmp : CmpLays Tryz.prog 33 #[] rcs 6 cf g 0 H.toArray.size w := fun m os dk _ x y => rising_any x y _
    have hc := AnyQ.slices_SortFunc Tryz.sortHit 6 (fun W => by kernel_rfl) (fun W => by kernel_rfl) rcs (fun _ => rfl) six_one cf swo_cf 33 #[] g 0 cap H.toArray w eg hcmp (holds_row rfl h) (Array.getElem?_eq_some_iff.1 hg).1 (by simp; omega)
    change Calls Tryz.prog 32 _ _ _ at hc
    have e0 : H.toArray.size = H.length := by simp
    rw [e0] at hc
    refine hc.mono ?_
    rintro e w' ⟨rfl, d, q, os, hp, hs, rfl⟩
    have hds : d.size = H.length := by rw [hp.1]; simp
    obtain ⟨k1, k2⟩ := sorted_row (q := q) (os := os) hds h
    refine ⟨rfl, d.toList, ?_, fun i j hij hj => ?_, k1, k2⟩
    · have k := hp.2.2
      rw [show d.extract 0 H.length = d from by rw [← hds]; simp, show H.toArray.extract 0 H.length = H.toArray from by rw [← e0]; simp] at k
      simpa using k
    · have hj' : j < d.size := by simpa using hj
      have k := hs i j (Nat.zero_le _) hij (by omega)
      unfold ltOf at k
      have k' := of_decide_eq_false k
      rw [getElem!_pos d j hj', getElem!_pos d i (by omega)] at k'
      have e : ∀ m (hm : m < d.size), d.toList.getD m default = d[m] := fun m hm => by rw [List.getD_eq_getElem?_getD, List.getElem?_eq_getElem (by simpa using hm)]; simp
      rw [e j hj', e i (by omega)]
      exact k'
/-- .. is one list with what is in order already -/
theorem sorted_is {H' R : List Rw} (hR : Srt R) (hp : ∀ x, x ∈ H' ↔ x ∈ R) (hn : H'.Nodup) (hs : ∀ i j, i < j → j < H'.length → ¬ lt (H'.getD j default) (H'.getD i default)) (hu : ∀ x y, x ∈ R → y ∈ R → x.c = y.c → x.s.f = y.s.f → x = y) : H' = R := by
  refine srt_eq ?_ hR hp
  rw [Srt, List.pairwise_iff_getElem]
  intro i j hi hj hij
  have k := hs i j hij hj
  rw [List.getD_eq_getElem?_getD, List.getElem?_eq_getElem hj, List.getD_eq_getElem?_getD, List.getElem?_eq_getElem hi] at k
  simp only [Option.getD_some] at k
  by_cases h : lt H'[i] H'[j]
  · exact h
  · obtain ⟨e1, e2⟩ := not_lt_zero h k
    have e := hu _ _ ((hp _).1 (List.getElem_mem hi)) ((hp _).1 (List.getElem_mem hj)) e1 e2
    have := (List.nodup_iff_pairwise_ne.1 hn)
    rw [List.pairwise_iff_getElem] at this
    exact absurd e (this i j hi hj hij)
end Go.Proofs.YtdjpllmgjmnolaaGreatDoor.Y
