/- Proved here: disk.New of nothing, and of one file without bytes. Helper contracts. -/
import Derived.Test.YtondonppakjbgaaDoorRRRZDOps
import Derived.Test.YtondonppakjbgaaDoorRRRZKTk
import Derived.Deep.RegionHeld3
namespace Go.Proofs.YtondonppakjbgaaDoorRRR.D
open Go.RowKit Go.Maps
set_option maxRecDepth 100000

theorem may_nil (w : World) : Calls Tryd.prog 11 #[.slice none 0 0] w fun e w' => e = .returned (.bool true) ∧ w' = w := by
  go_enter Tryd.func11, Tryd.ntmps11
  go_wp2
  refine wp_loop_rounds 1 ?_
  rw [rounds_succ]
  go_wp2
  go_ret
  exact ⟨rfl, rfl⟩
theorem new_nil (w : World) : Calls Tryd.prog 5 #[.slice none 0 0] w fun e w' => e = .returned (.tuple #[.pointer (some ⟨w.heap.size, 0, none⟩), .nilIface]) ∧ w' = w.alloc (dkO (.map none) 0) := by
  go_enter Tryd.func5, Tryd.ntmps5
  go_wp2_with (go_at_call 11; refine (may_nil _).mono ?_; rintro e w' ⟨rfl, hw⟩; obtain rfl := hw.symm; clear hw)
  refine wp_loop_rounds 1 ?_
  rw [rounds_succ]
  go_wp2
  go_returns
  exact ⟨rfl, rfl⟩
set_option maxHeartbeats 1000000 in
theorem may_one (s : ByteArray) (b : Nat) (w : World) (hs : s.size ≤ maxLen) (c0 : w.cell? ⟨b, 0, none⟩ = some (.string s)) (c1 : w.cell? ⟨b, 1, none⟩ = some (.slice none 0 0)) : Calls Tryd.prog 11 #[.slice (some ⟨b, 0, none⟩) 1 1] w fun e w' => e = .returned (.bool (nmB s)) ∧ Below w.heap.size w w' := by
  have hb : b < w.heap.size := cell_lt c0
  have HN : Hid (∀ W, Calls Tryd.prog 20 #[.string s] W fun e w' => e = .returned (.bool (nmB s)) ∧ w' = W) := fun W => name_any s W hs
  generalize nmB s = q at HN ⊢
  clear hs
  cases q
  · go_enter Tryd.func11, Tryd.ntmps11
    go_wp2
    refine wp_loop_rounds 2 ?_
    rw [rounds_succ]
    go_wp2
    go_quiet (fail)
    go_wp2_with (go_at_call 20; refine ((unhide HN) _).mono ?_; rintro e w' ⟨rfl, hw⟩; obtain rfl := hw.symm; clear hw)
    go_ret
    exact ⟨rfl, below_drewN ((Below.refl _ _).alloc (Nat.le_refl _) _) _⟩
  · go_enter Tryd.func11, Tryd.ntmps11
    go_wp2
    refine wp_loop_rounds 2 ?_
    rw [rounds_succ]
    go_wp2
    go_quiet (fail)
    go_wp2_with (go_at_call 20; refine ((unhide HN) _).mono ?_; rintro e w' ⟨rfl, hw⟩; obtain rfl := hw.symm; clear hw)
    rw [rounds_succ]
    go_wp2
    go_ret
    exact ⟨rfl, below_drewN ((Below.refl _ _).alloc (Nat.le_refl _) _) _⟩
theorem clone_nil (w : World) : Calls Tryd.prog 14 #[.slice none 0 0] w fun e w' => e = .returned (.slice none 0 0) ∧ w' = w := by
  have q : ∀ (w : World) (a : Option Addr) (n c n' c' : Nat), (binOp .eql 27 (.slice a n c) (.slice none n' c')).run Tryd.prog w = .ok (.bool a.isNone) w := fun w a n c n' c' => Lib.run_eql_slice_nil w _ _ a n c n' c' Tryd.underlying27
  go_enter Tryd.func14, Tryd.ntmps14
  go_wp2
  go_ret
  exact ⟨rfl, rfl⟩
theorem new_bad (s : ByteArray) (b : Nat) (w : World) (hs : s.size ≤ maxLen) (hn : nmB s = false) (c0 : w.cell? ⟨b, 0, none⟩ = some (.string s)) (c1 : w.cell? ⟨b, 1, none⟩ = some (.slice none 0 0)) : Calls Tryd.prog 5 #[.slice (some ⟨b, 0, none⟩) 1 1] w fun e w' => ∃ x, e = .returned (.tuple #[.pointer none, .iface 60 x]) ∧ Hid (ErN w' w.heap.size (.iface 60 x) 1) ∧ Below w.heap.size w w' := by
  have HM := may_one s b w hs c0 c1
  rw [hn] at HM
  have HM := hide HM
  clear hs hn c0 c1
  go_enter Tryd.func5, Tryd.ntmps5
  go_wp2_with (first
    | (go_at_call 11; refine (unhide HM).mono ?_; rintro e w1 ⟨rfl, hb1⟩)
    | (go_at_call 12; refine (fault_any 1 _ (by decide)).mono ?_; rintro e w' ⟨x, rfl, hE, hb⟩))
  go_returns
  refine ⟨_, rfl, ?_, hb1.trans (hb.mono hb1.size)⟩
  rcases unhide hE with ⟨h, _⟩ | ⟨h, bb, e1, e2, e3⟩
  · cases h
  · exact .inr ⟨h, bb, e1, Nat.le_trans hb1.size e2, e3⟩
set_option maxHeartbeats 2000000 in
theorem new_one (s : ByteArray) (b : Nat) (w : World) (hs : s.size ≤ maxLen) (hn : nmB s = true) (c0 : w.cell? ⟨b, 0, none⟩ = some (.string s)) (c1 : w.cell? ⟨b, 1, none⟩ = some (.slice none 0 0)) : Calls Tryd.prog 5 #[.slice (some ⟨b, 0, none⟩) 1 1] w fun e w' => ∃ p, e = .returned (.tuple #[.pointer (some p), .nilIface]) ∧ Below w.heap.size w w' := by
  have HM := may_one s b w hs c0 c1
  rw [hn] at HM
  have HM := hide HM
  have HS := hide hs
  have hb : b < w.heap.size := cell_lt c0
  have HC : Hid (∀ W, Below w.heap.size w W → W.cell? ⟨b, 0, none⟩ = some (.string s) ∧ W.cell? ⟨b, 1, none⟩ = some (.slice none 0 0)) := fun W h => ⟨(h.cell hb).trans c0, (h.cell hb).trans c1⟩
  clear hs hn c0 c1
  go_enter Tryd.func5, Tryd.ntmps5
  go_wp2_with (first
    | (go_at_call 11; refine (unhide HM).mono ?_; rintro e w1 ⟨rfl, hb1⟩)
    | go_in)
  have HB1 : Hid (Below w.heap.size w (w1.alloc (dkO (.map none) 0))) := hb1.alloc (by have := hb1.size; omega) _
  obtain ⟨k0, k1⟩ := (unhide HC) _ (unhide HB1)
  have hbl : b < w1.heap.size := Nat.lt_of_lt_of_le hb hb1.size
  refine wp_loop_rounds 2 ?_
  rw [rounds_succ]
  go_wp2
  generalize hW2 : (w1.alloc (dkO (.map none) 0)).alloc (.cells #[.string s, .slice none 0 0] 37) = w2
  have hd2 : w2.heap[w1.heap.size]? = some (dkO (.map none) 0) := by
    rw [← hW2, Below.heap_alloc _ _ _ (by simp)]
    exact heap_alloc_new w1 _
  have f0 : w2.cell? ⟨w1.heap.size + 1, 0, none⟩ = some (.string s) := by rw [← hW2]; simp
  have f1 : w2.cell? ⟨w1.heap.size + 1, 1, none⟩ = some (.slice none 0 0) := by rw [← hW2]; simp
  have HB2 : Hid (Below w.heap.size w w2) := by
    show Below _ _ _
    rw [← hW2]
    exact (unhide HB1).alloc (by have := hb1.size; simp; omega) _
  have hs2 : w2.heap.size = w1.heap.size + 2 := by rw [← hW2]; simp
  clear hW2 k0 k1
  refine wp_region_noPanic ?_
  refine wp_region_held_drew (S := fun W => W.cell? ⟨w1.heap.size + 1, 0, none⟩ = some (.string s) ∧ W.cell? ⟨w1.heap.size + 1, 1, none⟩ = some (.slice none 0 0)) (by kernel_rfl) ⟨f0, f1⟩ (fun hHeld => ?_)
  refine rtk 0 (h := ?_)
  refine rtk 1 (h := ?_)
  refine rtk 2 (h := ?_)
  refine rtk 3 (h := ?_)
  refine rtk 4 (h := ?_)
  refine rtk 6 (h := ?_)
  refine rtk 7 (h := ?_)
  refine rcl 5 (h := fun K hK => ?_)
  go_simp
  refine (clone_nil _).mono ?_
  rintro e w' ⟨rfl, hw⟩
  obtain rfl := hw.symm
  clear hw
  go_simp
  refine hK.out _ _ ⟨f0, f1⟩ (fun hHeld => ?_)
  clear hK K
  refine rcl 8 (h := fun K hK => ?_)
  go_simp
  refine (clone_nil _).mono ?_
  rintro e w' ⟨rfl, hw⟩
  obtain rfl := hw.symm
  clear hw
  go_simp
  refine hK.out _ _ ⟨f0, f1⟩ (fun hHeld => ?_)
  clear hK K
  refine rcl 9 (h := fun K hK => ?_)
  go_simp
  refine hK.out _ _ ⟨f0, f1⟩ (fun hHeld => ?_)
  clear hK K
  refine rcl 10 (h := fun K hK => ?_)
  go_simp
  have g2 : (w2.alloc (.cells #[.slice none 0 0, .slice none 0 0] 53)).drew.heap[w1.heap.size]? = some (dkO (.map none) 0) := by
    show (w2.alloc _).heap[w1.heap.size]? = _
    rw [Below.heap_alloc _ _ _ (by omega)]
    exact hd2
  have g0 : (w2.alloc (.cells #[.slice none 0 0, .slice none 0 0] 53)).drew.cell? ⟨w1.heap.size + 1, 0, none⟩ = some (.string s) := Lib.cell?_alloc_some _ f0
  have g1 : (w2.alloc (.cells #[.slice none 0 0, .slice none 0 0] 53)).drew.cell? ⟨w1.heap.size + 1, 1, none⟩ = some (.slice none 0 0) := Lib.cell?_alloc_some _ f1
  have HB3 : Hid (Below w.heap.size w (w2.alloc (.cells #[.slice none 0 0, .slice none 0 0] 53)).drew) := below_drewN ((unhide HB2).alloc (by have := (unhide HB2).size; omega) _) 1
  have hs3 : (w2.alloc (.cells #[.slice none 0 0, .slice none 0 0] 53)).drew.heap.size = w1.heap.size + 3 := by
    show (w2.alloc _).heap.size = _
    simp [hs2]
  generalize (w2.alloc (.cells #[.slice none 0 0, .slice none 0 0] 53)).drew = w3 at g2 g0 g1 HB3 hs3 ⊢
  refine hK.out _ _ ⟨g0, g1⟩ (fun hHeld => ?_)
  clear hK K hd2 f0 f1 HB2 hs2
  refine rcl 11 (h := fun K hK => ?_)
  go_simp
  refine (put_nil w1.heap.size (w1.heap.size + 2) 0 s w3 (unhide HS) g2).mono ?_
  rintro e w4 ⟨rfl, hw4⟩
  have q0 : w4.cell? ⟨w1.heap.size + 1, 0, none⟩ = some (.string s) := (World.cell?_of_block (a := ⟨w1.heap.size + 1, 0, none⟩) ((unhide hw4).2.2.block (w1.heap.size + 1) (by omega) (by omega))).trans g0
  have q1 : w4.cell? ⟨w1.heap.size + 1, 1, none⟩ = some (.slice none 0 0) := (World.cell?_of_block (a := ⟨w1.heap.size + 1, 1, none⟩) ((unhide hw4).2.2.block (w1.heap.size + 1) (by omega) (by omega))).trans g1
  have HB4 : Hid (Below w.heap.size w w4) := (unhide HB3).trans ((unhide hw4).2.2.below (fun k e => by have := hb1.size; omega) (by have := hb1.size; omega))
  clear hw4 g0 g1 g2
  go_simp
  refine hK.out _ _ ⟨q0, q1⟩ (fun hHeld => ?_)
  clear hK K
  refine wpAnyH_done (by kernel_rfl) ?_ _
  refine NoPanic.normal ?_
  go_wp2
  rw [rounds_succ]
  go_wp2
  go_returns
  exact ⟨_, rfl, unhide HB4⟩
end Go.Proofs.YtondonppakjbgaaDoorRRR.D
