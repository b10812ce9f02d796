/- Proved here: what the statements of layer 17 stand on: copies of bytes, errors' numbers, the one message that wakes. Helper contracts. -/
import Derived.Test.YtmmhdhpocjnlbaaGreatDoorZJEn
import Derived.Test.YtmmhdhpocjnlbaaGreatDoorZJMy
import Derived.Test.YtmmhdhpocjnlbaaGreatDoorZEq
namespace Go.Proofs.YtmmhdhpocjnlbaaGreatDoor.Jr
open Go.RowKit Nt Et Qu
set_option maxRecDepth 100000

theorem take_snocK (xs : List Int) (k : Nat) (h : k < xs.length) : xs.take k ++ [xs.getD k 0] = xs.take (k + 1) := by
  rw [List.take_succ_eq_append_getElem h, List.getD_eq_getElem?_getD, List.getElem?_eq_getElem h]; rfl
set_option maxHeartbeats 1000000 in
theorem copyb_core (b off n cap : Nat) (xs : List Int) (w : World) (hn : xs.length = n) (hb : n ≤ 140737488355328) (hc : ∀ j, j < n → w.cell? ⟨b, off + j, none⟩ = some (.int .u8 (xs.getD j 0))) :
    Calls Tryz.prog 12 #[.slice (some ⟨b, off, none⟩) n cap] w fun e w' => ∃ v, e = .returned v ∧ Hid (w'.ownsRow w.heap.size 5 1 v n (xs.map (Value.int .u8))) ∧ Hid (Below w.heap.size w w') := by
  obtain ⟨i0, hi, hz0, hz1, hz2⟩ := info_parts info8
  have HC := hide hc
  have HN := hide hn
  clear hc hn
  go_enter Tryz.func12, Tryz.ntmps12
  go_wp2
  go_loopw [3, 4] (fun m i wr => ∃ k : Nat, k ≤ n ∧ i = .int .i64 k ∧ Hid (wr.ownsRow w.heap.size 5 1 m k ((xs.take k).map (Value.int .u8))) ∧ Hid (Below w.heap.size w wr)) (fun _ i _ => n - (intOf i).toNat)
  case atStart => exact ⟨0, Nat.zero_le _, rfl, World.ownsRow_nil _ _ _ _, Below.refl _ _⟩
  case round =>
    obtain ⟨k, hk, rfl, HOWN, HBEL⟩ := hrel
    by_cases hlt : k < n
    · have hc0 := (unhide HC) k hlt
      have hc1 := ((unhide HBEL).cell (p := ⟨b, off + k, none⟩) (cell_lt hc0)).trans hc0
      clear hc0
      have HT := hide (take_snocK xs k (by have := unhide HN; omega))
      generalize xs.getD k 0 = x at hc1 HT
      have hsz := (unhide HBEL).size
      go_wp2_with (first
        | (at_builtin; refine wpList_append_own _ rfl _ _ 29 rfl w.heap.size 5 i0 (.int .u8 0) 1 1 Tryz.underlying29 hi hz0 hz1 hz2 rfl (by decide) _ _ _ rfl ((unhide HOWN).alloc _) ⟨wr.heap.size, 0, none⟩ 1 1 [.int .u8 x] rfl rfl (one_cell _ _ _) (one_one _ _) (by unfold maxLen; omega) (by omega) (by simp; omega) ?_)
        | go_in)
      intro v' w1 hown' hgrow _
      have HB1 : Hid (Below w.heap.size w w1) := ((unhide HBEL).alloc hsz _).grown hgrow (by simp; omega) (fun k hk => ((unhide HOWN).lt k hk).1)
      have HO1 : Hid (w1.ownsRow w.heap.size 5 1 v' (k + 1) ((xs.take (k + 1)).map (Value.int .u8))) := by show World.ownsRow _ _ _ _ _ _ _; rw [← unhide HT, List.map_append, List.map_take]; exact hown'
      clear hgrow hown' HOWN HBEL
      go_wp2
      go_roundw
      case rel => exact ⟨k + 1, by omega, by go_num, HO1, HB1⟩
      case measure => simp [intOf]; omega
    · have hk' : k = n := by omega
      subst hk'
      have HO : Hid (wr.ownsRow w.heap.size 5 1 u3 k (xs.map (Value.int .u8))) := by
        have := unhide HOWN
        rw [List.take_of_length_le (by have := unhide HN; omega)] at this
        exact this
      clear HOWN
      go_wp2
      go_ret
      exact ⟨_, rfl, HO, HBEL⟩
theorem copyb_nil (ao : Option Addr) (cap : Nat) (w : World) : Calls Tryz.prog 12 #[.slice ao 0 cap] w fun e w' => e = .returned (.slice none 0 0) ∧ w' = w := by
  go_enter Tryz.func12, Tryz.ntmps12
  go_wp2
  refine wp_loop_rounds 1 ?_
  rw [rounds_succ]
  go_wp2
  go_ret
  exact ⟨rfl, rfl⟩
/-- bytes copied to memory of their own -/
theorem copyb_any (v : Value) (l : List Int) (w : World) (h : Byt w v l) (hl : l.length ≤ 140737488351232) :
    Calls Tryz.prog 12 #[v] w fun e w' => ∃ v', e = .returned v' ∧ Hid (RowB w' w.heap.size v' l) ∧ Hid (Below w.heap.size w w') := by
  obtain ⟨ao, cap, rfl, _, hr, hcase⟩ := h
  rcases hcase with rfl | ⟨b, off, rfl, hc⟩
  · refine (copyb_nil ao cap w).mono ?_
    rintro e w' ⟨rfl, rfl⟩
    exact ⟨_, rfl, World.ownsRow_nil _ _ _ _, Below.refl _ _⟩
  · exact copyb_core b off _ cap l w rfl (by omega) hc
theorem RowB.byt {w : World} {B : Nat} {v : Value} {l : List Int} (h : RowB w B v l) (h8 : R8 l) : Byt w v l := byt_of_owns h h8.get
theorem num17 (v : Value) (n : Int) (w : World) (hg : Laid w) (h : ErrX w v n) : Calls Tryz.prog 8 #[v] w fun e w' => e = .returned (.int .i64 n) ∧ Hid (Below w.heap.size w w') := by
  have HG := hide hg
  have HE := hide h
  have hv : v = .nilIface ∨ ∃ t x, v = .iface t x := by
    rcases h with ⟨_, e⟩ | ⟨d, _, h⟩
    · exact .inl e
    · exact .inr h.iface
  clear hg h
  rcases hv with rfl | ⟨t, x, rfl⟩
  · go_enter Tryz.func8, Tryz.ntmps8
    go_wp2_with fail
    refine (numx _ n w (unhide HG) (unhide HE)).mono ?_
    rintro e w' ⟨rfl, hb⟩
    have HB := hide hb
    clear hb
    go_wp2
    go_ret
    exact ⟨rfl, HB⟩
  · go_enter Tryz.func8, Tryz.ntmps8
    go_wp2_with fail
    refine (numx _ n w (unhide HG) (unhide HE)).mono ?_
    rintro e w' ⟨rfl, hb⟩
    have HB := hide hb
    clear hb
    go_wp2
    go_ret
    exact ⟨rfl, HB⟩
theorem wpList_on {P : Program} {ops : Array Oper} {rest : List Oper} {o : Oper} {a : Act} {w : World} {Q : Exit → Act → World → Prop} (hw : Region.wanted o (yielded ops a.tmps) = true) (h : ∀ K : Act → World → Prop, (∀ a w, wpList P ops Q rest a w → K a w) → o.wp P a w K Q) : wpList P ops Q (o :: rest) a w := by
  refine wpList_step fun K hK => ?_
  rw [if_pos hw]
  exact h K hK
/-- the message that wakes -/
def mqw : Mq := ⟨⟨4, 1, 2, 3, 0, 0, 0, true, [], [], ⟨#[]⟩⟩, none, 0, 0, none, 0, 0⟩
theorem rpc_buildw (a : Act) (dst : Option Tmp) (ty : TypeId) (pos : String) (after : Array Edge) (w : World) :
    (execOp a.eval ⟨dst, .build 27 #[(0, .const (.int .i64 4)), (1, .const (.int .i64 1)), (2, .const (.int .i64 2)), (3, .const (.int .i64 3)), (7, .const (.bool true))], ty, pos, after, none⟩).run Tryz.prog w = .ok (.value (.agg (mcs mqw).toArray)) w := by
  kernel_rfl
theorem mqw_may : mayB mqw.r = true := by decide
theorem mqw_rok (w : World) : Rok w mqw := ⟨⟨rfl, Nat.le_refl _, ⟨by decide, fun _ => rfl⟩, by decide, .inl rfl⟩, ⟨rfl, Nat.le_refl _, ⟨by decide, fun _ => rfl⟩, by decide, .inl rfl⟩⟩
set_option maxHeartbeats 4000000 in
theorem wakes_any (w : World) (hg : Laid w) : Calls Tryz.prog 15 #[] w fun e w' => e = .returned (.bool true) ∧ Hid (Below w.heap.size w w') := by
  have HG := hide hg
  obtain ⟨M, hM⟩ : ∃ M, M = w.heap.size := ⟨_, rfl⟩
  have HM1 : Hid (Bx (w.alloc (.cells (mcs mqw).toArray 27)) M (mcs mqw) 27) := Bx.new _ _ _ _ hM
  have HW1 : Hid (Below w.heap.size w (w.alloc (.cells (mcs mqw).toArray 27))) := al_below _ _
  clear hg
  go_enter Tryz.func15, Tryz.ntmps15
  go_upto_region 1 with fail
  go_step
  refine Nt.wpList_value rfl (rpc_buildw _ _ _ _ _ _) ?_
  simp only [Act.put, List.setIfInBounds_toArray, List.set_cons_zero, List.set_cons_succ]
  refine Nt.wpList_value rfl (rpc_alloc _ _ _ _ _ _) ?_
  simp only [Act.put, List.setIfInBounds_toArray, List.set_cons_zero, List.set_cons_succ]
  refine Nt.wpList_skip rfl (rpc_store _ _ _ _ _ _ _ mqw w rfl rfl) ?_
  simp only [Act.put]
  rw [← hM]
  clear hM
  generalize w.alloc (.cells (mcs mqw).toArray 27) = w1 at HM1 HW1 ⊢
  go_upto_region 2 with fail
  go_step
  refine wpList_load_mid rfl 27 _ rfl M 0 rfl (mcs mqw) _ (unhide HM1).range Tryz.underlying27 rfl rpc_size ?_
  simp only [Act.put, List.setIfInBounds_toArray, List.set_cons_zero, List.set_cons_succ]
  have HC := hide (enc_any mqw true w1 (mqw_rok w1) mqw_may.symm)
  go_wp2_with fail
  refine (unhide HC).mono ?_
  rintro e w2 ⟨v, E, rfl, HR, HE, HB2⟩
  have HM2 := hide ((unhide HM1).below (unhide HB2))
  have HW2 : Hid (Below w.heap.size w w2) := bnx (unhide HW1) (unhide HB2)
  have HV : Hid (Byt w2 v (wb mqw.r)) := (unhide HR).byt (wb_r8 _)
  have HE2 : Hid (ErrX w2 E 0) := (unhide HE).1
  have HD := hide (dec_any v (wb mqw.r) true mqw.r w2 (unhide HV) (dc_wb mqw_may))
  obtain ⟨av, nv, cv, rfl⟩ : ∃ a n c, v = .slice a n c := by obtain ⟨a, c, h⟩ := owns_slice (unhide HR); exact ⟨a, _, c, h⟩
  clear HC HR HE HM1 HW1 HB2 HV
  go_wp2_with fail
  refine (unhide HD).mono ?_
  rintro e w3 ⟨q, E2, rfl, HQ, HE3, HB3⟩
  have HM3 := hide ((unhide HM2).below (unhide HB3))
  have HW3 : Hid (Below w.heap.size w w3) := bnx (unhide HW2) (unhide HB3)
  have HEa := hide ((unhide HE2).below (unhide HB3))
  have HEb : Hid (ErrX w3 E2 0) := (unhide HE3).1
  have HRK := hide (unhide HQ).2.rok
  have HQR : Hid (q.r = mqw.r) := (unhide HQ).1
  obtain ⟨M4, hM4⟩ : ∃ M, M = w3.heap.size := ⟨_, rfl⟩
  have HX4 : Hid (Bx (w3.alloc (.cells (mcs q).toArray 27)) M4 (mcs q) 27) := Bx.new _ _ _ _ hM4
  have HM4 := hide ((unhide HM3).below (al_below w3 (.cells (mcs q).toArray 27)))
  have HW4 : Hid (Below w.heap.size w (w3.alloc (.cells (mcs q).toArray 27))) := bnx (unhide HW3) (al_below _ _)
  have HEa4 := hide ((unhide HEa).below (al_below w3 (.cells (mcs q).toArray 27)))
  have HEb4 := hide ((unhide HEb).below (al_below w3 (.cells (mcs q).toArray 27)))
  have HRK4 := hide ((unhide HRK).below (al_below w3 (.cells (mcs q).toArray 27)))
  clear HD HQ HE3 HB3 HM2 HW2 HE2
  go_simp
  (iterate 10 go_step)
  refine Nt.wpList_value rfl (rpc_alloc _ _ _ _ _ _) ?_
  simp only [Act.put, List.setIfInBounds_toArray, List.set_cons_zero, List.set_cons_succ]
  refine Nt.wpList_skip rfl (rpc_store _ _ _ _ _ _ _ q w3 rfl rfl) ?_
  simp only [Act.put]
  rw [← hM4]
  clear hM4 HM3 HW3 HEa HEb HRK
  generalize w3.alloc (.cells (mcs q).toArray 27) = w4 at HX4 HM4 HW4 HEa4 HEb4 HRK4 ⊢
  go_wp2_with fail
  refine (num17 E 0 w4 ((unhide HG).below (unhide HW4) (unhide HG).pos) (unhide HEa4)).mono ?_
  rintro e w5 ⟨rfl, HB5⟩
  have HX5 := hide ((unhide HX4).below (unhide HB5))
  have HM5 := hide ((unhide HM4).below (unhide HB5))
  have HW5 : Hid (Below w.heap.size w w5) := bnx (unhide HW4) (unhide HB5)
  have HEb5 := hide ((unhide HEb4).below (unhide HB5))
  have HRK5 := hide ((unhide HRK4).below (unhide HB5))
  clear HX4 HM4 HW4 HEa4 HEb4 HRK4 HB5
  go_wp2_with fail
  refine (num17 E2 0 w5 ((unhide HG).below (unhide HW5) (unhide HG).pos) (unhide HEb5)).mono ?_
  rintro e w6 ⟨rfl, HB6⟩
  have HX6 := hide ((unhide HX5).below (unhide HB6))
  have HM6 := hide ((unhide HM5).below (unhide HB6))
  have HW6 : Hid (Below w.heap.size w w6) := bnx (unhide HW5) (unhide HB6)
  have HRK6 := hide ((unhide HRK5).below (unhide HB6))
  clear HX5 HM5 HW5 HEb5 HRK5 HB6
  have HEQ := hide (eqr_any q mqw w6 (unhide HRK6) (mqw_rok w6) (by rw [unhide HQR]; exact ⟨rfl, rfl, rfl, rfl⟩))
  go_simp
  (iterate 9 go_step)
  refine wpList_on (by rfl) fun K hK => wp_load_mid 27 _ rfl M4 0 rfl (mcs q) _ (unhide HX6).range Tryz.underlying27 rfl rpc_size (hK _ _ ?_)
  clear hK K
  simp only [Act.put, List.setIfInBounds_toArray, List.set_cons_zero, List.set_cons_succ]
  refine wpList_on (by rfl) fun K hK => wp_load_mid 27 _ rfl M 0 rfl (mcs mqw) _ (unhide HM6).range Tryz.underlying27 rfl rpc_size (hK _ _ ?_)
  clear hK K
  simp only [Act.put, List.setIfInBounds_toArray, List.set_cons_zero, List.set_cons_succ]
  go_wp2_with fail
  refine (unhide HEQ).mono ?_
  rintro e w7 ⟨⟨b, rfl, hb⟩, HB7⟩
  have HBT : Hid (b = true) := (unhide hb).2 (unhide HQR)
  have HW7 : Hid (Below w.heap.size w w7) := bnx (unhide HW6) (unhide HB7)
  clear hb HB7 HEQ
  go_wp2
  go_ret
  exact ⟨ret_bool (unhide HBT), HW7⟩
end Go.Proofs.YtmmhdhpocjnlbaaGreatDoor.Jr
