/- Proved here: the walk of dovecotelaw16.QuorumEnough: whatever lists it is handed, it returns true. Helper contract. -/
import Derived.Test.YtnflgfpicigajaaDoorZUEn
import Derived.Test.YtnflgfpicigajaaDoorZULw
import Derived.Test.YtnflgfpicigajaaDoorZKTk
namespace Go.Proofs.YtnflgfpicigajaaDoor.Qu
open Go.RowKit Nt
set_option maxRecDepth 100000

theorem step_app1 {w : World} {ops : Array Oper} {o : Oper} {a : Act} {K : Act → World → Prop} {Q : Exit → Act → World → Prop} {E : Prop} (hgd : o.guard = none) (s x : Operand)
    (ho : o.op = .call { callee := .builtin .append, args := #[s, x], argTypes := #[23, 23] })
    (base : Nat) (v : Value) (n : Nat) (xs : List Int) (hs : a.eval s = v) (hown : w.ownsRow base 3 1 v n (xs.map (Value.int .i64))) (g : Nat) (y : Int) (hx : a.eval x = .slice (some ⟨g, 0, none⟩) 1 1) (hy : w.cell? ⟨g, 0, none⟩ = some (.int .i64 y))
    (hn : n ≤ 1000000) (hbase : base ≤ w.heap.size)
    (h : ∀ v' w', w'.ownsRow base 3 1 v' (n + 1) ((xs ++ [y]).map (Value.int .i64)) → w.grownBy w' v.ownBlock → K (a.put o.dst v') w') :
    if Region.wanted o (yielded ops a.tmps) = true then Oper.wp Tryd.prog o a w K Q else E := by
  have hw : Region.wanted o (yielded ops a.tmps) = true := by simp [Region.wanted, hgd]
  rw [if_pos hw]
  obtain ⟨i0, hi, hz0, hz1, hz2⟩ := info_parts infoI
  obtain ⟨v', w', hr, h2, h3, _⟩ := run_append_own (P := Tryd.prog) w base 23 o.type 3 i0 (.int .i64 0) 1 8 Tryd.underlying23 hi hz0 hz1 hz2 rfl (by decide) v n _ hown ⟨g, 0, none⟩ 1 1 [.int .i64 y] rfl
    (fun j u hj => by
      match j, hj with
      | 0, hj => cases hj; exact hy)
    (fun u hu => by simp at hu; subst hu; rfl) (by unfold maxLen; omega) (by omega) hbase
  unfold Oper.wp execOp
  simp only [ho, resolve, invoke, builtin, Sem.run_bind, Sem.run_pure, Result.andThen_ok, List.map_toArray, List.map_cons, List.map_nil, hs, hx, hr]
  exact h v' w' (by rw [List.map_append]; exact h2) h3
theorem eno_set {m v : List Int} (h : Mem m) (hv : Mem v) : enoB m (v ++ [99]) = decide (m.length < 2 * v.countP (fun x => decide (x ∈ m))) := by
  unfold enoB cnt
  rw [h.count, hv.count]
  have e : U7.countP (fun x => decide (x ∈ m) && decide (x ∈ v ++ [99])) = U7.countP (fun x => decide (x ∈ v) && decide (x ∈ m)) := by
    refine List.countP_congr (fun x hx => ?_)
    have h9 : ¬ x = 99 := by
      unfold U7 at hx
      simp at hx
      omega
    simp [h9, and_comm]
  rw [e]
set_option maxHeartbeats 8000000 in
theorem enough16_walk (g off len cap : Nat) (f : Nat → Ak) (w : World) (hg : Laid w) (ha : AksIn w g off f len) :
    Calls Tryd.prog 6 #[.slice (some ⟨g, off, none⟩) len cap] w fun e w' => e = .returned (.bool true) ∧ Below w.heap.size w w' := by
  have HA := hide ha
  have HG := hide hg
  clear ha hg
  go_enter Tryd.func6, Tryd.ntmps6
  go_wp2
  go_loopw [3] (fun ii wr => ∃ k : Nat, k ≤ len ∧ ii = .int .i64 k ∧ Hid (Below w.heap.size w wr)) (fun ii _ => len - (intOf ii).toNat)
  case atStart => exact ⟨0, Nat.zero_le _, rfl, Below.refl _ _⟩
  case round =>
    obtain ⟨k, hk, rfl, HB⟩ := hrel
    by_cases h8 : k < len ∧ k < 8
    · obtain ⟨hlt, h8⟩ := h8
      obtain ⟨⟨q0, q1, q2, q3, q4⟩, ⟨hl1, hl2, hl3, hl4⟩, hs⟩ := (unhide HA) k hlt
      generalize f k = ak at q0 q1 q2 q3 q4 hl1 hl2 hl3 hl4 hs
      obtain ⟨⟨a1, n1, c1⟩, ⟨a2, n2, c2⟩, ⟨a3, n3, c3⟩, ⟨a4, n4, c4⟩, s, lm, lo, lv, lt⟩ := ak
      dsimp only at q0 q1 q2 q3 q4 hl1 hl2 hl3 hl4 hs
      unfold LsS at hl1 hl2 hl3 hl4
      dsimp only at hl1 hl2 hl3 hl4
      have HC : Hid (∀ W, Below w.heap.size w W → W.cell? ⟨g, off + k * 5, none⟩ = some (.slice a1 n1 c1) ∧ W.cell? ⟨g, off + k * 5 + 1, none⟩ = some (.slice a2 n2 c2) ∧ W.cell? ⟨g, off + k * 5 + 2, none⟩ = some (.slice a3 n3 c3) ∧ W.cell? ⟨g, off + k * 5 + 3, none⟩ = some (.slice a4 n4 c4) ∧ W.cell? ⟨g, off + k * 5 + 4, none⟩ = some (.string s)) := fun W hW =>
        ⟨(hW.cell (p := ⟨g, off + k * 5, none⟩) (cell_lt q0)).trans q0, (hW.cell (p := ⟨g, off + k * 5 + 1, none⟩) (cell_lt q1)).trans q1, (hW.cell (p := ⟨g, off + k * 5 + 2, none⟩) (cell_lt q2)).trans q2, (hW.cell (p := ⟨g, off + k * 5 + 3, none⟩) (cell_lt q3)).trans q3, (hW.cell (p := ⟨g, off + k * 5 + 4, none⟩) (cell_lt q4)).trans q4⟩
      have H1 := hide hl1
      have H2 := hide hl2
      have H3 := hide hl3
      have H4 := hide hl4
      have HV := hide (fun W => heavy_any a1 a2 a3 a4 n1 c1 n2 c2 n3 c3 n4 c4 s W hl1.2.2.2.1 hl2.2.2.2.1 hl3.2.2.2.1 hl4.2.2.2.1 hs)
      have hn1 := hl1.2.2.2.1
      clear q0 q1 q2 q3 q4 hl1 hl2 hl3 hl4 hs
      obtain ⟨q0, q1, q2, q3, q4⟩ := (unhide HC) _ (unhide HB)
      go_wp2_with fail
      refine (unhide HV _).mono ?_
      rintro e w1 ⟨⟨d, rfl, HD⟩, hb⟩
      have HB1 : Hid (Below w.heap.size w w1) := bnx (unhide HB) hb
      clear hb q0 q1 q2 q3 q4
      cases d
      · clear HD HV
        obtain ⟨q0, q1, q2, q3, q4⟩ := (unhide HC) _ (unhide HB1)
        go_wp2_with fail
        refine (rmem_any a1 n1 c1 lm _ ((unhide H1).below (unhide HB1))).mono ?_
        rintro e w2 ⟨rfl, qq, hw⟩
        have HB2 : Hid (Below w.heap.size w w2) := by show Below _ _ _; rw [hw]; exact below_drewN (unhide HB1) _
        clear hw q0 q1 q2 q3 q4
        by_cases hM : Mem lm
        · rw [decide_eq_true hM]
          have HM := hide hM
          clear hM
          go_wp2
          go_loopw [4] (fun aa wr => ∃ ka : Nat, ka ≤ 128 ∧ aa = .int .i64 ka ∧ Hid (Below w.heap.size w wr)) (fun aa _ => 128 - (intOf aa).toNat)
          case atStart => exact ⟨0, Nat.zero_le _, rfl, HB2⟩
          case round =>
            obtain ⟨wo, hwo⟩ : ∃ wo, wo = wr := ⟨wr, rfl⟩
            subst hwo
            obtain ⟨ka, hka, rfl, HB3⟩ := hrel
            by_cases hla : ka < 128
            · have HMS := hide (set_mem hla)
              have hsl : (setL ka).length ≤ 7 := setK_len ka 7
              have HST := hide (fun W => set_any ka W hla)
              go_wp2_with fail
              refine (unhide HST _).mono ?_
              rintro e w4 ⟨⟨ao, sn, sc, rfl, HO⟩, HBs⟩
              have HB4 : Hid (Below w.heap.size w w4) := bnx (unhide HB3) (unhide HBs)
              have hsn : (setL ka).length = sn := (unhide HO).ls.1
              rw [hsn] at hsl
              have hso : wo.heap.size ≤ w4.heap.size := (unhide HBs).size
              generalize setL ka = v at HMS HO hsn
              have HSN := hide hsn
              clear hsn HST
              have HBs2 : Hid (Below wo.heap.size wo w4) := HBs
              have hen := eno_set (unhide HM) (unhide HMS)
              obtain ⟨d, hd⟩ : ∃ d, d = enoB lm (v ++ [99]) := ⟨_, rfl⟩
              have HEN := hide hd
              rw [← hd] at hen
              have HDN := hide hen
              clear hd hen HMS
              go_wp2
              go_loopw [6, 7] (fun c i wi => ∃ j qq : Nat, j ≤ sn ∧ i = .int .i64 j ∧ c = .int .i64 (cK v (fun x => decide (x ∈ lm)) j : Nat) ∧ wi = w4.drewN qq) (fun _ i _ => sn - (intOf i).toNat)
              case atStart => exact ⟨0, 0, Nat.zero_le _, rfl, rfl, rfl⟩
              case round =>
                obtain ⟨j, qq, hj, rfl, rfl, rfl⟩ := hrel
                by_cases hlj : j < sn
                · obtain ⟨b, o', rfl, hcj⟩ := (unhide HO).ls.at hlj
                  have HY := hide (fun h => cK_yes (l := v) (p := fun x => decide (x ∈ lm)) (show j < v.length by rw [unhide HSN]; exact hlj) h)
                  have HN := hide (fun h => cK_no (l := v) (p := fun x => decide (x ∈ lm)) (show j < v.length by rw [unhide HSN]; exact hlj) h)
                  have hck := cK_le v (fun x => decide (x ∈ lm)) j
                  generalize cK v (fun x => decide (x ∈ lm)) j = c at HY HN hck ⊢
                  generalize v.getD j 0 = y at hcj HY HN
                  have HK : Hid (∀ W, Below w4.heap.size w4 W → W.cell? ⟨g, off + k * 5, none⟩ = some (.slice a1 n1 c1) ∧ W.cell? ⟨b, o' + j, none⟩ = some (.int .i64 y)) := fun W hW => ⟨((unhide HC) _ (bnx (unhide HB4) hW)).1, (hW.cell (p := ⟨b, o' + j, none⟩) (cell_lt hcj)).trans hcj⟩
                  clear hcj
                  go_wp2
                  go_region_held3 (fun W => W.cell? ⟨g, off + k * 5, none⟩ = some (.slice a1 n1 c1) ∧ W.cell? ⟨b, o' + j, none⟩ = some (.int .i64 y))
                    (first | exact (unhide HK) _ (below_drewN (Below.refl _ _) _) | exact (unhide HK) _ (below_drewN (below_drewN (Below.refl _ _) _) 1) | assumption)
                    (first | (go_at_call 25; refine (in_any a1 n1 c1 lm y _ ((unhide H1).below (bnx (unhide HB4) (below_drewN (below_drewN (Below.refl _ _) _) 1)))).mono ?_; rintro e w6 ⟨⟨z, rfl, HZ⟩, hw6⟩; obtain rfl := hw6.symm; clear hw6) | fail)
                  rcases unhide HZ with ⟨h1, h2, _⟩ | ⟨h1, rfl⟩
                  · have HY2 := hide (unhide HY (decide_eq_true h1))
                    clear HY HN h1 HZ HK
                    go_wp2
                    go_roundw
                    case rel => exact ⟨j + 1, _, by omega, by go_num, by rw [unhide HY2]; go_num, rfl⟩
                    case measure => simp [intOf]; omega
                  · have HN2 := hide (unhide HN (decide_eq_false h1))
                    clear HY HN h1 HZ HK
                    go_wp2
                    go_roundw
                    case rel => exact ⟨j + 1, _, by omega, by go_num, by rw [unhide HN2], rfl⟩
                    case measure => simp [intOf]; omega
                · obtain rfl : sn = j := by omega
                  have HCC : Hid (cK v (fun x => decide (x ∈ lm)) sn = v.countP (fun x => decide (x ∈ lm))) := by
                    show _ = _
                    rw [← unhide HSN]; exact cK_all _ _
                  have hck := cK_le v (fun x => decide (x ∈ lm)) sn
                  generalize cK v (fun x => decide (x ∈ lm)) sn = c at HCC hck ⊢
                  have hw1 : IntKind.i64.wrap (2 * (c : Int)) = 2 * (c : Int) := by rw [IntKind.wrap_i64]; omega
                  have hw2 : wrap64 (2 * (c : Int)) = 2 * (c : Int) := by unfold wrap64; omega
                  go_wp2_with fail
                  have HBd : Hid (Below w4.heap.size w4 ((w4.drewN qq).drew)) := below_drewN (below_drewN (Below.refl _ _) qq) 1
                  have HS : Hid (∀ W, Below w4.heap.size w4 W → W.cell? ⟨g, off + k * 5, none⟩ = some (.slice a1 n1 c1)) := fun W hW => ((unhide HC) _ (bnx (unhide HB4) hW)).1
                  refine wp_region_noPanic ?_
                  refine wp_region_held_drew (S := fun W => W.cell? ⟨g, off + k * 5, none⟩ = some (.slice a1 n1 c1)) (by kernel_rfl) ((unhide HS) _ (unhide HBd)) (fun hHeld => ?_)
                  refine rtk 0 (h := ?_)
                  refine rtk 1 (h := ?_)
                  refine rtk 2 (h := ?_)
                  refine rtk 3 (h := ?_)
                  refine rtk 4 (h := ?_)
                  refine rtk 5 (h := ?_)
                  have HOd : Hid (World.ownsRow ((w4.drewN qq).drew) wo.heap.size 3 1 (.slice ao sn sc) sn (v.map (Value.int .i64))) := (unhide HO).1
                  generalize (w4.drewN qq).drew = wd at HBd HOd hHeld ⊢
                  refine rcl 6 (h := fun K hK => ?_)
                  go_simp
                  have HBe : Hid (Below w4.heap.size w4 (wd.alloc (.cells #[.int .i64 99] 3))) := bnx (unhide HBd) ((Below.refl _ _).alloc (Nat.le_refl _) _)
                  have HOe := hide ((unhide HOd).alloc (.cells #[.int .i64 99] 3))
                  have hce : (wd.alloc (.cells #[.int .i64 99] 3)).cell? ⟨wd.heap.size, 0, none⟩ = some (.int .i64 99) := by simp
                  refine hK.out _ _ ((unhide HS) _ (unhide HBe)) (fun hHeld2 => ?_)
                  clear hK K hHeld HOd
                  have hse : w4.heap.size ≤ (wd.alloc (.cells #[.int .i64 99] 3)).heap.size := (unhide HBe).size
                  generalize wd.alloc (.cells #[.int .i64 99] 3) = we at HBe HOe hce hse hHeld2 ⊢
                  refine rcl 7 (h := fun K hK => ?_)
                  refine step_app1 rfl _ _ rfl wo.heap.size (.slice ao sn sc) sn v rfl (unhide HOe) wd.heap.size 99 rfl hce (by omega) (by omega) ?_
                  intro v' w7 hown hgrow
                  have HB7 : Hid (Below w.heap.size w w7) := by
                    have h1 : Below wo.heap.size wo we := bnx (unhide HBs2) (unhide HBe)
                    exact bnx (unhide HB3) (h1.grown hgrow h1.size (fun j hj => ((unhide HOe).lt j hj).1))
                  obtain ⟨av, cv, hv', ho'⟩ := OwnI.of hown (by omega)
                  subst hv'
                  have HO7 := hide ho'.ls
                  refine hK.out _ _ (((unhide HC) _ (unhide HB7)).1) (fun hHeld3 => ?_)
                  clear hK K hHeld2 hown hgrow ho' hce
                  simp only [Act.put, List.setIfInBounds_toArray, List.set_cons_zero, List.set_cons_succ]
                  refine rcl 8 (h := fun K hK => ?_)
                  go_simp
                  refine (eno_any a1 av n1 c1 (sn + 1) cv lm (v ++ [99]) _ ((unhide H1).below (unhide HB7)) (unhide HO7)).mono ?_
                  rintro e w8 (⟨_, rfl, hw⟩ | ⟨hM, _⟩)
                  rotate_left
                  · exact absurd (unhide HM) hM
                  obtain rfl := hw.symm
                  rw [← unhide HEN]
                  refine hK.out _ _ hHeld3 (fun hHeld4 => ?_)
                  clear hK K hw HO7
                  refine rtk 9 (h := ?_)
                  refine rtk 10 (h := ?_)
                  refine rtk 11 (h := ?_)
                  refine rcl 12 (h := fun K hK => ?_)
                  go_simp
                  refine hK.out _ _ hHeld4 (fun hHeld5 => ?_)
                  clear hK K
                  refine rcl 13 (h := fun K hK => ?_)
                  go_simp
                  refine hK.out _ _ hHeld5 (fun hHeld6 => ?_)
                  clear hK K
                  refine wpAnyH_done (by kernel_rfl) ?_ _
                  refine NoPanic.normal ?_
                  go_wp2_with fail
                  refine (num_err _ 0 _ ((unhide HG).below (unhide HB7) (unhide HG).pos) ((ErrB.nil _).errX)).mono ?_
                  rintro e w9 ⟨rfl, hb⟩
                  have HB9 : Hid (Below w.heap.size w w9) := bnx (unhide HB7) hb
                  have HLN : Hid (d = decide (n1 < 2 * c)) := by show _ = _; rw [unhide HDN, ← unhide HCC, (unhide H1).1]
                  clear hb hHeld6 hHeld5 hHeld4 hHeld3
                  obtain ⟨q0, q1, q2, q3, q4⟩ := (unhide HC) _ (unhide HB9)
                  cases d
                  · have hlt2 : ¬ (n1 : Int) < 2 * (c : Int) := by have := of_decide_eq_false (unhide HLN).symm; omega
                    go_wp2
                    go_roundw
                    case rel => exact ⟨ka + 1, by omega, by go_num, HB9⟩
                    case measure => simp [intOf]; omega
                  · have hlt2 : (n1 : Int) < 2 * (c : Int) := by have := of_decide_eq_true (unhide HLN).symm; omega
                    go_wp2
                    go_roundw
                    case rel => exact ⟨ka + 1, by omega, by go_num, HB9⟩
                    case measure => simp [intOf]; omega
            · obtain rfl : ka = 128 := by omega
              go_wp2
              go_roundw
              case rel => exact ⟨k + 1, by omega, by go_num, HB3⟩
              case measure => simp [intOf]; omega
        · rw [decide_eq_false hM]
          clear hM
          go_wp2
          go_roundw
          case rel => exact ⟨k + 1, by omega, by go_num, HB2⟩
          case measure => simp [intOf]; omega
      · clear HD HV
        go_wp2
        go_roundw
        case rel => exact ⟨k + 1, by omega, by go_num, HB1⟩
        case measure => simp [intOf]; omega
    · have hend : ¬ (k : Int) < (len : Int) ∨ ¬ (k : Int) < 8 := by omega
      by_cases h9 : (k : Int) < (len : Int)
      · have h9b : ¬ (k : Int) < 8 := by omega
        go_wp2_with fail
        refine (wakes_any _ ((unhide HG).below (unhide HB) (unhide HG).pos)).mono ?_
        rintro e w9 ⟨rfl, hb9⟩
        have HB9 : Hid (Below w.heap.size w w9) := bnx (unhide HB) hb9
        clear hb9
        go_wp2
        go_ret
        exact ⟨rfl, unhide HB9⟩
      · go_wp2_with fail
        refine (wakes_any _ ((unhide HG).below (unhide HB) (unhide HG).pos)).mono ?_
        rintro e w9 ⟨rfl, hb9⟩
        have HB9 : Hid (Below w.heap.size w w9) := bnx (unhide HB) hb9
        clear hb9
        go_wp2
        go_ret
        exact ⟨rfl, unhide HB9⟩
theorem enough16_walk0 (ao : Option Addr) (cap : Nat) (w : World) (hg : Laid w) :
    Calls Tryd.prog 6 #[.slice ao 0 cap] w fun e w' => e = .returned (.bool true) ∧ Below w.heap.size w w' := by
  have HG := hide hg
  have HB : Hid (Below w.heap.size w w) := Below.refl _ _
  clear hg
  go_enter Tryd.func6, Tryd.ntmps6
  go_wp2
  refine wp_loop_rounds 1 ?_
  rw [rounds_succ]
  go_wp2_with fail
  refine (wakes_any _ ((unhide HG).below (unhide HB) (unhide HG).pos)).mono ?_
  rintro e w9 ⟨rfl, hb9⟩
  have HB9 : Hid (Below w.heap.size w w9) := bnx (unhide HB) hb9
  clear hb9
  go_wp2
  go_ret
  exact ⟨rfl, unhide HB9⟩
end Go.Proofs.YtnflgfpicigajaaDoor.Qu
