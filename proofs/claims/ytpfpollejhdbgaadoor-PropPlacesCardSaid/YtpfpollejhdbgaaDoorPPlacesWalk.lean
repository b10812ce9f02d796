/- Proved here: dovecotelaw3.PropPlaces tells true, and turns nothing below. Helper contracts. -/
import Derived.Test.YtpfpollejhdbgaaDoorPPutsWalk
namespace Go.Proofs.YtpfpollejhdbgaaDoor
open Go.RowKit
set_option maxRecDepth 100000

set_option maxHeartbeats 40000000 in
theorem places_walk (ao : Option Addr) (len cap : Nat) (w : World) (_ : len ≤ maxLen) (hg : Laid w) :
    Calls Tryd.prog 6 #[.slice ao len cap] w fun e w' => e = .returned (.bool true) ∧ Below w.heap.size w w' := by
  have HG := hide hg
  clear hg
  go_enter Tryd.func6, Tryd.ntmps6
  go_wp2
  go_loopw [3] (fun x wr => ∃ i : Nat, i ≤ 44 ∧ x = .int .i64 i ∧ Below w.heap.size w wr) (fun x _ => 44 - (intOf x).toNat)
  case atStart => exact ⟨0, by omega, rfl, Below.refl _ _⟩
  case round =>
    obtain ⟨i, hi, rfl, hbel⟩ := hrel
    by_cases hi44 : i < 44
    · have HB1 := hide hbel
      have q1 : decide ((i : Int) ≤ 43) = true := decide_eq_true (by omega)
      clear hbel
      obtain ⟨w1, hw1⟩ : ∃ w1, w1 = wr := ⟨wr, rfl⟩
      subst hw1
      go_wp2
      go_loopw [4] (fun x wr => ∃ j : Nat, j ≤ 2 ∧ x = .int .i64 j ∧ Below w.heap.size w wr) (fun x _ => 2 - (intOf x).toNat)
      case atStart => exact ⟨0, by omega, rfl, unhide HB1⟩
      case round =>
        obtain ⟨j, hj, rfl, hbel⟩ := hrel
        by_cases hj2 : j < 2
        · have HB2 := hide hbel
          have q2 : decide ((j : Int) ≤ 1) = true := decide_eq_true (by omega)
          clear hbel
          obtain ⟨w2, hw2⟩ : ∃ w2, w2 = wr := ⟨wr, rfl⟩
          subst hw2
          have HB3 : Hid (Below w.heap.size w (w2.alloc (.cells #[.int .i64 i, .int .i64 j, .string es, .string es] 49))) := (unhide HB2).alloc (unhide HB2).size _
          have HCL : Hid (∀ W, Below (w2.alloc (.cells #[.int .i64 i, .int .i64 j, .string es, .string es] 49)).heap.size (w2.alloc (.cells #[.int .i64 i, .int .i64 j, .string es, .string es] 49)) W → W.cell? ⟨w2.heap.size, 0, none⟩ = some (.int .i64 i) ∧ W.cell? ⟨w2.heap.size, 1, none⟩ = some (.int .i64 j) ∧ W.cell? ⟨w2.heap.size, 2, none⟩ = some (.string es) ∧ W.cell? ⟨w2.heap.size, 3, none⟩ = some (.string es)) := fun W h =>
            ⟨(h.cell (p := ⟨w2.heap.size, 0, none⟩) (by simp)).trans (by simp), (h.cell (p := ⟨w2.heap.size, 1, none⟩) (by simp)).trans (by simp), (h.cell (p := ⟨w2.heap.size, 2, none⟩) (by simp)).trans (by simp), (h.cell (p := ⟨w2.heap.size, 3, none⟩) (by simp)).trans (by simp)⟩
          go_wp2
          generalize w2.alloc (.cells #[.int .i64 i, .int .i64 j, .string es, .string es] 49) = WB at HB3 HCL ⊢
          go_loopw [6] (fun x wr => ∃ m : Nat, m ≤ 18 ∧ x = .int .i64 m ∧ Below WB.heap.size WB wr) (fun x _ => 18 - (intOf x).toNat)
          case atStart => exact ⟨0, by omega, rfl, Below.refl _ _⟩
          case round =>
            obtain ⟨m, hm, rfl, hbel⟩ := hrel
            by_cases hm18 : m < 18
            · have HB4 := hide hbel
              have HGW : Hid (∀ W, Below WB.heap.size WB W → Laid W) := fun W h => ((unhide HG).below (unhide HB3) (unhide HG).pos).below h (by have := (unhide HB3).size; have := (unhide HG).pos; omega)
              clear hbel
              have HK1 := hide (fun (vx : Value) W (h : Prp W vx [((i : Int), (j : Int), es, es)]) => check_any vx _ (m : Int) W h (by simp) (small_lit1 _ _ _ _ es_small es_small))
              have HR1 := hide (fun (vx : Value) W (h : Prp W vx [((i : Int), (j : Int), es, es)]) => rchk_any vx _ (m : Int) W h (by simp) (small_lit1 _ _ _ _ es_small es_small))
              have HK2 := hide (fun (vx : Value) W (h : Prp W vx [((i : Int), (j : Int), es, es), ((i : Int), (j : Int), es, es)]) => check_any vx _ (m : Int) W h (by simp) (small_lit2 _ _ _ _ es_small es_small))
              have HR2 := hide (fun (vx : Value) W (h : Prp W vx [((i : Int), (j : Int), es, es), ((i : Int), (j : Int), es, es)]) => rchk_any vx _ (m : Int) W h (by simp) (small_lit2 _ _ _ _ es_small es_small))
              generalize chkP (m : Int) [((i : Int), (j : Int), es, es)] = c1 at HK1 HR1
              generalize chkP (m : Int) [((i : Int), (j : Int), es, es), ((i : Int), (j : Int), es, es)] = c2 at HK2 HR2
              go_wp2_with fail
              have HX0 : Hid (Below WB.heap.size WB wr.drew) := below_drewN (unhide HB4) 1
              refine wp_region_noPanic ?_
              refine wp_region_held_drew (S := (fun w' => w'.cell? ⟨w2.heap.size, 0, none⟩ = some (.int .i64 i) ∧ w'.cell? ⟨w2.heap.size, 1, none⟩ = some (.int .i64 j) ∧ w'.cell? ⟨w2.heap.size, 2, none⟩ = some (.string es) ∧ w'.cell? ⟨w2.heap.size, 3, none⟩ = some (.string es))) (by kernel_rfl) ((unhide HCL) _ (unhide HX0)) (fun hHeld => ?_)
              generalize wr.drew = w10 at HX0 hHeld ⊢
              refine wpAnyH_take (i := 0) (oi := { dst := some 22, op := Op.load 49 (Operand.tmp 5), type := 49, pos := "more.go:16", after := #[], guard := none }) (v := ?v1) rfl (by kernel_rfl) (by kernel_rfl) (by kernel_rfl) (fun _ _ _ h => h) (Or.inl ⟨by rfl, ?hy1⟩) (by assumption) ?rest1
              case hy1 => (intro w hSw; (try dsimp only at hSw); go_simp; (try rw [if_pos (by omega)]); (try with_reducible rfl))
              simp only [Act.put, List.setIfInBounds_toArray, List.set_cons_zero, List.set_cons_succ]
              refine wpAnyH_take (i := 2) (oi := { dst := some 24, op := Op.move (Operand.tmp 6), type := 3, pos := "more.go:16", after := #[], guard := none }) (v := ?v2) rfl (by kernel_rfl) (by kernel_rfl) (by kernel_rfl) (fun _ _ _ h => h) (Or.inl ⟨by rfl, ?hy2⟩) (by assumption) ?rest2
              case hy2 => (intro w hSw; (try dsimp only at hSw); go_simp; (try rw [if_pos (by omega)]); (try with_reducible rfl))
              simp only [Act.put, List.setIfInBounds_toArray, List.set_cons_zero, List.set_cons_succ]
              refine wpAnyH_take (i := 5) (oi := { dst := some 27, op := Op.load 49 (Operand.tmp 5), type := 49, pos := "more.go:16", after := #[], guard := none }) (v := ?v3) rfl (by kernel_rfl) (by kernel_rfl) (by kernel_rfl) (fun _ _ _ h => h) (Or.inl ⟨by rfl, ?hy3⟩) (by assumption) ?rest3
              case hy3 => (intro w hSw; (try dsimp only at hSw); go_simp; (try rw [if_pos (by omega)]); (try with_reducible rfl))
              simp only [Act.put, List.setIfInBounds_toArray, List.set_cons_zero, List.set_cons_succ]
              refine wpAnyH_take (i := 7) (oi := { dst := some 29, op := Op.move (Operand.tmp 6), type := 3, pos := "more.go:16", after := #[], guard := none }) (v := ?v4) rfl (by kernel_rfl) (by kernel_rfl) (by kernel_rfl) (fun _ _ _ h => h) (Or.inl ⟨by rfl, ?hy4⟩) (by assumption) ?rest4
              case hy4 => (intro w hSw; (try dsimp only at hSw); go_simp; (try rw [if_pos (by omega)]); (try with_reducible rfl))
              simp only [Act.put, List.setIfInBounds_toArray, List.set_cons_zero, List.set_cons_succ]
              refine wpAnyH_ready (rs := [1, 6]) (by kernel_rfl) (by simp) ?_
              refine AllReadyH.cons (o := { dst := some 23, op := Op.buildSlice 23 1 #[(0, Operand.tmp 22)], type := 23, pos := "more.go:16", after := #[{ on := 0, ground := Ground.data }], guard := none }) rfl (fun K hK => ?_) (AllReadyH.cons (o := { dst := some 28, op := Op.buildSlice 23 1 #[(0, Operand.tmp 27)], type := 23, pos := "more.go:16", after := #[{ on := 5, ground := Ground.data }], guard := none }) rfl (fun K hK => ?_) AllReadyH.nil)
              · go_simp
                refine hK.out _ _ ((unhide HCL) _ ((unhide HX0).alloc (unhide HX0).size _)) (fun hHeld => ?_)
                clear hK K
                have HX11 : Hid (Below WB.heap.size WB (w10.alloc (.cells #[.int .i64 i, .int .i64 j, .string es, .string es] 49))) := (unhide HX0).alloc (unhide HX0).size _
                have HQA11 : Hid (Prp (w10.alloc (.cells #[.int .i64 i, .int .i64 j, .string es, .string es] 49)) (.slice (some ⟨w10.heap.size, 0, none⟩) 1 1) [((i : Int), (j : Int), es, es)]) := prp_lit1 _ _ _ _ _ _ _
                generalize w10.alloc (.cells #[.int .i64 i, .int .i64 j, .string es, .string es] 49) = w11 at hHeld HX11 HQA11 ⊢
                refine wpAnyH_ready (rs := [3, 6]) (by kernel_rfl) (by simp) ?_
                refine AllReadyH.cons (o := { dst := some 25, op := Op.call { callee := Callee.value (Operand.func 16), args := #[Operand.tmp 23, Operand.tmp 24], argTypes := #[23, 3] }, type := 33, pos := "more.go:16", after := #[{ on := 1, ground := Ground.data }, { on := 2, ground := Ground.data }], guard := none }) rfl (fun K hK => ?_) (AllReadyH.cons (o := { dst := some 28, op := Op.buildSlice 23 1 #[(0, Operand.tmp 27)], type := 23, pos := "more.go:16", after := #[{ on := 5, ground := Ground.data }], guard := none }) rfl (fun K hK => ?_) AllReadyH.nil)
                · go_simp
                  refine ((unhide HK1) _ _ (unhide HQA11)).mono ?_
                  rintro e w13 ⟨E13, rfl, HEE13, hb13⟩
                  have HX13 : Hid (Below WB.heap.size WB w13) := (unhide HX11).trans (hb13.mono (unhide HX11).size)
                  have HQA13 : Hid (Prp w13 (.slice (some ⟨w10.heap.size, 0, none⟩) 1 1) [((i : Int), (j : Int), es, es)]) := (unhide HQA11).below hb13
                  clear hb13
                  go_wp2_with fail
                  refine hK.out _ _ ((unhide HCL) _ (unhide HX13)) (fun hHeld => ?_)
                  clear hK K
                  refine wpAnyH_ready (rs := [4, 6]) (by kernel_rfl) (by simp) ?_
                  refine AllReadyH.cons (o := { dst := some 26, op := Op.call { callee := Callee.value (Operand.func 15), args := #[Operand.tmp 25], argTypes := #[33] }, type := 3, pos := "more.go:16", after := #[{ on := 3, ground := Ground.data }, { on := 3, ground := Ground.chain }], guard := none }) rfl (fun K hK => ?_) (AllReadyH.cons (o := { dst := some 28, op := Op.buildSlice 23 1 #[(0, Operand.tmp 27)], type := 23, pos := "more.go:16", after := #[{ on := 5, ground := Ground.data }], guard := none }) rfl (fun K hK => ?_) AllReadyH.nil)
                  · go_simp
                    refine (numlp _ c1 _ ((unhide HGW) _ (unhide HX13)) (unhide HEE13)).mono ?_
                    rintro e w15 ⟨rfl, hb15⟩
                    have HX15 : Hid (Below WB.heap.size WB w15) := (unhide HX13).trans (hb15.mono (unhide HX13).size)
                    have HQA15 : Hid (Prp w15 (.slice (some ⟨w10.heap.size, 0, none⟩) 1 1) [((i : Int), (j : Int), es, es)]) := (unhide HQA13).below hb15
                    have HEE15 : Hid (ErrP w15 E13 c1) := (unhide HEE13).below hb15
                    clear hb15
                    go_wp2_with fail
                    refine hK.out _ _ ((unhide HCL) _ (unhide HX15)) (fun hHeld => ?_)
                    clear hK K
                    refine wpAnyH_ready (rs := [6]) (by kernel_rfl) (by simp) ?_
                    refine AllReadyH.cons (o := { dst := some 28, op := Op.buildSlice 23 1 #[(0, Operand.tmp 27)], type := 23, pos := "more.go:16", after := #[{ on := 5, ground := Ground.data }], guard := none }) rfl (fun K hK => ?_) AllReadyH.nil
                    go_simp
                    refine hK.out _ _ ((unhide HCL) _ ((unhide HX15).alloc (unhide HX15).size _)) (fun hHeld => ?_)
                    clear hK K
                    have HX17 : Hid (Below WB.heap.size WB (w15.alloc (.cells #[.int .i64 i, .int .i64 j, .string es, .string es] 49))) := (unhide HX15).alloc (unhide HX15).size _
                    have HQB17 : Hid (Prp (w15.alloc (.cells #[.int .i64 i, .int .i64 j, .string es, .string es] 49)) (.slice (some ⟨w15.heap.size, 0, none⟩) 1 1) [((i : Int), (j : Int), es, es)]) := prp_lit1 _ _ _ _ _ _ _
                    have HQA17 : Hid (Prp (w15.alloc (.cells #[.int .i64 i, .int .i64 j, .string es, .string es] 49)) (.slice (some ⟨w10.heap.size, 0, none⟩) 1 1) [((i : Int), (j : Int), es, es)]) := (unhide HQA15).below ((Below.refl _ _).alloc (Nat.le_refl _) _)
                    generalize w15.alloc (.cells #[.int .i64 i, .int .i64 j, .string es, .string es] 49) = w17 at hHeld HX17 HQB17 HQA17 ⊢
                    refine wpAnyH_ready (rs := [8]) (by kernel_rfl) (by simp) ?_
                    refine AllReadyH.cons (o := { dst := some 30, op := Op.call { callee := Callee.value (Operand.func 11), args := #[Operand.tmp 28, Operand.tmp 29], argTypes := #[23, 3] }, type := 3, pos := "more.go:16", after := #[{ on := 6, ground := Ground.data }, { on := 7, ground := Ground.data }, { on := 4, ground := Ground.chain }], guard := none }) rfl (fun K hK => ?_) AllReadyH.nil
                    go_simp
                    refine ((unhide HR1) _ _ (unhide HQB17)).mono ?_
                    rintro e w18 ⟨rfl, hb18⟩
                    have HX18 : Hid (Below WB.heap.size WB w18) := (unhide HX17).trans (hb18.mono (unhide HX17).size)
                    have HQA18 : Hid (Prp w18 (.slice (some ⟨w10.heap.size, 0, none⟩) 1 1) [((i : Int), (j : Int), es, es)]) := (unhide HQA17).below hb18
                    have HQB18 : Hid (Prp w18 (.slice (some ⟨w15.heap.size, 0, none⟩) 1 1) [((i : Int), (j : Int), es, es)]) := (unhide HQB17).below hb18
                    clear hb18
                    go_wp2_with fail
                    refine hK.out _ _ ((unhide HCL) _ (unhide HX18)) (fun hHeld => ?_)
                    clear hK K
                    refine wpAnyH_take (i := 9) (oi := { dst := some 31, op := Op.binOp BinOp.neq 3 (Operand.tmp 26) (Operand.tmp 30) 3, type := 4, pos := "more.go:16", after := #[{ on := 4, ground := Ground.data }, { on := 8, ground := Ground.data }], guard := none }) (v := ?v5) rfl (by kernel_rfl) (by kernel_rfl) (by kernel_rfl) (fun _ _ _ h => h) (Or.inl ⟨by rfl, ?hy5⟩) (by assumption) ?rest5
                    case hy5 => (intro w hSw; (try dsimp only at hSw); go_simp; (try rw [if_pos (by omega)]); (try with_reducible rfl))
                    simp only [Act.put, List.setIfInBounds_toArray, List.set_cons_zero, List.set_cons_succ]
                    refine wpAnyH_take (i := 10) (oi := { dst := some 32, op := Op.move (Operand.tmp 31), type := 4, pos := "more.go:16", after := #[{ on := 9, ground := Ground.data }, { on := 8, ground := Ground.chain }], guard := none }) (v := ?v6) rfl (by kernel_rfl) (by kernel_rfl) (by kernel_rfl) (fun _ _ _ h => h) (Or.inl ⟨by rfl, ?hy6⟩) (by assumption) ?rest6
                    case hy6 => (intro w hSw; (try dsimp only at hSw); go_simp; (try rw [if_pos (by omega)]); (try with_reducible rfl))
                    simp only [Act.put, List.setIfInBounds_toArray, List.set_cons_zero, List.set_cons_succ]
                    refine wpAnyH_take (i := 11) (oi := { dst := some 33, op := Op.load 49 (Operand.tmp 5), type := 49, pos := "more.go:16", after := #[{ on := 10, ground := Ground.guard }], guard := some (10, false) }) (v := ?v7) rfl (by kernel_rfl) (by kernel_rfl) (by kernel_rfl) (fun _ _ _ h => h) (Or.inl ⟨by rfl, ?hy7⟩) (by assumption) ?rest7
                    case hy7 => (intro w hSw; (try dsimp only at hSw); go_simp; (try rw [if_pos (by omega)]); (try with_reducible rfl))
                    simp only [Act.put, List.setIfInBounds_toArray, List.set_cons_zero, List.set_cons_succ]
                    refine wpAnyH_take (i := 12) (oi := { dst := some 34, op := Op.load 49 (Operand.tmp 5), type := 49, pos := "more.go:16", after := #[{ on := 10, ground := Ground.guard }], guard := some (10, false) }) (v := ?v8) rfl (by kernel_rfl) (by kernel_rfl) (by kernel_rfl) (fun _ _ _ h => h) (Or.inl ⟨by rfl, ?hy8⟩) (by assumption) ?rest8
                    case hy8 => (intro w hSw; (try dsimp only at hSw); go_simp; (try rw [if_pos (by omega)]); (try with_reducible rfl))
                    simp only [Act.put, List.setIfInBounds_toArray, List.set_cons_zero, List.set_cons_succ]
                    refine wpAnyH_take (i := 14) (oi := { dst := some 36, op := Op.move (Operand.tmp 6), type := 3, pos := "more.go:16", after := #[{ on := 10, ground := Ground.guard }], guard := some (10, false) }) (v := ?v9) rfl (by kernel_rfl) (by kernel_rfl) (by kernel_rfl) (fun _ _ _ h => h) (Or.inl ⟨by rfl, ?hy9⟩) (by assumption) ?rest9
                    case hy9 => (intro w hSw; (try dsimp only at hSw); go_simp; (try rw [if_pos (by omega)]); (try with_reducible rfl))
                    simp only [Act.put, List.setIfInBounds_toArray, List.set_cons_zero, List.set_cons_succ]
                    refine wpAnyH_take (i := 17) (oi := { dst := some 39, op := Op.load 49 (Operand.tmp 5), type := 49, pos := "more.go:16", after := #[{ on := 10, ground := Ground.guard }], guard := some (10, false) }) (v := ?v10) rfl (by kernel_rfl) (by kernel_rfl) (by kernel_rfl) (fun _ _ _ h => h) (Or.inl ⟨by rfl, ?hy10⟩) (by assumption) ?rest10
                    case hy10 => (intro w hSw; (try dsimp only at hSw); go_simp; (try rw [if_pos (by omega)]); (try with_reducible rfl))
                    simp only [Act.put, List.setIfInBounds_toArray, List.set_cons_zero, List.set_cons_succ]
                    refine wpAnyH_take (i := 18) (oi := { dst := some 40, op := Op.load 49 (Operand.tmp 5), type := 49, pos := "more.go:16", after := #[{ on := 10, ground := Ground.guard }], guard := some (10, false) }) (v := ?v11) rfl (by kernel_rfl) (by kernel_rfl) (by kernel_rfl) (fun _ _ _ h => h) (Or.inl ⟨by rfl, ?hy11⟩) (by assumption) ?rest11
                    case hy11 => (intro w hSw; (try dsimp only at hSw); go_simp; (try rw [if_pos (by omega)]); (try with_reducible rfl))
                    simp only [Act.put, List.setIfInBounds_toArray, List.set_cons_zero, List.set_cons_succ]
                    refine wpAnyH_take (i := 20) (oi := { dst := some 42, op := Op.move (Operand.tmp 6), type := 3, pos := "more.go:16", after := #[{ on := 10, ground := Ground.guard }], guard := some (10, false) }) (v := ?v12) rfl (by kernel_rfl) (by kernel_rfl) (by kernel_rfl) (fun _ _ _ h => h) (Or.inl ⟨by rfl, ?hy12⟩) (by assumption) ?rest12
                    case hy12 => (intro w hSw; (try dsimp only at hSw); go_simp; (try rw [if_pos (by omega)]); (try with_reducible rfl))
                    simp only [Act.put, List.setIfInBounds_toArray, List.set_cons_zero, List.set_cons_succ]
                    refine wpAnyH_ready (rs := [13, 19]) (by kernel_rfl) (by simp) ?_
                    refine AllReadyH.cons (o := { dst := some 35, op := Op.buildSlice 23 2 #[(0, Operand.tmp 33), (1, Operand.tmp 34)], type := 23, pos := "more.go:16", after := #[{ on := 11, ground := Ground.data }, { on := 12, ground := Ground.data }, { on := 10, ground := Ground.guard }], guard := some (10, false) }) rfl (fun K hK => ?_) (AllReadyH.cons (o := { dst := some 41, op := Op.buildSlice 23 2 #[(0, Operand.tmp 39), (1, Operand.tmp 40)], type := 23, pos := "more.go:16", after := #[{ on := 17, ground := Ground.data }, { on := 18, ground := Ground.data }, { on := 10, ground := Ground.guard }], guard := some (10, false) }) rfl (fun K hK => ?_) AllReadyH.nil)
                    · go_simp
                      refine hK.out _ _ ((unhide HCL) _ ((unhide HX18).alloc (unhide HX18).size _)) (fun hHeld => ?_)
                      clear hK K
                      have HX19 : Hid (Below WB.heap.size WB (w18.alloc (.cells #[.int .i64 i, .int .i64 j, .string es, .string es, .int .i64 i, .int .i64 j, .string es, .string es] 49))) := (unhide HX18).alloc (unhide HX18).size _
                      have HQA19 : Hid (Prp (w18.alloc (.cells #[.int .i64 i, .int .i64 j, .string es, .string es, .int .i64 i, .int .i64 j, .string es, .string es] 49)) (.slice (some ⟨w18.heap.size, 0, none⟩) 2 2) [((i : Int), (j : Int), es, es), ((i : Int), (j : Int), es, es)]) := prp_lit2 _ _ _ _ _ _ _
                      generalize w18.alloc (.cells #[.int .i64 i, .int .i64 j, .string es, .string es, .int .i64 i, .int .i64 j, .string es, .string es] 49) = w19 at hHeld HX19 HQA19 ⊢
                      refine wpAnyH_ready (rs := [15, 19]) (by kernel_rfl) (by simp) ?_
                      refine AllReadyH.cons (o := { dst := some 37, op := Op.call { callee := Callee.value (Operand.func 16), args := #[Operand.tmp 35, Operand.tmp 36], argTypes := #[23, 3] }, type := 33, pos := "more.go:16", after := #[{ on := 13, ground := Ground.data }, { on := 14, ground := Ground.data }, { on := 10, ground := Ground.chain }, { on := 10, ground := Ground.guard }], guard := some (10, false) }) rfl (fun K hK => ?_) (AllReadyH.cons (o := { dst := some 41, op := Op.buildSlice 23 2 #[(0, Operand.tmp 39), (1, Operand.tmp 40)], type := 23, pos := "more.go:16", after := #[{ on := 17, ground := Ground.data }, { on := 18, ground := Ground.data }, { on := 10, ground := Ground.guard }], guard := some (10, false) }) rfl (fun K hK => ?_) AllReadyH.nil)
                      · go_simp
                        refine ((unhide HK2) _ _ (unhide HQA19)).mono ?_
                        rintro e w21 ⟨E21, rfl, HEE21, hb21⟩
                        have HX21 : Hid (Below WB.heap.size WB w21) := (unhide HX19).trans (hb21.mono (unhide HX19).size)
                        have HQA21 : Hid (Prp w21 (.slice (some ⟨w18.heap.size, 0, none⟩) 2 2) [((i : Int), (j : Int), es, es), ((i : Int), (j : Int), es, es)]) := (unhide HQA19).below hb21
                        clear hb21
                        go_wp2_with fail
                        refine hK.out _ _ ((unhide HCL) _ (unhide HX21)) (fun hHeld => ?_)
                        clear hK K
                        refine wpAnyH_ready (rs := [16, 19]) (by kernel_rfl) (by simp) ?_
                        refine AllReadyH.cons (o := { dst := some 38, op := Op.call { callee := Callee.value (Operand.func 15), args := #[Operand.tmp 37], argTypes := #[33] }, type := 3, pos := "more.go:16", after := #[{ on := 15, ground := Ground.data }, { on := 15, ground := Ground.chain }, { on := 10, ground := Ground.guard }], guard := some (10, false) }) rfl (fun K hK => ?_) (AllReadyH.cons (o := { dst := some 41, op := Op.buildSlice 23 2 #[(0, Operand.tmp 39), (1, Operand.tmp 40)], type := 23, pos := "more.go:16", after := #[{ on := 17, ground := Ground.data }, { on := 18, ground := Ground.data }, { on := 10, ground := Ground.guard }], guard := some (10, false) }) rfl (fun K hK => ?_) AllReadyH.nil)
                        · go_simp
                          refine (numlp _ c2 _ ((unhide HGW) _ (unhide HX21)) (unhide HEE21)).mono ?_
                          rintro e w23 ⟨rfl, hb23⟩
                          have HX23 : Hid (Below WB.heap.size WB w23) := (unhide HX21).trans (hb23.mono (unhide HX21).size)
                          have HQA23 : Hid (Prp w23 (.slice (some ⟨w18.heap.size, 0, none⟩) 2 2) [((i : Int), (j : Int), es, es), ((i : Int), (j : Int), es, es)]) := (unhide HQA21).below hb23
                          have HEE23 : Hid (ErrP w23 E21 c2) := (unhide HEE21).below hb23
                          clear hb23
                          go_wp2_with fail
                          refine hK.out _ _ ((unhide HCL) _ (unhide HX23)) (fun hHeld => ?_)
                          clear hK K
                          refine wpAnyH_ready (rs := [19]) (by kernel_rfl) (by simp) ?_
                          refine AllReadyH.cons (o := { dst := some 41, op := Op.buildSlice 23 2 #[(0, Operand.tmp 39), (1, Operand.tmp 40)], type := 23, pos := "more.go:16", after := #[{ on := 17, ground := Ground.data }, { on := 18, ground := Ground.data }, { on := 10, ground := Ground.guard }], guard := some (10, false) }) rfl (fun K hK => ?_) AllReadyH.nil
                          go_simp
                          refine hK.out _ _ ((unhide HCL) _ ((unhide HX23).alloc (unhide HX23).size _)) (fun hHeld => ?_)
                          clear hK K
                          have HX25 : Hid (Below WB.heap.size WB (w23.alloc (.cells #[.int .i64 i, .int .i64 j, .string es, .string es, .int .i64 i, .int .i64 j, .string es, .string es] 49))) := (unhide HX23).alloc (unhide HX23).size _
                          have HQB25 : Hid (Prp (w23.alloc (.cells #[.int .i64 i, .int .i64 j, .string es, .string es, .int .i64 i, .int .i64 j, .string es, .string es] 49)) (.slice (some ⟨w23.heap.size, 0, none⟩) 2 2) [((i : Int), (j : Int), es, es), ((i : Int), (j : Int), es, es)]) := prp_lit2 _ _ _ _ _ _ _
                          have HQA25 : Hid (Prp (w23.alloc (.cells #[.int .i64 i, .int .i64 j, .string es, .string es, .int .i64 i, .int .i64 j, .string es, .string es] 49)) (.slice (some ⟨w18.heap.size, 0, none⟩) 2 2) [((i : Int), (j : Int), es, es), ((i : Int), (j : Int), es, es)]) := (unhide HQA23).below ((Below.refl _ _).alloc (Nat.le_refl _) _)
                          generalize w23.alloc (.cells #[.int .i64 i, .int .i64 j, .string es, .string es, .int .i64 i, .int .i64 j, .string es, .string es] 49) = w25 at hHeld HX25 HQB25 HQA25 ⊢
                          refine wpAnyH_ready (rs := [21]) (by kernel_rfl) (by simp) ?_
                          refine AllReadyH.cons (o := { dst := some 43, op := Op.call { callee := Callee.value (Operand.func 11), args := #[Operand.tmp 41, Operand.tmp 42], argTypes := #[23, 3] }, type := 3, pos := "more.go:16", after := #[{ on := 19, ground := Ground.data }, { on := 20, ground := Ground.data }, { on := 16, ground := Ground.chain }, { on := 10, ground := Ground.guard }], guard := some (10, false) }) rfl (fun K hK => ?_) AllReadyH.nil
                          go_simp
                          refine ((unhide HR2) _ _ (unhide HQB25)).mono ?_
                          rintro e w26 ⟨rfl, hb26⟩
                          have HX26 : Hid (Below WB.heap.size WB w26) := (unhide HX25).trans (hb26.mono (unhide HX25).size)
                          have HQA26 : Hid (Prp w26 (.slice (some ⟨w18.heap.size, 0, none⟩) 2 2) [((i : Int), (j : Int), es, es), ((i : Int), (j : Int), es, es)]) := (unhide HQA25).below hb26
                          have HQB26 : Hid (Prp w26 (.slice (some ⟨w23.heap.size, 0, none⟩) 2 2) [((i : Int), (j : Int), es, es), ((i : Int), (j : Int), es, es)]) := (unhide HQB25).below hb26
                          clear hb26
                          go_wp2_with fail
                          refine hK.out _ _ ((unhide HCL) _ (unhide HX26)) (fun hHeld => ?_)
                          clear hK K
                          refine wpAnyH_take (i := 22) (oi := { dst := some 44, op := Op.binOp BinOp.neq 3 (Operand.tmp 38) (Operand.tmp 43) 3, type := 4, pos := "more.go:16", after := #[{ on := 16, ground := Ground.data }, { on := 21, ground := Ground.data }, { on := 10, ground := Ground.guard }], guard := some (10, false) }) (v := ?v13) rfl (by kernel_rfl) (by kernel_rfl) (by kernel_rfl) (fun _ _ _ h => h) (Or.inl ⟨by rfl, ?hy13⟩) (by assumption) ?rest13
                          case hy13 => (intro w hSw; (try dsimp only at hSw); go_simp; (try rw [if_pos (by omega)]); (try with_reducible rfl))
                          simp only [Act.put, List.setIfInBounds_toArray, List.set_cons_zero, List.set_cons_succ]
                          refine wpAnyH_take (i := 23) (oi := { dst := some 45, op := Op.pick (Operand.tmp 32) (Operand.const (Value.bool true)) (Operand.tmp 44), type := 4, pos := "more.go:16", after := #[{ on := 10, ground := Ground.data }, { on := 22, ground := Ground.data }], guard := none }) (v := ?v14) rfl (by kernel_rfl) (by kernel_rfl) (by kernel_rfl) (fun _ _ _ h => h) (Or.inl ⟨by rfl, ?hy14⟩) (by assumption) ?rest14
                          case hy14 => (intro w hSw; (try dsimp only at hSw); go_simp; (try rw [if_pos (by omega)]); (try with_reducible rfl))
                          simp only [Act.put, List.setIfInBounds_toArray, List.set_cons_zero, List.set_cons_succ]
                          refine wpAnyH_done (by kernel_rfl) ?_ _
                          refine NoPanic.normal ?_
                          go_wp2
                          go_roundw
                          case rel => exact ⟨m + 1, by omega, by go_num, unhide HX26⟩
                          case measure => simp [intOf]; omega
                        · go_simp
                          refine hK.out _ _ ((unhide HCL) _ ((unhide HX21).alloc (unhide HX21).size _)) (fun hHeld => ?_)
                          clear hK K
                          have HX24 : Hid (Below WB.heap.size WB (w21.alloc (.cells #[.int .i64 i, .int .i64 j, .string es, .string es, .int .i64 i, .int .i64 j, .string es, .string es] 49))) := (unhide HX21).alloc (unhide HX21).size _
                          have HQB24 : Hid (Prp (w21.alloc (.cells #[.int .i64 i, .int .i64 j, .string es, .string es, .int .i64 i, .int .i64 j, .string es, .string es] 49)) (.slice (some ⟨w21.heap.size, 0, none⟩) 2 2) [((i : Int), (j : Int), es, es), ((i : Int), (j : Int), es, es)]) := prp_lit2 _ _ _ _ _ _ _
                          have HQA24 : Hid (Prp (w21.alloc (.cells #[.int .i64 i, .int .i64 j, .string es, .string es, .int .i64 i, .int .i64 j, .string es, .string es] 49)) (.slice (some ⟨w18.heap.size, 0, none⟩) 2 2) [((i : Int), (j : Int), es, es), ((i : Int), (j : Int), es, es)]) := (unhide HQA21).below ((Below.refl _ _).alloc (Nat.le_refl _) _)
                          have HEE24 : Hid (ErrP (w21.alloc (.cells #[.int .i64 i, .int .i64 j, .string es, .string es, .int .i64 i, .int .i64 j, .string es, .string es] 49)) E21 c2) := (unhide HEE21).below ((Below.refl _ _).alloc (Nat.le_refl _) _)
                          generalize w21.alloc (.cells #[.int .i64 i, .int .i64 j, .string es, .string es, .int .i64 i, .int .i64 j, .string es, .string es] 49) = w24 at hHeld HX24 HQB24 HQA24 HEE24 ⊢
                          refine wpAnyH_ready (rs := [16]) (by kernel_rfl) (by simp) ?_
                          refine AllReadyH.cons (o := { dst := some 38, op := Op.call { callee := Callee.value (Operand.func 15), args := #[Operand.tmp 37], argTypes := #[33] }, type := 3, pos := "more.go:16", after := #[{ on := 15, ground := Ground.data }, { on := 15, ground := Ground.chain }, { on := 10, ground := Ground.guard }], guard := some (10, false) }) rfl (fun K hK => ?_) AllReadyH.nil
                          go_simp
                          refine (numlp _ c2 _ ((unhide HGW) _ (unhide HX24)) (unhide HEE24)).mono ?_
                          rintro e w27 ⟨rfl, hb27⟩
                          have HX27 : Hid (Below WB.heap.size WB w27) := (unhide HX24).trans (hb27.mono (unhide HX24).size)
                          have HQA27 : Hid (Prp w27 (.slice (some ⟨w18.heap.size, 0, none⟩) 2 2) [((i : Int), (j : Int), es, es), ((i : Int), (j : Int), es, es)]) := (unhide HQA24).below hb27
                          have HQB27 : Hid (Prp w27 (.slice (some ⟨w21.heap.size, 0, none⟩) 2 2) [((i : Int), (j : Int), es, es), ((i : Int), (j : Int), es, es)]) := (unhide HQB24).below hb27
                          have HEE27 : Hid (ErrP w27 E21 c2) := (unhide HEE24).below hb27
                          clear hb27
                          go_wp2_with fail
                          refine hK.out _ _ ((unhide HCL) _ (unhide HX27)) (fun hHeld => ?_)
                          clear hK K
                          refine wpAnyH_ready (rs := [21]) (by kernel_rfl) (by simp) ?_
                          refine AllReadyH.cons (o := { dst := some 43, op := Op.call { callee := Callee.value (Operand.func 11), args := #[Operand.tmp 41, Operand.tmp 42], argTypes := #[23, 3] }, type := 3, pos := "more.go:16", after := #[{ on := 19, ground := Ground.data }, { on := 20, ground := Ground.data }, { on := 16, ground := Ground.chain }, { on := 10, ground := Ground.guard }], guard := some (10, false) }) rfl (fun K hK => ?_) AllReadyH.nil
                          go_simp
                          refine ((unhide HR2) _ _ (unhide HQB27)).mono ?_
                          rintro e w28 ⟨rfl, hb28⟩
                          have HX28 : Hid (Below WB.heap.size WB w28) := (unhide HX27).trans (hb28.mono (unhide HX27).size)
                          have HQA28 : Hid (Prp w28 (.slice (some ⟨w18.heap.size, 0, none⟩) 2 2) [((i : Int), (j : Int), es, es), ((i : Int), (j : Int), es, es)]) := (unhide HQA27).below hb28
                          have HQB28 : Hid (Prp w28 (.slice (some ⟨w21.heap.size, 0, none⟩) 2 2) [((i : Int), (j : Int), es, es), ((i : Int), (j : Int), es, es)]) := (unhide HQB27).below hb28
                          clear hb28
                          go_wp2_with fail
                          refine hK.out _ _ ((unhide HCL) _ (unhide HX28)) (fun hHeld => ?_)
                          clear hK K
                          refine wpAnyH_take (i := 22) (oi := { dst := some 44, op := Op.binOp BinOp.neq 3 (Operand.tmp 38) (Operand.tmp 43) 3, type := 4, pos := "more.go:16", after := #[{ on := 16, ground := Ground.data }, { on := 21, ground := Ground.data }, { on := 10, ground := Ground.guard }], guard := some (10, false) }) (v := ?v15) rfl (by kernel_rfl) (by kernel_rfl) (by kernel_rfl) (fun _ _ _ h => h) (Or.inl ⟨by rfl, ?hy15⟩) (by assumption) ?rest15
                          case hy15 => (intro w hSw; (try dsimp only at hSw); go_simp; (try rw [if_pos (by omega)]); (try with_reducible rfl))
                          simp only [Act.put, List.setIfInBounds_toArray, List.set_cons_zero, List.set_cons_succ]
                          refine wpAnyH_take (i := 23) (oi := { dst := some 45, op := Op.pick (Operand.tmp 32) (Operand.const (Value.bool true)) (Operand.tmp 44), type := 4, pos := "more.go:16", after := #[{ on := 10, ground := Ground.data }, { on := 22, ground := Ground.data }], guard := none }) (v := ?v16) rfl (by kernel_rfl) (by kernel_rfl) (by kernel_rfl) (fun _ _ _ h => h) (Or.inl ⟨by rfl, ?hy16⟩) (by assumption) ?rest16
                          case hy16 => (intro w hSw; (try dsimp only at hSw); go_simp; (try rw [if_pos (by omega)]); (try with_reducible rfl))
                          simp only [Act.put, List.setIfInBounds_toArray, List.set_cons_zero, List.set_cons_succ]
                          refine wpAnyH_done (by kernel_rfl) ?_ _
                          refine NoPanic.normal ?_
                          go_wp2
                          go_roundw
                          case rel => exact ⟨m + 1, by omega, by go_num, unhide HX28⟩
                          case measure => simp [intOf]; omega
                      · go_simp
                        refine hK.out _ _ ((unhide HCL) _ ((unhide HX19).alloc (unhide HX19).size _)) (fun hHeld => ?_)
                        clear hK K
                        have HX22 : Hid (Below WB.heap.size WB (w19.alloc (.cells #[.int .i64 i, .int .i64 j, .string es, .string es, .int .i64 i, .int .i64 j, .string es, .string es] 49))) := (unhide HX19).alloc (unhide HX19).size _
                        have HQB22 : Hid (Prp (w19.alloc (.cells #[.int .i64 i, .int .i64 j, .string es, .string es, .int .i64 i, .int .i64 j, .string es, .string es] 49)) (.slice (some ⟨w19.heap.size, 0, none⟩) 2 2) [((i : Int), (j : Int), es, es), ((i : Int), (j : Int), es, es)]) := prp_lit2 _ _ _ _ _ _ _
                        have HQA22 : Hid (Prp (w19.alloc (.cells #[.int .i64 i, .int .i64 j, .string es, .string es, .int .i64 i, .int .i64 j, .string es, .string es] 49)) (.slice (some ⟨w18.heap.size, 0, none⟩) 2 2) [((i : Int), (j : Int), es, es), ((i : Int), (j : Int), es, es)]) := (unhide HQA19).below ((Below.refl _ _).alloc (Nat.le_refl _) _)
                        generalize w19.alloc (.cells #[.int .i64 i, .int .i64 j, .string es, .string es, .int .i64 i, .int .i64 j, .string es, .string es] 49) = w22 at hHeld HX22 HQB22 HQA22 ⊢
                        refine wpAnyH_ready (rs := [15]) (by kernel_rfl) (by simp) ?_
                        refine AllReadyH.cons (o := { dst := some 37, op := Op.call { callee := Callee.value (Operand.func 16), args := #[Operand.tmp 35, Operand.tmp 36], argTypes := #[23, 3] }, type := 33, pos := "more.go:16", after := #[{ on := 13, ground := Ground.data }, { on := 14, ground := Ground.data }, { on := 10, ground := Ground.chain }, { on := 10, ground := Ground.guard }], guard := some (10, false) }) rfl (fun K hK => ?_) AllReadyH.nil
                        go_simp
                        refine ((unhide HK2) _ _ (unhide HQA22)).mono ?_
                        rintro e w29 ⟨E29, rfl, HEE29, hb29⟩
                        have HX29 : Hid (Below WB.heap.size WB w29) := (unhide HX22).trans (hb29.mono (unhide HX22).size)
                        have HQA29 : Hid (Prp w29 (.slice (some ⟨w18.heap.size, 0, none⟩) 2 2) [((i : Int), (j : Int), es, es), ((i : Int), (j : Int), es, es)]) := (unhide HQA22).below hb29
                        have HQB29 : Hid (Prp w29 (.slice (some ⟨w19.heap.size, 0, none⟩) 2 2) [((i : Int), (j : Int), es, es), ((i : Int), (j : Int), es, es)]) := (unhide HQB22).below hb29
                        clear hb29
                        go_wp2_with fail
                        refine hK.out _ _ ((unhide HCL) _ (unhide HX29)) (fun hHeld => ?_)
                        clear hK K
                        refine wpAnyH_ready (rs := [16]) (by kernel_rfl) (by simp) ?_
                        refine AllReadyH.cons (o := { dst := some 38, op := Op.call { callee := Callee.value (Operand.func 15), args := #[Operand.tmp 37], argTypes := #[33] }, type := 3, pos := "more.go:16", after := #[{ on := 15, ground := Ground.data }, { on := 15, ground := Ground.chain }, { on := 10, ground := Ground.guard }], guard := some (10, false) }) rfl (fun K hK => ?_) AllReadyH.nil
                        go_simp
                        refine (numlp _ c2 _ ((unhide HGW) _ (unhide HX29)) (unhide HEE29)).mono ?_
                        rintro e w30 ⟨rfl, hb30⟩
                        have HX30 : Hid (Below WB.heap.size WB w30) := (unhide HX29).trans (hb30.mono (unhide HX29).size)
                        have HQA30 : Hid (Prp w30 (.slice (some ⟨w18.heap.size, 0, none⟩) 2 2) [((i : Int), (j : Int), es, es), ((i : Int), (j : Int), es, es)]) := (unhide HQA29).below hb30
                        have HQB30 : Hid (Prp w30 (.slice (some ⟨w19.heap.size, 0, none⟩) 2 2) [((i : Int), (j : Int), es, es), ((i : Int), (j : Int), es, es)]) := (unhide HQB29).below hb30
                        have HEE30 : Hid (ErrP w30 E29 c2) := (unhide HEE29).below hb30
                        clear hb30
                        go_wp2_with fail
                        refine hK.out _ _ ((unhide HCL) _ (unhide HX30)) (fun hHeld => ?_)
                        clear hK K
                        refine wpAnyH_ready (rs := [21]) (by kernel_rfl) (by simp) ?_
                        refine AllReadyH.cons (o := { dst := some 43, op := Op.call { callee := Callee.value (Operand.func 11), args := #[Operand.tmp 41, Operand.tmp 42], argTypes := #[23, 3] }, type := 3, pos := "more.go:16", after := #[{ on := 19, ground := Ground.data }, { on := 20, ground := Ground.data }, { on := 16, ground := Ground.chain }, { on := 10, ground := Ground.guard }], guard := some (10, false) }) rfl (fun K hK => ?_) AllReadyH.nil
                        go_simp
                        refine ((unhide HR2) _ _ (unhide HQB30)).mono ?_
                        rintro e w31 ⟨rfl, hb31⟩
                        have HX31 : Hid (Below WB.heap.size WB w31) := (unhide HX30).trans (hb31.mono (unhide HX30).size)
                        have HQA31 : Hid (Prp w31 (.slice (some ⟨w18.heap.size, 0, none⟩) 2 2) [((i : Int), (j : Int), es, es), ((i : Int), (j : Int), es, es)]) := (unhide HQA30).below hb31
                        have HQB31 : Hid (Prp w31 (.slice (some ⟨w19.heap.size, 0, none⟩) 2 2) [((i : Int), (j : Int), es, es), ((i : Int), (j : Int), es, es)]) := (unhide HQB30).below hb31
                        clear hb31
                        go_wp2_with fail
                        refine hK.out _ _ ((unhide HCL) _ (unhide HX31)) (fun hHeld => ?_)
                        clear hK K
                        refine wpAnyH_take (i := 22) (oi := { dst := some 44, op := Op.binOp BinOp.neq 3 (Operand.tmp 38) (Operand.tmp 43) 3, type := 4, pos := "more.go:16", after := #[{ on := 16, ground := Ground.data }, { on := 21, ground := Ground.data }, { on := 10, ground := Ground.guard }], guard := some (10, false) }) (v := ?v17) rfl (by kernel_rfl) (by kernel_rfl) (by kernel_rfl) (fun _ _ _ h => h) (Or.inl ⟨by rfl, ?hy17⟩) (by assumption) ?rest17
                        case hy17 => (intro w hSw; (try dsimp only at hSw); go_simp; (try rw [if_pos (by omega)]); (try with_reducible rfl))
                        simp only [Act.put, List.setIfInBounds_toArray, List.set_cons_zero, List.set_cons_succ]
                        refine wpAnyH_take (i := 23) (oi := { dst := some 45, op := Op.pick (Operand.tmp 32) (Operand.const (Value.bool true)) (Operand.tmp 44), type := 4, pos := "more.go:16", after := #[{ on := 10, ground := Ground.data }, { on := 22, ground := Ground.data }], guard := none }) (v := ?v18) rfl (by kernel_rfl) (by kernel_rfl) (by kernel_rfl) (fun _ _ _ h => h) (Or.inl ⟨by rfl, ?hy18⟩) (by assumption) ?rest18
                        case hy18 => (intro w hSw; (try dsimp only at hSw); go_simp; (try rw [if_pos (by omega)]); (try with_reducible rfl))
                        simp only [Act.put, List.setIfInBounds_toArray, List.set_cons_zero, List.set_cons_succ]
                        refine wpAnyH_done (by kernel_rfl) ?_ _
                        refine NoPanic.normal ?_
                        go_wp2
                        go_roundw
                        case rel => exact ⟨m + 1, by omega, by go_num, unhide HX31⟩
                        case measure => simp [intOf]; omega
                    · go_simp
                      refine hK.out _ _ ((unhide HCL) _ ((unhide HX18).alloc (unhide HX18).size _)) (fun hHeld => ?_)
                      clear hK K
                      have HX20 : Hid (Below WB.heap.size WB (w18.alloc (.cells #[.int .i64 i, .int .i64 j, .string es, .string es, .int .i64 i, .int .i64 j, .string es, .string es] 49))) := (unhide HX18).alloc (unhide HX18).size _
                      have HQB20 : Hid (Prp (w18.alloc (.cells #[.int .i64 i, .int .i64 j, .string es, .string es, .int .i64 i, .int .i64 j, .string es, .string es] 49)) (.slice (some ⟨w18.heap.size, 0, none⟩) 2 2) [((i : Int), (j : Int), es, es), ((i : Int), (j : Int), es, es)]) := prp_lit2 _ _ _ _ _ _ _
                      generalize w18.alloc (.cells #[.int .i64 i, .int .i64 j, .string es, .string es, .int .i64 i, .int .i64 j, .string es, .string es] 49) = w20 at hHeld HX20 HQB20 ⊢
                      refine wpAnyH_ready (rs := [13]) (by kernel_rfl) (by simp) ?_
                      refine AllReadyH.cons (o := { dst := some 35, op := Op.buildSlice 23 2 #[(0, Operand.tmp 33), (1, Operand.tmp 34)], type := 23, pos := "more.go:16", after := #[{ on := 11, ground := Ground.data }, { on := 12, ground := Ground.data }, { on := 10, ground := Ground.guard }], guard := some (10, false) }) rfl (fun K hK => ?_) AllReadyH.nil
                      go_simp
                      refine hK.out _ _ ((unhide HCL) _ ((unhide HX20).alloc (unhide HX20).size _)) (fun hHeld => ?_)
                      clear hK K
                      have HX32 : Hid (Below WB.heap.size WB (w20.alloc (.cells #[.int .i64 i, .int .i64 j, .string es, .string es, .int .i64 i, .int .i64 j, .string es, .string es] 49))) := (unhide HX20).alloc (unhide HX20).size _
                      have HQA32 : Hid (Prp (w20.alloc (.cells #[.int .i64 i, .int .i64 j, .string es, .string es, .int .i64 i, .int .i64 j, .string es, .string es] 49)) (.slice (some ⟨w20.heap.size, 0, none⟩) 2 2) [((i : Int), (j : Int), es, es), ((i : Int), (j : Int), es, es)]) := prp_lit2 _ _ _ _ _ _ _
                      have HQB32 : Hid (Prp (w20.alloc (.cells #[.int .i64 i, .int .i64 j, .string es, .string es, .int .i64 i, .int .i64 j, .string es, .string es] 49)) (.slice (some ⟨w18.heap.size, 0, none⟩) 2 2) [((i : Int), (j : Int), es, es), ((i : Int), (j : Int), es, es)]) := (unhide HQB20).below ((Below.refl _ _).alloc (Nat.le_refl _) _)
                      generalize w20.alloc (.cells #[.int .i64 i, .int .i64 j, .string es, .string es, .int .i64 i, .int .i64 j, .string es, .string es] 49) = w32 at hHeld HX32 HQA32 HQB32 ⊢
                      refine wpAnyH_ready (rs := [15]) (by kernel_rfl) (by simp) ?_
                      refine AllReadyH.cons (o := { dst := some 37, op := Op.call { callee := Callee.value (Operand.func 16), args := #[Operand.tmp 35, Operand.tmp 36], argTypes := #[23, 3] }, type := 33, pos := "more.go:16", after := #[{ on := 13, ground := Ground.data }, { on := 14, ground := Ground.data }, { on := 10, ground := Ground.chain }, { on := 10, ground := Ground.guard }], guard := some (10, false) }) rfl (fun K hK => ?_) AllReadyH.nil
                      go_simp
                      refine ((unhide HK2) _ _ (unhide HQA32)).mono ?_
                      rintro e w33 ⟨E33, rfl, HEE33, hb33⟩
                      have HX33 : Hid (Below WB.heap.size WB w33) := (unhide HX32).trans (hb33.mono (unhide HX32).size)
                      have HQA33 : Hid (Prp w33 (.slice (some ⟨w20.heap.size, 0, none⟩) 2 2) [((i : Int), (j : Int), es, es), ((i : Int), (j : Int), es, es)]) := (unhide HQA32).below hb33
                      have HQB33 : Hid (Prp w33 (.slice (some ⟨w18.heap.size, 0, none⟩) 2 2) [((i : Int), (j : Int), es, es), ((i : Int), (j : Int), es, es)]) := (unhide HQB32).below hb33
                      clear hb33
                      go_wp2_with fail
                      refine hK.out _ _ ((unhide HCL) _ (unhide HX33)) (fun hHeld => ?_)
                      clear hK K
                      refine wpAnyH_ready (rs := [16]) (by kernel_rfl) (by simp) ?_
                      refine AllReadyH.cons (o := { dst := some 38, op := Op.call { callee := Callee.value (Operand.func 15), args := #[Operand.tmp 37], argTypes := #[33] }, type := 3, pos := "more.go:16", after := #[{ on := 15, ground := Ground.data }, { on := 15, ground := Ground.chain }, { on := 10, ground := Ground.guard }], guard := some (10, false) }) rfl (fun K hK => ?_) AllReadyH.nil
                      go_simp
                      refine (numlp _ c2 _ ((unhide HGW) _ (unhide HX33)) (unhide HEE33)).mono ?_
                      rintro e w34 ⟨rfl, hb34⟩
                      have HX34 : Hid (Below WB.heap.size WB w34) := (unhide HX33).trans (hb34.mono (unhide HX33).size)
                      have HQA34 : Hid (Prp w34 (.slice (some ⟨w20.heap.size, 0, none⟩) 2 2) [((i : Int), (j : Int), es, es), ((i : Int), (j : Int), es, es)]) := (unhide HQA33).below hb34
                      have HQB34 : Hid (Prp w34 (.slice (some ⟨w18.heap.size, 0, none⟩) 2 2) [((i : Int), (j : Int), es, es), ((i : Int), (j : Int), es, es)]) := (unhide HQB33).below hb34
                      have HEE34 : Hid (ErrP w34 E33 c2) := (unhide HEE33).below hb34
                      clear hb34
                      go_wp2_with fail
                      refine hK.out _ _ ((unhide HCL) _ (unhide HX34)) (fun hHeld => ?_)
                      clear hK K
                      refine wpAnyH_ready (rs := [21]) (by kernel_rfl) (by simp) ?_
                      refine AllReadyH.cons (o := { dst := some 43, op := Op.call { callee := Callee.value (Operand.func 11), args := #[Operand.tmp 41, Operand.tmp 42], argTypes := #[23, 3] }, type := 3, pos := "more.go:16", after := #[{ on := 19, ground := Ground.data }, { on := 20, ground := Ground.data }, { on := 16, ground := Ground.chain }, { on := 10, ground := Ground.guard }], guard := some (10, false) }) rfl (fun K hK => ?_) AllReadyH.nil
                      go_simp
                      refine ((unhide HR2) _ _ (unhide HQB34)).mono ?_
                      rintro e w35 ⟨rfl, hb35⟩
                      have HX35 : Hid (Below WB.heap.size WB w35) := (unhide HX34).trans (hb35.mono (unhide HX34).size)
                      have HQA35 : Hid (Prp w35 (.slice (some ⟨w20.heap.size, 0, none⟩) 2 2) [((i : Int), (j : Int), es, es), ((i : Int), (j : Int), es, es)]) := (unhide HQA34).below hb35
                      have HQB35 : Hid (Prp w35 (.slice (some ⟨w18.heap.size, 0, none⟩) 2 2) [((i : Int), (j : Int), es, es), ((i : Int), (j : Int), es, es)]) := (unhide HQB34).below hb35
                      clear hb35
                      go_wp2_with fail
                      refine hK.out _ _ ((unhide HCL) _ (unhide HX35)) (fun hHeld => ?_)
                      clear hK K
                      refine wpAnyH_take (i := 22) (oi := { dst := some 44, op := Op.binOp BinOp.neq 3 (Operand.tmp 38) (Operand.tmp 43) 3, type := 4, pos := "more.go:16", after := #[{ on := 16, ground := Ground.data }, { on := 21, ground := Ground.data }, { on := 10, ground := Ground.guard }], guard := some (10, false) }) (v := ?v19) rfl (by kernel_rfl) (by kernel_rfl) (by kernel_rfl) (fun _ _ _ h => h) (Or.inl ⟨by rfl, ?hy19⟩) (by assumption) ?rest19
                      case hy19 => (intro w hSw; (try dsimp only at hSw); go_simp; (try rw [if_pos (by omega)]); (try with_reducible rfl))
                      simp only [Act.put, List.setIfInBounds_toArray, List.set_cons_zero, List.set_cons_succ]
                      refine wpAnyH_take (i := 23) (oi := { dst := some 45, op := Op.pick (Operand.tmp 32) (Operand.const (Value.bool true)) (Operand.tmp 44), type := 4, pos := "more.go:16", after := #[{ on := 10, ground := Ground.data }, { on := 22, ground := Ground.data }], guard := none }) (v := ?v20) rfl (by kernel_rfl) (by kernel_rfl) (by kernel_rfl) (fun _ _ _ h => h) (Or.inl ⟨by rfl, ?hy20⟩) (by assumption) ?rest20
                      case hy20 => (intro w hSw; (try dsimp only at hSw); go_simp; (try rw [if_pos (by omega)]); (try with_reducible rfl))
                      simp only [Act.put, List.setIfInBounds_toArray, List.set_cons_zero, List.set_cons_succ]
                      refine wpAnyH_done (by kernel_rfl) ?_ _
                      refine NoPanic.normal ?_
                      go_wp2
                      go_roundw
                      case rel => exact ⟨m + 1, by omega, by go_num, unhide HX35⟩
                      case measure => simp [intOf]; omega
                  · go_simp
                    refine hK.out _ _ ((unhide HCL) _ ((unhide HX13).alloc (unhide HX13).size _)) (fun hHeld => ?_)
                    clear hK K
                    have HX16 : Hid (Below WB.heap.size WB (w13.alloc (.cells #[.int .i64 i, .int .i64 j, .string es, .string es] 49))) := (unhide HX13).alloc (unhide HX13).size _
                    have HQB16 : Hid (Prp (w13.alloc (.cells #[.int .i64 i, .int .i64 j, .string es, .string es] 49)) (.slice (some ⟨w13.heap.size, 0, none⟩) 1 1) [((i : Int), (j : Int), es, es)]) := prp_lit1 _ _ _ _ _ _ _
                    have HQA16 : Hid (Prp (w13.alloc (.cells #[.int .i64 i, .int .i64 j, .string es, .string es] 49)) (.slice (some ⟨w10.heap.size, 0, none⟩) 1 1) [((i : Int), (j : Int), es, es)]) := (unhide HQA13).below ((Below.refl _ _).alloc (Nat.le_refl _) _)
                    have HEE16 : Hid (ErrP (w13.alloc (.cells #[.int .i64 i, .int .i64 j, .string es, .string es] 49)) E13 c1) := (unhide HEE13).below ((Below.refl _ _).alloc (Nat.le_refl _) _)
                    generalize w13.alloc (.cells #[.int .i64 i, .int .i64 j, .string es, .string es] 49) = w16 at hHeld HX16 HQB16 HQA16 HEE16 ⊢
                    refine wpAnyH_ready (rs := [4]) (by kernel_rfl) (by simp) ?_
                    refine AllReadyH.cons (o := { dst := some 26, op := Op.call { callee := Callee.value (Operand.func 15), args := #[Operand.tmp 25], argTypes := #[33] }, type := 3, pos := "more.go:16", after := #[{ on := 3, ground := Ground.data }, { on := 3, ground := Ground.chain }], guard := none }) rfl (fun K hK => ?_) AllReadyH.nil
                    go_simp
                    refine (numlp _ c1 _ ((unhide HGW) _ (unhide HX16)) (unhide HEE16)).mono ?_
                    rintro e w36 ⟨rfl, hb36⟩
                    have HX36 : Hid (Below WB.heap.size WB w36) := (unhide HX16).trans (hb36.mono (unhide HX16).size)
                    have HQA36 : Hid (Prp w36 (.slice (some ⟨w10.heap.size, 0, none⟩) 1 1) [((i : Int), (j : Int), es, es)]) := (unhide HQA16).below hb36
                    have HQB36 : Hid (Prp w36 (.slice (some ⟨w13.heap.size, 0, none⟩) 1 1) [((i : Int), (j : Int), es, es)]) := (unhide HQB16).below hb36
                    have HEE36 : Hid (ErrP w36 E13 c1) := (unhide HEE16).below hb36
                    clear hb36
                    go_wp2_with fail
                    refine hK.out _ _ ((unhide HCL) _ (unhide HX36)) (fun hHeld => ?_)
                    clear hK K
                    refine wpAnyH_ready (rs := [8]) (by kernel_rfl) (by simp) ?_
                    refine AllReadyH.cons (o := { dst := some 30, op := Op.call { callee := Callee.value (Operand.func 11), args := #[Operand.tmp 28, Operand.tmp 29], argTypes := #[23, 3] }, type := 3, pos := "more.go:16", after := #[{ on := 6, ground := Ground.data }, { on := 7, ground := Ground.data }, { on := 4, ground := Ground.chain }], guard := none }) rfl (fun K hK => ?_) AllReadyH.nil
                    go_simp
                    refine ((unhide HR1) _ _ (unhide HQB36)).mono ?_
                    rintro e w37 ⟨rfl, hb37⟩
                    have HX37 : Hid (Below WB.heap.size WB w37) := (unhide HX36).trans (hb37.mono (unhide HX36).size)
                    have HQA37 : Hid (Prp w37 (.slice (some ⟨w10.heap.size, 0, none⟩) 1 1) [((i : Int), (j : Int), es, es)]) := (unhide HQA36).below hb37
                    have HQB37 : Hid (Prp w37 (.slice (some ⟨w13.heap.size, 0, none⟩) 1 1) [((i : Int), (j : Int), es, es)]) := (unhide HQB36).below hb37
                    clear hb37
                    go_wp2_with fail
                    refine hK.out _ _ ((unhide HCL) _ (unhide HX37)) (fun hHeld => ?_)
                    clear hK K
                    refine wpAnyH_take (i := 9) (oi := { dst := some 31, op := Op.binOp BinOp.neq 3 (Operand.tmp 26) (Operand.tmp 30) 3, type := 4, pos := "more.go:16", after := #[{ on := 4, ground := Ground.data }, { on := 8, ground := Ground.data }], guard := none }) (v := ?v21) rfl (by kernel_rfl) (by kernel_rfl) (by kernel_rfl) (fun _ _ _ h => h) (Or.inl ⟨by rfl, ?hy21⟩) (by assumption) ?rest21
                    case hy21 => (intro w hSw; (try dsimp only at hSw); go_simp; (try rw [if_pos (by omega)]); (try with_reducible rfl))
                    simp only [Act.put, List.setIfInBounds_toArray, List.set_cons_zero, List.set_cons_succ]
                    refine wpAnyH_take (i := 10) (oi := { dst := some 32, op := Op.move (Operand.tmp 31), type := 4, pos := "more.go:16", after := #[{ on := 9, ground := Ground.data }, { on := 8, ground := Ground.chain }], guard := none }) (v := ?v22) rfl (by kernel_rfl) (by kernel_rfl) (by kernel_rfl) (fun _ _ _ h => h) (Or.inl ⟨by rfl, ?hy22⟩) (by assumption) ?rest22
                    case hy22 => (intro w hSw; (try dsimp only at hSw); go_simp; (try rw [if_pos (by omega)]); (try with_reducible rfl))
                    simp only [Act.put, List.setIfInBounds_toArray, List.set_cons_zero, List.set_cons_succ]
                    refine wpAnyH_take (i := 11) (oi := { dst := some 33, op := Op.load 49 (Operand.tmp 5), type := 49, pos := "more.go:16", after := #[{ on := 10, ground := Ground.guard }], guard := some (10, false) }) (v := ?v23) rfl (by kernel_rfl) (by kernel_rfl) (by kernel_rfl) (fun _ _ _ h => h) (Or.inl ⟨by rfl, ?hy23⟩) (by assumption) ?rest23
                    case hy23 => (intro w hSw; (try dsimp only at hSw); go_simp; (try rw [if_pos (by omega)]); (try with_reducible rfl))
                    simp only [Act.put, List.setIfInBounds_toArray, List.set_cons_zero, List.set_cons_succ]
                    refine wpAnyH_take (i := 12) (oi := { dst := some 34, op := Op.load 49 (Operand.tmp 5), type := 49, pos := "more.go:16", after := #[{ on := 10, ground := Ground.guard }], guard := some (10, false) }) (v := ?v24) rfl (by kernel_rfl) (by kernel_rfl) (by kernel_rfl) (fun _ _ _ h => h) (Or.inl ⟨by rfl, ?hy24⟩) (by assumption) ?rest24
                    case hy24 => (intro w hSw; (try dsimp only at hSw); go_simp; (try rw [if_pos (by omega)]); (try with_reducible rfl))
                    simp only [Act.put, List.setIfInBounds_toArray, List.set_cons_zero, List.set_cons_succ]
                    refine wpAnyH_take (i := 14) (oi := { dst := some 36, op := Op.move (Operand.tmp 6), type := 3, pos := "more.go:16", after := #[{ on := 10, ground := Ground.guard }], guard := some (10, false) }) (v := ?v25) rfl (by kernel_rfl) (by kernel_rfl) (by kernel_rfl) (fun _ _ _ h => h) (Or.inl ⟨by rfl, ?hy25⟩) (by assumption) ?rest25
                    case hy25 => (intro w hSw; (try dsimp only at hSw); go_simp; (try rw [if_pos (by omega)]); (try with_reducible rfl))
                    simp only [Act.put, List.setIfInBounds_toArray, List.set_cons_zero, List.set_cons_succ]
                    refine wpAnyH_take (i := 17) (oi := { dst := some 39, op := Op.load 49 (Operand.tmp 5), type := 49, pos := "more.go:16", after := #[{ on := 10, ground := Ground.guard }], guard := some (10, false) }) (v := ?v26) rfl (by kernel_rfl) (by kernel_rfl) (by kernel_rfl) (fun _ _ _ h => h) (Or.inl ⟨by rfl, ?hy26⟩) (by assumption) ?rest26
                    case hy26 => (intro w hSw; (try dsimp only at hSw); go_simp; (try rw [if_pos (by omega)]); (try with_reducible rfl))
                    simp only [Act.put, List.setIfInBounds_toArray, List.set_cons_zero, List.set_cons_succ]
                    refine wpAnyH_take (i := 18) (oi := { dst := some 40, op := Op.load 49 (Operand.tmp 5), type := 49, pos := "more.go:16", after := #[{ on := 10, ground := Ground.guard }], guard := some (10, false) }) (v := ?v27) rfl (by kernel_rfl) (by kernel_rfl) (by kernel_rfl) (fun _ _ _ h => h) (Or.inl ⟨by rfl, ?hy27⟩) (by assumption) ?rest27
                    case hy27 => (intro w hSw; (try dsimp only at hSw); go_simp; (try rw [if_pos (by omega)]); (try with_reducible rfl))
                    simp only [Act.put, List.setIfInBounds_toArray, List.set_cons_zero, List.set_cons_succ]
                    refine wpAnyH_take (i := 20) (oi := { dst := some 42, op := Op.move (Operand.tmp 6), type := 3, pos := "more.go:16", after := #[{ on := 10, ground := Ground.guard }], guard := some (10, false) }) (v := ?v28) rfl (by kernel_rfl) (by kernel_rfl) (by kernel_rfl) (fun _ _ _ h => h) (Or.inl ⟨by rfl, ?hy28⟩) (by assumption) ?rest28
                    case hy28 => (intro w hSw; (try dsimp only at hSw); go_simp; (try rw [if_pos (by omega)]); (try with_reducible rfl))
                    simp only [Act.put, List.setIfInBounds_toArray, List.set_cons_zero, List.set_cons_succ]
                    refine wpAnyH_ready (rs := [13, 19]) (by kernel_rfl) (by simp) ?_
                    refine AllReadyH.cons (o := { dst := some 35, op := Op.buildSlice 23 2 #[(0, Operand.tmp 33), (1, Operand.tmp 34)], type := 23, pos := "more.go:16", after := #[{ on := 11, ground := Ground.data }, { on := 12, ground := Ground.data }, { on := 10, ground := Ground.guard }], guard := some (10, false) }) rfl (fun K hK => ?_) (AllReadyH.cons (o := { dst := some 41, op := Op.buildSlice 23 2 #[(0, Operand.tmp 39), (1, Operand.tmp 40)], type := 23, pos := "more.go:16", after := #[{ on := 17, ground := Ground.data }, { on := 18, ground := Ground.data }, { on := 10, ground := Ground.guard }], guard := some (10, false) }) rfl (fun K hK => ?_) AllReadyH.nil)
                    · go_simp
                      refine hK.out _ _ ((unhide HCL) _ ((unhide HX37).alloc (unhide HX37).size _)) (fun hHeld => ?_)
                      clear hK K
                      have HX38 : Hid (Below WB.heap.size WB (w37.alloc (.cells #[.int .i64 i, .int .i64 j, .string es, .string es, .int .i64 i, .int .i64 j, .string es, .string es] 49))) := (unhide HX37).alloc (unhide HX37).size _
                      have HQA38 : Hid (Prp (w37.alloc (.cells #[.int .i64 i, .int .i64 j, .string es, .string es, .int .i64 i, .int .i64 j, .string es, .string es] 49)) (.slice (some ⟨w37.heap.size, 0, none⟩) 2 2) [((i : Int), (j : Int), es, es), ((i : Int), (j : Int), es, es)]) := prp_lit2 _ _ _ _ _ _ _
                      generalize w37.alloc (.cells #[.int .i64 i, .int .i64 j, .string es, .string es, .int .i64 i, .int .i64 j, .string es, .string es] 49) = w38 at hHeld HX38 HQA38 ⊢
                      refine wpAnyH_ready (rs := [15, 19]) (by kernel_rfl) (by simp) ?_
                      refine AllReadyH.cons (o := { dst := some 37, op := Op.call { callee := Callee.value (Operand.func 16), args := #[Operand.tmp 35, Operand.tmp 36], argTypes := #[23, 3] }, type := 33, pos := "more.go:16", after := #[{ on := 13, ground := Ground.data }, { on := 14, ground := Ground.data }, { on := 10, ground := Ground.chain }, { on := 10, ground := Ground.guard }], guard := some (10, false) }) rfl (fun K hK => ?_) (AllReadyH.cons (o := { dst := some 41, op := Op.buildSlice 23 2 #[(0, Operand.tmp 39), (1, Operand.tmp 40)], type := 23, pos := "more.go:16", after := #[{ on := 17, ground := Ground.data }, { on := 18, ground := Ground.data }, { on := 10, ground := Ground.guard }], guard := some (10, false) }) rfl (fun K hK => ?_) AllReadyH.nil)
                      · go_simp
                        refine ((unhide HK2) _ _ (unhide HQA38)).mono ?_
                        rintro e w40 ⟨E40, rfl, HEE40, hb40⟩
                        have HX40 : Hid (Below WB.heap.size WB w40) := (unhide HX38).trans (hb40.mono (unhide HX38).size)
                        have HQA40 : Hid (Prp w40 (.slice (some ⟨w37.heap.size, 0, none⟩) 2 2) [((i : Int), (j : Int), es, es), ((i : Int), (j : Int), es, es)]) := (unhide HQA38).below hb40
                        clear hb40
                        go_wp2_with fail
                        refine hK.out _ _ ((unhide HCL) _ (unhide HX40)) (fun hHeld => ?_)
                        clear hK K
                        refine wpAnyH_ready (rs := [16, 19]) (by kernel_rfl) (by simp) ?_
                        refine AllReadyH.cons (o := { dst := some 38, op := Op.call { callee := Callee.value (Operand.func 15), args := #[Operand.tmp 37], argTypes := #[33] }, type := 3, pos := "more.go:16", after := #[{ on := 15, ground := Ground.data }, { on := 15, ground := Ground.chain }, { on := 10, ground := Ground.guard }], guard := some (10, false) }) rfl (fun K hK => ?_) (AllReadyH.cons (o := { dst := some 41, op := Op.buildSlice 23 2 #[(0, Operand.tmp 39), (1, Operand.tmp 40)], type := 23, pos := "more.go:16", after := #[{ on := 17, ground := Ground.data }, { on := 18, ground := Ground.data }, { on := 10, ground := Ground.guard }], guard := some (10, false) }) rfl (fun K hK => ?_) AllReadyH.nil)
                        · go_simp
                          refine (numlp _ c2 _ ((unhide HGW) _ (unhide HX40)) (unhide HEE40)).mono ?_
                          rintro e w42 ⟨rfl, hb42⟩
                          have HX42 : Hid (Below WB.heap.size WB w42) := (unhide HX40).trans (hb42.mono (unhide HX40).size)
                          have HQA42 : Hid (Prp w42 (.slice (some ⟨w37.heap.size, 0, none⟩) 2 2) [((i : Int), (j : Int), es, es), ((i : Int), (j : Int), es, es)]) := (unhide HQA40).below hb42
                          have HEE42 : Hid (ErrP w42 E40 c2) := (unhide HEE40).below hb42
                          clear hb42
                          go_wp2_with fail
                          refine hK.out _ _ ((unhide HCL) _ (unhide HX42)) (fun hHeld => ?_)
                          clear hK K
                          refine wpAnyH_ready (rs := [19]) (by kernel_rfl) (by simp) ?_
                          refine AllReadyH.cons (o := { dst := some 41, op := Op.buildSlice 23 2 #[(0, Operand.tmp 39), (1, Operand.tmp 40)], type := 23, pos := "more.go:16", after := #[{ on := 17, ground := Ground.data }, { on := 18, ground := Ground.data }, { on := 10, ground := Ground.guard }], guard := some (10, false) }) rfl (fun K hK => ?_) AllReadyH.nil
                          go_simp
                          refine hK.out _ _ ((unhide HCL) _ ((unhide HX42).alloc (unhide HX42).size _)) (fun hHeld => ?_)
                          clear hK K
                          have HX44 : Hid (Below WB.heap.size WB (w42.alloc (.cells #[.int .i64 i, .int .i64 j, .string es, .string es, .int .i64 i, .int .i64 j, .string es, .string es] 49))) := (unhide HX42).alloc (unhide HX42).size _
                          have HQB44 : Hid (Prp (w42.alloc (.cells #[.int .i64 i, .int .i64 j, .string es, .string es, .int .i64 i, .int .i64 j, .string es, .string es] 49)) (.slice (some ⟨w42.heap.size, 0, none⟩) 2 2) [((i : Int), (j : Int), es, es), ((i : Int), (j : Int), es, es)]) := prp_lit2 _ _ _ _ _ _ _
                          have HQA44 : Hid (Prp (w42.alloc (.cells #[.int .i64 i, .int .i64 j, .string es, .string es, .int .i64 i, .int .i64 j, .string es, .string es] 49)) (.slice (some ⟨w37.heap.size, 0, none⟩) 2 2) [((i : Int), (j : Int), es, es), ((i : Int), (j : Int), es, es)]) := (unhide HQA42).below ((Below.refl _ _).alloc (Nat.le_refl _) _)
                          generalize w42.alloc (.cells #[.int .i64 i, .int .i64 j, .string es, .string es, .int .i64 i, .int .i64 j, .string es, .string es] 49) = w44 at hHeld HX44 HQB44 HQA44 ⊢
                          refine wpAnyH_ready (rs := [21]) (by kernel_rfl) (by simp) ?_
                          refine AllReadyH.cons (o := { dst := some 43, op := Op.call { callee := Callee.value (Operand.func 11), args := #[Operand.tmp 41, Operand.tmp 42], argTypes := #[23, 3] }, type := 3, pos := "more.go:16", after := #[{ on := 19, ground := Ground.data }, { on := 20, ground := Ground.data }, { on := 16, ground := Ground.chain }, { on := 10, ground := Ground.guard }], guard := some (10, false) }) rfl (fun K hK => ?_) AllReadyH.nil
                          go_simp
                          refine ((unhide HR2) _ _ (unhide HQB44)).mono ?_
                          rintro e w45 ⟨rfl, hb45⟩
                          have HX45 : Hid (Below WB.heap.size WB w45) := (unhide HX44).trans (hb45.mono (unhide HX44).size)
                          have HQA45 : Hid (Prp w45 (.slice (some ⟨w37.heap.size, 0, none⟩) 2 2) [((i : Int), (j : Int), es, es), ((i : Int), (j : Int), es, es)]) := (unhide HQA44).below hb45
                          have HQB45 : Hid (Prp w45 (.slice (some ⟨w42.heap.size, 0, none⟩) 2 2) [((i : Int), (j : Int), es, es), ((i : Int), (j : Int), es, es)]) := (unhide HQB44).below hb45
                          clear hb45
                          go_wp2_with fail
                          refine hK.out _ _ ((unhide HCL) _ (unhide HX45)) (fun hHeld => ?_)
                          clear hK K
                          refine wpAnyH_take (i := 22) (oi := { dst := some 44, op := Op.binOp BinOp.neq 3 (Operand.tmp 38) (Operand.tmp 43) 3, type := 4, pos := "more.go:16", after := #[{ on := 16, ground := Ground.data }, { on := 21, ground := Ground.data }, { on := 10, ground := Ground.guard }], guard := some (10, false) }) (v := ?v29) rfl (by kernel_rfl) (by kernel_rfl) (by kernel_rfl) (fun _ _ _ h => h) (Or.inl ⟨by rfl, ?hy29⟩) (by assumption) ?rest29
                          case hy29 => (intro w hSw; (try dsimp only at hSw); go_simp; (try rw [if_pos (by omega)]); (try with_reducible rfl))
                          simp only [Act.put, List.setIfInBounds_toArray, List.set_cons_zero, List.set_cons_succ]
                          refine wpAnyH_take (i := 23) (oi := { dst := some 45, op := Op.pick (Operand.tmp 32) (Operand.const (Value.bool true)) (Operand.tmp 44), type := 4, pos := "more.go:16", after := #[{ on := 10, ground := Ground.data }, { on := 22, ground := Ground.data }], guard := none }) (v := ?v30) rfl (by kernel_rfl) (by kernel_rfl) (by kernel_rfl) (fun _ _ _ h => h) (Or.inl ⟨by rfl, ?hy30⟩) (by assumption) ?rest30
                          case hy30 => (intro w hSw; (try dsimp only at hSw); go_simp; (try rw [if_pos (by omega)]); (try with_reducible rfl))
                          simp only [Act.put, List.setIfInBounds_toArray, List.set_cons_zero, List.set_cons_succ]
                          refine wpAnyH_done (by kernel_rfl) ?_ _
                          refine NoPanic.normal ?_
                          go_wp2
                          go_roundw
                          case rel => exact ⟨m + 1, by omega, by go_num, unhide HX45⟩
                          case measure => simp [intOf]; omega
                        · go_simp
                          refine hK.out _ _ ((unhide HCL) _ ((unhide HX40).alloc (unhide HX40).size _)) (fun hHeld => ?_)
                          clear hK K
                          have HX43 : Hid (Below WB.heap.size WB (w40.alloc (.cells #[.int .i64 i, .int .i64 j, .string es, .string es, .int .i64 i, .int .i64 j, .string es, .string es] 49))) := (unhide HX40).alloc (unhide HX40).size _
                          have HQB43 : Hid (Prp (w40.alloc (.cells #[.int .i64 i, .int .i64 j, .string es, .string es, .int .i64 i, .int .i64 j, .string es, .string es] 49)) (.slice (some ⟨w40.heap.size, 0, none⟩) 2 2) [((i : Int), (j : Int), es, es), ((i : Int), (j : Int), es, es)]) := prp_lit2 _ _ _ _ _ _ _
                          have HQA43 : Hid (Prp (w40.alloc (.cells #[.int .i64 i, .int .i64 j, .string es, .string es, .int .i64 i, .int .i64 j, .string es, .string es] 49)) (.slice (some ⟨w37.heap.size, 0, none⟩) 2 2) [((i : Int), (j : Int), es, es), ((i : Int), (j : Int), es, es)]) := (unhide HQA40).below ((Below.refl _ _).alloc (Nat.le_refl _) _)
                          have HEE43 : Hid (ErrP (w40.alloc (.cells #[.int .i64 i, .int .i64 j, .string es, .string es, .int .i64 i, .int .i64 j, .string es, .string es] 49)) E40 c2) := (unhide HEE40).below ((Below.refl _ _).alloc (Nat.le_refl _) _)
                          generalize w40.alloc (.cells #[.int .i64 i, .int .i64 j, .string es, .string es, .int .i64 i, .int .i64 j, .string es, .string es] 49) = w43 at hHeld HX43 HQB43 HQA43 HEE43 ⊢
                          refine wpAnyH_ready (rs := [16]) (by kernel_rfl) (by simp) ?_
                          refine AllReadyH.cons (o := { dst := some 38, op := Op.call { callee := Callee.value (Operand.func 15), args := #[Operand.tmp 37], argTypes := #[33] }, type := 3, pos := "more.go:16", after := #[{ on := 15, ground := Ground.data }, { on := 15, ground := Ground.chain }, { on := 10, ground := Ground.guard }], guard := some (10, false) }) rfl (fun K hK => ?_) AllReadyH.nil
                          go_simp
                          refine (numlp _ c2 _ ((unhide HGW) _ (unhide HX43)) (unhide HEE43)).mono ?_
                          rintro e w46 ⟨rfl, hb46⟩
                          have HX46 : Hid (Below WB.heap.size WB w46) := (unhide HX43).trans (hb46.mono (unhide HX43).size)
                          have HQA46 : Hid (Prp w46 (.slice (some ⟨w37.heap.size, 0, none⟩) 2 2) [((i : Int), (j : Int), es, es), ((i : Int), (j : Int), es, es)]) := (unhide HQA43).below hb46
                          have HQB46 : Hid (Prp w46 (.slice (some ⟨w40.heap.size, 0, none⟩) 2 2) [((i : Int), (j : Int), es, es), ((i : Int), (j : Int), es, es)]) := (unhide HQB43).below hb46
                          have HEE46 : Hid (ErrP w46 E40 c2) := (unhide HEE43).below hb46
                          clear hb46
                          go_wp2_with fail
                          refine hK.out _ _ ((unhide HCL) _ (unhide HX46)) (fun hHeld => ?_)
                          clear hK K
                          refine wpAnyH_ready (rs := [21]) (by kernel_rfl) (by simp) ?_
                          refine AllReadyH.cons (o := { dst := some 43, op := Op.call { callee := Callee.value (Operand.func 11), args := #[Operand.tmp 41, Operand.tmp 42], argTypes := #[23, 3] }, type := 3, pos := "more.go:16", after := #[{ on := 19, ground := Ground.data }, { on := 20, ground := Ground.data }, { on := 16, ground := Ground.chain }, { on := 10, ground := Ground.guard }], guard := some (10, false) }) rfl (fun K hK => ?_) AllReadyH.nil
                          go_simp
                          refine ((unhide HR2) _ _ (unhide HQB46)).mono ?_
                          rintro e w47 ⟨rfl, hb47⟩
                          have HX47 : Hid (Below WB.heap.size WB w47) := (unhide HX46).trans (hb47.mono (unhide HX46).size)
                          have HQA47 : Hid (Prp w47 (.slice (some ⟨w37.heap.size, 0, none⟩) 2 2) [((i : Int), (j : Int), es, es), ((i : Int), (j : Int), es, es)]) := (unhide HQA46).below hb47
                          have HQB47 : Hid (Prp w47 (.slice (some ⟨w40.heap.size, 0, none⟩) 2 2) [((i : Int), (j : Int), es, es), ((i : Int), (j : Int), es, es)]) := (unhide HQB46).below hb47
                          clear hb47
                          go_wp2_with fail
                          refine hK.out _ _ ((unhide HCL) _ (unhide HX47)) (fun hHeld => ?_)
                          clear hK K
                          refine wpAnyH_take (i := 22) (oi := { dst := some 44, op := Op.binOp BinOp.neq 3 (Operand.tmp 38) (Operand.tmp 43) 3, type := 4, pos := "more.go:16", after := #[{ on := 16, ground := Ground.data }, { on := 21, ground := Ground.data }, { on := 10, ground := Ground.guard }], guard := some (10, false) }) (v := ?v31) rfl (by kernel_rfl) (by kernel_rfl) (by kernel_rfl) (fun _ _ _ h => h) (Or.inl ⟨by rfl, ?hy31⟩) (by assumption) ?rest31
                          case hy31 => (intro w hSw; (try dsimp only at hSw); go_simp; (try rw [if_pos (by omega)]); (try with_reducible rfl))
                          simp only [Act.put, List.setIfInBounds_toArray, List.set_cons_zero, List.set_cons_succ]
                          refine wpAnyH_take (i := 23) (oi := { dst := some 45, op := Op.pick (Operand.tmp 32) (Operand.const (Value.bool true)) (Operand.tmp 44), type := 4, pos := "more.go:16", after := #[{ on := 10, ground := Ground.data }, { on := 22, ground := Ground.data }], guard := none }) (v := ?v32) rfl (by kernel_rfl) (by kernel_rfl) (by kernel_rfl) (fun _ _ _ h => h) (Or.inl ⟨by rfl, ?hy32⟩) (by assumption) ?rest32
                          case hy32 => (intro w hSw; (try dsimp only at hSw); go_simp; (try rw [if_pos (by omega)]); (try with_reducible rfl))
                          simp only [Act.put, List.setIfInBounds_toArray, List.set_cons_zero, List.set_cons_succ]
                          refine wpAnyH_done (by kernel_rfl) ?_ _
                          refine NoPanic.normal ?_
                          go_wp2
                          go_roundw
                          case rel => exact ⟨m + 1, by omega, by go_num, unhide HX47⟩
                          case measure => simp [intOf]; omega
                      · go_simp
                        refine hK.out _ _ ((unhide HCL) _ ((unhide HX38).alloc (unhide HX38).size _)) (fun hHeld => ?_)
                        clear hK K
                        have HX41 : Hid (Below WB.heap.size WB (w38.alloc (.cells #[.int .i64 i, .int .i64 j, .string es, .string es, .int .i64 i, .int .i64 j, .string es, .string es] 49))) := (unhide HX38).alloc (unhide HX38).size _
                        have HQB41 : Hid (Prp (w38.alloc (.cells #[.int .i64 i, .int .i64 j, .string es, .string es, .int .i64 i, .int .i64 j, .string es, .string es] 49)) (.slice (some ⟨w38.heap.size, 0, none⟩) 2 2) [((i : Int), (j : Int), es, es), ((i : Int), (j : Int), es, es)]) := prp_lit2 _ _ _ _ _ _ _
                        have HQA41 : Hid (Prp (w38.alloc (.cells #[.int .i64 i, .int .i64 j, .string es, .string es, .int .i64 i, .int .i64 j, .string es, .string es] 49)) (.slice (some ⟨w37.heap.size, 0, none⟩) 2 2) [((i : Int), (j : Int), es, es), ((i : Int), (j : Int), es, es)]) := (unhide HQA38).below ((Below.refl _ _).alloc (Nat.le_refl _) _)
                        generalize w38.alloc (.cells #[.int .i64 i, .int .i64 j, .string es, .string es, .int .i64 i, .int .i64 j, .string es, .string es] 49) = w41 at hHeld HX41 HQB41 HQA41 ⊢
                        refine wpAnyH_ready (rs := [15]) (by kernel_rfl) (by simp) ?_
                        refine AllReadyH.cons (o := { dst := some 37, op := Op.call { callee := Callee.value (Operand.func 16), args := #[Operand.tmp 35, Operand.tmp 36], argTypes := #[23, 3] }, type := 33, pos := "more.go:16", after := #[{ on := 13, ground := Ground.data }, { on := 14, ground := Ground.data }, { on := 10, ground := Ground.chain }, { on := 10, ground := Ground.guard }], guard := some (10, false) }) rfl (fun K hK => ?_) AllReadyH.nil
                        go_simp
                        refine ((unhide HK2) _ _ (unhide HQA41)).mono ?_
                        rintro e w48 ⟨E48, rfl, HEE48, hb48⟩
                        have HX48 : Hid (Below WB.heap.size WB w48) := (unhide HX41).trans (hb48.mono (unhide HX41).size)
                        have HQA48 : Hid (Prp w48 (.slice (some ⟨w37.heap.size, 0, none⟩) 2 2) [((i : Int), (j : Int), es, es), ((i : Int), (j : Int), es, es)]) := (unhide HQA41).below hb48
                        have HQB48 : Hid (Prp w48 (.slice (some ⟨w38.heap.size, 0, none⟩) 2 2) [((i : Int), (j : Int), es, es), ((i : Int), (j : Int), es, es)]) := (unhide HQB41).below hb48
                        clear hb48
                        go_wp2_with fail
                        refine hK.out _ _ ((unhide HCL) _ (unhide HX48)) (fun hHeld => ?_)
                        clear hK K
                        refine wpAnyH_ready (rs := [16]) (by kernel_rfl) (by simp) ?_
                        refine AllReadyH.cons (o := { dst := some 38, op := Op.call { callee := Callee.value (Operand.func 15), args := #[Operand.tmp 37], argTypes := #[33] }, type := 3, pos := "more.go:16", after := #[{ on := 15, ground := Ground.data }, { on := 15, ground := Ground.chain }, { on := 10, ground := Ground.guard }], guard := some (10, false) }) rfl (fun K hK => ?_) AllReadyH.nil
                        go_simp
                        refine (numlp _ c2 _ ((unhide HGW) _ (unhide HX48)) (unhide HEE48)).mono ?_
                        rintro e w49 ⟨rfl, hb49⟩
                        have HX49 : Hid (Below WB.heap.size WB w49) := (unhide HX48).trans (hb49.mono (unhide HX48).size)
                        have HQA49 : Hid (Prp w49 (.slice (some ⟨w37.heap.size, 0, none⟩) 2 2) [((i : Int), (j : Int), es, es), ((i : Int), (j : Int), es, es)]) := (unhide HQA48).below hb49
                        have HQB49 : Hid (Prp w49 (.slice (some ⟨w38.heap.size, 0, none⟩) 2 2) [((i : Int), (j : Int), es, es), ((i : Int), (j : Int), es, es)]) := (unhide HQB48).below hb49
                        have HEE49 : Hid (ErrP w49 E48 c2) := (unhide HEE48).below hb49
                        clear hb49
                        go_wp2_with fail
                        refine hK.out _ _ ((unhide HCL) _ (unhide HX49)) (fun hHeld => ?_)
                        clear hK K
                        refine wpAnyH_ready (rs := [21]) (by kernel_rfl) (by simp) ?_
                        refine AllReadyH.cons (o := { dst := some 43, op := Op.call { callee := Callee.value (Operand.func 11), args := #[Operand.tmp 41, Operand.tmp 42], argTypes := #[23, 3] }, type := 3, pos := "more.go:16", after := #[{ on := 19, ground := Ground.data }, { on := 20, ground := Ground.data }, { on := 16, ground := Ground.chain }, { on := 10, ground := Ground.guard }], guard := some (10, false) }) rfl (fun K hK => ?_) AllReadyH.nil
                        go_simp
                        refine ((unhide HR2) _ _ (unhide HQB49)).mono ?_
                        rintro e w50 ⟨rfl, hb50⟩
                        have HX50 : Hid (Below WB.heap.size WB w50) := (unhide HX49).trans (hb50.mono (unhide HX49).size)
                        have HQA50 : Hid (Prp w50 (.slice (some ⟨w37.heap.size, 0, none⟩) 2 2) [((i : Int), (j : Int), es, es), ((i : Int), (j : Int), es, es)]) := (unhide HQA49).below hb50
                        have HQB50 : Hid (Prp w50 (.slice (some ⟨w38.heap.size, 0, none⟩) 2 2) [((i : Int), (j : Int), es, es), ((i : Int), (j : Int), es, es)]) := (unhide HQB49).below hb50
                        clear hb50
                        go_wp2_with fail
                        refine hK.out _ _ ((unhide HCL) _ (unhide HX50)) (fun hHeld => ?_)
                        clear hK K
                        refine wpAnyH_take (i := 22) (oi := { dst := some 44, op := Op.binOp BinOp.neq 3 (Operand.tmp 38) (Operand.tmp 43) 3, type := 4, pos := "more.go:16", after := #[{ on := 16, ground := Ground.data }, { on := 21, ground := Ground.data }, { on := 10, ground := Ground.guard }], guard := some (10, false) }) (v := ?v33) rfl (by kernel_rfl) (by kernel_rfl) (by kernel_rfl) (fun _ _ _ h => h) (Or.inl ⟨by rfl, ?hy33⟩) (by assumption) ?rest33
                        case hy33 => (intro w hSw; (try dsimp only at hSw); go_simp; (try rw [if_pos (by omega)]); (try with_reducible rfl))
                        simp only [Act.put, List.setIfInBounds_toArray, List.set_cons_zero, List.set_cons_succ]
                        refine wpAnyH_take (i := 23) (oi := { dst := some 45, op := Op.pick (Operand.tmp 32) (Operand.const (Value.bool true)) (Operand.tmp 44), type := 4, pos := "more.go:16", after := #[{ on := 10, ground := Ground.data }, { on := 22, ground := Ground.data }], guard := none }) (v := ?v34) rfl (by kernel_rfl) (by kernel_rfl) (by kernel_rfl) (fun _ _ _ h => h) (Or.inl ⟨by rfl, ?hy34⟩) (by assumption) ?rest34
                        case hy34 => (intro w hSw; (try dsimp only at hSw); go_simp; (try rw [if_pos (by omega)]); (try with_reducible rfl))
                        simp only [Act.put, List.setIfInBounds_toArray, List.set_cons_zero, List.set_cons_succ]
                        refine wpAnyH_done (by kernel_rfl) ?_ _
                        refine NoPanic.normal ?_
                        go_wp2
                        go_roundw
                        case rel => exact ⟨m + 1, by omega, by go_num, unhide HX50⟩
                        case measure => simp [intOf]; omega
                    · go_simp
                      refine hK.out _ _ ((unhide HCL) _ ((unhide HX37).alloc (unhide HX37).size _)) (fun hHeld => ?_)
                      clear hK K
                      have HX39 : Hid (Below WB.heap.size WB (w37.alloc (.cells #[.int .i64 i, .int .i64 j, .string es, .string es, .int .i64 i, .int .i64 j, .string es, .string es] 49))) := (unhide HX37).alloc (unhide HX37).size _
                      have HQB39 : Hid (Prp (w37.alloc (.cells #[.int .i64 i, .int .i64 j, .string es, .string es, .int .i64 i, .int .i64 j, .string es, .string es] 49)) (.slice (some ⟨w37.heap.size, 0, none⟩) 2 2) [((i : Int), (j : Int), es, es), ((i : Int), (j : Int), es, es)]) := prp_lit2 _ _ _ _ _ _ _
                      generalize w37.alloc (.cells #[.int .i64 i, .int .i64 j, .string es, .string es, .int .i64 i, .int .i64 j, .string es, .string es] 49) = w39 at hHeld HX39 HQB39 ⊢
                      refine wpAnyH_ready (rs := [13]) (by kernel_rfl) (by simp) ?_
                      refine AllReadyH.cons (o := { dst := some 35, op := Op.buildSlice 23 2 #[(0, Operand.tmp 33), (1, Operand.tmp 34)], type := 23, pos := "more.go:16", after := #[{ on := 11, ground := Ground.data }, { on := 12, ground := Ground.data }, { on := 10, ground := Ground.guard }], guard := some (10, false) }) rfl (fun K hK => ?_) AllReadyH.nil
                      go_simp
                      refine hK.out _ _ ((unhide HCL) _ ((unhide HX39).alloc (unhide HX39).size _)) (fun hHeld => ?_)
                      clear hK K
                      have HX51 : Hid (Below WB.heap.size WB (w39.alloc (.cells #[.int .i64 i, .int .i64 j, .string es, .string es, .int .i64 i, .int .i64 j, .string es, .string es] 49))) := (unhide HX39).alloc (unhide HX39).size _
                      have HQA51 : Hid (Prp (w39.alloc (.cells #[.int .i64 i, .int .i64 j, .string es, .string es, .int .i64 i, .int .i64 j, .string es, .string es] 49)) (.slice (some ⟨w39.heap.size, 0, none⟩) 2 2) [((i : Int), (j : Int), es, es), ((i : Int), (j : Int), es, es)]) := prp_lit2 _ _ _ _ _ _ _
                      have HQB51 : Hid (Prp (w39.alloc (.cells #[.int .i64 i, .int .i64 j, .string es, .string es, .int .i64 i, .int .i64 j, .string es, .string es] 49)) (.slice (some ⟨w37.heap.size, 0, none⟩) 2 2) [((i : Int), (j : Int), es, es), ((i : Int), (j : Int), es, es)]) := (unhide HQB39).below ((Below.refl _ _).alloc (Nat.le_refl _) _)
                      generalize w39.alloc (.cells #[.int .i64 i, .int .i64 j, .string es, .string es, .int .i64 i, .int .i64 j, .string es, .string es] 49) = w51 at hHeld HX51 HQA51 HQB51 ⊢
                      refine wpAnyH_ready (rs := [15]) (by kernel_rfl) (by simp) ?_
                      refine AllReadyH.cons (o := { dst := some 37, op := Op.call { callee := Callee.value (Operand.func 16), args := #[Operand.tmp 35, Operand.tmp 36], argTypes := #[23, 3] }, type := 33, pos := "more.go:16", after := #[{ on := 13, ground := Ground.data }, { on := 14, ground := Ground.data }, { on := 10, ground := Ground.chain }, { on := 10, ground := Ground.guard }], guard := some (10, false) }) rfl (fun K hK => ?_) AllReadyH.nil
                      go_simp
                      refine ((unhide HK2) _ _ (unhide HQA51)).mono ?_
                      rintro e w52 ⟨E52, rfl, HEE52, hb52⟩
                      have HX52 : Hid (Below WB.heap.size WB w52) := (unhide HX51).trans (hb52.mono (unhide HX51).size)
                      have HQA52 : Hid (Prp w52 (.slice (some ⟨w39.heap.size, 0, none⟩) 2 2) [((i : Int), (j : Int), es, es), ((i : Int), (j : Int), es, es)]) := (unhide HQA51).below hb52
                      have HQB52 : Hid (Prp w52 (.slice (some ⟨w37.heap.size, 0, none⟩) 2 2) [((i : Int), (j : Int), es, es), ((i : Int), (j : Int), es, es)]) := (unhide HQB51).below hb52
                      clear hb52
                      go_wp2_with fail
                      refine hK.out _ _ ((unhide HCL) _ (unhide HX52)) (fun hHeld => ?_)
                      clear hK K
                      refine wpAnyH_ready (rs := [16]) (by kernel_rfl) (by simp) ?_
                      refine AllReadyH.cons (o := { dst := some 38, op := Op.call { callee := Callee.value (Operand.func 15), args := #[Operand.tmp 37], argTypes := #[33] }, type := 3, pos := "more.go:16", after := #[{ on := 15, ground := Ground.data }, { on := 15, ground := Ground.chain }, { on := 10, ground := Ground.guard }], guard := some (10, false) }) rfl (fun K hK => ?_) AllReadyH.nil
                      go_simp
                      refine (numlp _ c2 _ ((unhide HGW) _ (unhide HX52)) (unhide HEE52)).mono ?_
                      rintro e w53 ⟨rfl, hb53⟩
                      have HX53 : Hid (Below WB.heap.size WB w53) := (unhide HX52).trans (hb53.mono (unhide HX52).size)
                      have HQA53 : Hid (Prp w53 (.slice (some ⟨w39.heap.size, 0, none⟩) 2 2) [((i : Int), (j : Int), es, es), ((i : Int), (j : Int), es, es)]) := (unhide HQA52).below hb53
                      have HQB53 : Hid (Prp w53 (.slice (some ⟨w37.heap.size, 0, none⟩) 2 2) [((i : Int), (j : Int), es, es), ((i : Int), (j : Int), es, es)]) := (unhide HQB52).below hb53
                      have HEE53 : Hid (ErrP w53 E52 c2) := (unhide HEE52).below hb53
                      clear hb53
                      go_wp2_with fail
                      refine hK.out _ _ ((unhide HCL) _ (unhide HX53)) (fun hHeld => ?_)
                      clear hK K
                      refine wpAnyH_ready (rs := [21]) (by kernel_rfl) (by simp) ?_
                      refine AllReadyH.cons (o := { dst := some 43, op := Op.call { callee := Callee.value (Operand.func 11), args := #[Operand.tmp 41, Operand.tmp 42], argTypes := #[23, 3] }, type := 3, pos := "more.go:16", after := #[{ on := 19, ground := Ground.data }, { on := 20, ground := Ground.data }, { on := 16, ground := Ground.chain }, { on := 10, ground := Ground.guard }], guard := some (10, false) }) rfl (fun K hK => ?_) AllReadyH.nil
                      go_simp
                      refine ((unhide HR2) _ _ (unhide HQB53)).mono ?_
                      rintro e w54 ⟨rfl, hb54⟩
                      have HX54 : Hid (Below WB.heap.size WB w54) := (unhide HX53).trans (hb54.mono (unhide HX53).size)
                      have HQA54 : Hid (Prp w54 (.slice (some ⟨w39.heap.size, 0, none⟩) 2 2) [((i : Int), (j : Int), es, es), ((i : Int), (j : Int), es, es)]) := (unhide HQA53).below hb54
                      have HQB54 : Hid (Prp w54 (.slice (some ⟨w37.heap.size, 0, none⟩) 2 2) [((i : Int), (j : Int), es, es), ((i : Int), (j : Int), es, es)]) := (unhide HQB53).below hb54
                      clear hb54
                      go_wp2_with fail
                      refine hK.out _ _ ((unhide HCL) _ (unhide HX54)) (fun hHeld => ?_)
                      clear hK K
                      refine wpAnyH_take (i := 22) (oi := { dst := some 44, op := Op.binOp BinOp.neq 3 (Operand.tmp 38) (Operand.tmp 43) 3, type := 4, pos := "more.go:16", after := #[{ on := 16, ground := Ground.data }, { on := 21, ground := Ground.data }, { on := 10, ground := Ground.guard }], guard := some (10, false) }) (v := ?v35) rfl (by kernel_rfl) (by kernel_rfl) (by kernel_rfl) (fun _ _ _ h => h) (Or.inl ⟨by rfl, ?hy35⟩) (by assumption) ?rest35
                      case hy35 => (intro w hSw; (try dsimp only at hSw); go_simp; (try rw [if_pos (by omega)]); (try with_reducible rfl))
                      simp only [Act.put, List.setIfInBounds_toArray, List.set_cons_zero, List.set_cons_succ]
                      refine wpAnyH_take (i := 23) (oi := { dst := some 45, op := Op.pick (Operand.tmp 32) (Operand.const (Value.bool true)) (Operand.tmp 44), type := 4, pos := "more.go:16", after := #[{ on := 10, ground := Ground.data }, { on := 22, ground := Ground.data }], guard := none }) (v := ?v36) rfl (by kernel_rfl) (by kernel_rfl) (by kernel_rfl) (fun _ _ _ h => h) (Or.inl ⟨by rfl, ?hy36⟩) (by assumption) ?rest36
                      case hy36 => (intro w hSw; (try dsimp only at hSw); go_simp; (try rw [if_pos (by omega)]); (try with_reducible rfl))
                      simp only [Act.put, List.setIfInBounds_toArray, List.set_cons_zero, List.set_cons_succ]
                      refine wpAnyH_done (by kernel_rfl) ?_ _
                      refine NoPanic.normal ?_
                      go_wp2
                      go_roundw
                      case rel => exact ⟨m + 1, by omega, by go_num, unhide HX54⟩
                      case measure => simp [intOf]; omega
                · go_simp
                  refine hK.out _ _ ((unhide HCL) _ ((unhide HX11).alloc (unhide HX11).size _)) (fun hHeld => ?_)
                  clear hK K
                  have HX14 : Hid (Below WB.heap.size WB (w11.alloc (.cells #[.int .i64 i, .int .i64 j, .string es, .string es] 49))) := (unhide HX11).alloc (unhide HX11).size _
                  have HQB14 : Hid (Prp (w11.alloc (.cells #[.int .i64 i, .int .i64 j, .string es, .string es] 49)) (.slice (some ⟨w11.heap.size, 0, none⟩) 1 1) [((i : Int), (j : Int), es, es)]) := prp_lit1 _ _ _ _ _ _ _
                  have HQA14 : Hid (Prp (w11.alloc (.cells #[.int .i64 i, .int .i64 j, .string es, .string es] 49)) (.slice (some ⟨w10.heap.size, 0, none⟩) 1 1) [((i : Int), (j : Int), es, es)]) := (unhide HQA11).below ((Below.refl _ _).alloc (Nat.le_refl _) _)
                  generalize w11.alloc (.cells #[.int .i64 i, .int .i64 j, .string es, .string es] 49) = w14 at hHeld HX14 HQB14 HQA14 ⊢
                  refine wpAnyH_ready (rs := [3]) (by kernel_rfl) (by simp) ?_
                  refine AllReadyH.cons (o := { dst := some 25, op := Op.call { callee := Callee.value (Operand.func 16), args := #[Operand.tmp 23, Operand.tmp 24], argTypes := #[23, 3] }, type := 33, pos := "more.go:16", after := #[{ on := 1, ground := Ground.data }, { on := 2, ground := Ground.data }], guard := none }) rfl (fun K hK => ?_) AllReadyH.nil
                  go_simp
                  refine ((unhide HK1) _ _ (unhide HQA14)).mono ?_
                  rintro e w55 ⟨E55, rfl, HEE55, hb55⟩
                  have HX55 : Hid (Below WB.heap.size WB w55) := (unhide HX14).trans (hb55.mono (unhide HX14).size)
                  have HQA55 : Hid (Prp w55 (.slice (some ⟨w10.heap.size, 0, none⟩) 1 1) [((i : Int), (j : Int), es, es)]) := (unhide HQA14).below hb55
                  have HQB55 : Hid (Prp w55 (.slice (some ⟨w11.heap.size, 0, none⟩) 1 1) [((i : Int), (j : Int), es, es)]) := (unhide HQB14).below hb55
                  clear hb55
                  go_wp2_with fail
                  refine hK.out _ _ ((unhide HCL) _ (unhide HX55)) (fun hHeld => ?_)
                  clear hK K
                  refine wpAnyH_ready (rs := [4]) (by kernel_rfl) (by simp) ?_
                  refine AllReadyH.cons (o := { dst := some 26, op := Op.call { callee := Callee.value (Operand.func 15), args := #[Operand.tmp 25], argTypes := #[33] }, type := 3, pos := "more.go:16", after := #[{ on := 3, ground := Ground.data }, { on := 3, ground := Ground.chain }], guard := none }) rfl (fun K hK => ?_) AllReadyH.nil
                  go_simp
                  refine (numlp _ c1 _ ((unhide HGW) _ (unhide HX55)) (unhide HEE55)).mono ?_
                  rintro e w56 ⟨rfl, hb56⟩
                  have HX56 : Hid (Below WB.heap.size WB w56) := (unhide HX55).trans (hb56.mono (unhide HX55).size)
                  have HQA56 : Hid (Prp w56 (.slice (some ⟨w10.heap.size, 0, none⟩) 1 1) [((i : Int), (j : Int), es, es)]) := (unhide HQA55).below hb56
                  have HQB56 : Hid (Prp w56 (.slice (some ⟨w11.heap.size, 0, none⟩) 1 1) [((i : Int), (j : Int), es, es)]) := (unhide HQB55).below hb56
                  have HEE56 : Hid (ErrP w56 E55 c1) := (unhide HEE55).below hb56
                  clear hb56
                  go_wp2_with fail
                  refine hK.out _ _ ((unhide HCL) _ (unhide HX56)) (fun hHeld => ?_)
                  clear hK K
                  refine wpAnyH_ready (rs := [8]) (by kernel_rfl) (by simp) ?_
                  refine AllReadyH.cons (o := { dst := some 30, op := Op.call { callee := Callee.value (Operand.func 11), args := #[Operand.tmp 28, Operand.tmp 29], argTypes := #[23, 3] }, type := 3, pos := "more.go:16", after := #[{ on := 6, ground := Ground.data }, { on := 7, ground := Ground.data }, { on := 4, ground := Ground.chain }], guard := none }) rfl (fun K hK => ?_) AllReadyH.nil
                  go_simp
                  refine ((unhide HR1) _ _ (unhide HQB56)).mono ?_
                  rintro e w57 ⟨rfl, hb57⟩
                  have HX57 : Hid (Below WB.heap.size WB w57) := (unhide HX56).trans (hb57.mono (unhide HX56).size)
                  have HQA57 : Hid (Prp w57 (.slice (some ⟨w10.heap.size, 0, none⟩) 1 1) [((i : Int), (j : Int), es, es)]) := (unhide HQA56).below hb57
                  have HQB57 : Hid (Prp w57 (.slice (some ⟨w11.heap.size, 0, none⟩) 1 1) [((i : Int), (j : Int), es, es)]) := (unhide HQB56).below hb57
                  clear hb57
                  go_wp2_with fail
                  refine hK.out _ _ ((unhide HCL) _ (unhide HX57)) (fun hHeld => ?_)
                  clear hK K
                  refine wpAnyH_take (i := 9) (oi := { dst := some 31, op := Op.binOp BinOp.neq 3 (Operand.tmp 26) (Operand.tmp 30) 3, type := 4, pos := "more.go:16", after := #[{ on := 4, ground := Ground.data }, { on := 8, ground := Ground.data }], guard := none }) (v := ?v37) rfl (by kernel_rfl) (by kernel_rfl) (by kernel_rfl) (fun _ _ _ h => h) (Or.inl ⟨by rfl, ?hy37⟩) (by assumption) ?rest37
                  case hy37 => (intro w hSw; (try dsimp only at hSw); go_simp; (try rw [if_pos (by omega)]); (try with_reducible rfl))
                  simp only [Act.put, List.setIfInBounds_toArray, List.set_cons_zero, List.set_cons_succ]
                  refine wpAnyH_take (i := 10) (oi := { dst := some 32, op := Op.move (Operand.tmp 31), type := 4, pos := "more.go:16", after := #[{ on := 9, ground := Ground.data }, { on := 8, ground := Ground.chain }], guard := none }) (v := ?v38) rfl (by kernel_rfl) (by kernel_rfl) (by kernel_rfl) (fun _ _ _ h => h) (Or.inl ⟨by rfl, ?hy38⟩) (by assumption) ?rest38
                  case hy38 => (intro w hSw; (try dsimp only at hSw); go_simp; (try rw [if_pos (by omega)]); (try with_reducible rfl))
                  simp only [Act.put, List.setIfInBounds_toArray, List.set_cons_zero, List.set_cons_succ]
                  refine wpAnyH_take (i := 11) (oi := { dst := some 33, op := Op.load 49 (Operand.tmp 5), type := 49, pos := "more.go:16", after := #[{ on := 10, ground := Ground.guard }], guard := some (10, false) }) (v := ?v39) rfl (by kernel_rfl) (by kernel_rfl) (by kernel_rfl) (fun _ _ _ h => h) (Or.inl ⟨by rfl, ?hy39⟩) (by assumption) ?rest39
                  case hy39 => (intro w hSw; (try dsimp only at hSw); go_simp; (try rw [if_pos (by omega)]); (try with_reducible rfl))
                  simp only [Act.put, List.setIfInBounds_toArray, List.set_cons_zero, List.set_cons_succ]
                  refine wpAnyH_take (i := 12) (oi := { dst := some 34, op := Op.load 49 (Operand.tmp 5), type := 49, pos := "more.go:16", after := #[{ on := 10, ground := Ground.guard }], guard := some (10, false) }) (v := ?v40) rfl (by kernel_rfl) (by kernel_rfl) (by kernel_rfl) (fun _ _ _ h => h) (Or.inl ⟨by rfl, ?hy40⟩) (by assumption) ?rest40
                  case hy40 => (intro w hSw; (try dsimp only at hSw); go_simp; (try rw [if_pos (by omega)]); (try with_reducible rfl))
                  simp only [Act.put, List.setIfInBounds_toArray, List.set_cons_zero, List.set_cons_succ]
                  refine wpAnyH_take (i := 14) (oi := { dst := some 36, op := Op.move (Operand.tmp 6), type := 3, pos := "more.go:16", after := #[{ on := 10, ground := Ground.guard }], guard := some (10, false) }) (v := ?v41) rfl (by kernel_rfl) (by kernel_rfl) (by kernel_rfl) (fun _ _ _ h => h) (Or.inl ⟨by rfl, ?hy41⟩) (by assumption) ?rest41
                  case hy41 => (intro w hSw; (try dsimp only at hSw); go_simp; (try rw [if_pos (by omega)]); (try with_reducible rfl))
                  simp only [Act.put, List.setIfInBounds_toArray, List.set_cons_zero, List.set_cons_succ]
                  refine wpAnyH_take (i := 17) (oi := { dst := some 39, op := Op.load 49 (Operand.tmp 5), type := 49, pos := "more.go:16", after := #[{ on := 10, ground := Ground.guard }], guard := some (10, false) }) (v := ?v42) rfl (by kernel_rfl) (by kernel_rfl) (by kernel_rfl) (fun _ _ _ h => h) (Or.inl ⟨by rfl, ?hy42⟩) (by assumption) ?rest42
                  case hy42 => (intro w hSw; (try dsimp only at hSw); go_simp; (try rw [if_pos (by omega)]); (try with_reducible rfl))
                  simp only [Act.put, List.setIfInBounds_toArray, List.set_cons_zero, List.set_cons_succ]
                  refine wpAnyH_take (i := 18) (oi := { dst := some 40, op := Op.load 49 (Operand.tmp 5), type := 49, pos := "more.go:16", after := #[{ on := 10, ground := Ground.guard }], guard := some (10, false) }) (v := ?v43) rfl (by kernel_rfl) (by kernel_rfl) (by kernel_rfl) (fun _ _ _ h => h) (Or.inl ⟨by rfl, ?hy43⟩) (by assumption) ?rest43
                  case hy43 => (intro w hSw; (try dsimp only at hSw); go_simp; (try rw [if_pos (by omega)]); (try with_reducible rfl))
                  simp only [Act.put, List.setIfInBounds_toArray, List.set_cons_zero, List.set_cons_succ]
                  refine wpAnyH_take (i := 20) (oi := { dst := some 42, op := Op.move (Operand.tmp 6), type := 3, pos := "more.go:16", after := #[{ on := 10, ground := Ground.guard }], guard := some (10, false) }) (v := ?v44) rfl (by kernel_rfl) (by kernel_rfl) (by kernel_rfl) (fun _ _ _ h => h) (Or.inl ⟨by rfl, ?hy44⟩) (by assumption) ?rest44
                  case hy44 => (intro w hSw; (try dsimp only at hSw); go_simp; (try rw [if_pos (by omega)]); (try with_reducible rfl))
                  simp only [Act.put, List.setIfInBounds_toArray, List.set_cons_zero, List.set_cons_succ]
                  refine wpAnyH_ready (rs := [13, 19]) (by kernel_rfl) (by simp) ?_
                  refine AllReadyH.cons (o := { dst := some 35, op := Op.buildSlice 23 2 #[(0, Operand.tmp 33), (1, Operand.tmp 34)], type := 23, pos := "more.go:16", after := #[{ on := 11, ground := Ground.data }, { on := 12, ground := Ground.data }, { on := 10, ground := Ground.guard }], guard := some (10, false) }) rfl (fun K hK => ?_) (AllReadyH.cons (o := { dst := some 41, op := Op.buildSlice 23 2 #[(0, Operand.tmp 39), (1, Operand.tmp 40)], type := 23, pos := "more.go:16", after := #[{ on := 17, ground := Ground.data }, { on := 18, ground := Ground.data }, { on := 10, ground := Ground.guard }], guard := some (10, false) }) rfl (fun K hK => ?_) AllReadyH.nil)
                  · go_simp
                    refine hK.out _ _ ((unhide HCL) _ ((unhide HX57).alloc (unhide HX57).size _)) (fun hHeld => ?_)
                    clear hK K
                    have HX58 : Hid (Below WB.heap.size WB (w57.alloc (.cells #[.int .i64 i, .int .i64 j, .string es, .string es, .int .i64 i, .int .i64 j, .string es, .string es] 49))) := (unhide HX57).alloc (unhide HX57).size _
                    have HQA58 : Hid (Prp (w57.alloc (.cells #[.int .i64 i, .int .i64 j, .string es, .string es, .int .i64 i, .int .i64 j, .string es, .string es] 49)) (.slice (some ⟨w57.heap.size, 0, none⟩) 2 2) [((i : Int), (j : Int), es, es), ((i : Int), (j : Int), es, es)]) := prp_lit2 _ _ _ _ _ _ _
                    generalize w57.alloc (.cells #[.int .i64 i, .int .i64 j, .string es, .string es, .int .i64 i, .int .i64 j, .string es, .string es] 49) = w58 at hHeld HX58 HQA58 ⊢
                    refine wpAnyH_ready (rs := [15, 19]) (by kernel_rfl) (by simp) ?_
                    refine AllReadyH.cons (o := { dst := some 37, op := Op.call { callee := Callee.value (Operand.func 16), args := #[Operand.tmp 35, Operand.tmp 36], argTypes := #[23, 3] }, type := 33, pos := "more.go:16", after := #[{ on := 13, ground := Ground.data }, { on := 14, ground := Ground.data }, { on := 10, ground := Ground.chain }, { on := 10, ground := Ground.guard }], guard := some (10, false) }) rfl (fun K hK => ?_) (AllReadyH.cons (o := { dst := some 41, op := Op.buildSlice 23 2 #[(0, Operand.tmp 39), (1, Operand.tmp 40)], type := 23, pos := "more.go:16", after := #[{ on := 17, ground := Ground.data }, { on := 18, ground := Ground.data }, { on := 10, ground := Ground.guard }], guard := some (10, false) }) rfl (fun K hK => ?_) AllReadyH.nil)
                    · go_simp
                      refine ((unhide HK2) _ _ (unhide HQA58)).mono ?_
                      rintro e w60 ⟨E60, rfl, HEE60, hb60⟩
                      have HX60 : Hid (Below WB.heap.size WB w60) := (unhide HX58).trans (hb60.mono (unhide HX58).size)
                      have HQA60 : Hid (Prp w60 (.slice (some ⟨w57.heap.size, 0, none⟩) 2 2) [((i : Int), (j : Int), es, es), ((i : Int), (j : Int), es, es)]) := (unhide HQA58).below hb60
                      clear hb60
                      go_wp2_with fail
                      refine hK.out _ _ ((unhide HCL) _ (unhide HX60)) (fun hHeld => ?_)
                      clear hK K
                      refine wpAnyH_ready (rs := [16, 19]) (by kernel_rfl) (by simp) ?_
                      refine AllReadyH.cons (o := { dst := some 38, op := Op.call { callee := Callee.value (Operand.func 15), args := #[Operand.tmp 37], argTypes := #[33] }, type := 3, pos := "more.go:16", after := #[{ on := 15, ground := Ground.data }, { on := 15, ground := Ground.chain }, { on := 10, ground := Ground.guard }], guard := some (10, false) }) rfl (fun K hK => ?_) (AllReadyH.cons (o := { dst := some 41, op := Op.buildSlice 23 2 #[(0, Operand.tmp 39), (1, Operand.tmp 40)], type := 23, pos := "more.go:16", after := #[{ on := 17, ground := Ground.data }, { on := 18, ground := Ground.data }, { on := 10, ground := Ground.guard }], guard := some (10, false) }) rfl (fun K hK => ?_) AllReadyH.nil)
                      · go_simp
                        refine (numlp _ c2 _ ((unhide HGW) _ (unhide HX60)) (unhide HEE60)).mono ?_
                        rintro e w62 ⟨rfl, hb62⟩
                        have HX62 : Hid (Below WB.heap.size WB w62) := (unhide HX60).trans (hb62.mono (unhide HX60).size)
                        have HQA62 : Hid (Prp w62 (.slice (some ⟨w57.heap.size, 0, none⟩) 2 2) [((i : Int), (j : Int), es, es), ((i : Int), (j : Int), es, es)]) := (unhide HQA60).below hb62
                        have HEE62 : Hid (ErrP w62 E60 c2) := (unhide HEE60).below hb62
                        clear hb62
                        go_wp2_with fail
                        refine hK.out _ _ ((unhide HCL) _ (unhide HX62)) (fun hHeld => ?_)
                        clear hK K
                        refine wpAnyH_ready (rs := [19]) (by kernel_rfl) (by simp) ?_
                        refine AllReadyH.cons (o := { dst := some 41, op := Op.buildSlice 23 2 #[(0, Operand.tmp 39), (1, Operand.tmp 40)], type := 23, pos := "more.go:16", after := #[{ on := 17, ground := Ground.data }, { on := 18, ground := Ground.data }, { on := 10, ground := Ground.guard }], guard := some (10, false) }) rfl (fun K hK => ?_) AllReadyH.nil
                        go_simp
                        refine hK.out _ _ ((unhide HCL) _ ((unhide HX62).alloc (unhide HX62).size _)) (fun hHeld => ?_)
                        clear hK K
                        have HX64 : Hid (Below WB.heap.size WB (w62.alloc (.cells #[.int .i64 i, .int .i64 j, .string es, .string es, .int .i64 i, .int .i64 j, .string es, .string es] 49))) := (unhide HX62).alloc (unhide HX62).size _
                        have HQB64 : Hid (Prp (w62.alloc (.cells #[.int .i64 i, .int .i64 j, .string es, .string es, .int .i64 i, .int .i64 j, .string es, .string es] 49)) (.slice (some ⟨w62.heap.size, 0, none⟩) 2 2) [((i : Int), (j : Int), es, es), ((i : Int), (j : Int), es, es)]) := prp_lit2 _ _ _ _ _ _ _
                        have HQA64 : Hid (Prp (w62.alloc (.cells #[.int .i64 i, .int .i64 j, .string es, .string es, .int .i64 i, .int .i64 j, .string es, .string es] 49)) (.slice (some ⟨w57.heap.size, 0, none⟩) 2 2) [((i : Int), (j : Int), es, es), ((i : Int), (j : Int), es, es)]) := (unhide HQA62).below ((Below.refl _ _).alloc (Nat.le_refl _) _)
                        generalize w62.alloc (.cells #[.int .i64 i, .int .i64 j, .string es, .string es, .int .i64 i, .int .i64 j, .string es, .string es] 49) = w64 at hHeld HX64 HQB64 HQA64 ⊢
                        refine wpAnyH_ready (rs := [21]) (by kernel_rfl) (by simp) ?_
                        refine AllReadyH.cons (o := { dst := some 43, op := Op.call { callee := Callee.value (Operand.func 11), args := #[Operand.tmp 41, Operand.tmp 42], argTypes := #[23, 3] }, type := 3, pos := "more.go:16", after := #[{ on := 19, ground := Ground.data }, { on := 20, ground := Ground.data }, { on := 16, ground := Ground.chain }, { on := 10, ground := Ground.guard }], guard := some (10, false) }) rfl (fun K hK => ?_) AllReadyH.nil
                        go_simp
                        refine ((unhide HR2) _ _ (unhide HQB64)).mono ?_
                        rintro e w65 ⟨rfl, hb65⟩
                        have HX65 : Hid (Below WB.heap.size WB w65) := (unhide HX64).trans (hb65.mono (unhide HX64).size)
                        have HQA65 : Hid (Prp w65 (.slice (some ⟨w57.heap.size, 0, none⟩) 2 2) [((i : Int), (j : Int), es, es), ((i : Int), (j : Int), es, es)]) := (unhide HQA64).below hb65
                        have HQB65 : Hid (Prp w65 (.slice (some ⟨w62.heap.size, 0, none⟩) 2 2) [((i : Int), (j : Int), es, es), ((i : Int), (j : Int), es, es)]) := (unhide HQB64).below hb65
                        clear hb65
                        go_wp2_with fail
                        refine hK.out _ _ ((unhide HCL) _ (unhide HX65)) (fun hHeld => ?_)
                        clear hK K
                        refine wpAnyH_take (i := 22) (oi := { dst := some 44, op := Op.binOp BinOp.neq 3 (Operand.tmp 38) (Operand.tmp 43) 3, type := 4, pos := "more.go:16", after := #[{ on := 16, ground := Ground.data }, { on := 21, ground := Ground.data }, { on := 10, ground := Ground.guard }], guard := some (10, false) }) (v := ?v45) rfl (by kernel_rfl) (by kernel_rfl) (by kernel_rfl) (fun _ _ _ h => h) (Or.inl ⟨by rfl, ?hy45⟩) (by assumption) ?rest45
                        case hy45 => (intro w hSw; (try dsimp only at hSw); go_simp; (try rw [if_pos (by omega)]); (try with_reducible rfl))
                        simp only [Act.put, List.setIfInBounds_toArray, List.set_cons_zero, List.set_cons_succ]
                        refine wpAnyH_take (i := 23) (oi := { dst := some 45, op := Op.pick (Operand.tmp 32) (Operand.const (Value.bool true)) (Operand.tmp 44), type := 4, pos := "more.go:16", after := #[{ on := 10, ground := Ground.data }, { on := 22, ground := Ground.data }], guard := none }) (v := ?v46) rfl (by kernel_rfl) (by kernel_rfl) (by kernel_rfl) (fun _ _ _ h => h) (Or.inl ⟨by rfl, ?hy46⟩) (by assumption) ?rest46
                        case hy46 => (intro w hSw; (try dsimp only at hSw); go_simp; (try rw [if_pos (by omega)]); (try with_reducible rfl))
                        simp only [Act.put, List.setIfInBounds_toArray, List.set_cons_zero, List.set_cons_succ]
                        refine wpAnyH_done (by kernel_rfl) ?_ _
                        refine NoPanic.normal ?_
                        go_wp2
                        go_roundw
                        case rel => exact ⟨m + 1, by omega, by go_num, unhide HX65⟩
                        case measure => simp [intOf]; omega
                      · go_simp
                        refine hK.out _ _ ((unhide HCL) _ ((unhide HX60).alloc (unhide HX60).size _)) (fun hHeld => ?_)
                        clear hK K
                        have HX63 : Hid (Below WB.heap.size WB (w60.alloc (.cells #[.int .i64 i, .int .i64 j, .string es, .string es, .int .i64 i, .int .i64 j, .string es, .string es] 49))) := (unhide HX60).alloc (unhide HX60).size _
                        have HQB63 : Hid (Prp (w60.alloc (.cells #[.int .i64 i, .int .i64 j, .string es, .string es, .int .i64 i, .int .i64 j, .string es, .string es] 49)) (.slice (some ⟨w60.heap.size, 0, none⟩) 2 2) [((i : Int), (j : Int), es, es), ((i : Int), (j : Int), es, es)]) := prp_lit2 _ _ _ _ _ _ _
                        have HQA63 : Hid (Prp (w60.alloc (.cells #[.int .i64 i, .int .i64 j, .string es, .string es, .int .i64 i, .int .i64 j, .string es, .string es] 49)) (.slice (some ⟨w57.heap.size, 0, none⟩) 2 2) [((i : Int), (j : Int), es, es), ((i : Int), (j : Int), es, es)]) := (unhide HQA60).below ((Below.refl _ _).alloc (Nat.le_refl _) _)
                        have HEE63 : Hid (ErrP (w60.alloc (.cells #[.int .i64 i, .int .i64 j, .string es, .string es, .int .i64 i, .int .i64 j, .string es, .string es] 49)) E60 c2) := (unhide HEE60).below ((Below.refl _ _).alloc (Nat.le_refl _) _)
                        generalize w60.alloc (.cells #[.int .i64 i, .int .i64 j, .string es, .string es, .int .i64 i, .int .i64 j, .string es, .string es] 49) = w63 at hHeld HX63 HQB63 HQA63 HEE63 ⊢
                        refine wpAnyH_ready (rs := [16]) (by kernel_rfl) (by simp) ?_
                        refine AllReadyH.cons (o := { dst := some 38, op := Op.call { callee := Callee.value (Operand.func 15), args := #[Operand.tmp 37], argTypes := #[33] }, type := 3, pos := "more.go:16", after := #[{ on := 15, ground := Ground.data }, { on := 15, ground := Ground.chain }, { on := 10, ground := Ground.guard }], guard := some (10, false) }) rfl (fun K hK => ?_) AllReadyH.nil
                        go_simp
                        refine (numlp _ c2 _ ((unhide HGW) _ (unhide HX63)) (unhide HEE63)).mono ?_
                        rintro e w66 ⟨rfl, hb66⟩
                        have HX66 : Hid (Below WB.heap.size WB w66) := (unhide HX63).trans (hb66.mono (unhide HX63).size)
                        have HQA66 : Hid (Prp w66 (.slice (some ⟨w57.heap.size, 0, none⟩) 2 2) [((i : Int), (j : Int), es, es), ((i : Int), (j : Int), es, es)]) := (unhide HQA63).below hb66
                        have HQB66 : Hid (Prp w66 (.slice (some ⟨w60.heap.size, 0, none⟩) 2 2) [((i : Int), (j : Int), es, es), ((i : Int), (j : Int), es, es)]) := (unhide HQB63).below hb66
                        have HEE66 : Hid (ErrP w66 E60 c2) := (unhide HEE63).below hb66
                        clear hb66
                        go_wp2_with fail
                        refine hK.out _ _ ((unhide HCL) _ (unhide HX66)) (fun hHeld => ?_)
                        clear hK K
                        refine wpAnyH_ready (rs := [21]) (by kernel_rfl) (by simp) ?_
                        refine AllReadyH.cons (o := { dst := some 43, op := Op.call { callee := Callee.value (Operand.func 11), args := #[Operand.tmp 41, Operand.tmp 42], argTypes := #[23, 3] }, type := 3, pos := "more.go:16", after := #[{ on := 19, ground := Ground.data }, { on := 20, ground := Ground.data }, { on := 16, ground := Ground.chain }, { on := 10, ground := Ground.guard }], guard := some (10, false) }) rfl (fun K hK => ?_) AllReadyH.nil
                        go_simp
                        refine ((unhide HR2) _ _ (unhide HQB66)).mono ?_
                        rintro e w67 ⟨rfl, hb67⟩
                        have HX67 : Hid (Below WB.heap.size WB w67) := (unhide HX66).trans (hb67.mono (unhide HX66).size)
                        have HQA67 : Hid (Prp w67 (.slice (some ⟨w57.heap.size, 0, none⟩) 2 2) [((i : Int), (j : Int), es, es), ((i : Int), (j : Int), es, es)]) := (unhide HQA66).below hb67
                        have HQB67 : Hid (Prp w67 (.slice (some ⟨w60.heap.size, 0, none⟩) 2 2) [((i : Int), (j : Int), es, es), ((i : Int), (j : Int), es, es)]) := (unhide HQB66).below hb67
                        clear hb67
                        go_wp2_with fail
                        refine hK.out _ _ ((unhide HCL) _ (unhide HX67)) (fun hHeld => ?_)
                        clear hK K
                        refine wpAnyH_take (i := 22) (oi := { dst := some 44, op := Op.binOp BinOp.neq 3 (Operand.tmp 38) (Operand.tmp 43) 3, type := 4, pos := "more.go:16", after := #[{ on := 16, ground := Ground.data }, { on := 21, ground := Ground.data }, { on := 10, ground := Ground.guard }], guard := some (10, false) }) (v := ?v47) rfl (by kernel_rfl) (by kernel_rfl) (by kernel_rfl) (fun _ _ _ h => h) (Or.inl ⟨by rfl, ?hy47⟩) (by assumption) ?rest47
                        case hy47 => (intro w hSw; (try dsimp only at hSw); go_simp; (try rw [if_pos (by omega)]); (try with_reducible rfl))
                        simp only [Act.put, List.setIfInBounds_toArray, List.set_cons_zero, List.set_cons_succ]
                        refine wpAnyH_take (i := 23) (oi := { dst := some 45, op := Op.pick (Operand.tmp 32) (Operand.const (Value.bool true)) (Operand.tmp 44), type := 4, pos := "more.go:16", after := #[{ on := 10, ground := Ground.data }, { on := 22, ground := Ground.data }], guard := none }) (v := ?v48) rfl (by kernel_rfl) (by kernel_rfl) (by kernel_rfl) (fun _ _ _ h => h) (Or.inl ⟨by rfl, ?hy48⟩) (by assumption) ?rest48
                        case hy48 => (intro w hSw; (try dsimp only at hSw); go_simp; (try rw [if_pos (by omega)]); (try with_reducible rfl))
                        simp only [Act.put, List.setIfInBounds_toArray, List.set_cons_zero, List.set_cons_succ]
                        refine wpAnyH_done (by kernel_rfl) ?_ _
                        refine NoPanic.normal ?_
                        go_wp2
                        go_roundw
                        case rel => exact ⟨m + 1, by omega, by go_num, unhide HX67⟩
                        case measure => simp [intOf]; omega
                    · go_simp
                      refine hK.out _ _ ((unhide HCL) _ ((unhide HX58).alloc (unhide HX58).size _)) (fun hHeld => ?_)
                      clear hK K
                      have HX61 : Hid (Below WB.heap.size WB (w58.alloc (.cells #[.int .i64 i, .int .i64 j, .string es, .string es, .int .i64 i, .int .i64 j, .string es, .string es] 49))) := (unhide HX58).alloc (unhide HX58).size _
                      have HQB61 : Hid (Prp (w58.alloc (.cells #[.int .i64 i, .int .i64 j, .string es, .string es, .int .i64 i, .int .i64 j, .string es, .string es] 49)) (.slice (some ⟨w58.heap.size, 0, none⟩) 2 2) [((i : Int), (j : Int), es, es), ((i : Int), (j : Int), es, es)]) := prp_lit2 _ _ _ _ _ _ _
                      have HQA61 : Hid (Prp (w58.alloc (.cells #[.int .i64 i, .int .i64 j, .string es, .string es, .int .i64 i, .int .i64 j, .string es, .string es] 49)) (.slice (some ⟨w57.heap.size, 0, none⟩) 2 2) [((i : Int), (j : Int), es, es), ((i : Int), (j : Int), es, es)]) := (unhide HQA58).below ((Below.refl _ _).alloc (Nat.le_refl _) _)
                      generalize w58.alloc (.cells #[.int .i64 i, .int .i64 j, .string es, .string es, .int .i64 i, .int .i64 j, .string es, .string es] 49) = w61 at hHeld HX61 HQB61 HQA61 ⊢
                      refine wpAnyH_ready (rs := [15]) (by kernel_rfl) (by simp) ?_
                      refine AllReadyH.cons (o := { dst := some 37, op := Op.call { callee := Callee.value (Operand.func 16), args := #[Operand.tmp 35, Operand.tmp 36], argTypes := #[23, 3] }, type := 33, pos := "more.go:16", after := #[{ on := 13, ground := Ground.data }, { on := 14, ground := Ground.data }, { on := 10, ground := Ground.chain }, { on := 10, ground := Ground.guard }], guard := some (10, false) }) rfl (fun K hK => ?_) AllReadyH.nil
                      go_simp
                      refine ((unhide HK2) _ _ (unhide HQA61)).mono ?_
                      rintro e w68 ⟨E68, rfl, HEE68, hb68⟩
                      have HX68 : Hid (Below WB.heap.size WB w68) := (unhide HX61).trans (hb68.mono (unhide HX61).size)
                      have HQA68 : Hid (Prp w68 (.slice (some ⟨w57.heap.size, 0, none⟩) 2 2) [((i : Int), (j : Int), es, es), ((i : Int), (j : Int), es, es)]) := (unhide HQA61).below hb68
                      have HQB68 : Hid (Prp w68 (.slice (some ⟨w58.heap.size, 0, none⟩) 2 2) [((i : Int), (j : Int), es, es), ((i : Int), (j : Int), es, es)]) := (unhide HQB61).below hb68
                      clear hb68
                      go_wp2_with fail
                      refine hK.out _ _ ((unhide HCL) _ (unhide HX68)) (fun hHeld => ?_)
                      clear hK K
                      refine wpAnyH_ready (rs := [16]) (by kernel_rfl) (by simp) ?_
                      refine AllReadyH.cons (o := { dst := some 38, op := Op.call { callee := Callee.value (Operand.func 15), args := #[Operand.tmp 37], argTypes := #[33] }, type := 3, pos := "more.go:16", after := #[{ on := 15, ground := Ground.data }, { on := 15, ground := Ground.chain }, { on := 10, ground := Ground.guard }], guard := some (10, false) }) rfl (fun K hK => ?_) AllReadyH.nil
                      go_simp
                      refine (numlp _ c2 _ ((unhide HGW) _ (unhide HX68)) (unhide HEE68)).mono ?_
                      rintro e w69 ⟨rfl, hb69⟩
                      have HX69 : Hid (Below WB.heap.size WB w69) := (unhide HX68).trans (hb69.mono (unhide HX68).size)
                      have HQA69 : Hid (Prp w69 (.slice (some ⟨w57.heap.size, 0, none⟩) 2 2) [((i : Int), (j : Int), es, es), ((i : Int), (j : Int), es, es)]) := (unhide HQA68).below hb69
                      have HQB69 : Hid (Prp w69 (.slice (some ⟨w58.heap.size, 0, none⟩) 2 2) [((i : Int), (j : Int), es, es), ((i : Int), (j : Int), es, es)]) := (unhide HQB68).below hb69
                      have HEE69 : Hid (ErrP w69 E68 c2) := (unhide HEE68).below hb69
                      clear hb69
                      go_wp2_with fail
                      refine hK.out _ _ ((unhide HCL) _ (unhide HX69)) (fun hHeld => ?_)
                      clear hK K
                      refine wpAnyH_ready (rs := [21]) (by kernel_rfl) (by simp) ?_
                      refine AllReadyH.cons (o := { dst := some 43, op := Op.call { callee := Callee.value (Operand.func 11), args := #[Operand.tmp 41, Operand.tmp 42], argTypes := #[23, 3] }, type := 3, pos := "more.go:16", after := #[{ on := 19, ground := Ground.data }, { on := 20, ground := Ground.data }, { on := 16, ground := Ground.chain }, { on := 10, ground := Ground.guard }], guard := some (10, false) }) rfl (fun K hK => ?_) AllReadyH.nil
                      go_simp
                      refine ((unhide HR2) _ _ (unhide HQB69)).mono ?_
                      rintro e w70 ⟨rfl, hb70⟩
                      have HX70 : Hid (Below WB.heap.size WB w70) := (unhide HX69).trans (hb70.mono (unhide HX69).size)
                      have HQA70 : Hid (Prp w70 (.slice (some ⟨w57.heap.size, 0, none⟩) 2 2) [((i : Int), (j : Int), es, es), ((i : Int), (j : Int), es, es)]) := (unhide HQA69).below hb70
                      have HQB70 : Hid (Prp w70 (.slice (some ⟨w58.heap.size, 0, none⟩) 2 2) [((i : Int), (j : Int), es, es), ((i : Int), (j : Int), es, es)]) := (unhide HQB69).below hb70
                      clear hb70
                      go_wp2_with fail
                      refine hK.out _ _ ((unhide HCL) _ (unhide HX70)) (fun hHeld => ?_)
                      clear hK K
                      refine wpAnyH_take (i := 22) (oi := { dst := some 44, op := Op.binOp BinOp.neq 3 (Operand.tmp 38) (Operand.tmp 43) 3, type := 4, pos := "more.go:16", after := #[{ on := 16, ground := Ground.data }, { on := 21, ground := Ground.data }, { on := 10, ground := Ground.guard }], guard := some (10, false) }) (v := ?v49) rfl (by kernel_rfl) (by kernel_rfl) (by kernel_rfl) (fun _ _ _ h => h) (Or.inl ⟨by rfl, ?hy49⟩) (by assumption) ?rest49
                      case hy49 => (intro w hSw; (try dsimp only at hSw); go_simp; (try rw [if_pos (by omega)]); (try with_reducible rfl))
                      simp only [Act.put, List.setIfInBounds_toArray, List.set_cons_zero, List.set_cons_succ]
                      refine wpAnyH_take (i := 23) (oi := { dst := some 45, op := Op.pick (Operand.tmp 32) (Operand.const (Value.bool true)) (Operand.tmp 44), type := 4, pos := "more.go:16", after := #[{ on := 10, ground := Ground.data }, { on := 22, ground := Ground.data }], guard := none }) (v := ?v50) rfl (by kernel_rfl) (by kernel_rfl) (by kernel_rfl) (fun _ _ _ h => h) (Or.inl ⟨by rfl, ?hy50⟩) (by assumption) ?rest50
                      case hy50 => (intro w hSw; (try dsimp only at hSw); go_simp; (try rw [if_pos (by omega)]); (try with_reducible rfl))
                      simp only [Act.put, List.setIfInBounds_toArray, List.set_cons_zero, List.set_cons_succ]
                      refine wpAnyH_done (by kernel_rfl) ?_ _
                      refine NoPanic.normal ?_
                      go_wp2
                      go_roundw
                      case rel => exact ⟨m + 1, by omega, by go_num, unhide HX70⟩
                      case measure => simp [intOf]; omega
                  · go_simp
                    refine hK.out _ _ ((unhide HCL) _ ((unhide HX57).alloc (unhide HX57).size _)) (fun hHeld => ?_)
                    clear hK K
                    have HX59 : Hid (Below WB.heap.size WB (w57.alloc (.cells #[.int .i64 i, .int .i64 j, .string es, .string es, .int .i64 i, .int .i64 j, .string es, .string es] 49))) := (unhide HX57).alloc (unhide HX57).size _
                    have HQB59 : Hid (Prp (w57.alloc (.cells #[.int .i64 i, .int .i64 j, .string es, .string es, .int .i64 i, .int .i64 j, .string es, .string es] 49)) (.slice (some ⟨w57.heap.size, 0, none⟩) 2 2) [((i : Int), (j : Int), es, es), ((i : Int), (j : Int), es, es)]) := prp_lit2 _ _ _ _ _ _ _
                    generalize w57.alloc (.cells #[.int .i64 i, .int .i64 j, .string es, .string es, .int .i64 i, .int .i64 j, .string es, .string es] 49) = w59 at hHeld HX59 HQB59 ⊢
                    refine wpAnyH_ready (rs := [13]) (by kernel_rfl) (by simp) ?_
                    refine AllReadyH.cons (o := { dst := some 35, op := Op.buildSlice 23 2 #[(0, Operand.tmp 33), (1, Operand.tmp 34)], type := 23, pos := "more.go:16", after := #[{ on := 11, ground := Ground.data }, { on := 12, ground := Ground.data }, { on := 10, ground := Ground.guard }], guard := some (10, false) }) rfl (fun K hK => ?_) AllReadyH.nil
                    go_simp
                    refine hK.out _ _ ((unhide HCL) _ ((unhide HX59).alloc (unhide HX59).size _)) (fun hHeld => ?_)
                    clear hK K
                    have HX71 : Hid (Below WB.heap.size WB (w59.alloc (.cells #[.int .i64 i, .int .i64 j, .string es, .string es, .int .i64 i, .int .i64 j, .string es, .string es] 49))) := (unhide HX59).alloc (unhide HX59).size _
                    have HQA71 : Hid (Prp (w59.alloc (.cells #[.int .i64 i, .int .i64 j, .string es, .string es, .int .i64 i, .int .i64 j, .string es, .string es] 49)) (.slice (some ⟨w59.heap.size, 0, none⟩) 2 2) [((i : Int), (j : Int), es, es), ((i : Int), (j : Int), es, es)]) := prp_lit2 _ _ _ _ _ _ _
                    have HQB71 : Hid (Prp (w59.alloc (.cells #[.int .i64 i, .int .i64 j, .string es, .string es, .int .i64 i, .int .i64 j, .string es, .string es] 49)) (.slice (some ⟨w57.heap.size, 0, none⟩) 2 2) [((i : Int), (j : Int), es, es), ((i : Int), (j : Int), es, es)]) := (unhide HQB59).below ((Below.refl _ _).alloc (Nat.le_refl _) _)
                    generalize w59.alloc (.cells #[.int .i64 i, .int .i64 j, .string es, .string es, .int .i64 i, .int .i64 j, .string es, .string es] 49) = w71 at hHeld HX71 HQA71 HQB71 ⊢
                    refine wpAnyH_ready (rs := [15]) (by kernel_rfl) (by simp) ?_
                    refine AllReadyH.cons (o := { dst := some 37, op := Op.call { callee := Callee.value (Operand.func 16), args := #[Operand.tmp 35, Operand.tmp 36], argTypes := #[23, 3] }, type := 33, pos := "more.go:16", after := #[{ on := 13, ground := Ground.data }, { on := 14, ground := Ground.data }, { on := 10, ground := Ground.chain }, { on := 10, ground := Ground.guard }], guard := some (10, false) }) rfl (fun K hK => ?_) AllReadyH.nil
                    go_simp
                    refine ((unhide HK2) _ _ (unhide HQA71)).mono ?_
                    rintro e w72 ⟨E72, rfl, HEE72, hb72⟩
                    have HX72 : Hid (Below WB.heap.size WB w72) := (unhide HX71).trans (hb72.mono (unhide HX71).size)
                    have HQA72 : Hid (Prp w72 (.slice (some ⟨w59.heap.size, 0, none⟩) 2 2) [((i : Int), (j : Int), es, es), ((i : Int), (j : Int), es, es)]) := (unhide HQA71).below hb72
                    have HQB72 : Hid (Prp w72 (.slice (some ⟨w57.heap.size, 0, none⟩) 2 2) [((i : Int), (j : Int), es, es), ((i : Int), (j : Int), es, es)]) := (unhide HQB71).below hb72
                    clear hb72
                    go_wp2_with fail
                    refine hK.out _ _ ((unhide HCL) _ (unhide HX72)) (fun hHeld => ?_)
                    clear hK K
                    refine wpAnyH_ready (rs := [16]) (by kernel_rfl) (by simp) ?_
                    refine AllReadyH.cons (o := { dst := some 38, op := Op.call { callee := Callee.value (Operand.func 15), args := #[Operand.tmp 37], argTypes := #[33] }, type := 3, pos := "more.go:16", after := #[{ on := 15, ground := Ground.data }, { on := 15, ground := Ground.chain }, { on := 10, ground := Ground.guard }], guard := some (10, false) }) rfl (fun K hK => ?_) AllReadyH.nil
                    go_simp
                    refine (numlp _ c2 _ ((unhide HGW) _ (unhide HX72)) (unhide HEE72)).mono ?_
                    rintro e w73 ⟨rfl, hb73⟩
                    have HX73 : Hid (Below WB.heap.size WB w73) := (unhide HX72).trans (hb73.mono (unhide HX72).size)
                    have HQA73 : Hid (Prp w73 (.slice (some ⟨w59.heap.size, 0, none⟩) 2 2) [((i : Int), (j : Int), es, es), ((i : Int), (j : Int), es, es)]) := (unhide HQA72).below hb73
                    have HQB73 : Hid (Prp w73 (.slice (some ⟨w57.heap.size, 0, none⟩) 2 2) [((i : Int), (j : Int), es, es), ((i : Int), (j : Int), es, es)]) := (unhide HQB72).below hb73
                    have HEE73 : Hid (ErrP w73 E72 c2) := (unhide HEE72).below hb73
                    clear hb73
                    go_wp2_with fail
                    refine hK.out _ _ ((unhide HCL) _ (unhide HX73)) (fun hHeld => ?_)
                    clear hK K
                    refine wpAnyH_ready (rs := [21]) (by kernel_rfl) (by simp) ?_
                    refine AllReadyH.cons (o := { dst := some 43, op := Op.call { callee := Callee.value (Operand.func 11), args := #[Operand.tmp 41, Operand.tmp 42], argTypes := #[23, 3] }, type := 3, pos := "more.go:16", after := #[{ on := 19, ground := Ground.data }, { on := 20, ground := Ground.data }, { on := 16, ground := Ground.chain }, { on := 10, ground := Ground.guard }], guard := some (10, false) }) rfl (fun K hK => ?_) AllReadyH.nil
                    go_simp
                    refine ((unhide HR2) _ _ (unhide HQB73)).mono ?_
                    rintro e w74 ⟨rfl, hb74⟩
                    have HX74 : Hid (Below WB.heap.size WB w74) := (unhide HX73).trans (hb74.mono (unhide HX73).size)
                    have HQA74 : Hid (Prp w74 (.slice (some ⟨w59.heap.size, 0, none⟩) 2 2) [((i : Int), (j : Int), es, es), ((i : Int), (j : Int), es, es)]) := (unhide HQA73).below hb74
                    have HQB74 : Hid (Prp w74 (.slice (some ⟨w57.heap.size, 0, none⟩) 2 2) [((i : Int), (j : Int), es, es), ((i : Int), (j : Int), es, es)]) := (unhide HQB73).below hb74
                    clear hb74
                    go_wp2_with fail
                    refine hK.out _ _ ((unhide HCL) _ (unhide HX74)) (fun hHeld => ?_)
                    clear hK K
                    refine wpAnyH_take (i := 22) (oi := { dst := some 44, op := Op.binOp BinOp.neq 3 (Operand.tmp 38) (Operand.tmp 43) 3, type := 4, pos := "more.go:16", after := #[{ on := 16, ground := Ground.data }, { on := 21, ground := Ground.data }, { on := 10, ground := Ground.guard }], guard := some (10, false) }) (v := ?v51) rfl (by kernel_rfl) (by kernel_rfl) (by kernel_rfl) (fun _ _ _ h => h) (Or.inl ⟨by rfl, ?hy51⟩) (by assumption) ?rest51
                    case hy51 => (intro w hSw; (try dsimp only at hSw); go_simp; (try rw [if_pos (by omega)]); (try with_reducible rfl))
                    simp only [Act.put, List.setIfInBounds_toArray, List.set_cons_zero, List.set_cons_succ]
                    refine wpAnyH_take (i := 23) (oi := { dst := some 45, op := Op.pick (Operand.tmp 32) (Operand.const (Value.bool true)) (Operand.tmp 44), type := 4, pos := "more.go:16", after := #[{ on := 10, ground := Ground.data }, { on := 22, ground := Ground.data }], guard := none }) (v := ?v52) rfl (by kernel_rfl) (by kernel_rfl) (by kernel_rfl) (fun _ _ _ h => h) (Or.inl ⟨by rfl, ?hy52⟩) (by assumption) ?rest52
                    case hy52 => (intro w hSw; (try dsimp only at hSw); go_simp; (try rw [if_pos (by omega)]); (try with_reducible rfl))
                    simp only [Act.put, List.setIfInBounds_toArray, List.set_cons_zero, List.set_cons_succ]
                    refine wpAnyH_done (by kernel_rfl) ?_ _
                    refine NoPanic.normal ?_
                    go_wp2
                    go_roundw
                    case rel => exact ⟨m + 1, by omega, by go_num, unhide HX74⟩
                    case measure => simp [intOf]; omega
              · go_simp
                refine hK.out _ _ ((unhide HCL) _ ((unhide HX0).alloc (unhide HX0).size _)) (fun hHeld => ?_)
                clear hK K
                have HX12 : Hid (Below WB.heap.size WB (w10.alloc (.cells #[.int .i64 i, .int .i64 j, .string es, .string es] 49))) := (unhide HX0).alloc (unhide HX0).size _
                have HQB12 : Hid (Prp (w10.alloc (.cells #[.int .i64 i, .int .i64 j, .string es, .string es] 49)) (.slice (some ⟨w10.heap.size, 0, none⟩) 1 1) [((i : Int), (j : Int), es, es)]) := prp_lit1 _ _ _ _ _ _ _
                generalize w10.alloc (.cells #[.int .i64 i, .int .i64 j, .string es, .string es] 49) = w12 at hHeld HX12 HQB12 ⊢
                refine wpAnyH_ready (rs := [1]) (by kernel_rfl) (by simp) ?_
                refine AllReadyH.cons (o := { dst := some 23, op := Op.buildSlice 23 1 #[(0, Operand.tmp 22)], type := 23, pos := "more.go:16", after := #[{ on := 0, ground := Ground.data }], guard := none }) rfl (fun K hK => ?_) AllReadyH.nil
                go_simp
                refine hK.out _ _ ((unhide HCL) _ ((unhide HX12).alloc (unhide HX12).size _)) (fun hHeld => ?_)
                clear hK K
                have HX75 : Hid (Below WB.heap.size WB (w12.alloc (.cells #[.int .i64 i, .int .i64 j, .string es, .string es] 49))) := (unhide HX12).alloc (unhide HX12).size _
                have HQA75 : Hid (Prp (w12.alloc (.cells #[.int .i64 i, .int .i64 j, .string es, .string es] 49)) (.slice (some ⟨w12.heap.size, 0, none⟩) 1 1) [((i : Int), (j : Int), es, es)]) := prp_lit1 _ _ _ _ _ _ _
                have HQB75 : Hid (Prp (w12.alloc (.cells #[.int .i64 i, .int .i64 j, .string es, .string es] 49)) (.slice (some ⟨w10.heap.size, 0, none⟩) 1 1) [((i : Int), (j : Int), es, es)]) := (unhide HQB12).below ((Below.refl _ _).alloc (Nat.le_refl _) _)
                generalize w12.alloc (.cells #[.int .i64 i, .int .i64 j, .string es, .string es] 49) = w75 at hHeld HX75 HQA75 HQB75 ⊢
                refine wpAnyH_ready (rs := [3]) (by kernel_rfl) (by simp) ?_
                refine AllReadyH.cons (o := { dst := some 25, op := Op.call { callee := Callee.value (Operand.func 16), args := #[Operand.tmp 23, Operand.tmp 24], argTypes := #[23, 3] }, type := 33, pos := "more.go:16", after := #[{ on := 1, ground := Ground.data }, { on := 2, ground := Ground.data }], guard := none }) rfl (fun K hK => ?_) AllReadyH.nil
                go_simp
                refine ((unhide HK1) _ _ (unhide HQA75)).mono ?_
                rintro e w76 ⟨E76, rfl, HEE76, hb76⟩
                have HX76 : Hid (Below WB.heap.size WB w76) := (unhide HX75).trans (hb76.mono (unhide HX75).size)
                have HQA76 : Hid (Prp w76 (.slice (some ⟨w12.heap.size, 0, none⟩) 1 1) [((i : Int), (j : Int), es, es)]) := (unhide HQA75).below hb76
                have HQB76 : Hid (Prp w76 (.slice (some ⟨w10.heap.size, 0, none⟩) 1 1) [((i : Int), (j : Int), es, es)]) := (unhide HQB75).below hb76
                clear hb76
                go_wp2_with fail
                refine hK.out _ _ ((unhide HCL) _ (unhide HX76)) (fun hHeld => ?_)
                clear hK K
                refine wpAnyH_ready (rs := [4]) (by kernel_rfl) (by simp) ?_
                refine AllReadyH.cons (o := { dst := some 26, op := Op.call { callee := Callee.value (Operand.func 15), args := #[Operand.tmp 25], argTypes := #[33] }, type := 3, pos := "more.go:16", after := #[{ on := 3, ground := Ground.data }, { on := 3, ground := Ground.chain }], guard := none }) rfl (fun K hK => ?_) AllReadyH.nil
                go_simp
                refine (numlp _ c1 _ ((unhide HGW) _ (unhide HX76)) (unhide HEE76)).mono ?_
                rintro e w77 ⟨rfl, hb77⟩
                have HX77 : Hid (Below WB.heap.size WB w77) := (unhide HX76).trans (hb77.mono (unhide HX76).size)
                have HQA77 : Hid (Prp w77 (.slice (some ⟨w12.heap.size, 0, none⟩) 1 1) [((i : Int), (j : Int), es, es)]) := (unhide HQA76).below hb77
                have HQB77 : Hid (Prp w77 (.slice (some ⟨w10.heap.size, 0, none⟩) 1 1) [((i : Int), (j : Int), es, es)]) := (unhide HQB76).below hb77
                have HEE77 : Hid (ErrP w77 E76 c1) := (unhide HEE76).below hb77
                clear hb77
                go_wp2_with fail
                refine hK.out _ _ ((unhide HCL) _ (unhide HX77)) (fun hHeld => ?_)
                clear hK K
                refine wpAnyH_ready (rs := [8]) (by kernel_rfl) (by simp) ?_
                refine AllReadyH.cons (o := { dst := some 30, op := Op.call { callee := Callee.value (Operand.func 11), args := #[Operand.tmp 28, Operand.tmp 29], argTypes := #[23, 3] }, type := 3, pos := "more.go:16", after := #[{ on := 6, ground := Ground.data }, { on := 7, ground := Ground.data }, { on := 4, ground := Ground.chain }], guard := none }) rfl (fun K hK => ?_) AllReadyH.nil
                go_simp
                refine ((unhide HR1) _ _ (unhide HQB77)).mono ?_
                rintro e w78 ⟨rfl, hb78⟩
                have HX78 : Hid (Below WB.heap.size WB w78) := (unhide HX77).trans (hb78.mono (unhide HX77).size)
                have HQA78 : Hid (Prp w78 (.slice (some ⟨w12.heap.size, 0, none⟩) 1 1) [((i : Int), (j : Int), es, es)]) := (unhide HQA77).below hb78
                have HQB78 : Hid (Prp w78 (.slice (some ⟨w10.heap.size, 0, none⟩) 1 1) [((i : Int), (j : Int), es, es)]) := (unhide HQB77).below hb78
                clear hb78
                go_wp2_with fail
                refine hK.out _ _ ((unhide HCL) _ (unhide HX78)) (fun hHeld => ?_)
                clear hK K
                refine wpAnyH_take (i := 9) (oi := { dst := some 31, op := Op.binOp BinOp.neq 3 (Operand.tmp 26) (Operand.tmp 30) 3, type := 4, pos := "more.go:16", after := #[{ on := 4, ground := Ground.data }, { on := 8, ground := Ground.data }], guard := none }) (v := ?v53) rfl (by kernel_rfl) (by kernel_rfl) (by kernel_rfl) (fun _ _ _ h => h) (Or.inl ⟨by rfl, ?hy53⟩) (by assumption) ?rest53
                case hy53 => (intro w hSw; (try dsimp only at hSw); go_simp; (try rw [if_pos (by omega)]); (try with_reducible rfl))
                simp only [Act.put, List.setIfInBounds_toArray, List.set_cons_zero, List.set_cons_succ]
                refine wpAnyH_take (i := 10) (oi := { dst := some 32, op := Op.move (Operand.tmp 31), type := 4, pos := "more.go:16", after := #[{ on := 9, ground := Ground.data }, { on := 8, ground := Ground.chain }], guard := none }) (v := ?v54) rfl (by kernel_rfl) (by kernel_rfl) (by kernel_rfl) (fun _ _ _ h => h) (Or.inl ⟨by rfl, ?hy54⟩) (by assumption) ?rest54
                case hy54 => (intro w hSw; (try dsimp only at hSw); go_simp; (try rw [if_pos (by omega)]); (try with_reducible rfl))
                simp only [Act.put, List.setIfInBounds_toArray, List.set_cons_zero, List.set_cons_succ]
                refine wpAnyH_take (i := 11) (oi := { dst := some 33, op := Op.load 49 (Operand.tmp 5), type := 49, pos := "more.go:16", after := #[{ on := 10, ground := Ground.guard }], guard := some (10, false) }) (v := ?v55) rfl (by kernel_rfl) (by kernel_rfl) (by kernel_rfl) (fun _ _ _ h => h) (Or.inl ⟨by rfl, ?hy55⟩) (by assumption) ?rest55
                case hy55 => (intro w hSw; (try dsimp only at hSw); go_simp; (try rw [if_pos (by omega)]); (try with_reducible rfl))
                simp only [Act.put, List.setIfInBounds_toArray, List.set_cons_zero, List.set_cons_succ]
                refine wpAnyH_take (i := 12) (oi := { dst := some 34, op := Op.load 49 (Operand.tmp 5), type := 49, pos := "more.go:16", after := #[{ on := 10, ground := Ground.guard }], guard := some (10, false) }) (v := ?v56) rfl (by kernel_rfl) (by kernel_rfl) (by kernel_rfl) (fun _ _ _ h => h) (Or.inl ⟨by rfl, ?hy56⟩) (by assumption) ?rest56
                case hy56 => (intro w hSw; (try dsimp only at hSw); go_simp; (try rw [if_pos (by omega)]); (try with_reducible rfl))
                simp only [Act.put, List.setIfInBounds_toArray, List.set_cons_zero, List.set_cons_succ]
                refine wpAnyH_take (i := 14) (oi := { dst := some 36, op := Op.move (Operand.tmp 6), type := 3, pos := "more.go:16", after := #[{ on := 10, ground := Ground.guard }], guard := some (10, false) }) (v := ?v57) rfl (by kernel_rfl) (by kernel_rfl) (by kernel_rfl) (fun _ _ _ h => h) (Or.inl ⟨by rfl, ?hy57⟩) (by assumption) ?rest57
                case hy57 => (intro w hSw; (try dsimp only at hSw); go_simp; (try rw [if_pos (by omega)]); (try with_reducible rfl))
                simp only [Act.put, List.setIfInBounds_toArray, List.set_cons_zero, List.set_cons_succ]
                refine wpAnyH_take (i := 17) (oi := { dst := some 39, op := Op.load 49 (Operand.tmp 5), type := 49, pos := "more.go:16", after := #[{ on := 10, ground := Ground.guard }], guard := some (10, false) }) (v := ?v58) rfl (by kernel_rfl) (by kernel_rfl) (by kernel_rfl) (fun _ _ _ h => h) (Or.inl ⟨by rfl, ?hy58⟩) (by assumption) ?rest58
                case hy58 => (intro w hSw; (try dsimp only at hSw); go_simp; (try rw [if_pos (by omega)]); (try with_reducible rfl))
                simp only [Act.put, List.setIfInBounds_toArray, List.set_cons_zero, List.set_cons_succ]
                refine wpAnyH_take (i := 18) (oi := { dst := some 40, op := Op.load 49 (Operand.tmp 5), type := 49, pos := "more.go:16", after := #[{ on := 10, ground := Ground.guard }], guard := some (10, false) }) (v := ?v59) rfl (by kernel_rfl) (by kernel_rfl) (by kernel_rfl) (fun _ _ _ h => h) (Or.inl ⟨by rfl, ?hy59⟩) (by assumption) ?rest59
                case hy59 => (intro w hSw; (try dsimp only at hSw); go_simp; (try rw [if_pos (by omega)]); (try with_reducible rfl))
                simp only [Act.put, List.setIfInBounds_toArray, List.set_cons_zero, List.set_cons_succ]
                refine wpAnyH_take (i := 20) (oi := { dst := some 42, op := Op.move (Operand.tmp 6), type := 3, pos := "more.go:16", after := #[{ on := 10, ground := Ground.guard }], guard := some (10, false) }) (v := ?v60) rfl (by kernel_rfl) (by kernel_rfl) (by kernel_rfl) (fun _ _ _ h => h) (Or.inl ⟨by rfl, ?hy60⟩) (by assumption) ?rest60
                case hy60 => (intro w hSw; (try dsimp only at hSw); go_simp; (try rw [if_pos (by omega)]); (try with_reducible rfl))
                simp only [Act.put, List.setIfInBounds_toArray, List.set_cons_zero, List.set_cons_succ]
                refine wpAnyH_ready (rs := [13, 19]) (by kernel_rfl) (by simp) ?_
                refine AllReadyH.cons (o := { dst := some 35, op := Op.buildSlice 23 2 #[(0, Operand.tmp 33), (1, Operand.tmp 34)], type := 23, pos := "more.go:16", after := #[{ on := 11, ground := Ground.data }, { on := 12, ground := Ground.data }, { on := 10, ground := Ground.guard }], guard := some (10, false) }) rfl (fun K hK => ?_) (AllReadyH.cons (o := { dst := some 41, op := Op.buildSlice 23 2 #[(0, Operand.tmp 39), (1, Operand.tmp 40)], type := 23, pos := "more.go:16", after := #[{ on := 17, ground := Ground.data }, { on := 18, ground := Ground.data }, { on := 10, ground := Ground.guard }], guard := some (10, false) }) rfl (fun K hK => ?_) AllReadyH.nil)
                · go_simp
                  refine hK.out _ _ ((unhide HCL) _ ((unhide HX78).alloc (unhide HX78).size _)) (fun hHeld => ?_)
                  clear hK K
                  have HX79 : Hid (Below WB.heap.size WB (w78.alloc (.cells #[.int .i64 i, .int .i64 j, .string es, .string es, .int .i64 i, .int .i64 j, .string es, .string es] 49))) := (unhide HX78).alloc (unhide HX78).size _
                  have HQA79 : Hid (Prp (w78.alloc (.cells #[.int .i64 i, .int .i64 j, .string es, .string es, .int .i64 i, .int .i64 j, .string es, .string es] 49)) (.slice (some ⟨w78.heap.size, 0, none⟩) 2 2) [((i : Int), (j : Int), es, es), ((i : Int), (j : Int), es, es)]) := prp_lit2 _ _ _ _ _ _ _
                  generalize w78.alloc (.cells #[.int .i64 i, .int .i64 j, .string es, .string es, .int .i64 i, .int .i64 j, .string es, .string es] 49) = w79 at hHeld HX79 HQA79 ⊢
                  refine wpAnyH_ready (rs := [15, 19]) (by kernel_rfl) (by simp) ?_
                  refine AllReadyH.cons (o := { dst := some 37, op := Op.call { callee := Callee.value (Operand.func 16), args := #[Operand.tmp 35, Operand.tmp 36], argTypes := #[23, 3] }, type := 33, pos := "more.go:16", after := #[{ on := 13, ground := Ground.data }, { on := 14, ground := Ground.data }, { on := 10, ground := Ground.chain }, { on := 10, ground := Ground.guard }], guard := some (10, false) }) rfl (fun K hK => ?_) (AllReadyH.cons (o := { dst := some 41, op := Op.buildSlice 23 2 #[(0, Operand.tmp 39), (1, Operand.tmp 40)], type := 23, pos := "more.go:16", after := #[{ on := 17, ground := Ground.data }, { on := 18, ground := Ground.data }, { on := 10, ground := Ground.guard }], guard := some (10, false) }) rfl (fun K hK => ?_) AllReadyH.nil)
                  · go_simp
                    refine ((unhide HK2) _ _ (unhide HQA79)).mono ?_
                    rintro e w81 ⟨E81, rfl, HEE81, hb81⟩
                    have HX81 : Hid (Below WB.heap.size WB w81) := (unhide HX79).trans (hb81.mono (unhide HX79).size)
                    have HQA81 : Hid (Prp w81 (.slice (some ⟨w78.heap.size, 0, none⟩) 2 2) [((i : Int), (j : Int), es, es), ((i : Int), (j : Int), es, es)]) := (unhide HQA79).below hb81
                    clear hb81
                    go_wp2_with fail
                    refine hK.out _ _ ((unhide HCL) _ (unhide HX81)) (fun hHeld => ?_)
                    clear hK K
                    refine wpAnyH_ready (rs := [16, 19]) (by kernel_rfl) (by simp) ?_
                    refine AllReadyH.cons (o := { dst := some 38, op := Op.call { callee := Callee.value (Operand.func 15), args := #[Operand.tmp 37], argTypes := #[33] }, type := 3, pos := "more.go:16", after := #[{ on := 15, ground := Ground.data }, { on := 15, ground := Ground.chain }, { on := 10, ground := Ground.guard }], guard := some (10, false) }) rfl (fun K hK => ?_) (AllReadyH.cons (o := { dst := some 41, op := Op.buildSlice 23 2 #[(0, Operand.tmp 39), (1, Operand.tmp 40)], type := 23, pos := "more.go:16", after := #[{ on := 17, ground := Ground.data }, { on := 18, ground := Ground.data }, { on := 10, ground := Ground.guard }], guard := some (10, false) }) rfl (fun K hK => ?_) AllReadyH.nil)
                    · go_simp
                      refine (numlp _ c2 _ ((unhide HGW) _ (unhide HX81)) (unhide HEE81)).mono ?_
                      rintro e w83 ⟨rfl, hb83⟩
                      have HX83 : Hid (Below WB.heap.size WB w83) := (unhide HX81).trans (hb83.mono (unhide HX81).size)
                      have HQA83 : Hid (Prp w83 (.slice (some ⟨w78.heap.size, 0, none⟩) 2 2) [((i : Int), (j : Int), es, es), ((i : Int), (j : Int), es, es)]) := (unhide HQA81).below hb83
                      have HEE83 : Hid (ErrP w83 E81 c2) := (unhide HEE81).below hb83
                      clear hb83
                      go_wp2_with fail
                      refine hK.out _ _ ((unhide HCL) _ (unhide HX83)) (fun hHeld => ?_)
                      clear hK K
                      refine wpAnyH_ready (rs := [19]) (by kernel_rfl) (by simp) ?_
                      refine AllReadyH.cons (o := { dst := some 41, op := Op.buildSlice 23 2 #[(0, Operand.tmp 39), (1, Operand.tmp 40)], type := 23, pos := "more.go:16", after := #[{ on := 17, ground := Ground.data }, { on := 18, ground := Ground.data }, { on := 10, ground := Ground.guard }], guard := some (10, false) }) rfl (fun K hK => ?_) AllReadyH.nil
                      go_simp
                      refine hK.out _ _ ((unhide HCL) _ ((unhide HX83).alloc (unhide HX83).size _)) (fun hHeld => ?_)
                      clear hK K
                      have HX85 : Hid (Below WB.heap.size WB (w83.alloc (.cells #[.int .i64 i, .int .i64 j, .string es, .string es, .int .i64 i, .int .i64 j, .string es, .string es] 49))) := (unhide HX83).alloc (unhide HX83).size _
                      have HQB85 : Hid (Prp (w83.alloc (.cells #[.int .i64 i, .int .i64 j, .string es, .string es, .int .i64 i, .int .i64 j, .string es, .string es] 49)) (.slice (some ⟨w83.heap.size, 0, none⟩) 2 2) [((i : Int), (j : Int), es, es), ((i : Int), (j : Int), es, es)]) := prp_lit2 _ _ _ _ _ _ _
                      have HQA85 : Hid (Prp (w83.alloc (.cells #[.int .i64 i, .int .i64 j, .string es, .string es, .int .i64 i, .int .i64 j, .string es, .string es] 49)) (.slice (some ⟨w78.heap.size, 0, none⟩) 2 2) [((i : Int), (j : Int), es, es), ((i : Int), (j : Int), es, es)]) := (unhide HQA83).below ((Below.refl _ _).alloc (Nat.le_refl _) _)
                      generalize w83.alloc (.cells #[.int .i64 i, .int .i64 j, .string es, .string es, .int .i64 i, .int .i64 j, .string es, .string es] 49) = w85 at hHeld HX85 HQB85 HQA85 ⊢
                      refine wpAnyH_ready (rs := [21]) (by kernel_rfl) (by simp) ?_
                      refine AllReadyH.cons (o := { dst := some 43, op := Op.call { callee := Callee.value (Operand.func 11), args := #[Operand.tmp 41, Operand.tmp 42], argTypes := #[23, 3] }, type := 3, pos := "more.go:16", after := #[{ on := 19, ground := Ground.data }, { on := 20, ground := Ground.data }, { on := 16, ground := Ground.chain }, { on := 10, ground := Ground.guard }], guard := some (10, false) }) rfl (fun K hK => ?_) AllReadyH.nil
                      go_simp
                      refine ((unhide HR2) _ _ (unhide HQB85)).mono ?_
                      rintro e w86 ⟨rfl, hb86⟩
                      have HX86 : Hid (Below WB.heap.size WB w86) := (unhide HX85).trans (hb86.mono (unhide HX85).size)
                      have HQA86 : Hid (Prp w86 (.slice (some ⟨w78.heap.size, 0, none⟩) 2 2) [((i : Int), (j : Int), es, es), ((i : Int), (j : Int), es, es)]) := (unhide HQA85).below hb86
                      have HQB86 : Hid (Prp w86 (.slice (some ⟨w83.heap.size, 0, none⟩) 2 2) [((i : Int), (j : Int), es, es), ((i : Int), (j : Int), es, es)]) := (unhide HQB85).below hb86
                      clear hb86
                      go_wp2_with fail
                      refine hK.out _ _ ((unhide HCL) _ (unhide HX86)) (fun hHeld => ?_)
                      clear hK K
                      refine wpAnyH_take (i := 22) (oi := { dst := some 44, op := Op.binOp BinOp.neq 3 (Operand.tmp 38) (Operand.tmp 43) 3, type := 4, pos := "more.go:16", after := #[{ on := 16, ground := Ground.data }, { on := 21, ground := Ground.data }, { on := 10, ground := Ground.guard }], guard := some (10, false) }) (v := ?v61) rfl (by kernel_rfl) (by kernel_rfl) (by kernel_rfl) (fun _ _ _ h => h) (Or.inl ⟨by rfl, ?hy61⟩) (by assumption) ?rest61
                      case hy61 => (intro w hSw; (try dsimp only at hSw); go_simp; (try rw [if_pos (by omega)]); (try with_reducible rfl))
                      simp only [Act.put, List.setIfInBounds_toArray, List.set_cons_zero, List.set_cons_succ]
                      refine wpAnyH_take (i := 23) (oi := { dst := some 45, op := Op.pick (Operand.tmp 32) (Operand.const (Value.bool true)) (Operand.tmp 44), type := 4, pos := "more.go:16", after := #[{ on := 10, ground := Ground.data }, { on := 22, ground := Ground.data }], guard := none }) (v := ?v62) rfl (by kernel_rfl) (by kernel_rfl) (by kernel_rfl) (fun _ _ _ h => h) (Or.inl ⟨by rfl, ?hy62⟩) (by assumption) ?rest62
                      case hy62 => (intro w hSw; (try dsimp only at hSw); go_simp; (try rw [if_pos (by omega)]); (try with_reducible rfl))
                      simp only [Act.put, List.setIfInBounds_toArray, List.set_cons_zero, List.set_cons_succ]
                      refine wpAnyH_done (by kernel_rfl) ?_ _
                      refine NoPanic.normal ?_
                      go_wp2
                      go_roundw
                      case rel => exact ⟨m + 1, by omega, by go_num, unhide HX86⟩
                      case measure => simp [intOf]; omega
                    · go_simp
                      refine hK.out _ _ ((unhide HCL) _ ((unhide HX81).alloc (unhide HX81).size _)) (fun hHeld => ?_)
                      clear hK K
                      have HX84 : Hid (Below WB.heap.size WB (w81.alloc (.cells #[.int .i64 i, .int .i64 j, .string es, .string es, .int .i64 i, .int .i64 j, .string es, .string es] 49))) := (unhide HX81).alloc (unhide HX81).size _
                      have HQB84 : Hid (Prp (w81.alloc (.cells #[.int .i64 i, .int .i64 j, .string es, .string es, .int .i64 i, .int .i64 j, .string es, .string es] 49)) (.slice (some ⟨w81.heap.size, 0, none⟩) 2 2) [((i : Int), (j : Int), es, es), ((i : Int), (j : Int), es, es)]) := prp_lit2 _ _ _ _ _ _ _
                      have HQA84 : Hid (Prp (w81.alloc (.cells #[.int .i64 i, .int .i64 j, .string es, .string es, .int .i64 i, .int .i64 j, .string es, .string es] 49)) (.slice (some ⟨w78.heap.size, 0, none⟩) 2 2) [((i : Int), (j : Int), es, es), ((i : Int), (j : Int), es, es)]) := (unhide HQA81).below ((Below.refl _ _).alloc (Nat.le_refl _) _)
                      have HEE84 : Hid (ErrP (w81.alloc (.cells #[.int .i64 i, .int .i64 j, .string es, .string es, .int .i64 i, .int .i64 j, .string es, .string es] 49)) E81 c2) := (unhide HEE81).below ((Below.refl _ _).alloc (Nat.le_refl _) _)
                      generalize w81.alloc (.cells #[.int .i64 i, .int .i64 j, .string es, .string es, .int .i64 i, .int .i64 j, .string es, .string es] 49) = w84 at hHeld HX84 HQB84 HQA84 HEE84 ⊢
                      refine wpAnyH_ready (rs := [16]) (by kernel_rfl) (by simp) ?_
                      refine AllReadyH.cons (o := { dst := some 38, op := Op.call { callee := Callee.value (Operand.func 15), args := #[Operand.tmp 37], argTypes := #[33] }, type := 3, pos := "more.go:16", after := #[{ on := 15, ground := Ground.data }, { on := 15, ground := Ground.chain }, { on := 10, ground := Ground.guard }], guard := some (10, false) }) rfl (fun K hK => ?_) AllReadyH.nil
                      go_simp
                      refine (numlp _ c2 _ ((unhide HGW) _ (unhide HX84)) (unhide HEE84)).mono ?_
                      rintro e w87 ⟨rfl, hb87⟩
                      have HX87 : Hid (Below WB.heap.size WB w87) := (unhide HX84).trans (hb87.mono (unhide HX84).size)
                      have HQA87 : Hid (Prp w87 (.slice (some ⟨w78.heap.size, 0, none⟩) 2 2) [((i : Int), (j : Int), es, es), ((i : Int), (j : Int), es, es)]) := (unhide HQA84).below hb87
                      have HQB87 : Hid (Prp w87 (.slice (some ⟨w81.heap.size, 0, none⟩) 2 2) [((i : Int), (j : Int), es, es), ((i : Int), (j : Int), es, es)]) := (unhide HQB84).below hb87
                      have HEE87 : Hid (ErrP w87 E81 c2) := (unhide HEE84).below hb87
                      clear hb87
                      go_wp2_with fail
                      refine hK.out _ _ ((unhide HCL) _ (unhide HX87)) (fun hHeld => ?_)
                      clear hK K
                      refine wpAnyH_ready (rs := [21]) (by kernel_rfl) (by simp) ?_
                      refine AllReadyH.cons (o := { dst := some 43, op := Op.call { callee := Callee.value (Operand.func 11), args := #[Operand.tmp 41, Operand.tmp 42], argTypes := #[23, 3] }, type := 3, pos := "more.go:16", after := #[{ on := 19, ground := Ground.data }, { on := 20, ground := Ground.data }, { on := 16, ground := Ground.chain }, { on := 10, ground := Ground.guard }], guard := some (10, false) }) rfl (fun K hK => ?_) AllReadyH.nil
                      go_simp
                      refine ((unhide HR2) _ _ (unhide HQB87)).mono ?_
                      rintro e w88 ⟨rfl, hb88⟩
                      have HX88 : Hid (Below WB.heap.size WB w88) := (unhide HX87).trans (hb88.mono (unhide HX87).size)
                      have HQA88 : Hid (Prp w88 (.slice (some ⟨w78.heap.size, 0, none⟩) 2 2) [((i : Int), (j : Int), es, es), ((i : Int), (j : Int), es, es)]) := (unhide HQA87).below hb88
                      have HQB88 : Hid (Prp w88 (.slice (some ⟨w81.heap.size, 0, none⟩) 2 2) [((i : Int), (j : Int), es, es), ((i : Int), (j : Int), es, es)]) := (unhide HQB87).below hb88
                      clear hb88
                      go_wp2_with fail
                      refine hK.out _ _ ((unhide HCL) _ (unhide HX88)) (fun hHeld => ?_)
                      clear hK K
                      refine wpAnyH_take (i := 22) (oi := { dst := some 44, op := Op.binOp BinOp.neq 3 (Operand.tmp 38) (Operand.tmp 43) 3, type := 4, pos := "more.go:16", after := #[{ on := 16, ground := Ground.data }, { on := 21, ground := Ground.data }, { on := 10, ground := Ground.guard }], guard := some (10, false) }) (v := ?v63) rfl (by kernel_rfl) (by kernel_rfl) (by kernel_rfl) (fun _ _ _ h => h) (Or.inl ⟨by rfl, ?hy63⟩) (by assumption) ?rest63
                      case hy63 => (intro w hSw; (try dsimp only at hSw); go_simp; (try rw [if_pos (by omega)]); (try with_reducible rfl))
                      simp only [Act.put, List.setIfInBounds_toArray, List.set_cons_zero, List.set_cons_succ]
                      refine wpAnyH_take (i := 23) (oi := { dst := some 45, op := Op.pick (Operand.tmp 32) (Operand.const (Value.bool true)) (Operand.tmp 44), type := 4, pos := "more.go:16", after := #[{ on := 10, ground := Ground.data }, { on := 22, ground := Ground.data }], guard := none }) (v := ?v64) rfl (by kernel_rfl) (by kernel_rfl) (by kernel_rfl) (fun _ _ _ h => h) (Or.inl ⟨by rfl, ?hy64⟩) (by assumption) ?rest64
                      case hy64 => (intro w hSw; (try dsimp only at hSw); go_simp; (try rw [if_pos (by omega)]); (try with_reducible rfl))
                      simp only [Act.put, List.setIfInBounds_toArray, List.set_cons_zero, List.set_cons_succ]
                      refine wpAnyH_done (by kernel_rfl) ?_ _
                      refine NoPanic.normal ?_
                      go_wp2
                      go_roundw
                      case rel => exact ⟨m + 1, by omega, by go_num, unhide HX88⟩
                      case measure => simp [intOf]; omega
                  · go_simp
                    refine hK.out _ _ ((unhide HCL) _ ((unhide HX79).alloc (unhide HX79).size _)) (fun hHeld => ?_)
                    clear hK K
                    have HX82 : Hid (Below WB.heap.size WB (w79.alloc (.cells #[.int .i64 i, .int .i64 j, .string es, .string es, .int .i64 i, .int .i64 j, .string es, .string es] 49))) := (unhide HX79).alloc (unhide HX79).size _
                    have HQB82 : Hid (Prp (w79.alloc (.cells #[.int .i64 i, .int .i64 j, .string es, .string es, .int .i64 i, .int .i64 j, .string es, .string es] 49)) (.slice (some ⟨w79.heap.size, 0, none⟩) 2 2) [((i : Int), (j : Int), es, es), ((i : Int), (j : Int), es, es)]) := prp_lit2 _ _ _ _ _ _ _
                    have HQA82 : Hid (Prp (w79.alloc (.cells #[.int .i64 i, .int .i64 j, .string es, .string es, .int .i64 i, .int .i64 j, .string es, .string es] 49)) (.slice (some ⟨w78.heap.size, 0, none⟩) 2 2) [((i : Int), (j : Int), es, es), ((i : Int), (j : Int), es, es)]) := (unhide HQA79).below ((Below.refl _ _).alloc (Nat.le_refl _) _)
                    generalize w79.alloc (.cells #[.int .i64 i, .int .i64 j, .string es, .string es, .int .i64 i, .int .i64 j, .string es, .string es] 49) = w82 at hHeld HX82 HQB82 HQA82 ⊢
                    refine wpAnyH_ready (rs := [15]) (by kernel_rfl) (by simp) ?_
                    refine AllReadyH.cons (o := { dst := some 37, op := Op.call { callee := Callee.value (Operand.func 16), args := #[Operand.tmp 35, Operand.tmp 36], argTypes := #[23, 3] }, type := 33, pos := "more.go:16", after := #[{ on := 13, ground := Ground.data }, { on := 14, ground := Ground.data }, { on := 10, ground := Ground.chain }, { on := 10, ground := Ground.guard }], guard := some (10, false) }) rfl (fun K hK => ?_) AllReadyH.nil
                    go_simp
                    refine ((unhide HK2) _ _ (unhide HQA82)).mono ?_
                    rintro e w89 ⟨E89, rfl, HEE89, hb89⟩
                    have HX89 : Hid (Below WB.heap.size WB w89) := (unhide HX82).trans (hb89.mono (unhide HX82).size)
                    have HQA89 : Hid (Prp w89 (.slice (some ⟨w78.heap.size, 0, none⟩) 2 2) [((i : Int), (j : Int), es, es), ((i : Int), (j : Int), es, es)]) := (unhide HQA82).below hb89
                    have HQB89 : Hid (Prp w89 (.slice (some ⟨w79.heap.size, 0, none⟩) 2 2) [((i : Int), (j : Int), es, es), ((i : Int), (j : Int), es, es)]) := (unhide HQB82).below hb89
                    clear hb89
                    go_wp2_with fail
                    refine hK.out _ _ ((unhide HCL) _ (unhide HX89)) (fun hHeld => ?_)
                    clear hK K
                    refine wpAnyH_ready (rs := [16]) (by kernel_rfl) (by simp) ?_
                    refine AllReadyH.cons (o := { dst := some 38, op := Op.call { callee := Callee.value (Operand.func 15), args := #[Operand.tmp 37], argTypes := #[33] }, type := 3, pos := "more.go:16", after := #[{ on := 15, ground := Ground.data }, { on := 15, ground := Ground.chain }, { on := 10, ground := Ground.guard }], guard := some (10, false) }) rfl (fun K hK => ?_) AllReadyH.nil
                    go_simp
                    refine (numlp _ c2 _ ((unhide HGW) _ (unhide HX89)) (unhide HEE89)).mono ?_
                    rintro e w90 ⟨rfl, hb90⟩
                    have HX90 : Hid (Below WB.heap.size WB w90) := (unhide HX89).trans (hb90.mono (unhide HX89).size)
                    have HQA90 : Hid (Prp w90 (.slice (some ⟨w78.heap.size, 0, none⟩) 2 2) [((i : Int), (j : Int), es, es), ((i : Int), (j : Int), es, es)]) := (unhide HQA89).below hb90
                    have HQB90 : Hid (Prp w90 (.slice (some ⟨w79.heap.size, 0, none⟩) 2 2) [((i : Int), (j : Int), es, es), ((i : Int), (j : Int), es, es)]) := (unhide HQB89).below hb90
                    have HEE90 : Hid (ErrP w90 E89 c2) := (unhide HEE89).below hb90
                    clear hb90
                    go_wp2_with fail
                    refine hK.out _ _ ((unhide HCL) _ (unhide HX90)) (fun hHeld => ?_)
                    clear hK K
                    refine wpAnyH_ready (rs := [21]) (by kernel_rfl) (by simp) ?_
                    refine AllReadyH.cons (o := { dst := some 43, op := Op.call { callee := Callee.value (Operand.func 11), args := #[Operand.tmp 41, Operand.tmp 42], argTypes := #[23, 3] }, type := 3, pos := "more.go:16", after := #[{ on := 19, ground := Ground.data }, { on := 20, ground := Ground.data }, { on := 16, ground := Ground.chain }, { on := 10, ground := Ground.guard }], guard := some (10, false) }) rfl (fun K hK => ?_) AllReadyH.nil
                    go_simp
                    refine ((unhide HR2) _ _ (unhide HQB90)).mono ?_
                    rintro e w91 ⟨rfl, hb91⟩
                    have HX91 : Hid (Below WB.heap.size WB w91) := (unhide HX90).trans (hb91.mono (unhide HX90).size)
                    have HQA91 : Hid (Prp w91 (.slice (some ⟨w78.heap.size, 0, none⟩) 2 2) [((i : Int), (j : Int), es, es), ((i : Int), (j : Int), es, es)]) := (unhide HQA90).below hb91
                    have HQB91 : Hid (Prp w91 (.slice (some ⟨w79.heap.size, 0, none⟩) 2 2) [((i : Int), (j : Int), es, es), ((i : Int), (j : Int), es, es)]) := (unhide HQB90).below hb91
                    clear hb91
                    go_wp2_with fail
                    refine hK.out _ _ ((unhide HCL) _ (unhide HX91)) (fun hHeld => ?_)
                    clear hK K
                    refine wpAnyH_take (i := 22) (oi := { dst := some 44, op := Op.binOp BinOp.neq 3 (Operand.tmp 38) (Operand.tmp 43) 3, type := 4, pos := "more.go:16", after := #[{ on := 16, ground := Ground.data }, { on := 21, ground := Ground.data }, { on := 10, ground := Ground.guard }], guard := some (10, false) }) (v := ?v65) rfl (by kernel_rfl) (by kernel_rfl) (by kernel_rfl) (fun _ _ _ h => h) (Or.inl ⟨by rfl, ?hy65⟩) (by assumption) ?rest65
                    case hy65 => (intro w hSw; (try dsimp only at hSw); go_simp; (try rw [if_pos (by omega)]); (try with_reducible rfl))
                    simp only [Act.put, List.setIfInBounds_toArray, List.set_cons_zero, List.set_cons_succ]
                    refine wpAnyH_take (i := 23) (oi := { dst := some 45, op := Op.pick (Operand.tmp 32) (Operand.const (Value.bool true)) (Operand.tmp 44), type := 4, pos := "more.go:16", after := #[{ on := 10, ground := Ground.data }, { on := 22, ground := Ground.data }], guard := none }) (v := ?v66) rfl (by kernel_rfl) (by kernel_rfl) (by kernel_rfl) (fun _ _ _ h => h) (Or.inl ⟨by rfl, ?hy66⟩) (by assumption) ?rest66
                    case hy66 => (intro w hSw; (try dsimp only at hSw); go_simp; (try rw [if_pos (by omega)]); (try with_reducible rfl))
                    simp only [Act.put, List.setIfInBounds_toArray, List.set_cons_zero, List.set_cons_succ]
                    refine wpAnyH_done (by kernel_rfl) ?_ _
                    refine NoPanic.normal ?_
                    go_wp2
                    go_roundw
                    case rel => exact ⟨m + 1, by omega, by go_num, unhide HX91⟩
                    case measure => simp [intOf]; omega
                · go_simp
                  refine hK.out _ _ ((unhide HCL) _ ((unhide HX78).alloc (unhide HX78).size _)) (fun hHeld => ?_)
                  clear hK K
                  have HX80 : Hid (Below WB.heap.size WB (w78.alloc (.cells #[.int .i64 i, .int .i64 j, .string es, .string es, .int .i64 i, .int .i64 j, .string es, .string es] 49))) := (unhide HX78).alloc (unhide HX78).size _
                  have HQB80 : Hid (Prp (w78.alloc (.cells #[.int .i64 i, .int .i64 j, .string es, .string es, .int .i64 i, .int .i64 j, .string es, .string es] 49)) (.slice (some ⟨w78.heap.size, 0, none⟩) 2 2) [((i : Int), (j : Int), es, es), ((i : Int), (j : Int), es, es)]) := prp_lit2 _ _ _ _ _ _ _
                  generalize w78.alloc (.cells #[.int .i64 i, .int .i64 j, .string es, .string es, .int .i64 i, .int .i64 j, .string es, .string es] 49) = w80 at hHeld HX80 HQB80 ⊢
                  refine wpAnyH_ready (rs := [13]) (by kernel_rfl) (by simp) ?_
                  refine AllReadyH.cons (o := { dst := some 35, op := Op.buildSlice 23 2 #[(0, Operand.tmp 33), (1, Operand.tmp 34)], type := 23, pos := "more.go:16", after := #[{ on := 11, ground := Ground.data }, { on := 12, ground := Ground.data }, { on := 10, ground := Ground.guard }], guard := some (10, false) }) rfl (fun K hK => ?_) AllReadyH.nil
                  go_simp
                  refine hK.out _ _ ((unhide HCL) _ ((unhide HX80).alloc (unhide HX80).size _)) (fun hHeld => ?_)
                  clear hK K
                  have HX92 : Hid (Below WB.heap.size WB (w80.alloc (.cells #[.int .i64 i, .int .i64 j, .string es, .string es, .int .i64 i, .int .i64 j, .string es, .string es] 49))) := (unhide HX80).alloc (unhide HX80).size _
                  have HQA92 : Hid (Prp (w80.alloc (.cells #[.int .i64 i, .int .i64 j, .string es, .string es, .int .i64 i, .int .i64 j, .string es, .string es] 49)) (.slice (some ⟨w80.heap.size, 0, none⟩) 2 2) [((i : Int), (j : Int), es, es), ((i : Int), (j : Int), es, es)]) := prp_lit2 _ _ _ _ _ _ _
                  have HQB92 : Hid (Prp (w80.alloc (.cells #[.int .i64 i, .int .i64 j, .string es, .string es, .int .i64 i, .int .i64 j, .string es, .string es] 49)) (.slice (some ⟨w78.heap.size, 0, none⟩) 2 2) [((i : Int), (j : Int), es, es), ((i : Int), (j : Int), es, es)]) := (unhide HQB80).below ((Below.refl _ _).alloc (Nat.le_refl _) _)
                  generalize w80.alloc (.cells #[.int .i64 i, .int .i64 j, .string es, .string es, .int .i64 i, .int .i64 j, .string es, .string es] 49) = w92 at hHeld HX92 HQA92 HQB92 ⊢
                  refine wpAnyH_ready (rs := [15]) (by kernel_rfl) (by simp) ?_
                  refine AllReadyH.cons (o := { dst := some 37, op := Op.call { callee := Callee.value (Operand.func 16), args := #[Operand.tmp 35, Operand.tmp 36], argTypes := #[23, 3] }, type := 33, pos := "more.go:16", after := #[{ on := 13, ground := Ground.data }, { on := 14, ground := Ground.data }, { on := 10, ground := Ground.chain }, { on := 10, ground := Ground.guard }], guard := some (10, false) }) rfl (fun K hK => ?_) AllReadyH.nil
                  go_simp
                  refine ((unhide HK2) _ _ (unhide HQA92)).mono ?_
                  rintro e w93 ⟨E93, rfl, HEE93, hb93⟩
                  have HX93 : Hid (Below WB.heap.size WB w93) := (unhide HX92).trans (hb93.mono (unhide HX92).size)
                  have HQA93 : Hid (Prp w93 (.slice (some ⟨w80.heap.size, 0, none⟩) 2 2) [((i : Int), (j : Int), es, es), ((i : Int), (j : Int), es, es)]) := (unhide HQA92).below hb93
                  have HQB93 : Hid (Prp w93 (.slice (some ⟨w78.heap.size, 0, none⟩) 2 2) [((i : Int), (j : Int), es, es), ((i : Int), (j : Int), es, es)]) := (unhide HQB92).below hb93
                  clear hb93
                  go_wp2_with fail
                  refine hK.out _ _ ((unhide HCL) _ (unhide HX93)) (fun hHeld => ?_)
                  clear hK K
                  refine wpAnyH_ready (rs := [16]) (by kernel_rfl) (by simp) ?_
                  refine AllReadyH.cons (o := { dst := some 38, op := Op.call { callee := Callee.value (Operand.func 15), args := #[Operand.tmp 37], argTypes := #[33] }, type := 3, pos := "more.go:16", after := #[{ on := 15, ground := Ground.data }, { on := 15, ground := Ground.chain }, { on := 10, ground := Ground.guard }], guard := some (10, false) }) rfl (fun K hK => ?_) AllReadyH.nil
                  go_simp
                  refine (numlp _ c2 _ ((unhide HGW) _ (unhide HX93)) (unhide HEE93)).mono ?_
                  rintro e w94 ⟨rfl, hb94⟩
                  have HX94 : Hid (Below WB.heap.size WB w94) := (unhide HX93).trans (hb94.mono (unhide HX93).size)
                  have HQA94 : Hid (Prp w94 (.slice (some ⟨w80.heap.size, 0, none⟩) 2 2) [((i : Int), (j : Int), es, es), ((i : Int), (j : Int), es, es)]) := (unhide HQA93).below hb94
                  have HQB94 : Hid (Prp w94 (.slice (some ⟨w78.heap.size, 0, none⟩) 2 2) [((i : Int), (j : Int), es, es), ((i : Int), (j : Int), es, es)]) := (unhide HQB93).below hb94
                  have HEE94 : Hid (ErrP w94 E93 c2) := (unhide HEE93).below hb94
                  clear hb94
                  go_wp2_with fail
                  refine hK.out _ _ ((unhide HCL) _ (unhide HX94)) (fun hHeld => ?_)
                  clear hK K
                  refine wpAnyH_ready (rs := [21]) (by kernel_rfl) (by simp) ?_
                  refine AllReadyH.cons (o := { dst := some 43, op := Op.call { callee := Callee.value (Operand.func 11), args := #[Operand.tmp 41, Operand.tmp 42], argTypes := #[23, 3] }, type := 3, pos := "more.go:16", after := #[{ on := 19, ground := Ground.data }, { on := 20, ground := Ground.data }, { on := 16, ground := Ground.chain }, { on := 10, ground := Ground.guard }], guard := some (10, false) }) rfl (fun K hK => ?_) AllReadyH.nil
                  go_simp
                  refine ((unhide HR2) _ _ (unhide HQB94)).mono ?_
                  rintro e w95 ⟨rfl, hb95⟩
                  have HX95 : Hid (Below WB.heap.size WB w95) := (unhide HX94).trans (hb95.mono (unhide HX94).size)
                  have HQA95 : Hid (Prp w95 (.slice (some ⟨w80.heap.size, 0, none⟩) 2 2) [((i : Int), (j : Int), es, es), ((i : Int), (j : Int), es, es)]) := (unhide HQA94).below hb95
                  have HQB95 : Hid (Prp w95 (.slice (some ⟨w78.heap.size, 0, none⟩) 2 2) [((i : Int), (j : Int), es, es), ((i : Int), (j : Int), es, es)]) := (unhide HQB94).below hb95
                  clear hb95
                  go_wp2_with fail
                  refine hK.out _ _ ((unhide HCL) _ (unhide HX95)) (fun hHeld => ?_)
                  clear hK K
                  refine wpAnyH_take (i := 22) (oi := { dst := some 44, op := Op.binOp BinOp.neq 3 (Operand.tmp 38) (Operand.tmp 43) 3, type := 4, pos := "more.go:16", after := #[{ on := 16, ground := Ground.data }, { on := 21, ground := Ground.data }, { on := 10, ground := Ground.guard }], guard := some (10, false) }) (v := ?v67) rfl (by kernel_rfl) (by kernel_rfl) (by kernel_rfl) (fun _ _ _ h => h) (Or.inl ⟨by rfl, ?hy67⟩) (by assumption) ?rest67
                  case hy67 => (intro w hSw; (try dsimp only at hSw); go_simp; (try rw [if_pos (by omega)]); (try with_reducible rfl))
                  simp only [Act.put, List.setIfInBounds_toArray, List.set_cons_zero, List.set_cons_succ]
                  refine wpAnyH_take (i := 23) (oi := { dst := some 45, op := Op.pick (Operand.tmp 32) (Operand.const (Value.bool true)) (Operand.tmp 44), type := 4, pos := "more.go:16", after := #[{ on := 10, ground := Ground.data }, { on := 22, ground := Ground.data }], guard := none }) (v := ?v68) rfl (by kernel_rfl) (by kernel_rfl) (by kernel_rfl) (fun _ _ _ h => h) (Or.inl ⟨by rfl, ?hy68⟩) (by assumption) ?rest68
                  case hy68 => (intro w hSw; (try dsimp only at hSw); go_simp; (try rw [if_pos (by omega)]); (try with_reducible rfl))
                  simp only [Act.put, List.setIfInBounds_toArray, List.set_cons_zero, List.set_cons_succ]
                  refine wpAnyH_done (by kernel_rfl) ?_ _
                  refine NoPanic.normal ?_
                  go_wp2
                  go_roundw
                  case rel => exact ⟨m + 1, by omega, by go_num, unhide HX95⟩
                  case measure => simp [intOf]; omega
            · have HB5 := hide ((unhide HB3).trans (hbel.mono (unhide HB3).size))
              clear hbel
              obtain rfl : m = 18 := by omega
              go_wp2
              go_roundw
              case rel => exact ⟨j + 1, by omega, by go_num, unhide HB5⟩
              case measure => simp [intOf]; omega
        · obtain rfl : j = 2 := by omega
          have HB5 := hide hbel
          clear hbel
          go_wp2
          go_roundw
          case rel => exact ⟨i + 1, by omega, by go_num, unhide HB5⟩
          case measure => simp [intOf]; omega
    · obtain rfl : i = 44 := by omega
      have HB5 := hide hbel
      have HG5 : Hid (Laid wr) := (unhide HG).below hbel (unhide HG).pos
      clear hbel
      go_wp2_with fail
      refine (wakes_any _ (unhide HG5)).mono ?_
      rintro e w2 ⟨rfl, hb2⟩
      go_wp2
      go_ret
      exact ⟨rfl, (unhide HB5).trans (hb2.mono (unhide HB5).size)⟩
end Go.Proofs.YtpfpollejhdbgaaDoor
