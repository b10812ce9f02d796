/- Proved here: the walk of dovecotelaw17.RpcAny: whatever bytes it is handed, it returns true. Helper contract. -/
import Derived.Test.YtmmhdhpocjnlbaaDoorZJLw
import Derived.Deep.CutRange
namespace Go.Proofs.YtmmhdhpocjnlbaaDoor.Jr
open Go.RowKit Nt Et Qu
set_option maxRecDepth 100000

theorem rpc_build0g (ρ : Operand → Value) (dst : Option Tmp) (ty : TypeId) (pos : String) (after : Array Edge) (g : Option (Nat × Bool)) (w : World) :
    (execOp ρ ⟨dst, .build 31 #[], ty, pos, after, g⟩).run Tryd.prog w = .ok (.value (.agg (mcs mq0).toArray)) w := by
  kernel_rfl
theorem wpList_von {P : Program} {ops : Array Oper} {rest : List Oper} {o : Oper} {a : Act} {w w' : World} {v : Value} {Q : Exit → Act → World → Prop} (hw : Region.wanted o (yielded ops a.tmps) = true) (hr : (execOp a.eval o).run P w = .ok (.value v) w') (h : wpList P ops Q rest (a.put o.dst v) w') : wpList P ops Q (o :: rest) a w :=
  wpList_on hw fun K hK => by unfold Oper.wp; rw [hr]; exact hK _ _ h
theorem may_q (q : Mq) (w : World) (h : Rok w q) : Calls Tryd.prog 11 #[.agg (mcs q).toArray] w fun e w' => e = .returned (.bool (mayB q.r)) ∧ Hid (Below w.heap.size w w') := by
  obtain ⟨⟨k, f, t, te, ix, lt, co, ok, es, ms, dt⟩, ea, en, ec, ma, mn, mcp⟩ := q
  exact may_any k f t te ix lt co ok ea ma en ec mn mcp es ms dt w h
/-- yes or no -/
def AnyB (e : Ending) : Prop := ∃ b : Bool, e = .returned (.bool b)
/-- lists of bytes in memory -/
def BsIn (w : World) (g off : Nat) (f : Nat → Value × List Int) (len : Nat) : Prop := ∀ k, k < len → w.cell? ⟨g, off + k, none⟩ = some (f k).1 ∧ Byt w (f k).1 (f k).2 ∧ (f k).2.length ≤ 140737488351232
set_option maxHeartbeats 4000000 in
theorem heavy_any (g off len cap : Nat) (f : Nat → Value × List Int) (n0 : Int) (w : World) (h : BsIn w g off f len) :
    Calls Tryd.prog 4 #[.agg #[.slice (some ⟨g, off, none⟩) len cap, .int .i64 n0]] w fun e w' => AnyB e ∧ Hid (Below w.heap.size w w') := by
  have HA := hide h
  clear h
  go_enter Tryd.func4, Tryd.ntmps4
  go_wp2
  go_loopw [3, 4] (fun n i wr => ∃ (k : Nat) (z : Int), k ≤ len ∧ i = .int .i64 k ∧ n = .int .i64 z ∧ wr = w.alloc (.cells #[.slice (some ⟨g, off, none⟩) len cap, .int .i64 n0] 24)) (fun _ i _ => len - (intOf i).toNat)
  case atStart => exact ⟨0, _, Nat.zero_le _, rfl, rfl, rfl⟩
  case round =>
    obtain ⟨k, z, hk, rfl, rfl, rfl⟩ := hrel
    by_cases h8 : k < len ∧ k < 8
    · obtain ⟨hlt, h8⟩ := h8
      obtain ⟨h1, h2, _⟩ := (unhide HA) k hlt
      have c1 := ((al_below w (.cells #[.slice (some ⟨g, off, none⟩) len cap, .int .i64 n0] 24)).cell (p := ⟨g, off + k, none⟩) (cell_lt h1)).trans h1
      obtain ⟨ao, cp, hv, _, _⟩ := h2.form
      rw [hv] at c1
      clear h1 h2
      go_wp2
      go_roundw
      case rel => exact ⟨k + 1, _, by omega, by go_num, rfl, by first | rfl | trivial⟩
      case measure => simp [intOf]; omega
    · have hend : ¬ (k : Int) < (len : Int) ∨ ¬ (k : Int) < 8 := by omega
      by_cases h9 : (k : Int) < (len : Int)
      · have h9b : ¬ (k : Int) < 8 := by omega
        go_wp2
        go_ret
        exact ⟨⟨_, rfl⟩, al_below _ _⟩
      · go_wp2
        go_ret
        exact ⟨⟨_, rfl⟩, al_below _ _⟩
theorem heavy_nil (ao : Option Addr) (cap : Nat) (n0 : Int) (w : World) : Calls Tryd.prog 4 #[.agg #[.slice ao 0 cap, .int .i64 n0]] w fun e w' => AnyB e ∧ Hid (Below w.heap.size w w') := by
  go_enter Tryd.func4, Tryd.ntmps4
  go_wp2
  refine wp_loop_rounds 1 ?_
  rw [rounds_succ]
  go_wp2
  go_ret
  exact ⟨⟨_, rfl⟩, al_below _ _⟩
theorem DcIs.zero {l : List Int} {m : Rp} (h : DcIs l false m) : m = rp0 := by
  obtain ⟨_, _, _, _, h⟩ := h
  rw [h]
  rfl
set_option maxHeartbeats 16000000 in
theorem any17_walk (g off len cap : Nat) (f : Nat → Value × List Int) (n0 : Int) (w : World) (hg : Laid w) (h : BsIn w g off f len) :
    Calls Tryd.prog 3 #[.agg #[.slice (some ⟨g, off, none⟩) len cap, .int .i64 n0]] w fun e w' => e = .returned (.bool true) ∧ Below w.heap.size w w' := by
  have HA := hide h
  have HG := hide hg
  obtain ⟨B, hB⟩ : ∃ B, B = w.heap.size := ⟨_, rfl⟩
  have HB : Hid (Bx (w.alloc (.cells #[.slice (some ⟨g, off, none⟩) len cap, .int .i64 n0] 24)) B [.slice (some ⟨g, off, none⟩) len cap, .int .i64 n0] 24) := Bx.new w [.slice (some ⟨g, off, none⟩) len cap, .int .i64 n0] 24 B hB
  have HW : Hid (Below w.heap.size w (w.alloc (.cells #[.slice (some ⟨g, off, none⟩) len cap, .int .i64 n0] 24))) := al_below _ _
  have HBS : Hid (∀ W, Below w.heap.size w W → BsIn W g off f len) := fun W hW k hk => by
    obtain ⟨h1, h2, h3⟩ := h k hk
    exact ⟨(hW.cell (p := ⟨g, off + k, none⟩) (cell_lt h1)).trans h1, h2.below hW, h3⟩
  clear h hg HA
  go_enter Tryd.func3, Tryd.ntmps3
  go_upto_region 1 with fail
  change Code.wp _ _ _ _ (w.alloc (.cells #[.slice (some ⟨g, off, none⟩) len cap, .int .i64 n0] 24))
  rw [← hB]
  generalize w.alloc (.cells #[.slice (some ⟨g, off, none⟩) len cap, .int .i64 n0] 24) = W at HB HW ⊢
  clear hB
  have c0 := (unhide HB).cell 0 _ rfl
  have c1 := (unhide HB).cell 1 _ rfl
  go_wp2_with fail
  refine (heavy_any g off len cap f n0 W (unhide HBS _ (unhide HW))).mono ?_
  rintro e w2 ⟨⟨b, rfl⟩, HB2⟩
  have HBx := hide ((unhide HB).below (unhide HB2))
  have HW2 : Hid (Below w.heap.size w w2) := bnx (unhide HW) (unhide HB2)
  clear c0 c1 HB HW HB2
  cases b
  · go_wp2
    go_loopw [3] (fun i wr => ∃ k : Nat, k ≤ len ∧ i = .int .i64 k ∧ Hid (Below w.heap.size w wr) ∧ Hid (Bx wr B [.slice (some ⟨g, off, none⟩) len cap, .int .i64 n0] 24)) (fun i _ => len - (intOf i).toNat)
    case atStart => exact ⟨0, Nat.zero_le _, rfl, HW2, HBx⟩
    case round =>
      obtain ⟨k, hk, rfl, HWr, HBr⟩ := hrel
      have c0 := (unhide HBr).cell 0 _ rfl
      by_cases h8 : k < len ∧ k < 8
      · obtain ⟨hlt, h8⟩ := h8
        obtain ⟨v, l, hfk⟩ : ∃ v l, f k = (v, l) := ⟨_, _, rfl⟩
        have HCE : Hid (∀ W, Below w.heap.size w W → W.cell? ⟨g, off + k, none⟩ = some v ∧ Byt W v l) := fun W hW => by
          obtain ⟨h1, h2, _⟩ := unhide HBS W hW k hlt
          rw [hfk] at h1 h2
          exact ⟨h1, h2⟩
        have hll : l.length ≤ 140737488351232 := by
          obtain ⟨_, _, h3⟩ := unhide HBS w2 (unhide HW2) k hlt
          rw [hfk] at h3
          exact h3
        obtain ⟨d, m, hdc⟩ := dcis_ex l
        have HDC := hide hdc
        have HR8 : Hid (R8 l) := R8.of (unhide HCE _ (unhide HWr)).2.range
        obtain ⟨av, cv, rfl, _, _⟩ := (unhide HCE _ (unhide HWr)).2.form
        have c1 := (unhide HCE _ (unhide HWr)).1
        clear hdc hfk
        go_wp2_with fail
        refine (copyb_any _ l wr (unhide HCE _ (unhide HWr)).2 hll).mono ?_
        rintro e w3 ⟨v3, rfl, HR3, HB3⟩
        have HW3 : Hid (Below w.heap.size w w3) := bnx (unhide HWr) (unhide HB3)
        have HBx3 := hide ((unhide HBr).below (unhide HB3))
        have HV3 : Hid (Byt w3 v3 l) := (unhide HR3).byt (unhide HR8)
        obtain ⟨av3, cv3, rfl⟩ := owns_slice (unhide HR3)
        clear HR3 HB3 HWr HBr c0 c1
        go_wp2_with fail
        refine (dec_any _ l d m w3 (unhide HV3) (unhide HDC)).mono ?_
        rintro e w4 ⟨q, E, rfl, HQ, HE, HB4⟩
        have HW4 : Hid (Below w.heap.size w w4) := bnx (unhide HW3) (unhide HB4)
        have HBx4 := hide ((unhide HBx3).below (unhide HB4))
        have HV4 := hide ((unhide HV3).below (unhide HB4))
        have HQR : Hid (q.r = m) := (unhide HQ).1
        have HRK := hide (unhide HQ).2.rok
        have HEX : Hid (ErrX w4 E (er d)) := (unhide HE).1
        clear HB4 HW3 HBx3 HV3 HQ HE
        obtain ⟨M, hM⟩ : ∃ M, M = w4.heap.size := ⟨_, rfl⟩
        have HM5 : Hid (Bx (w4.alloc (.cells (mcs q).toArray 31)) M (mcs q) 31) := Bx.new _ _ _ _ hM
        have HW5 : Hid (Below w.heap.size w (w4.alloc (.cells (mcs q).toArray 31))) := bnx (unhide HW4) (al_below _ _)
        have HBx5 := hide ((unhide HBx4).below (al_below w4 (.cells (mcs q).toArray 31)))
        have HV5 := hide ((unhide HV4).below (al_below w4 (.cells (mcs q).toArray 31)))
        have HRK5 := hide ((unhide HRK).below (al_below w4 (.cells (mcs q).toArray 31)))
        have HEX5 := hide ((unhide HEX).below (al_below w4 (.cells (mcs q).toArray 31)))
        go_simp
        (iterate 10 go_step)
        refine Nt.wpList_value rfl (rpc_alloc _ _ _ _ _ _) ?_
        simp only [Act.put, List.setIfInBounds_toArray, List.set_cons_zero, List.set_cons_succ]
        refine Nt.wpList_skip rfl (rpc_store _ _ _ _ _ _ _ q w4 rfl rfl) ?_
        simp only [Act.put]
        rw [← hM]
        clear hM HW4 HBx4 HV4 HRK HEX
        generalize w4.alloc (.cells (mcs q).toArray 31) = w5 at HM5 HW5 HBx5 HV5 HRK5 HEX5 ⊢
        have c0 := (unhide HBx5).cell 0 _ rfl
        have c1 := (unhide HCE _ (unhide HW5)).1
        go_wp2_with fail
        refine (eq_any _ _ l l w5 (unhide HV5) (unhide HCE _ (unhide HW5)).2).mono ?_
        rw [decide_eq_true (show l = l from rfl)]
        rintro e w6 ⟨rfl, q6, hw6⟩
        have hb6 : Below w5.heap.size w5 w6 := by rw [hw6]; exact below_drewN (Below.refl _ _) q6
        have HM6 := hide ((unhide HM5).below hb6)
        have HW6 : Hid (Below w.heap.size w w6) := bnx (unhide HW5) hb6
        have HBx6 := hide ((unhide HBx5).below hb6)
        have HRK6 := hide ((unhide HRK5).below hb6)
        have HEX6 := hide ((unhide HEX5).below hb6)
        clear hw6 hb6 HM5 HW5 HBx5 HV5 HRK5 HEX5 c0 c1
        go_wp2_with fail
        refine (num17 E (er d) w6 ((unhide HG).below (unhide HW6) (unhide HG).pos) (unhide HEX6)).mono ?_
        rintro e w7 ⟨rfl, HB7⟩
        have HM7 := hide ((unhide HM6).below (unhide HB7))
        have HW7 : Hid (Below w.heap.size w w7) := bnx (unhide HW6) (unhide HB7)
        have HBx7 := hide ((unhide HBx6).below (unhide HB7))
        have HRK7 := hide ((unhide HRK6).below (unhide HB7))
        have HEX7 := hide ((unhide HEX6).below (unhide HB7))
        clear HB7 HM6 HW6 HBx6 HRK6 HEX6
        cases d
        · have HM0 : Hid (m = rp0) := (unhide HDC).zero
          rw [show er false = 1 from rfl] at HEX7 ⊢
          go_wp2_with fail
          refine (num17 E 1 w7 ((unhide HG).below (unhide HW7) (unhide HG).pos) (unhide HEX7)).mono ?_
          rintro e w8 ⟨rfl, HB8⟩
          have HM8 := hide ((unhide HM7).below (unhide HB8))
          have HW8 : Hid (Below w.heap.size w w8) := bnx (unhide HW7) (unhide HB8)
          have HBx8 := hide ((unhide HBx7).below (unhide HB8))
          have HRK8 := hide ((unhide HRK7).below (unhide HB8))
          have HEX8 := hide ((unhide HEX7).below (unhide HB8))
          clear HB8 HM7 HW7 HBx7 HRK7 HEX7
          have HEQ := hide (eqr_any q mq0 w8 (unhide HRK8) (rok0 w8) (by rw [unhide HQR, unhide HM0]; exact ⟨rfl, rfl, rfl, rfl⟩))
          go_simp
          (iterate 5 go_step)
          refine wpList_on (by rfl) fun K hK => wp_load_mid 31 _ rfl M 0 rfl (mcs q) _ (unhide HM8).range Tryd.underlying31 rfl rpc_size (hK _ _ ?_)
          clear hK K
          simp only [Act.put, List.setIfInBounds_toArray, List.set_cons_zero, List.set_cons_succ]
          refine wpList_von (by rfl) (rpc_build0g _ _ _ _ _ _ _) ?_
          simp only [Act.put, List.setIfInBounds_toArray, List.set_cons_zero, List.set_cons_succ]
          go_wp2_with fail
          refine (unhide HEQ).mono ?_
          rintro e w9 ⟨⟨b, rfl, hb⟩, HB9⟩
          have hbt : b = true := (unhide hb).2 (by rw [unhide HQR, unhide HM0]; rfl)
          subst hbt
          have HW9 : Hid (Below w.heap.size w w9) := bnx (unhide HW8) (unhide HB9)
          have HBx9 := hide ((unhide HBx8).below (unhide HB9))
          have HEX9 := hide ((unhide HEX8).below (unhide HB9))
          clear hb HB9 HEQ HM8 HW8 HBx8 HRK8 HEX8
          go_wp2_with fail
          refine (num17 E 1 w9 ((unhide HG).below (unhide HW9) (unhide HG).pos) (unhide HEX9)).mono ?_
          rintro e w10 ⟨rfl, HB10⟩
          have HW10 : Hid (Below w.heap.size w w10) := bnx (unhide HW9) (unhide HB10)
          have HBx10 := hide ((unhide HBx9).below (unhide HB10))
          clear HB10 HW9 HBx9 HEX9
          go_wp2
          go_roundw
          case rel => exact ⟨k + 1, by omega, by go_num, HW10, HBx10⟩
          case measure => simp [intOf]; omega
        · obtain ⟨hlw, hmm⟩ := dc_inv (unhide HR8) (unhide HDC)
          have HLW : Hid (wb q.r = l) := by show _ = _; rw [unhide HQR, ← hlw]
          have HMB : Hid (true = mayB q.r) := by show _ = _; rw [unhide HQR, hmm]
          clear hlw hmm
          rw [show er true = 0 from rfl] at HEX7 ⊢
          go_wp2_with fail
          refine (num17 E 0 w7 ((unhide HG).below (unhide HW7) (unhide HG).pos) (unhide HEX7)).mono ?_
          rintro e w8 ⟨rfl, HB8⟩
          have HM8 := hide ((unhide HM7).below (unhide HB8))
          have HW8 : Hid (Below w.heap.size w w8) := bnx (unhide HW7) (unhide HB8)
          have HBx8 := hide ((unhide HBx7).below (unhide HB8))
          have HRK8 := hide ((unhide HRK7).below (unhide HB8))
          clear HB8 HM7 HW7 HBx7 HRK7 HEX7
          have HEN := hide (enc_any q true w8 (unhide HRK8) (unhide HMB))
          go_upto_region 11 with fail
          go_step
          refine wpList_load_mid rfl 31 _ rfl M 0 rfl (mcs q) _ (unhide HM8).range Tryd.underlying31 rfl rpc_size ?_
          simp only [Act.put, List.setIfInBounds_toArray, List.set_cons_zero, List.set_cons_succ]
          go_wp2_with fail
          refine (unhide HEN).mono ?_
          rintro e w9 ⟨v9, F, rfl, HR9, HF9, HB9⟩
          have HM9 := hide ((unhide HM8).below (unhide HB9))
          have HW9 : Hid (Below w.heap.size w w9) := bnx (unhide HW8) (unhide HB9)
          have HBx9 := hide ((unhide HBx8).below (unhide HB9))
          have HRK9 := hide ((unhide HRK8).below (unhide HB9))
          have HV9 : Hid (Byt w9 v9 l) := by
            have h1 := (unhide HR9).byt (wb_r8 q.r)
            show Byt _ _ _
            rw [← unhide HLW]
            exact h1
          have HX9 : Hid (ErrX w9 F 0) := (unhide HF9).1
          obtain ⟨av9, nv9, cv9, rfl⟩ : ∃ a n c, v9 = .slice a n c := by obtain ⟨a, c, h⟩ := owns_slice (unhide HR9); exact ⟨a, _, c, h⟩
          clear HR9 HF9 HB9 HEN HM8 HW8 HBx8 HRK8
          go_wp2_with fail
          refine (num17 F 0 w9 ((unhide HG).below (unhide HW9) (unhide HG).pos) (unhide HX9)).mono ?_
          rintro e w10 ⟨rfl, HB10⟩
          have HM10 := hide ((unhide HM9).below (unhide HB10))
          have HW10 : Hid (Below w.heap.size w w10) := bnx (unhide HW9) (unhide HB10)
          have HBx10 := hide ((unhide HBx9).below (unhide HB10))
          have HRK10 := hide ((unhide HRK9).below (unhide HB10))
          have HV10 := hide ((unhide HV9).below (unhide HB10))
          clear HB10 HM9 HW9 HBx9 HRK9 HV9 HX9
          have c0 := (unhide HBx10).cell 0 _ rfl
          have c1 := (unhide HCE _ (unhide HW10)).1
          go_wp2_with fail
          refine (eq_any _ _ l l w10 (unhide HV10) (unhide HCE _ (unhide HW10)).2).mono ?_
          rw [decide_eq_true (show l = l from rfl)]
          rintro e w11 ⟨rfl, q11, hw11⟩
          have hb11 : Below w10.heap.size w10 w11 := by rw [hw11]; exact below_drewN (Below.refl _ _) q11
          have HM11 := hide ((unhide HM10).below hb11)
          have HW11 : Hid (Below w.heap.size w w11) := bnx (unhide HW10) hb11
          have HBx11 := hide ((unhide HBx10).below hb11)
          have HRK11 := hide ((unhide HRK10).below hb11)
          have HMY := hide (may_q q w11 (unhide HRK11))
          rw [← unhide HMB] at HMY
          clear hw11 hb11 HM10 HW10 HBx10 HRK10 HV10 c0 c1
          go_simp
          (iterate 9 go_step)
          refine wpList_on (by rfl) fun K hK => wp_load_mid 31 _ rfl M 0 rfl (mcs q) _ (unhide HM11).range Tryd.underlying31 rfl rpc_size (hK _ _ ?_)
          clear hK K
          simp only [Act.put, List.setIfInBounds_toArray, List.set_cons_zero, List.set_cons_succ]
          go_wp2_with fail
          refine (unhide HMY).mono ?_
          rintro e w12 ⟨rfl, HB12⟩
          have HW12 : Hid (Below w.heap.size w w12) := bnx (unhide HW11) (unhide HB12)
          have HBx12 := hide ((unhide HBx11).below (unhide HB12))
          clear HB12 HMY HM11 HW11 HBx11 HRK11
          go_wp2
          go_roundw
          case rel => exact ⟨k + 1, by omega, by go_num, HW12, HBx12⟩
          case measure => simp [intOf]; omega
      · have hend : ¬ (k : Int) < (len : Int) ∨ ¬ (k : Int) < 8 := by omega
        by_cases h9 : (k : Int) < (len : Int)
        · have h9b : ¬ (k : Int) < 8 := by omega
          have HWK := hide (wakes_any wr ((unhide HG).below (unhide HWr) (unhide HG).pos))
          go_wp2_with fail
          refine (unhide HWK).mono ?_
          rintro e w9 ⟨rfl, HB9⟩
          have HW9 : Hid (Below w.heap.size w w9) := bnx (unhide HWr) (unhide HB9)
          go_wp2
          go_ret
          exact ⟨rfl, unhide HW9⟩
        · have HWK := hide (wakes_any wr ((unhide HG).below (unhide HWr) (unhide HG).pos))
          go_wp2_with fail
          refine (unhide HWK).mono ?_
          rintro e w9 ⟨rfl, HB9⟩
          have HW9 : Hid (Below w.heap.size w w9) := bnx (unhide HWr) (unhide HB9)
          go_wp2
          go_ret
          exact ⟨rfl, unhide HW9⟩
  · go_wp2
    go_ret
    exact ⟨rfl, unhide HW2⟩
theorem any17_walk0 (ao : Option Addr) (cap : Nat) (n0 : Int) (w : World) (hg : Laid w) :
    Calls Tryd.prog 3 #[.agg #[.slice ao 0 cap, .int .i64 n0]] w fun e w' => e = .returned (.bool true) ∧ Below w.heap.size w w' := by
  have HG := hide hg
  have HA : Hid (Below w.heap.size w (w.alloc (.cells #[.slice ao 0 cap, .int .i64 n0] 24))) := al_below _ _
  clear hg
  go_enter Tryd.func3, Tryd.ntmps3
  go_wp2_with fail
  refine (heavy_nil ao cap n0 _).mono ?_
  rintro e w2 ⟨⟨b, rfl⟩, HB2⟩
  have HWr : Hid (Below w.heap.size w w2) := bnx (unhide HA) (unhide HB2)
  have c0 : w2.cell? ⟨w.heap.size, 0, none⟩ = some (.slice ao 0 cap) := ((unhide HB2).cell (by simp)).trans (by simp)
  clear HA HB2
  cases b
  · go_wp2
    refine wp_loop_rounds 1 ?_
    rw [rounds_succ]
    have HWK := hide (wakes_any w2 ((unhide HG).below (unhide HWr) (unhide HG).pos))
    go_wp2_with fail
    refine (unhide HWK).mono ?_
    rintro e w9 ⟨rfl, HB9⟩
    have HW9 : Hid (Below w.heap.size w w9) := bnx (unhide HWr) (unhide HB9)
    go_wp2
    go_ret
    exact ⟨rfl, unhide HW9⟩
  · go_wp2
    go_ret
    exact ⟨rfl, unhide HWr⟩
end Go.Proofs.YtmmhdhpocjnlbaaDoor.Jr
