/- Proved here: dovecotelaw3.PropNumbers tells true at any asks read from memory, and turns nothing below. Helper contracts. -/
import Derived.Test.YtpfpollejhdbgaaDoorZPPutsWalk
import Derived.Test.YtpfpollejhdbgaaDoorM6
import Derived.Deep.RegionHeld3
namespace Go.Proofs.YtpfpollejhdbgaaDoor
open Go.RowKit
set_option maxRecDepth 100000

theorem below_drew2 (w : World) : Below w.heap.size w w.drew := below_drewN (Below.refl _ _) 1
theorem cell_sets (w : World) (p q : Addr) (v : Value) (h : (w.cell? q).isSome = true) : (w.setCell p v).cell? q = if p = q then some v else w.cell? q := by
  by_cases e : p = q
  · subst e
    rw [if_pos rfl]
    exact World.cell?_setCell_same' w p v h
  · rw [if_neg e]
    exact World.cell?_setCell_other _ _ _ _ e
theorem errp_set {B j : Nat} {w : World} {v u : Value} {n z : Int} (h : ErrP w v n) (hB : w.cell? ⟨B, 1, none⟩ = some (.int .i64 z)) : ErrP (w.setCell ⟨B, j, none⟩ u) v n := by
  have far : ∀ b x, w.cell? ⟨b, 1, none⟩ = some x → (∀ z, x ≠ .int .i64 z) → (w.setCell ⟨B, j, none⟩ u).cell? ⟨b, 1, none⟩ = some x := fun b x hx hn => by
    rw [World.cell?_setCell_far _ _ _ _ (show B ≠ b from fun e => by subst e; rw [hB] at hx; exact hn z (Option.some.inj hx).symm)]
    exact hx
  rcases h with (h | ⟨b, h1, h2⟩) | ⟨b, c, h1, h2, h3⟩
  · exact .inl (.inl h)
  · exact .inl (.inr ⟨b, h1, far b _ h2 (fun z e => by cases e)⟩)
  · exact .inr ⟨b, c, h1, far b _ h2 (fun z e => by cases e), far c _ h3 (fun z e => by cases e)⟩
theorem pick_num (Y T : Int) (hT : T = 65535 ∨ T = 4294967295) : 1 ≤ IntKind.i64.wrap (1 + IntKind.i64.wrap ((IntKind.u64.wrap Y).tmod (IntKind.u64.wrap T))) ∧ IntKind.i64.wrap (1 + IntKind.i64.wrap ((IntKind.u64.wrap Y).tmod (IntKind.u64.wrap T))) ≤ T := by
  have h0 : 0 ≤ IntKind.u64.wrap Y := by rw [IntKind.wrap_u64]; omega
  have hT' : IntKind.u64.wrap T = T := by rw [IntKind.wrap_u64]; omega
  rw [hT', Int.tmod_eq_emod_of_nonneg h0]
  generalize IntKind.u64.wrap Y = a at h0
  rw [IntKind.wrap_i64, IntKind.wrap_i64]
  rcases hT with rfl | rfl <;> omega
theorem byt_cells {w : World} {v : Value} {l : List Int} (h : Byt w v l) (hl : 1 ≤ l.length) : ∃ g o cap, v = .slice (some ⟨g, o, none⟩) l.length cap ∧ l.length ≤ cap ∧ cap ≤ maxLen ∧ ∀ j, j < l.length → w.cell? ⟨g, o + j, none⟩ = some (.int .u8 (l.getD j 0)) := by
  obtain ⟨ao, cap, rfl, ⟨h1, h2⟩, -, hcase⟩ := h
  rcases hcase with rfl | ⟨b, off, rfl, hc⟩
  · simp at hl
  · exact ⟨b, off, cap, rfl, h1, h2, hc⟩
theorem num_chk (id x : Int) (h : id = 33 ∧ 1 ≤ x ∧ x ≤ 65535 ∨ id = 39 ∧ 1 ≤ x ∧ x ≤ 4294967295) : chkP 1 [(id, x, es, es)] = 0 := by
  refine chkP_ok 1 _ (fun i hi => ?_) (by simp)
  obtain rfl : i = 0 := by simpa using hi
  have e : at0 [(id, x, es, es)] 0 = (id, x, es, es) := rfl
  unfold okAt
  rw [e]
  have hm : may (id, x, es, es) = true := by
    unfold may fit txo
    rcases h with ⟨rfl, a, b⟩ | ⟨rfl, a, b⟩
    · simp only [show kd 33 = 2 from by decide, show lst 33 = 1 from by decide, show mx 33 = 65535 from by decide, decide_eq_true a, decide_eq_true b, emp_es]
      rfl
    · simp only [show kd 39 = 4 from by decide, show lst 39 = 1 from by decide, show mx 39 = 4294967295 from by decide, decide_eq_true a, decide_eq_true b, emp_es]
      rfl
  rw [hm]
  rcases h with ⟨rfl, _, _⟩ | ⟨rfl, _, _⟩ <;> rfl
theorem num_bad (id x : Int) (h : (id = 33 ∧ (x < 1 ∨ 65535 < x)) ∨ (id = 39 ∧ (x < 1 ∨ 4294967295 < x))) : chkP 1 [(id, x, es, es)] = 1 := by
  refine chkP_bad 1 _ 0 (by simp) ?_
  have e : at0 [(id, x, es, es)] 0 = (id, x, es, es) := rfl
  unfold okAt
  rw [e]
  have hm : may (id, x, es, es) = false := by
    unfold may fit
    rcases h with ⟨rfl, a⟩ | ⟨rfl, a⟩
    · have : (decide (lst 33 ≤ x) && decide (x ≤ mx 33)) = false := by
        rw [show lst 33 = 1 from by decide, show mx 33 = 65535 from by decide, Bool.and_eq_false_iff, decide_eq_false_iff_not, decide_eq_false_iff_not]
        omega
      simp only [this]
      rfl
    · have : (decide (lst 39 ≤ x) && decide (x ≤ mx 39)) = false := by
        rw [show lst 39 = 1 from by decide, show mx 39 = 4294967295 from by decide, Bool.and_eq_false_iff, decide_eq_false_iff_not, decide_eq_false_iff_not]
        omega
      simp only [this]
      rfl
  rw [hm]
  simp
theorem num_pbz2 (x : Int) (h : 1 ≤ x ∧ x ≤ 65535) : pbz 1 [(33, x, es, es)] = [3, 33, x / 256, x % 256] := by
  unfold pbz
  rw [if_pos (num_chk 33 x (.inl ⟨rfl, h⟩))]
  rfl
theorem num_pbz4 (x : Int) (h : 1 ≤ x ∧ x ≤ 4294967295) : pbz 1 [(39, x, es, es)] = [5, 39, x / 16777216, x / 65536 % 256, x / 256 % 256, x % 256] := by
  unfold pbz
  rw [if_pos (num_chk 39 x (.inr ⟨rfl, h⟩))]
  rfl
set_option maxHeartbeats 4000000 in
theorem numbers_walk (b off len cap : Nat) (vl : Nat → Value) (ls : Nat → List Pr) (pl : Nat → Int) (vb : Nat → Value) (bs : Nat → List Int) (w : World) (hlen : len ≤ maxLen) (hg : Laid w)
    (hc : ∀ k, k < len → AskAt w b (off + k * 3) (vl k) (ls k) (pl k) (vb k) (bs k)) :
    Calls Tryd.prog 7 #[.slice (some ⟨b, off, none⟩) len cap] w fun e w' => e = .returned (.bool true) ∧ Below w.heap.size w w' := by
  unfold maxLen at hlen
  have HC := hide hc
  have HG := hide hg
  clear hc hg
  have HWB : Hid (∀ W, Below ((w.alloc (.cells #[.int .i64 33, .int .i64 0, .string ⟨#[]⟩, .string ⟨#[]⟩, .int .i64 39, .int .i64 0, .string ⟨#[]⟩, .string ⟨#[]⟩] 49)).alloc (.cells #[.int .i64 2, .int .i64 4] 3)).heap.size ((w.alloc (.cells #[.int .i64 33, .int .i64 0, .string ⟨#[]⟩, .string ⟨#[]⟩, .int .i64 39, .int .i64 0, .string ⟨#[]⟩, .string ⟨#[]⟩] 49)).alloc (.cells #[.int .i64 2, .int .i64 4] 3)) W → (W.cell? ⟨w.heap.size, 0, none⟩ = some (.int .i64 33) ∧ W.cell? ⟨w.heap.size, 1, none⟩ = some (.int .i64 0) ∧ W.cell? ⟨w.heap.size, 2, none⟩ = some (.string ⟨#[]⟩) ∧ W.cell? ⟨w.heap.size, 3, none⟩ = some (.string ⟨#[]⟩) ∧ W.cell? ⟨w.heap.size, 4, none⟩ = some (.int .i64 39) ∧ W.cell? ⟨w.heap.size, 5, none⟩ = some (.int .i64 0) ∧ W.cell? ⟨w.heap.size, 6, none⟩ = some (.string ⟨#[]⟩) ∧ W.cell? ⟨w.heap.size, 7, none⟩ = some (.string ⟨#[]⟩) ∧ W.cell? ⟨w.heap.size + 1, 0, none⟩ = some (.int .i64 2) ∧ W.cell? ⟨w.heap.size + 1, 1, none⟩ = some (.int .i64 4)) ∧ Laid W ∧ Below w.heap.size w W) := fun W hW => by
    have h0 : Below w.heap.size w W := (((Below.refl _ _).alloc (Nat.le_refl _) _).alloc (by simp) _).trans (hW.mono (by simp; omega))
    exact ⟨⟨(hW.cell (p := ⟨w.heap.size, 0, none⟩) (by simp; omega)).trans (by simp), (hW.cell (p := ⟨w.heap.size, 1, none⟩) (by simp; omega)).trans (by simp), (hW.cell (p := ⟨w.heap.size, 2, none⟩) (by simp; omega)).trans (by simp), (hW.cell (p := ⟨w.heap.size, 3, none⟩) (by simp; omega)).trans (by simp), (hW.cell (p := ⟨w.heap.size, 4, none⟩) (by simp; omega)).trans (by simp), (hW.cell (p := ⟨w.heap.size, 5, none⟩) (by simp; omega)).trans (by simp), (hW.cell (p := ⟨w.heap.size, 6, none⟩) (by simp; omega)).trans (by simp), (hW.cell (p := ⟨w.heap.size, 7, none⟩) (by simp; omega)).trans (by simp), (hW.cell (p := ⟨w.heap.size + 1, 0, none⟩) (by simp)).trans (by simp), (hW.cell (p := ⟨w.heap.size + 1, 1, none⟩) (by simp)).trans (by simp)⟩, (unhide HG).below h0 (unhide HG).pos, h0⟩
  go_enter Tryd.func7, Tryd.ntmps7
  go_wp2
  generalize hWB : (w.alloc (.cells #[.int .i64 33, .int .i64 0, .string ⟨#[]⟩, .string ⟨#[]⟩, .int .i64 39, .int .i64 0, .string ⟨#[]⟩, .string ⟨#[]⟩] 49)).alloc (.cells #[.int .i64 2, .int .i64 4] 3) = WB at HWB
  have hwz : WB.heap.size = w.heap.size + 2 := by rw [← hWB]; simp
  clear hWB
  go_loopw [5] (fun i wr => ∃ k : Nat, k ≤ len ∧ k ≤ 12 ∧ i = .int .i64 k ∧ Below WB.heap.size WB wr) (fun i _ => 12 - (intOf i).toNat)
  case atStart => exact ⟨0, Nat.zero_le _, by omega, rfl, Below.refl _ _⟩
  case round =>
    obtain ⟨wo, hwo⟩ : ∃ wo, wo = wr := ⟨wr, rfl⟩
    subst hwo
    obtain ⟨k, hk, hk12, rfl, hbel⟩ := hrel
    by_cases hlt : k < len ∧ k < 12
    · obtain ⟨hlt, hlt12⟩ := hlt
      obtain ⟨hc0, hc1, hc2, -, -, hby, hbl, hpl1, hpl2⟩ := (unhide HC) k hlt
      have hbw : b < w.heap.size := cell_lt hc1
      have HAS : Hid (∀ W, Below WB.heap.size WB W → W.cell? ⟨b, off + k * 3 + 1, none⟩ = some (.int .i64 (pl k)) ∧ W.cell? ⟨b, off + k * 3 + 2, none⟩ = some (vb k)) := fun W hW => by
        have := ((unhide HWB) W hW).2.2
        exact ⟨(this.cell (p := ⟨b, off + k * 3 + 1, none⟩) hbw).trans hc1, (this.cell (p := ⟨b, off + k * 3 + 2, none⟩) hbw).trans hc2⟩
      obtain ⟨ao, vc, hvb, -, -⟩ := hby.form
      rw [hvb] at HAS
      generalize (bs k).length = n at hbl HAS
      generalize pl k = p at hpl1 hpl2 HAS
      clear hc0 hc1 hc2 hby hvb
      have HBO := hide hbel
      clear hbel
      have hki : (k : Int) < 12 := by omega
      have hkl : (k : Int) < (len : Int) := by omega
      go_wp2
      go_loopw [6] (fun j wr => ∃ m : Nat, m ≤ 2 ∧ j = .int .i64 m ∧ Below WB.heap.size WB wr) (fun j _ => 2 - (intOf j).toNat)
      case atStart => exact ⟨0, by omega, rfl, unhide HBO⟩
      case round =>
        obtain ⟨wi, hwi⟩ : ∃ wi, wi = wr := ⟨wr, rfl⟩
        subst hwi
        obtain ⟨m, hm, rfl, hbi⟩ := hrel
        have HBI := hide hbi
        obtain ⟨⟨t0, t1, t2, t3, t4, t5, t6, t7, s0, s1⟩, -, -⟩ := (unhide HWB) wi hbi
        obtain ⟨a1, a2⟩ := (unhide HAS) wi hbi
        have hsi := hbi.size
        have hl0 : w.heap.size < wi.heap.size := by omega
        have hl1 : w.heap.size + 1 < wi.heap.size := by omega
        have hl2 : b < wi.heap.size := by omega
        clear hbi
        have hm3 : m = 0 ∨ m = 1 ∨ m = 2 := by omega
        rcases hm3 with rfl | rfl | rfl
        · clear t4 t5 t6 t7 s1
          go_wp2_with fail
          have HBX : Hid (Below WB.heap.size WB (wi.alloc (.cells #[.int .i64 33, .int .i64 0, .string ⟨#[]⟩, .string ⟨#[]⟩] 49)).drew) := ((unhide HBI).alloc hsi _).trans ((below_drew2 _).mono (by simp; omega))
          have ixk : (k : Int) < (len : Int) := by omega
          have ixz : (0 : Int) ≤ (k : Int) := by omega
          refine wp_region_noPanic ?_
          refine wp_region_held_drew (S := (fun w' => w'.cell? ⟨b, off + k * 3 + 1, none⟩ = some (.int .i64 p) ∧ w'.cell? ⟨b, off + k * 3 + 2, none⟩ = some (.slice ao n vc))) (by kernel_rfl) ((unhide HAS) _ (unhide HBX)) (fun hHeld => ?_)
          refine wpAnyH_take (i := 0) (oi := { dst := some 46, op := Op.move (Operand.tmp 0), type := 22, pos := "more.go:33", after := #[], guard := none }) (v := ?v1) rfl (by kernel_rfl) (by kernel_rfl) (by kernel_rfl) (fun _ _ _ h => h) (Or.inl ⟨by rfl, ?hy1⟩) (by assumption) ?rest1
          case hy1 => (intro w hSw; (try dsimp only at hSw); go_simp; (try rw [if_pos (by omega)]); (try with_reducible rfl))
          simp only [Act.put, List.setIfInBounds_toArray, List.set_cons_zero, List.set_cons_succ]
          refine wpAnyH_take (i := 1) (oi := { dst := some 47, op := Op.move (Operand.tmp 5), type := 3, pos := "more.go:33", after := #[], guard := none }) (v := ?v2) rfl (by kernel_rfl) (by kernel_rfl) (by kernel_rfl) (fun _ _ _ h => h) (Or.inl ⟨by rfl, ?hy2⟩) (by assumption) ?rest2
          case hy2 => (intro w hSw; (try dsimp only at hSw); go_simp; (try rw [if_pos (by omega)]); (try with_reducible rfl))
          simp only [Act.put, List.setIfInBounds_toArray, List.set_cons_zero, List.set_cons_succ]
          refine wpAnyH_take (i := 2) (oi := { dst := some 48, op := Op.indexAddr 22 (Operand.tmp 46) (Operand.tmp 47), type := 0, pos := "more.go:33", after := #[{ on := 0, ground := Ground.data }, { on := 1, ground := Ground.data }], guard := none }) (v := ?v3) rfl (by kernel_rfl) (by kernel_rfl) (by kernel_rfl) (fun _ _ _ h => h) (Or.inl ⟨by rfl, ?hy3⟩) (by assumption) ?rest3
          case hy3 => (intro w hSw; (try dsimp only at hSw); go_simp; (try rw [if_pos (by omega)]); (try with_reducible rfl))
          simp only [Act.put, List.setIfInBounds_toArray, List.set_cons_zero, List.set_cons_succ]
          refine wpAnyH_take (i := 3) (oi := { dst := some 49, op := Op.fieldAddr 26 (Operand.tmp 48) 2, type := 0, pos := "more.go:33", after := #[{ on := 2, ground := Ground.data }], guard := none }) (v := ?v4) rfl (by kernel_rfl) (by kernel_rfl) (by kernel_rfl) (fun _ _ _ h => h) (Or.inl ⟨by rfl, ?hy4⟩) (by assumption) ?rest4
          case hy4 => (intro w hSw; (try dsimp only at hSw); go_simp; (try rw [if_pos (by omega)]); (try with_reducible rfl))
          simp only [Act.put, List.setIfInBounds_toArray, List.set_cons_zero, List.set_cons_succ]
          refine wpAnyH_take (i := 4) (oi := { dst := some 50, op := Op.load 24 (Operand.tmp 49), type := 24, pos := "more.go:33", after := #[{ on := 3, ground := Ground.data }], guard := none }) (v := ?v5) rfl (by kernel_rfl) (by kernel_rfl) (by kernel_rfl) (fun _ _ _ h => h) (Or.inl ⟨by rfl, ?hy5⟩) (by assumption) ?rest5
          case hy5 => (intro w hSw; (try dsimp only at hSw); go_simp; (try rw [if_pos (by omega)]); (try with_reducible rfl))
          simp only [Act.put, List.setIfInBounds_toArray, List.set_cons_zero, List.set_cons_succ]
          refine wpAnyH_take (i := 5) (oi := { dst := some 51, op := Op.call { callee := Callee.builtin Builtin.len, args := #[Operand.tmp 50], argTypes := #[24] }, type := 3, pos := "more.go:33", after := #[{ on := 4, ground := Ground.data }], guard := none }) (v := ?v6) rfl (by kernel_rfl) (by kernel_rfl) (by kernel_rfl) (fun _ _ _ h => h) (Or.inl ⟨by rfl, ?hy6⟩) (by assumption) ?rest6
          case hy6 => (intro w hSw; (try dsimp only at hSw); go_simp; (try rw [if_pos (by omega)]); (try with_reducible rfl))
          simp only [Act.put, List.setIfInBounds_toArray, List.set_cons_zero, List.set_cons_succ]
          refine wpAnyH_take (i := 6) (oi := { dst := some 52, op := Op.binOp BinOp.mul 3 (Operand.tmp 51) (Operand.const (Value.int IntKind.i64 7919)) 3, type := 3, pos := "more.go:33", after := #[{ on := 5, ground := Ground.data }], guard := none }) (v := ?v7) rfl (by kernel_rfl) (by kernel_rfl) (by kernel_rfl) (fun _ _ _ h => h) (Or.inl ⟨by rfl, ?hy7⟩) (by assumption) ?rest7
          case hy7 => (intro w hSw; (try dsimp only at hSw); go_simp; (try rw [if_pos (by omega)]); (try with_reducible rfl))
          simp only [Act.put, List.setIfInBounds_toArray, List.set_cons_zero, List.set_cons_succ]
          refine wpAnyH_take (i := 7) (oi := { dst := some 53, op := Op.move (Operand.tmp 0), type := 22, pos := "more.go:33", after := #[], guard := none }) (v := ?v8) rfl (by kernel_rfl) (by kernel_rfl) (by kernel_rfl) (fun _ _ _ h => h) (Or.inl ⟨by rfl, ?hy8⟩) (by assumption) ?rest8
          case hy8 => (intro w hSw; (try dsimp only at hSw); go_simp; (try rw [if_pos (by omega)]); (try with_reducible rfl))
          simp only [Act.put, List.setIfInBounds_toArray, List.set_cons_zero, List.set_cons_succ]
          refine wpAnyH_take (i := 8) (oi := { dst := some 54, op := Op.move (Operand.tmp 5), type := 3, pos := "more.go:33", after := #[], guard := none }) (v := ?v9) rfl (by kernel_rfl) (by kernel_rfl) (by kernel_rfl) (fun _ _ _ h => h) (Or.inl ⟨by rfl, ?hy9⟩) (by assumption) ?rest9
          case hy9 => (intro w hSw; (try dsimp only at hSw); go_simp; (try rw [if_pos (by omega)]); (try with_reducible rfl))
          simp only [Act.put, List.setIfInBounds_toArray, List.set_cons_zero, List.set_cons_succ]
          refine wpAnyH_take (i := 9) (oi := { dst := some 55, op := Op.indexAddr 22 (Operand.tmp 53) (Operand.tmp 54), type := 0, pos := "more.go:33", after := #[{ on := 7, ground := Ground.data }, { on := 8, ground := Ground.data }], guard := none }) (v := ?v10) rfl (by kernel_rfl) (by kernel_rfl) (by kernel_rfl) (fun _ _ _ h => h) (Or.inl ⟨by rfl, ?hy10⟩) (by assumption) ?rest10
          case hy10 => (intro w hSw; (try dsimp only at hSw); go_simp; (try rw [if_pos (by omega)]); (try with_reducible rfl))
          simp only [Act.put, List.setIfInBounds_toArray, List.set_cons_zero, List.set_cons_succ]
          refine wpAnyH_take (i := 10) (oi := { dst := some 56, op := Op.fieldAddr 26 (Operand.tmp 55) 1, type := 0, pos := "more.go:33", after := #[{ on := 9, ground := Ground.data }], guard := none }) (v := ?v11) rfl (by kernel_rfl) (by kernel_rfl) (by kernel_rfl) (fun _ _ _ h => h) (Or.inl ⟨by rfl, ?hy11⟩) (by assumption) ?rest11
          case hy11 => (intro w hSw; (try dsimp only at hSw); go_simp; (try rw [if_pos (by omega)]); (try with_reducible rfl))
          simp only [Act.put, List.setIfInBounds_toArray, List.set_cons_zero, List.set_cons_succ]
          refine wpAnyH_take (i := 11) (oi := { dst := some 57, op := Op.load 3 (Operand.tmp 56), type := 3, pos := "more.go:33", after := #[{ on := 10, ground := Ground.data }], guard := none }) (v := ?v12) rfl (by kernel_rfl) (by kernel_rfl) (by kernel_rfl) (fun _ _ _ h => h) (Or.inl ⟨by rfl, ?hy12⟩) (by assumption) ?rest12
          case hy12 => (intro w hSw; (try dsimp only at hSw); go_simp; (try rw [if_pos (by omega)]); (try with_reducible rfl))
          simp only [Act.put, List.setIfInBounds_toArray, List.set_cons_zero, List.set_cons_succ]
          refine wpAnyH_take (i := 12) (oi := { dst := some 58, op := Op.binOp BinOp.add 3 (Operand.tmp 52) (Operand.tmp 57) 3, type := 3, pos := "more.go:33", after := #[{ on := 6, ground := Ground.data }, { on := 11, ground := Ground.data }], guard := none }) (v := ?v13) rfl (by kernel_rfl) (by kernel_rfl) (by kernel_rfl) (fun _ _ _ h => h) (Or.inl ⟨by rfl, ?hy13⟩) (by assumption) ?rest13
          case hy13 => (intro w hSw; (try dsimp only at hSw); go_simp; (try rw [if_pos (by omega)]); (try with_reducible rfl))
          simp only [Act.put, List.setIfInBounds_toArray, List.set_cons_zero, List.set_cons_succ]
          refine wpAnyH_take (i := 13) (oi := { dst := some 59, op := Op.convert 3 51 (Operand.tmp 58), type := 51, pos := "more.go:33", after := #[{ on := 12, ground := Ground.data }], guard := none }) (v := ?v14) rfl (by kernel_rfl) (by kernel_rfl) (by kernel_rfl) (fun _ _ _ h => h) (Or.inl ⟨by rfl, ?hy14⟩) (by assumption) ?rest14
          case hy14 => (intro w hSw; (try dsimp only at hSw); go_simp; (try rw [if_pos (by omega)]); (try with_reducible rfl))
          simp only [Act.put, List.setIfInBounds_toArray, List.set_cons_zero, List.set_cons_succ]
          refine wpAnyH_take (i := 14) (oi := { dst := some 60, op := Op.move (Operand.tmp 8), type := 3, pos := "more.go:33", after := #[], guard := none }) (v := ?v15) rfl (by kernel_rfl) (by kernel_rfl) (by kernel_rfl) (fun _ _ _ h => h) (Or.inl ⟨by rfl, ?hy15⟩) (by assumption) ?rest15
          case hy15 => (intro w hSw; (try dsimp only at hSw); go_simp; (try rw [if_pos (by omega)]); (try with_reducible rfl))
          simp only [Act.put, List.setIfInBounds_toArray, List.set_cons_zero, List.set_cons_succ]
          refine wpAnyH_take (i := 15) (oi := { dst := some 61, op := Op.convert 3 51 (Operand.tmp 60), type := 51, pos := "more.go:33", after := #[{ on := 14, ground := Ground.data }], guard := none }) (v := ?v16) rfl (by kernel_rfl) (by kernel_rfl) (by kernel_rfl) (fun _ _ _ h => h) (Or.inl ⟨by rfl, ?hy16⟩) (by assumption) ?rest16
          case hy16 => (intro w hSw; (try dsimp only at hSw); go_simp; (try rw [if_pos (by omega)]); (try with_reducible rfl))
          simp only [Act.put, List.setIfInBounds_toArray, List.set_cons_zero, List.set_cons_succ]
          refine wpAnyH_take (i := 16) (oi := { dst := some 62, op := Op.binOp BinOp.rem 51 (Operand.tmp 59) (Operand.tmp 61) 51, type := 51, pos := "more.go:33", after := #[{ on := 13, ground := Ground.data }, { on := 15, ground := Ground.data }], guard := none }) (v := ?v17) rfl (by kernel_rfl) (by kernel_rfl) (by kernel_rfl) (fun _ _ _ h => h) (Or.inl ⟨by rfl, ?hy17⟩) (by assumption) ?rest17
          case hy17 => (intro w hSw; (try dsimp only at hSw); go_simp; rw [if_neg (by decide)]; (try with_reducible rfl))
          simp only [Act.put, List.setIfInBounds_toArray, List.set_cons_zero, List.set_cons_succ]
          refine wpAnyH_take (i := 17) (oi := { dst := some 63, op := Op.convert 51 3 (Operand.tmp 62), type := 3, pos := "more.go:33", after := #[{ on := 16, ground := Ground.data }], guard := none }) (v := ?v18) rfl (by kernel_rfl) (by kernel_rfl) (by kernel_rfl) (fun _ _ _ h => h) (Or.inl ⟨by rfl, ?hy18⟩) (by assumption) ?rest18
          case hy18 => (intro w hSw; (try dsimp only at hSw); go_simp; (try rw [if_pos (by omega)]); (try with_reducible rfl))
          simp only [Act.put, List.setIfInBounds_toArray, List.set_cons_zero, List.set_cons_succ]
          refine wpAnyH_take (i := 18) (oi := { dst := some 64, op := Op.binOp BinOp.add 3 (Operand.const (Value.int IntKind.i64 1)) (Operand.tmp 63) 3, type := 3, pos := "more.go:33", after := #[{ on := 17, ground := Ground.data }], guard := none }) (v := ?v19) rfl (by kernel_rfl) (by kernel_rfl) (by kernel_rfl) (fun _ _ _ h => h) (Or.inl ⟨by rfl, ?hy19⟩) (by assumption) ?rest19
          case hy19 => (intro w hSw; (try dsimp only at hSw); go_simp; (try rw [if_pos (by omega)]); (try with_reducible rfl))
          simp only [Act.put, List.setIfInBounds_toArray, List.set_cons_zero, List.set_cons_succ]
          refine wpAnyH_take (i := 19) (oi := { dst := some 65, op := Op.fieldAddr 49 (Operand.tmp 7) 1, type := 0, pos := "more.go:33", after := #[{ on := 0, ground := Ground.phase }, { on := 1, ground := Ground.phase }, { on := 2, ground := Ground.phase }, { on := 3, ground := Ground.phase }, { on := 4, ground := Ground.phase }, { on := 5, ground := Ground.phase }, { on := 6, ground := Ground.phase }, { on := 7, ground := Ground.phase }, { on := 8, ground := Ground.phase }, { on := 9, ground := Ground.phase }, { on := 10, ground := Ground.phase }, { on := 11, ground := Ground.phase }, { on := 12, ground := Ground.phase }, { on := 13, ground := Ground.phase }, { on := 14, ground := Ground.phase }, { on := 15, ground := Ground.phase }, { on := 16, ground := Ground.phase }, { on := 17, ground := Ground.phase }, { on := 18, ground := Ground.phase }], guard := none }) (v := ?v20) rfl (by kernel_rfl) (by kernel_rfl) (by kernel_rfl) (fun _ _ _ h => h) (Or.inl ⟨by rfl, ?hy20⟩) (by assumption) ?rest20
          case hy20 => (intro w hSw; (try dsimp only at hSw); go_simp; (try rw [if_pos (by omega)]); (try with_reducible rfl))
          simp only [Act.put, List.setIfInBounds_toArray, List.set_cons_zero, List.set_cons_succ]
          refine wpAnyH_ready (rs := [20]) (by kernel_rfl) (by simp) ?_
          refine AllReadyH.cons (o := { dst := none, op := Op.store 3 (Operand.tmp 65) (Operand.tmp 64), type := 0, pos := "more.go:33", after := #[{ on := 19, ground := Ground.data }, { on := 18, ground := Ground.data }, { on := 0, ground := Ground.phase }, { on := 1, ground := Ground.phase }, { on := 2, ground := Ground.phase }, { on := 3, ground := Ground.phase }, { on := 4, ground := Ground.phase }, { on := 5, ground := Ground.phase }, { on := 6, ground := Ground.phase }, { on := 7, ground := Ground.phase }, { on := 8, ground := Ground.phase }, { on := 9, ground := Ground.phase }, { on := 10, ground := Ground.phase }, { on := 11, ground := Ground.phase }, { on := 12, ground := Ground.phase }, { on := 13, ground := Ground.phase }, { on := 14, ground := Ground.phase }, { on := 15, ground := Ground.phase }, { on := 16, ground := Ground.phase }, { on := 17, ground := Ground.phase }, { on := 18, ground := Ground.phase }], guard := none }) rfl (fun K hK => ?_) AllReadyH.nil
          go_simp
          have hX := pick_num (IntKind.i64.wrap (IntKind.i64.wrap ((n : Int) * 7919) + p)) 65535 (by omega)
          generalize IntKind.i64.wrap (1 + IntKind.i64.wrap ((IntKind.u64.wrap (IntKind.i64.wrap (IntKind.i64.wrap ((n : Int) * 7919) + p))).tmod (IntKind.u64.wrap 65535))) = X at hX ⊢
          have HB2 : Hid (Below WB.heap.size WB (wi.alloc (.cells #[.int .i64 33, .int .i64 X, .string ⟨#[]⟩, .string ⟨#[]⟩] 49)).drew) := ((unhide HBI).alloc hsi _).trans ((below_drew2 _).mono (by simp; omega))
          refine hK.out _ _ ((unhide HAS) _ (unhide HB2)) (fun hHeld => ?_)
          clear hK K
          refine wpAnyH_done (by kernel_rfl) ?_ _
          refine NoPanic.normal ?_
          have p0 : (wi.alloc (.cells #[.int .i64 33, .int .i64 X, .string ⟨#[]⟩, .string ⟨#[]⟩] 49)).drew.cell? ⟨wi.heap.size, 0, none⟩ = some (.int .i64 33) := by simp
          have q0 : (wi.alloc (.cells #[.int .i64 33, .int .i64 X, .string ⟨#[]⟩, .string ⟨#[]⟩] 49)).drew.frozen? ⟨wi.heap.size, 0, none⟩ = false := by simp
          have p1 : (wi.alloc (.cells #[.int .i64 33, .int .i64 X, .string ⟨#[]⟩, .string ⟨#[]⟩] 49)).drew.cell? ⟨wi.heap.size, 1, none⟩ = some (.int .i64 X) := by simp
          have q1 : (wi.alloc (.cells #[.int .i64 33, .int .i64 X, .string ⟨#[]⟩, .string ⟨#[]⟩] 49)).drew.frozen? ⟨wi.heap.size, 1, none⟩ = false := by simp
          have p2 : (wi.alloc (.cells #[.int .i64 33, .int .i64 X, .string ⟨#[]⟩, .string ⟨#[]⟩] 49)).drew.cell? ⟨wi.heap.size, 2, none⟩ = some (.string ⟨#[]⟩) := by simp
          have q2 : (wi.alloc (.cells #[.int .i64 33, .int .i64 X, .string ⟨#[]⟩, .string ⟨#[]⟩] 49)).drew.frozen? ⟨wi.heap.size, 2, none⟩ = false := by simp
          have p3 : (wi.alloc (.cells #[.int .i64 33, .int .i64 X, .string ⟨#[]⟩, .string ⟨#[]⟩] 49)).drew.cell? ⟨wi.heap.size, 3, none⟩ = some (.string ⟨#[]⟩) := by simp
          have q3 : (wi.alloc (.cells #[.int .i64 33, .int .i64 X, .string ⟨#[]⟩, .string ⟨#[]⟩] 49)).drew.frozen? ⟨wi.heap.size, 3, none⟩ = false := by simp
          generalize (wi.alloc (.cells #[.int .i64 33, .int .i64 X, .string ⟨#[]⟩, .string ⟨#[]⟩] 49)).drew = w2 at HB2 p0 p1 p2 p3 q0 q1 q2 q3 ⊢
          clear hHeld HBX t0 t1 t2 t3 a1 a2 s0
          have HPUT := hide (fun W => put_any _ [(33, X, es, es)] 1 (W.alloc (.cells #[.int .i64 33, .int .i64 X, .string ⟨#[]⟩, .string ⟨#[]⟩] 49)) (prp_lit1 W _ _ _ _ 1 _) (by simp) (small_lit1 _ _ _ _ es_small es_small))
          rw [num_pbz2 X hX, num_chk 33 X (by omega)] at HPUT
          go_wp2_with fail
          refine ((unhide HPUT) w2).mono ?_
          rintro e w3 ⟨v3, E, rfl, hy3, hE3, hb3⟩
          obtain ⟨g, o, bc, hv3, hbc1, hbc2, hcl⟩ := byt_cells (unhide hy3) (by simp)
          have hv3 : v3 = .slice (some ⟨g, o, none⟩) 4 bc := hv3
          subst hv3
          unfold maxLen at hbc2
          have y0 : w3.cell? ⟨g, o + 0, none⟩ = some (.int .u8 (3)) := hcl 0 (by simp)
          have y1 : w3.cell? ⟨g, o + 1, none⟩ = some (.int .u8 (33)) := hcl 1 (by simp)
          have y2 : w3.cell? ⟨g, o + 2, none⟩ = some (.int .u8 (X / 256)) := hcl 2 (by simp)
          have y3 : w3.cell? ⟨g, o + 3, none⟩ = some (.int .u8 (X % 256)) := hcl 3 (by simp)
          rw [Nat.add_zero] at y0
          have HXx : Hid (Below w2.heap.size w2 w3) := ((Below.refl _ _).alloc (Nat.le_refl _) _).trans (hb3.mono (by simp))
          clear hb3 hcl HPUT hy3
          have hBl : wi.heap.size < w2.heap.size := cell_lt p0
          have P0 := ((unhide HXx).cell (p := ⟨wi.heap.size, 0, none⟩) hBl).trans p0
          have Q0 := ((unhide HXx).frozen (p := ⟨wi.heap.size, 0, none⟩) hBl).trans q0
          have P1 := ((unhide HXx).cell (p := ⟨wi.heap.size, 1, none⟩) hBl).trans p1
          have Q1 := ((unhide HXx).frozen (p := ⟨wi.heap.size, 1, none⟩) hBl).trans q1
          have P2 := ((unhide HXx).cell (p := ⟨wi.heap.size, 2, none⟩) hBl).trans p2
          have Q2 := ((unhide HXx).frozen (p := ⟨wi.heap.size, 2, none⟩) hBl).trans q2
          have P3 := ((unhide HXx).cell (p := ⟨wi.heap.size, 3, none⟩) hBl).trans p3
          have Q3 := ((unhide HXx).frozen (p := ⟨wi.heap.size, 3, none⟩) hBl).trans q3
          have HB3 : Hid (Below WB.heap.size WB w3) := (unhide HB2).trans ((unhide HXx).mono (unhide HB2).size)
          clear p0 p1 p2 p3 q0 q1 q2 q3 HXx HB2
          have z3 : w3.cell? ⟨w.heap.size + 1, 0, none⟩ = some (.int .i64 2) := ((unhide HWB) _ (unhide HB3)).1.2.2.2.2.2.2.2.2.1
          have HS3 : Hid (∀ W, Below w3.heap.size w3 W → W.cell? ⟨w.heap.size + 1, 0, none⟩ = some (.int .i64 2) ∧ W.cell? ⟨wi.heap.size, 0, none⟩ = some (.int .i64 33) ∧ W.cell? ⟨g, o, none⟩ = some (.int .u8 3) ∧ W.cell? ⟨g, o + 1, none⟩ = some (.int .u8 33)) := fun W hW => ⟨(hW.cell (p := ⟨w.heap.size + 1, 0, none⟩) (cell_lt z3)).trans z3, (hW.cell (p := ⟨wi.heap.size, 0, none⟩) (cell_lt P0)).trans P0, (hW.cell (p := ⟨g, o, none⟩) (cell_lt y0)).trans y0, (hW.cell (p := ⟨g, o + 1, none⟩) (cell_lt y1)).trans y1⟩
          have HG3 : Hid (Laid w3.drew) := ((unhide HWB) _ ((unhide HB3).trans ((below_drew2 w3).mono (unhide HB3).size))).2.1
          have hE3d : Hid (ErrP w3.drew E 0) := (unhide hE3).below (below_drew2 w3)
          go_wp2_with fail
          refine wp_region_noPanic ?_
          refine wp_region_held_drew (S := (fun w' => w'.cell? ⟨w.heap.size + 1, 0, none⟩ = some (.int .i64 2) ∧ w'.cell? ⟨wi.heap.size, 0, none⟩ = some (.int .i64 33) ∧ w'.cell? ⟨g, o, none⟩ = some (.int .u8 3) ∧ w'.cell? ⟨g, o + 1, none⟩ = some (.int .u8 33))) (by kernel_rfl) ((unhide HS3) _ (below_drew2 w3)) (fun hHeld => ?_)
          refine wpAnyH_take (i := 0) (oi := { dst := some 72, op := Op.move (Operand.tmp 10), type := 33, pos := "more.go:35", after := #[], guard := none }) (v := ?v21) rfl (by kernel_rfl) (by kernel_rfl) (by kernel_rfl) (fun _ _ _ h => h) (Or.inl ⟨by rfl, ?hy21⟩) (by assumption) ?rest21
          case hy21 => (intro w hSw; (try dsimp only at hSw); go_simp; (try rw [if_pos (by omega)]); (try with_reducible rfl))
          simp only [Act.put, List.setIfInBounds_toArray, List.set_cons_zero, List.set_cons_succ]
          refine wpAnyH_ready (rs := [1]) (by kernel_rfl) (by simp) ?_
          refine AllReadyH.cons (o := { dst := some 73, op := Op.call { callee := Callee.value (Operand.func 15), args := #[Operand.tmp 72], argTypes := #[33] }, type := 3, pos := "more.go:35", after := #[{ on := 0, ground := Ground.data }], guard := none }) rfl (fun K hK => ?_) AllReadyH.nil
          go_simp
          refine (numlp E 0 w3.drew (unhide HG3) (unhide hE3d)).mono ?_
          rintro e w4 ⟨rfl, hb4⟩
          have HX4 : Hid (Below w3.heap.size w3 w4) := below_undrew1 hb4
          clear hb4
          refine hK.out _ _ ((unhide HS3) _ (unhide HX4)) (fun hHeld => ?_)
          clear hK K
          refine wpAnyH_take (i := 2) (oi := { dst := some 74, op := Op.binOp BinOp.neq 3 (Operand.tmp 73) (Operand.const (Value.int IntKind.i64 0)) 3, type := 4, pos := "more.go:35", after := #[{ on := 1, ground := Ground.data }], guard := none }) (v := ?v22) rfl (by kernel_rfl) (by kernel_rfl) (by kernel_rfl) (fun _ _ _ h => h) (Or.inl ⟨by rfl, ?hy22⟩) (by assumption) ?rest22
          case hy22 => (intro w hSw; (try dsimp only at hSw); go_simp; (try rw [if_pos (by omega)]); (try with_reducible rfl))
          simp only [Act.put, List.setIfInBounds_toArray, List.set_cons_zero, List.set_cons_succ]
          refine wpAnyH_take (i := 3) (oi := { dst := some 75, op := Op.move (Operand.tmp 74), type := 4, pos := "more.go:35", after := #[{ on := 2, ground := Ground.data }, { on := 1, ground := Ground.chain }], guard := none }) (v := ?v23) rfl (by kernel_rfl) (by kernel_rfl) (by kernel_rfl) (fun _ _ _ h => h) (Or.inl ⟨by rfl, ?hy23⟩) (by assumption) ?rest23
          case hy23 => (intro w hSw; (try dsimp only at hSw); go_simp; (try rw [if_pos (by omega)]); (try with_reducible rfl))
          simp only [Act.put, List.setIfInBounds_toArray, List.set_cons_zero, List.set_cons_succ]
          refine wpAnyH_take (i := 4) (oi := { dst := some 76, op := Op.move (Operand.tmp 9), type := 24, pos := "more.go:35", after := #[{ on := 3, ground := Ground.guard }], guard := some (3, false) }) (v := ?v24) rfl (by kernel_rfl) (by kernel_rfl) (by kernel_rfl) (fun _ _ _ h => h) (Or.inl ⟨by rfl, ?hy24⟩) (by assumption) ?rest24
          case hy24 => (intro w hSw; (try dsimp only at hSw); go_simp; (try rw [if_pos (by omega)]); (try with_reducible rfl))
          simp only [Act.put, List.setIfInBounds_toArray, List.set_cons_zero, List.set_cons_succ]
          refine wpAnyH_take (i := 5) (oi := { dst := some 77, op := Op.call { callee := Callee.builtin Builtin.len, args := #[Operand.tmp 76], argTypes := #[24] }, type := 3, pos := "more.go:35", after := #[{ on := 4, ground := Ground.data }, { on := 3, ground := Ground.guard }], guard := some (3, false) }) (v := ?v25) rfl (by kernel_rfl) (by kernel_rfl) (by kernel_rfl) (fun _ _ _ h => h) (Or.inl ⟨by rfl, ?hy25⟩) (by assumption) ?rest25
          case hy25 => (intro w hSw; (try dsimp only at hSw); go_simp; (try rw [if_pos (by omega)]); (try with_reducible rfl))
          simp only [Act.put, List.setIfInBounds_toArray, List.set_cons_zero, List.set_cons_succ]
          refine wpAnyH_take (i := 6) (oi := { dst := some 78, op := Op.move (Operand.tmp 4), type := 50, pos := "more.go:35", after := #[{ on := 3, ground := Ground.guard }], guard := some (3, false) }) (v := ?v26) rfl (by kernel_rfl) (by kernel_rfl) (by kernel_rfl) (fun _ _ _ h => h) (Or.inl ⟨by rfl, ?hy26⟩) (by assumption) ?rest26
          case hy26 => (intro w hSw; (try dsimp only at hSw); go_simp; (try rw [if_pos (by omega)]); (try with_reducible rfl))
          simp only [Act.put, List.setIfInBounds_toArray, List.set_cons_zero, List.set_cons_succ]
          refine wpAnyH_take (i := 7) (oi := { dst := some 79, op := Op.move (Operand.tmp 6), type := 3, pos := "more.go:35", after := #[{ on := 3, ground := Ground.guard }], guard := some (3, false) }) (v := ?v27) rfl (by kernel_rfl) (by kernel_rfl) (by kernel_rfl) (fun _ _ _ h => h) (Or.inl ⟨by rfl, ?hy27⟩) (by assumption) ?rest27
          case hy27 => (intro w hSw; (try dsimp only at hSw); go_simp; (try rw [if_pos (by omega)]); (try with_reducible rfl))
          simp only [Act.put, List.setIfInBounds_toArray, List.set_cons_zero, List.set_cons_succ]
          refine wpAnyH_take (i := 8) (oi := { dst := some 80, op := Op.indexAddr 50 (Operand.tmp 78) (Operand.tmp 79), type := 0, pos := "more.go:35", after := #[{ on := 6, ground := Ground.data }, { on := 7, ground := Ground.data }, { on := 3, ground := Ground.guard }], guard := some (3, false) }) (v := ?v28) rfl (by kernel_rfl) (by kernel_rfl) (by kernel_rfl) (fun _ _ _ h => h) (Or.inl ⟨by rfl, ?hy28⟩) (by assumption) ?rest28
          case hy28 => (intro w hSw; (try dsimp only at hSw); go_simp; (try rw [if_pos (by omega)]); (try with_reducible rfl))
          simp only [Act.put, List.setIfInBounds_toArray, List.set_cons_zero, List.set_cons_succ]
          refine wpAnyH_take (i := 9) (oi := { dst := some 81, op := Op.load 3 (Operand.tmp 80), type := 3, pos := "more.go:35", after := #[{ on := 8, ground := Ground.data }, { on := 3, ground := Ground.guard }], guard := some (3, false) }) (v := ?v29) rfl (by kernel_rfl) (by kernel_rfl) (by kernel_rfl) (fun _ _ _ h => h) (Or.inl ⟨by rfl, ?hy29⟩) (by assumption) ?rest29
          case hy29 => (intro w hSw; (try dsimp only at hSw); go_simp; (try rw [if_pos (by omega)]); (try with_reducible rfl))
          simp only [Act.put, List.setIfInBounds_toArray, List.set_cons_zero, List.set_cons_succ]
          refine wpAnyH_take (i := 10) (oi := { dst := some 82, op := Op.binOp BinOp.add 3 (Operand.const (Value.int IntKind.i64 2)) (Operand.tmp 81) 3, type := 3, pos := "more.go:35", after := #[{ on := 9, ground := Ground.data }, { on := 3, ground := Ground.guard }], guard := some (3, false) }) (v := ?v30) rfl (by kernel_rfl) (by kernel_rfl) (by kernel_rfl) (fun _ _ _ h => h) (Or.inl ⟨by rfl, ?hy30⟩) (by assumption) ?rest30
          case hy30 => (intro w hSw; (try dsimp only at hSw); go_simp; (try rw [if_pos (by omega)]); (try with_reducible rfl))
          simp only [Act.put, List.setIfInBounds_toArray, List.set_cons_zero, List.set_cons_succ]
          refine wpAnyH_take (i := 11) (oi := { dst := some 83, op := Op.binOp BinOp.neq 3 (Operand.tmp 77) (Operand.tmp 82) 3, type := 4, pos := "more.go:35", after := #[{ on := 5, ground := Ground.data }, { on := 10, ground := Ground.data }, { on := 3, ground := Ground.guard }], guard := some (3, false) }) (v := ?v31) rfl (by kernel_rfl) (by kernel_rfl) (by kernel_rfl) (fun _ _ _ h => h) (Or.inl ⟨by rfl, ?hy31⟩) (by assumption) ?rest31
          case hy31 => (intro w hSw; (try dsimp only at hSw); go_simp; (try rw [if_pos (by omega)]); (try with_reducible rfl))
          simp only [Act.put, List.setIfInBounds_toArray, List.set_cons_zero, List.set_cons_succ]
          refine wpAnyH_take (i := 12) (oi := { dst := some 84, op := Op.pick (Operand.tmp 75) (Operand.const (Value.bool true)) (Operand.tmp 83), type := 4, pos := "more.go:35", after := #[{ on := 3, ground := Ground.data }, { on := 11, ground := Ground.data }], guard := none }) (v := ?v32) rfl (by kernel_rfl) (by kernel_rfl) (by kernel_rfl) (fun _ _ _ h => h) (Or.inl ⟨by rfl, ?hy32⟩) (by assumption) ?rest32
          case hy32 => (intro w hSw; (try dsimp only at hSw); go_simp; (try rw [if_pos (by omega)]); (try with_reducible rfl))
          simp only [Act.put, List.setIfInBounds_toArray, List.set_cons_zero, List.set_cons_succ]
          refine wpAnyH_take (i := 13) (oi := { dst := some 85, op := Op.move (Operand.tmp 84), type := 4, pos := "more.go:35", after := #[{ on := 12, ground := Ground.data }, { on := 3, ground := Ground.chain }], guard := none }) (v := ?v33) rfl (by kernel_rfl) (by kernel_rfl) (by kernel_rfl) (fun _ _ _ h => h) (Or.inl ⟨by rfl, ?hy33⟩) (by assumption) ?rest33
          case hy33 => (intro w hSw; (try dsimp only at hSw); go_simp; (try rw [if_pos (by omega)]); (try with_reducible rfl))
          simp only [Act.put, List.setIfInBounds_toArray, List.set_cons_zero, List.set_cons_succ]
          refine wpAnyH_take (i := 14) (oi := { dst := some 86, op := Op.move (Operand.tmp 9), type := 24, pos := "more.go:35", after := #[{ on := 13, ground := Ground.guard }], guard := some (13, false) }) (v := ?v34) rfl (by kernel_rfl) (by kernel_rfl) (by kernel_rfl) (fun _ _ _ h => h) (Or.inl ⟨by rfl, ?hy34⟩) (by assumption) ?rest34
          case hy34 => (intro w hSw; (try dsimp only at hSw); go_simp; (try rw [if_pos (by omega)]); (try with_reducible rfl))
          simp only [Act.put, List.setIfInBounds_toArray, List.set_cons_zero, List.set_cons_succ]
          refine wpAnyH_take (i := 15) (oi := { dst := some 87, op := Op.indexAddr 24 (Operand.tmp 86) (Operand.const (Value.int IntKind.i64 0)), type := 0, pos := "more.go:35", after := #[{ on := 14, ground := Ground.data }, { on := 13, ground := Ground.guard }], guard := some (13, false) }) (v := ?v35) rfl (by kernel_rfl) (by kernel_rfl) (by kernel_rfl) (fun _ _ _ h => h) (Or.inl ⟨by rfl, ?hy35⟩) (by assumption) ?rest35
          case hy35 => (intro w hSw; (try dsimp only at hSw); go_simp; (try rw [if_pos (by omega)]); (try with_reducible rfl))
          simp only [Act.put, List.setIfInBounds_toArray, List.set_cons_zero, List.set_cons_succ]
          refine wpAnyH_take (i := 16) (oi := { dst := some 88, op := Op.load 5 (Operand.tmp 87), type := 5, pos := "more.go:35", after := #[{ on := 15, ground := Ground.data }, { on := 13, ground := Ground.guard }], guard := some (13, false) }) (v := ?v36) rfl (by kernel_rfl) (by kernel_rfl) (by kernel_rfl) (fun _ _ _ h => h) (Or.inl ⟨by rfl, ?hy36⟩) (by assumption) ?rest36
          case hy36 => (intro w hSw; (try dsimp only at hSw); go_simp; (try rw [if_pos (by omega)]); (try with_reducible rfl))
          simp only [Act.put, List.setIfInBounds_toArray, List.set_cons_zero, List.set_cons_succ]
          refine wpAnyH_take (i := 17) (oi := { dst := some 89, op := Op.convert 5 3 (Operand.tmp 88), type := 3, pos := "more.go:35", after := #[{ on := 16, ground := Ground.data }, { on := 13, ground := Ground.guard }], guard := some (13, false) }) (v := ?v37) rfl (by kernel_rfl) (by kernel_rfl) (by kernel_rfl) (fun _ _ _ h => h) (Or.inl ⟨by rfl, ?hy37⟩) (by assumption) ?rest37
          case hy37 => (intro w hSw; (try dsimp only at hSw); go_simp; (try rw [if_pos (by omega)]); (try with_reducible rfl))
          simp only [Act.put, List.setIfInBounds_toArray, List.set_cons_zero, List.set_cons_succ]
          refine wpAnyH_take (i := 18) (oi := { dst := some 90, op := Op.move (Operand.tmp 4), type := 50, pos := "more.go:35", after := #[{ on := 13, ground := Ground.guard }], guard := some (13, false) }) (v := ?v38) rfl (by kernel_rfl) (by kernel_rfl) (by kernel_rfl) (fun _ _ _ h => h) (Or.inl ⟨by rfl, ?hy38⟩) (by assumption) ?rest38
          case hy38 => (intro w hSw; (try dsimp only at hSw); go_simp; (try rw [if_pos (by omega)]); (try with_reducible rfl))
          simp only [Act.put, List.setIfInBounds_toArray, List.set_cons_zero, List.set_cons_succ]
          refine wpAnyH_take (i := 19) (oi := { dst := some 91, op := Op.move (Operand.tmp 6), type := 3, pos := "more.go:35", after := #[{ on := 13, ground := Ground.guard }], guard := some (13, false) }) (v := ?v39) rfl (by kernel_rfl) (by kernel_rfl) (by kernel_rfl) (fun _ _ _ h => h) (Or.inl ⟨by rfl, ?hy39⟩) (by assumption) ?rest39
          case hy39 => (intro w hSw; (try dsimp only at hSw); go_simp; (try rw [if_pos (by omega)]); (try with_reducible rfl))
          simp only [Act.put, List.setIfInBounds_toArray, List.set_cons_zero, List.set_cons_succ]
          refine wpAnyH_take (i := 20) (oi := { dst := some 92, op := Op.indexAddr 50 (Operand.tmp 90) (Operand.tmp 91), type := 0, pos := "more.go:35", after := #[{ on := 18, ground := Ground.data }, { on := 19, ground := Ground.data }, { on := 13, ground := Ground.guard }], guard := some (13, false) }) (v := ?v40) rfl (by kernel_rfl) (by kernel_rfl) (by kernel_rfl) (fun _ _ _ h => h) (Or.inl ⟨by rfl, ?hy40⟩) (by assumption) ?rest40
          case hy40 => (intro w hSw; (try dsimp only at hSw); go_simp; (try rw [if_pos (by omega)]); (try with_reducible rfl))
          simp only [Act.put, List.setIfInBounds_toArray, List.set_cons_zero, List.set_cons_succ]
          refine wpAnyH_take (i := 21) (oi := { dst := some 93, op := Op.load 3 (Operand.tmp 92), type := 3, pos := "more.go:35", after := #[{ on := 20, ground := Ground.data }, { on := 13, ground := Ground.guard }], guard := some (13, false) }) (v := ?v41) rfl (by kernel_rfl) (by kernel_rfl) (by kernel_rfl) (fun _ _ _ h => h) (Or.inl ⟨by rfl, ?hy41⟩) (by assumption) ?rest41
          case hy41 => (intro w hSw; (try dsimp only at hSw); go_simp; (try rw [if_pos (by omega)]); (try with_reducible rfl))
          simp only [Act.put, List.setIfInBounds_toArray, List.set_cons_zero, List.set_cons_succ]
          refine wpAnyH_take (i := 22) (oi := { dst := some 94, op := Op.binOp BinOp.add 3 (Operand.const (Value.int IntKind.i64 1)) (Operand.tmp 93) 3, type := 3, pos := "more.go:35", after := #[{ on := 21, ground := Ground.data }, { on := 13, ground := Ground.guard }], guard := some (13, false) }) (v := ?v42) rfl (by kernel_rfl) (by kernel_rfl) (by kernel_rfl) (fun _ _ _ h => h) (Or.inl ⟨by rfl, ?hy42⟩) (by assumption) ?rest42
          case hy42 => (intro w hSw; (try dsimp only at hSw); go_simp; (try rw [if_pos (by omega)]); (try with_reducible rfl))
          simp only [Act.put, List.setIfInBounds_toArray, List.set_cons_zero, List.set_cons_succ]
          refine wpAnyH_take (i := 23) (oi := { dst := some 95, op := Op.binOp BinOp.neq 3 (Operand.tmp 89) (Operand.tmp 94) 3, type := 4, pos := "more.go:35", after := #[{ on := 17, ground := Ground.data }, { on := 22, ground := Ground.data }, { on := 13, ground := Ground.guard }], guard := some (13, false) }) (v := ?v43) rfl (by kernel_rfl) (by kernel_rfl) (by kernel_rfl) (fun _ _ _ h => h) (Or.inl ⟨by rfl, ?hy43⟩) (by assumption) ?rest43
          case hy43 => (intro w hSw; (try dsimp only at hSw); go_simp; (try rw [if_pos (by omega)]); (try with_reducible rfl))
          simp only [Act.put, List.setIfInBounds_toArray, List.set_cons_zero, List.set_cons_succ]
          refine wpAnyH_take (i := 24) (oi := { dst := some 96, op := Op.pick (Operand.tmp 85) (Operand.const (Value.bool true)) (Operand.tmp 95), type := 4, pos := "more.go:35", after := #[{ on := 13, ground := Ground.data }, { on := 23, ground := Ground.data }], guard := none }) (v := ?v44) rfl (by kernel_rfl) (by kernel_rfl) (by kernel_rfl) (fun _ _ _ h => h) (Or.inl ⟨by rfl, ?hy44⟩) (by assumption) ?rest44
          case hy44 => (intro w hSw; (try dsimp only at hSw); go_simp; (try rw [if_pos (by omega)]); (try with_reducible rfl))
          simp only [Act.put, List.setIfInBounds_toArray, List.set_cons_zero, List.set_cons_succ]
          refine wpAnyH_take (i := 25) (oi := { dst := some 97, op := Op.move (Operand.tmp 96), type := 4, pos := "more.go:35", after := #[{ on := 24, ground := Ground.data }, { on := 13, ground := Ground.chain }], guard := none }) (v := ?v45) rfl (by kernel_rfl) (by kernel_rfl) (by kernel_rfl) (fun _ _ _ h => h) (Or.inl ⟨by rfl, ?hy45⟩) (by assumption) ?rest45
          case hy45 => (intro w hSw; (try dsimp only at hSw); go_simp; (try rw [if_pos (by omega)]); (try with_reducible rfl))
          simp only [Act.put, List.setIfInBounds_toArray, List.set_cons_zero, List.set_cons_succ]
          refine wpAnyH_take (i := 26) (oi := { dst := some 98, op := Op.move (Operand.tmp 9), type := 24, pos := "more.go:35", after := #[{ on := 25, ground := Ground.guard }], guard := some (25, false) }) (v := ?v46) rfl (by kernel_rfl) (by kernel_rfl) (by kernel_rfl) (fun _ _ _ h => h) (Or.inl ⟨by rfl, ?hy46⟩) (by assumption) ?rest46
          case hy46 => (intro w hSw; (try dsimp only at hSw); go_simp; (try rw [if_pos (by omega)]); (try with_reducible rfl))
          simp only [Act.put, List.setIfInBounds_toArray, List.set_cons_zero, List.set_cons_succ]
          refine wpAnyH_take (i := 27) (oi := { dst := some 99, op := Op.indexAddr 24 (Operand.tmp 98) (Operand.const (Value.int IntKind.i64 1)), type := 0, pos := "more.go:35", after := #[{ on := 26, ground := Ground.data }, { on := 25, ground := Ground.guard }], guard := some (25, false) }) (v := ?v47) rfl (by kernel_rfl) (by kernel_rfl) (by kernel_rfl) (fun _ _ _ h => h) (Or.inl ⟨by rfl, ?hy47⟩) (by assumption) ?rest47
          case hy47 => (intro w hSw; (try dsimp only at hSw); go_simp; (try rw [if_pos (by omega)]); (try with_reducible rfl))
          simp only [Act.put, List.setIfInBounds_toArray, List.set_cons_zero, List.set_cons_succ]
          refine wpAnyH_take (i := 28) (oi := { dst := some 100, op := Op.load 5 (Operand.tmp 99), type := 5, pos := "more.go:35", after := #[{ on := 27, ground := Ground.data }, { on := 25, ground := Ground.guard }], guard := some (25, false) }) (v := ?v48) rfl (by kernel_rfl) (by kernel_rfl) (by kernel_rfl) (fun _ _ _ h => h) (Or.inl ⟨by rfl, ?hy48⟩) (by assumption) ?rest48
          case hy48 => (intro w hSw; (try dsimp only at hSw); go_simp; (try rw [if_pos (by omega)]); (try with_reducible rfl))
          simp only [Act.put, List.setIfInBounds_toArray, List.set_cons_zero, List.set_cons_succ]
          refine wpAnyH_take (i := 29) (oi := { dst := some 101, op := Op.convert 5 3 (Operand.tmp 100), type := 3, pos := "more.go:35", after := #[{ on := 28, ground := Ground.data }, { on := 25, ground := Ground.guard }], guard := some (25, false) }) (v := ?v49) rfl (by kernel_rfl) (by kernel_rfl) (by kernel_rfl) (fun _ _ _ h => h) (Or.inl ⟨by rfl, ?hy49⟩) (by assumption) ?rest49
          case hy49 => (intro w hSw; (try dsimp only at hSw); go_simp; (try rw [if_pos (by omega)]); (try with_reducible rfl))
          simp only [Act.put, List.setIfInBounds_toArray, List.set_cons_zero, List.set_cons_succ]
          refine wpAnyH_take (i := 30) (oi := { dst := some 102, op := Op.fieldAddr 49 (Operand.tmp 7) 0, type := 0, pos := "more.go:35", after := #[{ on := 25, ground := Ground.guard }], guard := some (25, false) }) (v := ?v50) rfl (by kernel_rfl) (by kernel_rfl) (by kernel_rfl) (fun _ _ _ h => h) (Or.inl ⟨by rfl, ?hy50⟩) (by assumption) ?rest50
          case hy50 => (intro w hSw; (try dsimp only at hSw); go_simp; (try rw [if_pos (by omega)]); (try with_reducible rfl))
          simp only [Act.put, List.setIfInBounds_toArray, List.set_cons_zero, List.set_cons_succ]
          refine wpAnyH_take (i := 31) (oi := { dst := some 103, op := Op.load 3 (Operand.tmp 102), type := 3, pos := "more.go:35", after := #[{ on := 30, ground := Ground.data }, { on := 25, ground := Ground.guard }], guard := some (25, false) }) (v := ?v51) rfl (by kernel_rfl) (by kernel_rfl) (by kernel_rfl) (fun _ _ _ h => h) (Or.inl ⟨by rfl, ?hy51⟩) (by assumption) ?rest51
          case hy51 => (intro w hSw; (try dsimp only at hSw); go_simp; (try rw [if_pos (by omega)]); (try with_reducible rfl))
          simp only [Act.put, List.setIfInBounds_toArray, List.set_cons_zero, List.set_cons_succ]
          refine wpAnyH_take (i := 32) (oi := { dst := some 104, op := Op.binOp BinOp.neq 3 (Operand.tmp 101) (Operand.tmp 103) 3, type := 4, pos := "more.go:35", after := #[{ on := 29, ground := Ground.data }, { on := 31, ground := Ground.data }, { on := 25, ground := Ground.guard }], guard := some (25, false) }) (v := ?v52) rfl (by kernel_rfl) (by kernel_rfl) (by kernel_rfl) (fun _ _ _ h => h) (Or.inl ⟨by rfl, ?hy52⟩) (by assumption) ?rest52
          case hy52 => (intro w hSw; (try dsimp only at hSw); go_simp; (try rw [if_pos (by omega)]); (try with_reducible rfl))
          simp only [Act.put, List.setIfInBounds_toArray, List.set_cons_zero, List.set_cons_succ]
          refine wpAnyH_take (i := 33) (oi := { dst := some 105, op := Op.pick (Operand.tmp 97) (Operand.const (Value.bool true)) (Operand.tmp 104), type := 4, pos := "more.go:35", after := #[{ on := 25, ground := Ground.data }, { on := 32, ground := Ground.data }], guard := none }) (v := ?v53) rfl (by kernel_rfl) (by kernel_rfl) (by kernel_rfl) (fun _ _ _ h => h) (Or.inl ⟨by rfl, ?hy53⟩) (by assumption) ?rest53
          case hy53 => (intro w hSw; (try dsimp only at hSw); go_simp; (try rw [if_pos (by omega)]); (try with_reducible rfl))
          simp only [Act.put, List.setIfInBounds_toArray, List.set_cons_zero, List.set_cons_succ]
          refine wpAnyH_done (by kernel_rfl) ?_ _
          refine NoPanic.normal ?_
          have R0 := ((unhide HX4).cell (p := ⟨wi.heap.size, 0, none⟩) (cell_lt P0)).trans P0
          have F0 := ((unhide HX4).frozen (p := ⟨wi.heap.size, 0, none⟩) (cell_lt P0)).trans Q0
          have R1 := ((unhide HX4).cell (p := ⟨wi.heap.size, 1, none⟩) (cell_lt P1)).trans P1
          have F1 := ((unhide HX4).frozen (p := ⟨wi.heap.size, 1, none⟩) (cell_lt P1)).trans Q1
          have R2 := ((unhide HX4).cell (p := ⟨wi.heap.size, 2, none⟩) (cell_lt P2)).trans P2
          have F2 := ((unhide HX4).frozen (p := ⟨wi.heap.size, 2, none⟩) (cell_lt P2)).trans Q2
          have R3 := ((unhide HX4).cell (p := ⟨wi.heap.size, 3, none⟩) (cell_lt P3)).trans P3
          have F3 := ((unhide HX4).frozen (p := ⟨wi.heap.size, 3, none⟩) (cell_lt P3)).trans Q3
          have k2 := ((unhide HX4).cell (p := ⟨g, o + 2, none⟩) (cell_lt y2)).trans y2
          have k3 := ((unhide HX4).cell (p := ⟨g, o + 3, none⟩) (cell_lt y3)).trans y3
          have HB4 : Hid (Below WB.heap.size WB w4) := (unhide HB3).trans ((unhide HX4).mono (unhide HB3).size)
          have hsz4 := (unhide HB4).size
          have hl4 : wi.heap.size < w4.heap.size := cell_lt R0
          clear HB3 HX4 z3 HG3 hE3d hE3 P0 Q0 P1 Q1 P2 Q2 P3 Q3 y0 y1 y2 y3
          obtain ⟨d0, hd0⟩ : ∃ d, d = X / 256 := ⟨_, rfl⟩
          rw [← hd0] at k2
          obtain ⟨d1, hd1⟩ : ∃ d, d = X % 256 := ⟨_, rfl⟩
          rw [← hd1] at k3
          have b0 : 0 ≤ d0 ∧ d0 ≤ 255 := by omega
          have b1 : 0 ≤ d1 ∧ d1 ≤ 255 := by omega
          have e0 : bits .or .i64 0 d0 = d0 := V.or_zero d0 b0.1 (by omega)
          have e1 := or_256 (d0) d1 (by omega) (by omega) b1.1 b1.2
          have hsum : d0 * 256 + d1 = X := by omega
          have hne : ((d0 * 256 + d1) != X) = false := by rw [hsum]; simp
          clear hd0
          clear hd1
          have HSUM := hide hsum
          clear hsum
          go_wp2
          refine wp_loop_rounds 3 ?_
          rw [rounds_succ]
          go_wp2_with fail
          rw [rounds_succ]
          go_wp2_with fail
          rw [rounds_succ]
          go_wp2_with fail
          have HP5 := hide (put_any _ [(33, 65536, es, es)] 1 ((w4.setCell ⟨wi.heap.size, 1, none⟩ (.int .i64 65536)).alloc (.cells #[.int .i64 33, .int .i64 65536, .string ⟨#[]⟩, .string ⟨#[]⟩] 49)) (prp_lit1 (w4.setCell ⟨wi.heap.size, 1, none⟩ (.int .i64 65536)) _ _ _ _ 1 _) (by simp) (small_lit1 _ _ _ _ es_small es_small))
          rw [num_bad 33 65536 (by omega), show (w4.setCell ⟨wi.heap.size, 1, none⟩ (.int .i64 65536)).heap.size = w4.heap.size from by simp] at HP5
          have hb5s : Below WB.heap.size WB (w4.setCell ⟨wi.heap.size, 1, none⟩ (.int .i64 65536)) := (unhide HB4).setCell (by show WB.heap.size ≤ wi.heap.size; omega) _
          refine (unhide HP5).mono ?_
          rintro e w5 ⟨v5, E5, rfl, -, hE5, hb5⟩
          have HB5 : Hid (Below WB.heap.size WB w5) := (hb5s.alloc (by simp; omega) _).trans (hb5.mono (by simp; omega))
          have R50 : w5.cell? ⟨wi.heap.size, 0, none⟩ = some (.int .i64 33) := (hb5.cell (p := ⟨wi.heap.size, 0, none⟩) (by simp; omega)).trans ((World.cell?_alloc_lt _ _ ⟨wi.heap.size, 0, none⟩ (by simp; omega)).trans (by simp (maxDischargeDepth := 12) [cell_sets, R0]))
          have F50 : w5.frozen? ⟨wi.heap.size, 0, none⟩ = false := (hb5.frozen (p := ⟨wi.heap.size, 0, none⟩) (by simp; omega)).trans ((((Below.refl (w4.setCell ⟨wi.heap.size, 1, none⟩ (.int .i64 65536)).heap.size (w4.setCell ⟨wi.heap.size, 1, none⟩ (.int .i64 65536))).alloc (Nat.le_refl _) _).frozen (p := ⟨wi.heap.size, 0, none⟩) (by simp; omega)).trans ((World.frozen?_setCell ..).trans F0))
          have R51 : w5.cell? ⟨wi.heap.size, 1, none⟩ = some (.int .i64 65536) := (hb5.cell (p := ⟨wi.heap.size, 1, none⟩) (by simp; omega)).trans ((World.cell?_alloc_lt _ _ ⟨wi.heap.size, 1, none⟩ (by simp; omega)).trans (by simp (maxDischargeDepth := 12) [cell_sets, R1]))
          have F51 : w5.frozen? ⟨wi.heap.size, 1, none⟩ = false := (hb5.frozen (p := ⟨wi.heap.size, 1, none⟩) (by simp; omega)).trans ((((Below.refl (w4.setCell ⟨wi.heap.size, 1, none⟩ (.int .i64 65536)).heap.size (w4.setCell ⟨wi.heap.size, 1, none⟩ (.int .i64 65536))).alloc (Nat.le_refl _) _).frozen (p := ⟨wi.heap.size, 1, none⟩) (by simp; omega)).trans ((World.frozen?_setCell ..).trans F1))
          have R52 : w5.cell? ⟨wi.heap.size, 2, none⟩ = some (.string ⟨#[]⟩) := (hb5.cell (p := ⟨wi.heap.size, 2, none⟩) (by simp; omega)).trans ((World.cell?_alloc_lt _ _ ⟨wi.heap.size, 2, none⟩ (by simp; omega)).trans (by simp (maxDischargeDepth := 12) [cell_sets, R2]))
          have F52 : w5.frozen? ⟨wi.heap.size, 2, none⟩ = false := (hb5.frozen (p := ⟨wi.heap.size, 2, none⟩) (by simp; omega)).trans ((((Below.refl (w4.setCell ⟨wi.heap.size, 1, none⟩ (.int .i64 65536)).heap.size (w4.setCell ⟨wi.heap.size, 1, none⟩ (.int .i64 65536))).alloc (Nat.le_refl _) _).frozen (p := ⟨wi.heap.size, 2, none⟩) (by simp; omega)).trans ((World.frozen?_setCell ..).trans F2))
          have R53 : w5.cell? ⟨wi.heap.size, 3, none⟩ = some (.string ⟨#[]⟩) := (hb5.cell (p := ⟨wi.heap.size, 3, none⟩) (by simp; omega)).trans ((World.cell?_alloc_lt _ _ ⟨wi.heap.size, 3, none⟩ (by simp; omega)).trans (by simp (maxDischargeDepth := 12) [cell_sets, R3]))
          have F53 : w5.frozen? ⟨wi.heap.size, 3, none⟩ = false := (hb5.frozen (p := ⟨wi.heap.size, 3, none⟩) (by simp; omega)).trans ((((Below.refl (w4.setCell ⟨wi.heap.size, 1, none⟩ (.int .i64 65536)).heap.size (w4.setCell ⟨wi.heap.size, 1, none⟩ (.int .i64 65536))).alloc (Nat.le_refl _) _).frozen (p := ⟨wi.heap.size, 3, none⟩) (by simp; omega)).trans ((World.frozen?_setCell ..).trans F3))
          have hl5 : wi.heap.size < w5.heap.size := cell_lt R50
          clear hb5 hb5s HP5 HB4 R0 F0 R1 F1 R2 F2 R3 F3
          have HP6 := hide (put_any _ [(33, 0, es, es)] 1 ((w5.setCell ⟨wi.heap.size, 1, none⟩ (.int .i64 0)).alloc (.cells #[.int .i64 33, .int .i64 0, .string ⟨#[]⟩, .string ⟨#[]⟩] 49)) (prp_lit1 (w5.setCell ⟨wi.heap.size, 1, none⟩ (.int .i64 0)) _ _ _ _ 1 _) (by simp) (small_lit1 _ _ _ _ es_small es_small))
          rw [num_bad 33 0 (by omega), show (w5.setCell ⟨wi.heap.size, 1, none⟩ (.int .i64 0)).heap.size = w5.heap.size from by simp] at HP6
          have hb6s : Below WB.heap.size WB (w5.setCell ⟨wi.heap.size, 1, none⟩ (.int .i64 0)) := (unhide HB5).setCell (by show WB.heap.size ≤ wi.heap.size; omega) _
          go_wp2_with fail
          refine (unhide HP6).mono ?_
          rintro e w6 ⟨v6, E6, rfl, -, hE6, hb6⟩
          have HB6 : Hid (Below WB.heap.size WB w6) := (hb6s.alloc (by simp; omega) _).trans (hb6.mono (by simp; omega))
          have R60 : w6.cell? ⟨wi.heap.size, 0, none⟩ = some (.int .i64 33) := (hb6.cell (p := ⟨wi.heap.size, 0, none⟩) (by simp; omega)).trans ((World.cell?_alloc_lt _ _ ⟨wi.heap.size, 0, none⟩ (by simp; omega)).trans (by simp (maxDischargeDepth := 12) [cell_sets, R50]))
          have F60 : w6.frozen? ⟨wi.heap.size, 0, none⟩ = false := (hb6.frozen (p := ⟨wi.heap.size, 0, none⟩) (by simp; omega)).trans ((((Below.refl (w5.setCell ⟨wi.heap.size, 1, none⟩ (.int .i64 0)).heap.size (w5.setCell ⟨wi.heap.size, 1, none⟩ (.int .i64 0))).alloc (Nat.le_refl _) _).frozen (p := ⟨wi.heap.size, 0, none⟩) (by simp; omega)).trans ((World.frozen?_setCell ..).trans F50))
          have R61 : w6.cell? ⟨wi.heap.size, 1, none⟩ = some (.int .i64 0) := (hb6.cell (p := ⟨wi.heap.size, 1, none⟩) (by simp; omega)).trans ((World.cell?_alloc_lt _ _ ⟨wi.heap.size, 1, none⟩ (by simp; omega)).trans (by simp (maxDischargeDepth := 12) [cell_sets, R51]))
          have F61 : w6.frozen? ⟨wi.heap.size, 1, none⟩ = false := (hb6.frozen (p := ⟨wi.heap.size, 1, none⟩) (by simp; omega)).trans ((((Below.refl (w5.setCell ⟨wi.heap.size, 1, none⟩ (.int .i64 0)).heap.size (w5.setCell ⟨wi.heap.size, 1, none⟩ (.int .i64 0))).alloc (Nat.le_refl _) _).frozen (p := ⟨wi.heap.size, 1, none⟩) (by simp; omega)).trans ((World.frozen?_setCell ..).trans F51))
          have R62 : w6.cell? ⟨wi.heap.size, 2, none⟩ = some (.string ⟨#[]⟩) := (hb6.cell (p := ⟨wi.heap.size, 2, none⟩) (by simp; omega)).trans ((World.cell?_alloc_lt _ _ ⟨wi.heap.size, 2, none⟩ (by simp; omega)).trans (by simp (maxDischargeDepth := 12) [cell_sets, R52]))
          have F62 : w6.frozen? ⟨wi.heap.size, 2, none⟩ = false := (hb6.frozen (p := ⟨wi.heap.size, 2, none⟩) (by simp; omega)).trans ((((Below.refl (w5.setCell ⟨wi.heap.size, 1, none⟩ (.int .i64 0)).heap.size (w5.setCell ⟨wi.heap.size, 1, none⟩ (.int .i64 0))).alloc (Nat.le_refl _) _).frozen (p := ⟨wi.heap.size, 2, none⟩) (by simp; omega)).trans ((World.frozen?_setCell ..).trans F52))
          have R63 : w6.cell? ⟨wi.heap.size, 3, none⟩ = some (.string ⟨#[]⟩) := (hb6.cell (p := ⟨wi.heap.size, 3, none⟩) (by simp; omega)).trans ((World.cell?_alloc_lt _ _ ⟨wi.heap.size, 3, none⟩ (by simp; omega)).trans (by simp (maxDischargeDepth := 12) [cell_sets, R53]))
          have F63 : w6.frozen? ⟨wi.heap.size, 3, none⟩ = false := (hb6.frozen (p := ⟨wi.heap.size, 3, none⟩) (by simp; omega)).trans ((((Below.refl (w5.setCell ⟨wi.heap.size, 1, none⟩ (.int .i64 0)).heap.size (w5.setCell ⟨wi.heap.size, 1, none⟩ (.int .i64 0))).alloc (Nat.le_refl _) _).frozen (p := ⟨wi.heap.size, 3, none⟩) (by simp; omega)).trans ((World.frozen?_setCell ..).trans F53))
          have HE5 : Hid (ErrP w6 E5 1) := ((errp_set (unhide hE5) R51).below (((Below.refl (w5.setCell ⟨wi.heap.size, 1, none⟩ (.int .i64 0)).heap.size (w5.setCell ⟨wi.heap.size, 1, none⟩ (.int .i64 0))).alloc (Nat.le_refl _) _).trans (hb6.mono (by simp))))
          clear hb6 hb6s HP6 HB5 R50 F50 R51 F51 R52 F52 R53 F53
          have HG6 : Hid (Laid w6) := ((unhide HWB) _ (unhide HB6)).2.1
          go_wp2_with fail
          refine (numlp _ 1 _ (unhide HG6) (unhide HE5)).mono ?_
          rintro e w7 ⟨rfl, hb7⟩
          have HB7 : Hid (Below WB.heap.size WB w7) := (unhide HB6).trans (hb7.mono (unhide HB6).size)
          have HG7 : Hid (Laid w7) := ((unhide HWB) _ (unhide HB7)).2.1
          have HE6 : Hid (ErrP w7 E6 1) := (unhide hE6).below hb7
          clear hb7
          go_wp2_with fail
          refine (numlp _ 1 _ (unhide HG7) (unhide HE6)).mono ?_
          rintro e w8 ⟨rfl, hb8⟩
          have HB8 : Hid (Below WB.heap.size WB w8) := (unhide HB7).trans (hb8.mono (unhide HB7).size)
          clear hb8
          go_wp2
          go_roundw
          case rel => exact ⟨1, by omega, by go_num, unhide HB8⟩
          case measure => simp [intOf]
        · clear t0 t1 t2 t3 s0
          go_wp2_with fail
          have HBX : Hid (Below WB.heap.size WB (wi.alloc (.cells #[.int .i64 39, .int .i64 0, .string ⟨#[]⟩, .string ⟨#[]⟩] 49)).drew) := ((unhide HBI).alloc hsi _).trans ((below_drew2 _).mono (by simp; omega))
          have ixk : (k : Int) < (len : Int) := by omega
          have ixz : (0 : Int) ≤ (k : Int) := by omega
          refine wp_region_noPanic ?_
          refine wp_region_held_drew (S := (fun w' => w'.cell? ⟨b, off + k * 3 + 1, none⟩ = some (.int .i64 p) ∧ w'.cell? ⟨b, off + k * 3 + 2, none⟩ = some (.slice ao n vc))) (by kernel_rfl) ((unhide HAS) _ (unhide HBX)) (fun hHeld => ?_)
          refine wpAnyH_take (i := 0) (oi := { dst := some 46, op := Op.move (Operand.tmp 0), type := 22, pos := "more.go:33", after := #[], guard := none }) (v := ?v54) rfl (by kernel_rfl) (by kernel_rfl) (by kernel_rfl) (fun _ _ _ h => h) (Or.inl ⟨by rfl, ?hy54⟩) (by assumption) ?rest54
          case hy54 => (intro w hSw; (try dsimp only at hSw); go_simp; (try rw [if_pos (by omega)]); (try with_reducible rfl))
          simp only [Act.put, List.setIfInBounds_toArray, List.set_cons_zero, List.set_cons_succ]
          refine wpAnyH_take (i := 1) (oi := { dst := some 47, op := Op.move (Operand.tmp 5), type := 3, pos := "more.go:33", after := #[], guard := none }) (v := ?v55) rfl (by kernel_rfl) (by kernel_rfl) (by kernel_rfl) (fun _ _ _ h => h) (Or.inl ⟨by rfl, ?hy55⟩) (by assumption) ?rest55
          case hy55 => (intro w hSw; (try dsimp only at hSw); go_simp; (try rw [if_pos (by omega)]); (try with_reducible rfl))
          simp only [Act.put, List.setIfInBounds_toArray, List.set_cons_zero, List.set_cons_succ]
          refine wpAnyH_take (i := 2) (oi := { dst := some 48, op := Op.indexAddr 22 (Operand.tmp 46) (Operand.tmp 47), type := 0, pos := "more.go:33", after := #[{ on := 0, ground := Ground.data }, { on := 1, ground := Ground.data }], guard := none }) (v := ?v56) rfl (by kernel_rfl) (by kernel_rfl) (by kernel_rfl) (fun _ _ _ h => h) (Or.inl ⟨by rfl, ?hy56⟩) (by assumption) ?rest56
          case hy56 => (intro w hSw; (try dsimp only at hSw); go_simp; (try rw [if_pos (by omega)]); (try with_reducible rfl))
          simp only [Act.put, List.setIfInBounds_toArray, List.set_cons_zero, List.set_cons_succ]
          refine wpAnyH_take (i := 3) (oi := { dst := some 49, op := Op.fieldAddr 26 (Operand.tmp 48) 2, type := 0, pos := "more.go:33", after := #[{ on := 2, ground := Ground.data }], guard := none }) (v := ?v57) rfl (by kernel_rfl) (by kernel_rfl) (by kernel_rfl) (fun _ _ _ h => h) (Or.inl ⟨by rfl, ?hy57⟩) (by assumption) ?rest57
          case hy57 => (intro w hSw; (try dsimp only at hSw); go_simp; (try rw [if_pos (by omega)]); (try with_reducible rfl))
          simp only [Act.put, List.setIfInBounds_toArray, List.set_cons_zero, List.set_cons_succ]
          refine wpAnyH_take (i := 4) (oi := { dst := some 50, op := Op.load 24 (Operand.tmp 49), type := 24, pos := "more.go:33", after := #[{ on := 3, ground := Ground.data }], guard := none }) (v := ?v58) rfl (by kernel_rfl) (by kernel_rfl) (by kernel_rfl) (fun _ _ _ h => h) (Or.inl ⟨by rfl, ?hy58⟩) (by assumption) ?rest58
          case hy58 => (intro w hSw; (try dsimp only at hSw); go_simp; (try rw [if_pos (by omega)]); (try with_reducible rfl))
          simp only [Act.put, List.setIfInBounds_toArray, List.set_cons_zero, List.set_cons_succ]
          refine wpAnyH_take (i := 5) (oi := { dst := some 51, op := Op.call { callee := Callee.builtin Builtin.len, args := #[Operand.tmp 50], argTypes := #[24] }, type := 3, pos := "more.go:33", after := #[{ on := 4, ground := Ground.data }], guard := none }) (v := ?v59) rfl (by kernel_rfl) (by kernel_rfl) (by kernel_rfl) (fun _ _ _ h => h) (Or.inl ⟨by rfl, ?hy59⟩) (by assumption) ?rest59
          case hy59 => (intro w hSw; (try dsimp only at hSw); go_simp; (try rw [if_pos (by omega)]); (try with_reducible rfl))
          simp only [Act.put, List.setIfInBounds_toArray, List.set_cons_zero, List.set_cons_succ]
          refine wpAnyH_take (i := 6) (oi := { dst := some 52, op := Op.binOp BinOp.mul 3 (Operand.tmp 51) (Operand.const (Value.int IntKind.i64 7919)) 3, type := 3, pos := "more.go:33", after := #[{ on := 5, ground := Ground.data }], guard := none }) (v := ?v60) rfl (by kernel_rfl) (by kernel_rfl) (by kernel_rfl) (fun _ _ _ h => h) (Or.inl ⟨by rfl, ?hy60⟩) (by assumption) ?rest60
          case hy60 => (intro w hSw; (try dsimp only at hSw); go_simp; (try rw [if_pos (by omega)]); (try with_reducible rfl))
          simp only [Act.put, List.setIfInBounds_toArray, List.set_cons_zero, List.set_cons_succ]
          refine wpAnyH_take (i := 7) (oi := { dst := some 53, op := Op.move (Operand.tmp 0), type := 22, pos := "more.go:33", after := #[], guard := none }) (v := ?v61) rfl (by kernel_rfl) (by kernel_rfl) (by kernel_rfl) (fun _ _ _ h => h) (Or.inl ⟨by rfl, ?hy61⟩) (by assumption) ?rest61
          case hy61 => (intro w hSw; (try dsimp only at hSw); go_simp; (try rw [if_pos (by omega)]); (try with_reducible rfl))
          simp only [Act.put, List.setIfInBounds_toArray, List.set_cons_zero, List.set_cons_succ]
          refine wpAnyH_take (i := 8) (oi := { dst := some 54, op := Op.move (Operand.tmp 5), type := 3, pos := "more.go:33", after := #[], guard := none }) (v := ?v62) rfl (by kernel_rfl) (by kernel_rfl) (by kernel_rfl) (fun _ _ _ h => h) (Or.inl ⟨by rfl, ?hy62⟩) (by assumption) ?rest62
          case hy62 => (intro w hSw; (try dsimp only at hSw); go_simp; (try rw [if_pos (by omega)]); (try with_reducible rfl))
          simp only [Act.put, List.setIfInBounds_toArray, List.set_cons_zero, List.set_cons_succ]
          refine wpAnyH_take (i := 9) (oi := { dst := some 55, op := Op.indexAddr 22 (Operand.tmp 53) (Operand.tmp 54), type := 0, pos := "more.go:33", after := #[{ on := 7, ground := Ground.data }, { on := 8, ground := Ground.data }], guard := none }) (v := ?v63) rfl (by kernel_rfl) (by kernel_rfl) (by kernel_rfl) (fun _ _ _ h => h) (Or.inl ⟨by rfl, ?hy63⟩) (by assumption) ?rest63
          case hy63 => (intro w hSw; (try dsimp only at hSw); go_simp; (try rw [if_pos (by omega)]); (try with_reducible rfl))
          simp only [Act.put, List.setIfInBounds_toArray, List.set_cons_zero, List.set_cons_succ]
          refine wpAnyH_take (i := 10) (oi := { dst := some 56, op := Op.fieldAddr 26 (Operand.tmp 55) 1, type := 0, pos := "more.go:33", after := #[{ on := 9, ground := Ground.data }], guard := none }) (v := ?v64) rfl (by kernel_rfl) (by kernel_rfl) (by kernel_rfl) (fun _ _ _ h => h) (Or.inl ⟨by rfl, ?hy64⟩) (by assumption) ?rest64
          case hy64 => (intro w hSw; (try dsimp only at hSw); go_simp; (try rw [if_pos (by omega)]); (try with_reducible rfl))
          simp only [Act.put, List.setIfInBounds_toArray, List.set_cons_zero, List.set_cons_succ]
          refine wpAnyH_take (i := 11) (oi := { dst := some 57, op := Op.load 3 (Operand.tmp 56), type := 3, pos := "more.go:33", after := #[{ on := 10, ground := Ground.data }], guard := none }) (v := ?v65) rfl (by kernel_rfl) (by kernel_rfl) (by kernel_rfl) (fun _ _ _ h => h) (Or.inl ⟨by rfl, ?hy65⟩) (by assumption) ?rest65
          case hy65 => (intro w hSw; (try dsimp only at hSw); go_simp; (try rw [if_pos (by omega)]); (try with_reducible rfl))
          simp only [Act.put, List.setIfInBounds_toArray, List.set_cons_zero, List.set_cons_succ]
          refine wpAnyH_take (i := 12) (oi := { dst := some 58, op := Op.binOp BinOp.add 3 (Operand.tmp 52) (Operand.tmp 57) 3, type := 3, pos := "more.go:33", after := #[{ on := 6, ground := Ground.data }, { on := 11, ground := Ground.data }], guard := none }) (v := ?v66) rfl (by kernel_rfl) (by kernel_rfl) (by kernel_rfl) (fun _ _ _ h => h) (Or.inl ⟨by rfl, ?hy66⟩) (by assumption) ?rest66
          case hy66 => (intro w hSw; (try dsimp only at hSw); go_simp; (try rw [if_pos (by omega)]); (try with_reducible rfl))
          simp only [Act.put, List.setIfInBounds_toArray, List.set_cons_zero, List.set_cons_succ]
          refine wpAnyH_take (i := 13) (oi := { dst := some 59, op := Op.convert 3 51 (Operand.tmp 58), type := 51, pos := "more.go:33", after := #[{ on := 12, ground := Ground.data }], guard := none }) (v := ?v67) rfl (by kernel_rfl) (by kernel_rfl) (by kernel_rfl) (fun _ _ _ h => h) (Or.inl ⟨by rfl, ?hy67⟩) (by assumption) ?rest67
          case hy67 => (intro w hSw; (try dsimp only at hSw); go_simp; (try rw [if_pos (by omega)]); (try with_reducible rfl))
          simp only [Act.put, List.setIfInBounds_toArray, List.set_cons_zero, List.set_cons_succ]
          refine wpAnyH_take (i := 14) (oi := { dst := some 60, op := Op.move (Operand.tmp 8), type := 3, pos := "more.go:33", after := #[], guard := none }) (v := ?v68) rfl (by kernel_rfl) (by kernel_rfl) (by kernel_rfl) (fun _ _ _ h => h) (Or.inl ⟨by rfl, ?hy68⟩) (by assumption) ?rest68
          case hy68 => (intro w hSw; (try dsimp only at hSw); go_simp; (try rw [if_pos (by omega)]); (try with_reducible rfl))
          simp only [Act.put, List.setIfInBounds_toArray, List.set_cons_zero, List.set_cons_succ]
          refine wpAnyH_take (i := 15) (oi := { dst := some 61, op := Op.convert 3 51 (Operand.tmp 60), type := 51, pos := "more.go:33", after := #[{ on := 14, ground := Ground.data }], guard := none }) (v := ?v69) rfl (by kernel_rfl) (by kernel_rfl) (by kernel_rfl) (fun _ _ _ h => h) (Or.inl ⟨by rfl, ?hy69⟩) (by assumption) ?rest69
          case hy69 => (intro w hSw; (try dsimp only at hSw); go_simp; (try rw [if_pos (by omega)]); (try with_reducible rfl))
          simp only [Act.put, List.setIfInBounds_toArray, List.set_cons_zero, List.set_cons_succ]
          refine wpAnyH_take (i := 16) (oi := { dst := some 62, op := Op.binOp BinOp.rem 51 (Operand.tmp 59) (Operand.tmp 61) 51, type := 51, pos := "more.go:33", after := #[{ on := 13, ground := Ground.data }, { on := 15, ground := Ground.data }], guard := none }) (v := ?v70) rfl (by kernel_rfl) (by kernel_rfl) (by kernel_rfl) (fun _ _ _ h => h) (Or.inl ⟨by rfl, ?hy70⟩) (by assumption) ?rest70
          case hy70 => (intro w hSw; (try dsimp only at hSw); go_simp; rw [if_neg (by decide)]; (try with_reducible rfl))
          simp only [Act.put, List.setIfInBounds_toArray, List.set_cons_zero, List.set_cons_succ]
          refine wpAnyH_take (i := 17) (oi := { dst := some 63, op := Op.convert 51 3 (Operand.tmp 62), type := 3, pos := "more.go:33", after := #[{ on := 16, ground := Ground.data }], guard := none }) (v := ?v71) rfl (by kernel_rfl) (by kernel_rfl) (by kernel_rfl) (fun _ _ _ h => h) (Or.inl ⟨by rfl, ?hy71⟩) (by assumption) ?rest71
          case hy71 => (intro w hSw; (try dsimp only at hSw); go_simp; (try rw [if_pos (by omega)]); (try with_reducible rfl))
          simp only [Act.put, List.setIfInBounds_toArray, List.set_cons_zero, List.set_cons_succ]
          refine wpAnyH_take (i := 18) (oi := { dst := some 64, op := Op.binOp BinOp.add 3 (Operand.const (Value.int IntKind.i64 1)) (Operand.tmp 63) 3, type := 3, pos := "more.go:33", after := #[{ on := 17, ground := Ground.data }], guard := none }) (v := ?v72) rfl (by kernel_rfl) (by kernel_rfl) (by kernel_rfl) (fun _ _ _ h => h) (Or.inl ⟨by rfl, ?hy72⟩) (by assumption) ?rest72
          case hy72 => (intro w hSw; (try dsimp only at hSw); go_simp; (try rw [if_pos (by omega)]); (try with_reducible rfl))
          simp only [Act.put, List.setIfInBounds_toArray, List.set_cons_zero, List.set_cons_succ]
          refine wpAnyH_take (i := 19) (oi := { dst := some 65, op := Op.fieldAddr 49 (Operand.tmp 7) 1, type := 0, pos := "more.go:33", after := #[{ on := 0, ground := Ground.phase }, { on := 1, ground := Ground.phase }, { on := 2, ground := Ground.phase }, { on := 3, ground := Ground.phase }, { on := 4, ground := Ground.phase }, { on := 5, ground := Ground.phase }, { on := 6, ground := Ground.phase }, { on := 7, ground := Ground.phase }, { on := 8, ground := Ground.phase }, { on := 9, ground := Ground.phase }, { on := 10, ground := Ground.phase }, { on := 11, ground := Ground.phase }, { on := 12, ground := Ground.phase }, { on := 13, ground := Ground.phase }, { on := 14, ground := Ground.phase }, { on := 15, ground := Ground.phase }, { on := 16, ground := Ground.phase }, { on := 17, ground := Ground.phase }, { on := 18, ground := Ground.phase }], guard := none }) (v := ?v73) rfl (by kernel_rfl) (by kernel_rfl) (by kernel_rfl) (fun _ _ _ h => h) (Or.inl ⟨by rfl, ?hy73⟩) (by assumption) ?rest73
          case hy73 => (intro w hSw; (try dsimp only at hSw); go_simp; (try rw [if_pos (by omega)]); (try with_reducible rfl))
          simp only [Act.put, List.setIfInBounds_toArray, List.set_cons_zero, List.set_cons_succ]
          refine wpAnyH_ready (rs := [20]) (by kernel_rfl) (by simp) ?_
          refine AllReadyH.cons (o := { dst := none, op := Op.store 3 (Operand.tmp 65) (Operand.tmp 64), type := 0, pos := "more.go:33", after := #[{ on := 19, ground := Ground.data }, { on := 18, ground := Ground.data }, { on := 0, ground := Ground.phase }, { on := 1, ground := Ground.phase }, { on := 2, ground := Ground.phase }, { on := 3, ground := Ground.phase }, { on := 4, ground := Ground.phase }, { on := 5, ground := Ground.phase }, { on := 6, ground := Ground.phase }, { on := 7, ground := Ground.phase }, { on := 8, ground := Ground.phase }, { on := 9, ground := Ground.phase }, { on := 10, ground := Ground.phase }, { on := 11, ground := Ground.phase }, { on := 12, ground := Ground.phase }, { on := 13, ground := Ground.phase }, { on := 14, ground := Ground.phase }, { on := 15, ground := Ground.phase }, { on := 16, ground := Ground.phase }, { on := 17, ground := Ground.phase }, { on := 18, ground := Ground.phase }], guard := none }) rfl (fun K hK => ?_) AllReadyH.nil
          go_simp
          have hX := pick_num (IntKind.i64.wrap (IntKind.i64.wrap ((n : Int) * 7919) + p)) 4294967295 (by omega)
          generalize IntKind.i64.wrap (1 + IntKind.i64.wrap ((IntKind.u64.wrap (IntKind.i64.wrap (IntKind.i64.wrap ((n : Int) * 7919) + p))).tmod (IntKind.u64.wrap 4294967295))) = X at hX ⊢
          have HB2 : Hid (Below WB.heap.size WB (wi.alloc (.cells #[.int .i64 39, .int .i64 X, .string ⟨#[]⟩, .string ⟨#[]⟩] 49)).drew) := ((unhide HBI).alloc hsi _).trans ((below_drew2 _).mono (by simp; omega))
          refine hK.out _ _ ((unhide HAS) _ (unhide HB2)) (fun hHeld => ?_)
          clear hK K
          refine wpAnyH_done (by kernel_rfl) ?_ _
          refine NoPanic.normal ?_
          have p0 : (wi.alloc (.cells #[.int .i64 39, .int .i64 X, .string ⟨#[]⟩, .string ⟨#[]⟩] 49)).drew.cell? ⟨wi.heap.size, 0, none⟩ = some (.int .i64 39) := by simp
          have q0 : (wi.alloc (.cells #[.int .i64 39, .int .i64 X, .string ⟨#[]⟩, .string ⟨#[]⟩] 49)).drew.frozen? ⟨wi.heap.size, 0, none⟩ = false := by simp
          have p1 : (wi.alloc (.cells #[.int .i64 39, .int .i64 X, .string ⟨#[]⟩, .string ⟨#[]⟩] 49)).drew.cell? ⟨wi.heap.size, 1, none⟩ = some (.int .i64 X) := by simp
          have q1 : (wi.alloc (.cells #[.int .i64 39, .int .i64 X, .string ⟨#[]⟩, .string ⟨#[]⟩] 49)).drew.frozen? ⟨wi.heap.size, 1, none⟩ = false := by simp
          have p2 : (wi.alloc (.cells #[.int .i64 39, .int .i64 X, .string ⟨#[]⟩, .string ⟨#[]⟩] 49)).drew.cell? ⟨wi.heap.size, 2, none⟩ = some (.string ⟨#[]⟩) := by simp
          have q2 : (wi.alloc (.cells #[.int .i64 39, .int .i64 X, .string ⟨#[]⟩, .string ⟨#[]⟩] 49)).drew.frozen? ⟨wi.heap.size, 2, none⟩ = false := by simp
          have p3 : (wi.alloc (.cells #[.int .i64 39, .int .i64 X, .string ⟨#[]⟩, .string ⟨#[]⟩] 49)).drew.cell? ⟨wi.heap.size, 3, none⟩ = some (.string ⟨#[]⟩) := by simp
          have q3 : (wi.alloc (.cells #[.int .i64 39, .int .i64 X, .string ⟨#[]⟩, .string ⟨#[]⟩] 49)).drew.frozen? ⟨wi.heap.size, 3, none⟩ = false := by simp
          generalize (wi.alloc (.cells #[.int .i64 39, .int .i64 X, .string ⟨#[]⟩, .string ⟨#[]⟩] 49)).drew = w2 at HB2 p0 p1 p2 p3 q0 q1 q2 q3 ⊢
          clear hHeld HBX t4 t5 t6 t7 a1 a2 s1
          have HPUT := hide (fun W => put_any _ [(39, X, es, es)] 1 (W.alloc (.cells #[.int .i64 39, .int .i64 X, .string ⟨#[]⟩, .string ⟨#[]⟩] 49)) (prp_lit1 W _ _ _ _ 1 _) (by simp) (small_lit1 _ _ _ _ es_small es_small))
          rw [num_pbz4 X hX, num_chk 39 X (by omega)] at HPUT
          go_wp2_with fail
          refine ((unhide HPUT) w2).mono ?_
          rintro e w3 ⟨v3, E, rfl, hy3, hE3, hb3⟩
          obtain ⟨g, o, bc, hv3, hbc1, hbc2, hcl⟩ := byt_cells (unhide hy3) (by simp)
          have hv3 : v3 = .slice (some ⟨g, o, none⟩) 6 bc := hv3
          subst hv3
          unfold maxLen at hbc2
          have y0 : w3.cell? ⟨g, o + 0, none⟩ = some (.int .u8 (5)) := hcl 0 (by simp)
          have y1 : w3.cell? ⟨g, o + 1, none⟩ = some (.int .u8 (39)) := hcl 1 (by simp)
          have y2 : w3.cell? ⟨g, o + 2, none⟩ = some (.int .u8 (X / 16777216)) := hcl 2 (by simp)
          have y3 : w3.cell? ⟨g, o + 3, none⟩ = some (.int .u8 (X / 65536 % 256)) := hcl 3 (by simp)
          have y4 : w3.cell? ⟨g, o + 4, none⟩ = some (.int .u8 (X / 256 % 256)) := hcl 4 (by simp)
          have y5 : w3.cell? ⟨g, o + 5, none⟩ = some (.int .u8 (X % 256)) := hcl 5 (by simp)
          rw [Nat.add_zero] at y0
          have HXx : Hid (Below w2.heap.size w2 w3) := ((Below.refl _ _).alloc (Nat.le_refl _) _).trans (hb3.mono (by simp))
          clear hb3 hcl HPUT hy3
          have hBl : wi.heap.size < w2.heap.size := cell_lt p0
          have P0 := ((unhide HXx).cell (p := ⟨wi.heap.size, 0, none⟩) hBl).trans p0
          have Q0 := ((unhide HXx).frozen (p := ⟨wi.heap.size, 0, none⟩) hBl).trans q0
          have P1 := ((unhide HXx).cell (p := ⟨wi.heap.size, 1, none⟩) hBl).trans p1
          have Q1 := ((unhide HXx).frozen (p := ⟨wi.heap.size, 1, none⟩) hBl).trans q1
          have P2 := ((unhide HXx).cell (p := ⟨wi.heap.size, 2, none⟩) hBl).trans p2
          have Q2 := ((unhide HXx).frozen (p := ⟨wi.heap.size, 2, none⟩) hBl).trans q2
          have P3 := ((unhide HXx).cell (p := ⟨wi.heap.size, 3, none⟩) hBl).trans p3
          have Q3 := ((unhide HXx).frozen (p := ⟨wi.heap.size, 3, none⟩) hBl).trans q3
          have HB3 : Hid (Below WB.heap.size WB w3) := (unhide HB2).trans ((unhide HXx).mono (unhide HB2).size)
          clear p0 p1 p2 p3 q0 q1 q2 q3 HXx HB2
          have z3 : w3.cell? ⟨w.heap.size + 1, 1, none⟩ = some (.int .i64 4) := ((unhide HWB) _ (unhide HB3)).1.2.2.2.2.2.2.2.2.2
          have HS3 : Hid (∀ W, Below w3.heap.size w3 W → W.cell? ⟨w.heap.size + 1, 1, none⟩ = some (.int .i64 4) ∧ W.cell? ⟨wi.heap.size, 0, none⟩ = some (.int .i64 39) ∧ W.cell? ⟨g, o, none⟩ = some (.int .u8 5) ∧ W.cell? ⟨g, o + 1, none⟩ = some (.int .u8 39)) := fun W hW => ⟨(hW.cell (p := ⟨w.heap.size + 1, 1, none⟩) (cell_lt z3)).trans z3, (hW.cell (p := ⟨wi.heap.size, 0, none⟩) (cell_lt P0)).trans P0, (hW.cell (p := ⟨g, o, none⟩) (cell_lt y0)).trans y0, (hW.cell (p := ⟨g, o + 1, none⟩) (cell_lt y1)).trans y1⟩
          have HG3 : Hid (Laid w3.drew) := ((unhide HWB) _ ((unhide HB3).trans ((below_drew2 w3).mono (unhide HB3).size))).2.1
          have hE3d : Hid (ErrP w3.drew E 0) := (unhide hE3).below (below_drew2 w3)
          go_wp2_with fail
          refine wp_region_noPanic ?_
          refine wp_region_held_drew (S := (fun w' => w'.cell? ⟨w.heap.size + 1, 1, none⟩ = some (.int .i64 4) ∧ w'.cell? ⟨wi.heap.size, 0, none⟩ = some (.int .i64 39) ∧ w'.cell? ⟨g, o, none⟩ = some (.int .u8 5) ∧ w'.cell? ⟨g, o + 1, none⟩ = some (.int .u8 39))) (by kernel_rfl) ((unhide HS3) _ (below_drew2 w3)) (fun hHeld => ?_)
          refine wpAnyH_take (i := 0) (oi := { dst := some 72, op := Op.move (Operand.tmp 10), type := 33, pos := "more.go:35", after := #[], guard := none }) (v := ?v74) rfl (by kernel_rfl) (by kernel_rfl) (by kernel_rfl) (fun _ _ _ h => h) (Or.inl ⟨by rfl, ?hy74⟩) (by assumption) ?rest74
          case hy74 => (intro w hSw; (try dsimp only at hSw); go_simp; (try rw [if_pos (by omega)]); (try with_reducible rfl))
          simp only [Act.put, List.setIfInBounds_toArray, List.set_cons_zero, List.set_cons_succ]
          refine wpAnyH_ready (rs := [1]) (by kernel_rfl) (by simp) ?_
          refine AllReadyH.cons (o := { dst := some 73, op := Op.call { callee := Callee.value (Operand.func 15), args := #[Operand.tmp 72], argTypes := #[33] }, type := 3, pos := "more.go:35", after := #[{ on := 0, ground := Ground.data }], guard := none }) rfl (fun K hK => ?_) AllReadyH.nil
          go_simp
          refine (numlp E 0 w3.drew (unhide HG3) (unhide hE3d)).mono ?_
          rintro e w4 ⟨rfl, hb4⟩
          have HX4 : Hid (Below w3.heap.size w3 w4) := below_undrew1 hb4
          clear hb4
          refine hK.out _ _ ((unhide HS3) _ (unhide HX4)) (fun hHeld => ?_)
          clear hK K
          refine wpAnyH_take (i := 2) (oi := { dst := some 74, op := Op.binOp BinOp.neq 3 (Operand.tmp 73) (Operand.const (Value.int IntKind.i64 0)) 3, type := 4, pos := "more.go:35", after := #[{ on := 1, ground := Ground.data }], guard := none }) (v := ?v75) rfl (by kernel_rfl) (by kernel_rfl) (by kernel_rfl) (fun _ _ _ h => h) (Or.inl ⟨by rfl, ?hy75⟩) (by assumption) ?rest75
          case hy75 => (intro w hSw; (try dsimp only at hSw); go_simp; (try rw [if_pos (by omega)]); (try with_reducible rfl))
          simp only [Act.put, List.setIfInBounds_toArray, List.set_cons_zero, List.set_cons_succ]
          refine wpAnyH_take (i := 3) (oi := { dst := some 75, op := Op.move (Operand.tmp 74), type := 4, pos := "more.go:35", after := #[{ on := 2, ground := Ground.data }, { on := 1, ground := Ground.chain }], guard := none }) (v := ?v76) rfl (by kernel_rfl) (by kernel_rfl) (by kernel_rfl) (fun _ _ _ h => h) (Or.inl ⟨by rfl, ?hy76⟩) (by assumption) ?rest76
          case hy76 => (intro w hSw; (try dsimp only at hSw); go_simp; (try rw [if_pos (by omega)]); (try with_reducible rfl))
          simp only [Act.put, List.setIfInBounds_toArray, List.set_cons_zero, List.set_cons_succ]
          refine wpAnyH_take (i := 4) (oi := { dst := some 76, op := Op.move (Operand.tmp 9), type := 24, pos := "more.go:35", after := #[{ on := 3, ground := Ground.guard }], guard := some (3, false) }) (v := ?v77) rfl (by kernel_rfl) (by kernel_rfl) (by kernel_rfl) (fun _ _ _ h => h) (Or.inl ⟨by rfl, ?hy77⟩) (by assumption) ?rest77
          case hy77 => (intro w hSw; (try dsimp only at hSw); go_simp; (try rw [if_pos (by omega)]); (try with_reducible rfl))
          simp only [Act.put, List.setIfInBounds_toArray, List.set_cons_zero, List.set_cons_succ]
          refine wpAnyH_take (i := 5) (oi := { dst := some 77, op := Op.call { callee := Callee.builtin Builtin.len, args := #[Operand.tmp 76], argTypes := #[24] }, type := 3, pos := "more.go:35", after := #[{ on := 4, ground := Ground.data }, { on := 3, ground := Ground.guard }], guard := some (3, false) }) (v := ?v78) rfl (by kernel_rfl) (by kernel_rfl) (by kernel_rfl) (fun _ _ _ h => h) (Or.inl ⟨by rfl, ?hy78⟩) (by assumption) ?rest78
          case hy78 => (intro w hSw; (try dsimp only at hSw); go_simp; (try rw [if_pos (by omega)]); (try with_reducible rfl))
          simp only [Act.put, List.setIfInBounds_toArray, List.set_cons_zero, List.set_cons_succ]
          refine wpAnyH_take (i := 6) (oi := { dst := some 78, op := Op.move (Operand.tmp 4), type := 50, pos := "more.go:35", after := #[{ on := 3, ground := Ground.guard }], guard := some (3, false) }) (v := ?v79) rfl (by kernel_rfl) (by kernel_rfl) (by kernel_rfl) (fun _ _ _ h => h) (Or.inl ⟨by rfl, ?hy79⟩) (by assumption) ?rest79
          case hy79 => (intro w hSw; (try dsimp only at hSw); go_simp; (try rw [if_pos (by omega)]); (try with_reducible rfl))
          simp only [Act.put, List.setIfInBounds_toArray, List.set_cons_zero, List.set_cons_succ]
          refine wpAnyH_take (i := 7) (oi := { dst := some 79, op := Op.move (Operand.tmp 6), type := 3, pos := "more.go:35", after := #[{ on := 3, ground := Ground.guard }], guard := some (3, false) }) (v := ?v80) rfl (by kernel_rfl) (by kernel_rfl) (by kernel_rfl) (fun _ _ _ h => h) (Or.inl ⟨by rfl, ?hy80⟩) (by assumption) ?rest80
          case hy80 => (intro w hSw; (try dsimp only at hSw); go_simp; (try rw [if_pos (by omega)]); (try with_reducible rfl))
          simp only [Act.put, List.setIfInBounds_toArray, List.set_cons_zero, List.set_cons_succ]
          refine wpAnyH_take (i := 8) (oi := { dst := some 80, op := Op.indexAddr 50 (Operand.tmp 78) (Operand.tmp 79), type := 0, pos := "more.go:35", after := #[{ on := 6, ground := Ground.data }, { on := 7, ground := Ground.data }, { on := 3, ground := Ground.guard }], guard := some (3, false) }) (v := ?v81) rfl (by kernel_rfl) (by kernel_rfl) (by kernel_rfl) (fun _ _ _ h => h) (Or.inl ⟨by rfl, ?hy81⟩) (by assumption) ?rest81
          case hy81 => (intro w hSw; (try dsimp only at hSw); go_simp; (try rw [if_pos (by omega)]); (try with_reducible rfl))
          simp only [Act.put, List.setIfInBounds_toArray, List.set_cons_zero, List.set_cons_succ]
          refine wpAnyH_take (i := 9) (oi := { dst := some 81, op := Op.load 3 (Operand.tmp 80), type := 3, pos := "more.go:35", after := #[{ on := 8, ground := Ground.data }, { on := 3, ground := Ground.guard }], guard := some (3, false) }) (v := ?v82) rfl (by kernel_rfl) (by kernel_rfl) (by kernel_rfl) (fun _ _ _ h => h) (Or.inl ⟨by rfl, ?hy82⟩) (by assumption) ?rest82
          case hy82 => (intro w hSw; (try dsimp only at hSw); go_simp; (try rw [if_pos (by omega)]); (try with_reducible rfl))
          simp only [Act.put, List.setIfInBounds_toArray, List.set_cons_zero, List.set_cons_succ]
          refine wpAnyH_take (i := 10) (oi := { dst := some 82, op := Op.binOp BinOp.add 3 (Operand.const (Value.int IntKind.i64 2)) (Operand.tmp 81) 3, type := 3, pos := "more.go:35", after := #[{ on := 9, ground := Ground.data }, { on := 3, ground := Ground.guard }], guard := some (3, false) }) (v := ?v83) rfl (by kernel_rfl) (by kernel_rfl) (by kernel_rfl) (fun _ _ _ h => h) (Or.inl ⟨by rfl, ?hy83⟩) (by assumption) ?rest83
          case hy83 => (intro w hSw; (try dsimp only at hSw); go_simp; (try rw [if_pos (by omega)]); (try with_reducible rfl))
          simp only [Act.put, List.setIfInBounds_toArray, List.set_cons_zero, List.set_cons_succ]
          refine wpAnyH_take (i := 11) (oi := { dst := some 83, op := Op.binOp BinOp.neq 3 (Operand.tmp 77) (Operand.tmp 82) 3, type := 4, pos := "more.go:35", after := #[{ on := 5, ground := Ground.data }, { on := 10, ground := Ground.data }, { on := 3, ground := Ground.guard }], guard := some (3, false) }) (v := ?v84) rfl (by kernel_rfl) (by kernel_rfl) (by kernel_rfl) (fun _ _ _ h => h) (Or.inl ⟨by rfl, ?hy84⟩) (by assumption) ?rest84
          case hy84 => (intro w hSw; (try dsimp only at hSw); go_simp; (try rw [if_pos (by omega)]); (try with_reducible rfl))
          simp only [Act.put, List.setIfInBounds_toArray, List.set_cons_zero, List.set_cons_succ]
          refine wpAnyH_take (i := 12) (oi := { dst := some 84, op := Op.pick (Operand.tmp 75) (Operand.const (Value.bool true)) (Operand.tmp 83), type := 4, pos := "more.go:35", after := #[{ on := 3, ground := Ground.data }, { on := 11, ground := Ground.data }], guard := none }) (v := ?v85) rfl (by kernel_rfl) (by kernel_rfl) (by kernel_rfl) (fun _ _ _ h => h) (Or.inl ⟨by rfl, ?hy85⟩) (by assumption) ?rest85
          case hy85 => (intro w hSw; (try dsimp only at hSw); go_simp; (try rw [if_pos (by omega)]); (try with_reducible rfl))
          simp only [Act.put, List.setIfInBounds_toArray, List.set_cons_zero, List.set_cons_succ]
          refine wpAnyH_take (i := 13) (oi := { dst := some 85, op := Op.move (Operand.tmp 84), type := 4, pos := "more.go:35", after := #[{ on := 12, ground := Ground.data }, { on := 3, ground := Ground.chain }], guard := none }) (v := ?v86) rfl (by kernel_rfl) (by kernel_rfl) (by kernel_rfl) (fun _ _ _ h => h) (Or.inl ⟨by rfl, ?hy86⟩) (by assumption) ?rest86
          case hy86 => (intro w hSw; (try dsimp only at hSw); go_simp; (try rw [if_pos (by omega)]); (try with_reducible rfl))
          simp only [Act.put, List.setIfInBounds_toArray, List.set_cons_zero, List.set_cons_succ]
          refine wpAnyH_take (i := 14) (oi := { dst := some 86, op := Op.move (Operand.tmp 9), type := 24, pos := "more.go:35", after := #[{ on := 13, ground := Ground.guard }], guard := some (13, false) }) (v := ?v87) rfl (by kernel_rfl) (by kernel_rfl) (by kernel_rfl) (fun _ _ _ h => h) (Or.inl ⟨by rfl, ?hy87⟩) (by assumption) ?rest87
          case hy87 => (intro w hSw; (try dsimp only at hSw); go_simp; (try rw [if_pos (by omega)]); (try with_reducible rfl))
          simp only [Act.put, List.setIfInBounds_toArray, List.set_cons_zero, List.set_cons_succ]
          refine wpAnyH_take (i := 15) (oi := { dst := some 87, op := Op.indexAddr 24 (Operand.tmp 86) (Operand.const (Value.int IntKind.i64 0)), type := 0, pos := "more.go:35", after := #[{ on := 14, ground := Ground.data }, { on := 13, ground := Ground.guard }], guard := some (13, false) }) (v := ?v88) rfl (by kernel_rfl) (by kernel_rfl) (by kernel_rfl) (fun _ _ _ h => h) (Or.inl ⟨by rfl, ?hy88⟩) (by assumption) ?rest88
          case hy88 => (intro w hSw; (try dsimp only at hSw); go_simp; (try rw [if_pos (by omega)]); (try with_reducible rfl))
          simp only [Act.put, List.setIfInBounds_toArray, List.set_cons_zero, List.set_cons_succ]
          refine wpAnyH_take (i := 16) (oi := { dst := some 88, op := Op.load 5 (Operand.tmp 87), type := 5, pos := "more.go:35", after := #[{ on := 15, ground := Ground.data }, { on := 13, ground := Ground.guard }], guard := some (13, false) }) (v := ?v89) rfl (by kernel_rfl) (by kernel_rfl) (by kernel_rfl) (fun _ _ _ h => h) (Or.inl ⟨by rfl, ?hy89⟩) (by assumption) ?rest89
          case hy89 => (intro w hSw; (try dsimp only at hSw); go_simp; (try rw [if_pos (by omega)]); (try with_reducible rfl))
          simp only [Act.put, List.setIfInBounds_toArray, List.set_cons_zero, List.set_cons_succ]
          refine wpAnyH_take (i := 17) (oi := { dst := some 89, op := Op.convert 5 3 (Operand.tmp 88), type := 3, pos := "more.go:35", after := #[{ on := 16, ground := Ground.data }, { on := 13, ground := Ground.guard }], guard := some (13, false) }) (v := ?v90) rfl (by kernel_rfl) (by kernel_rfl) (by kernel_rfl) (fun _ _ _ h => h) (Or.inl ⟨by rfl, ?hy90⟩) (by assumption) ?rest90
          case hy90 => (intro w hSw; (try dsimp only at hSw); go_simp; (try rw [if_pos (by omega)]); (try with_reducible rfl))
          simp only [Act.put, List.setIfInBounds_toArray, List.set_cons_zero, List.set_cons_succ]
          refine wpAnyH_take (i := 18) (oi := { dst := some 90, op := Op.move (Operand.tmp 4), type := 50, pos := "more.go:35", after := #[{ on := 13, ground := Ground.guard }], guard := some (13, false) }) (v := ?v91) rfl (by kernel_rfl) (by kernel_rfl) (by kernel_rfl) (fun _ _ _ h => h) (Or.inl ⟨by rfl, ?hy91⟩) (by assumption) ?rest91
          case hy91 => (intro w hSw; (try dsimp only at hSw); go_simp; (try rw [if_pos (by omega)]); (try with_reducible rfl))
          simp only [Act.put, List.setIfInBounds_toArray, List.set_cons_zero, List.set_cons_succ]
          refine wpAnyH_take (i := 19) (oi := { dst := some 91, op := Op.move (Operand.tmp 6), type := 3, pos := "more.go:35", after := #[{ on := 13, ground := Ground.guard }], guard := some (13, false) }) (v := ?v92) rfl (by kernel_rfl) (by kernel_rfl) (by kernel_rfl) (fun _ _ _ h => h) (Or.inl ⟨by rfl, ?hy92⟩) (by assumption) ?rest92
          case hy92 => (intro w hSw; (try dsimp only at hSw); go_simp; (try rw [if_pos (by omega)]); (try with_reducible rfl))
          simp only [Act.put, List.setIfInBounds_toArray, List.set_cons_zero, List.set_cons_succ]
          refine wpAnyH_take (i := 20) (oi := { dst := some 92, op := Op.indexAddr 50 (Operand.tmp 90) (Operand.tmp 91), type := 0, pos := "more.go:35", after := #[{ on := 18, ground := Ground.data }, { on := 19, ground := Ground.data }, { on := 13, ground := Ground.guard }], guard := some (13, false) }) (v := ?v93) rfl (by kernel_rfl) (by kernel_rfl) (by kernel_rfl) (fun _ _ _ h => h) (Or.inl ⟨by rfl, ?hy93⟩) (by assumption) ?rest93
          case hy93 => (intro w hSw; (try dsimp only at hSw); go_simp; (try rw [if_pos (by omega)]); (try with_reducible rfl))
          simp only [Act.put, List.setIfInBounds_toArray, List.set_cons_zero, List.set_cons_succ]
          refine wpAnyH_take (i := 21) (oi := { dst := some 93, op := Op.load 3 (Operand.tmp 92), type := 3, pos := "more.go:35", after := #[{ on := 20, ground := Ground.data }, { on := 13, ground := Ground.guard }], guard := some (13, false) }) (v := ?v94) rfl (by kernel_rfl) (by kernel_rfl) (by kernel_rfl) (fun _ _ _ h => h) (Or.inl ⟨by rfl, ?hy94⟩) (by assumption) ?rest94
          case hy94 => (intro w hSw; (try dsimp only at hSw); go_simp; (try rw [if_pos (by omega)]); (try with_reducible rfl))
          simp only [Act.put, List.setIfInBounds_toArray, List.set_cons_zero, List.set_cons_succ]
          refine wpAnyH_take (i := 22) (oi := { dst := some 94, op := Op.binOp BinOp.add 3 (Operand.const (Value.int IntKind.i64 1)) (Operand.tmp 93) 3, type := 3, pos := "more.go:35", after := #[{ on := 21, ground := Ground.data }, { on := 13, ground := Ground.guard }], guard := some (13, false) }) (v := ?v95) rfl (by kernel_rfl) (by kernel_rfl) (by kernel_rfl) (fun _ _ _ h => h) (Or.inl ⟨by rfl, ?hy95⟩) (by assumption) ?rest95
          case hy95 => (intro w hSw; (try dsimp only at hSw); go_simp; (try rw [if_pos (by omega)]); (try with_reducible rfl))
          simp only [Act.put, List.setIfInBounds_toArray, List.set_cons_zero, List.set_cons_succ]
          refine wpAnyH_take (i := 23) (oi := { dst := some 95, op := Op.binOp BinOp.neq 3 (Operand.tmp 89) (Operand.tmp 94) 3, type := 4, pos := "more.go:35", after := #[{ on := 17, ground := Ground.data }, { on := 22, ground := Ground.data }, { on := 13, ground := Ground.guard }], guard := some (13, false) }) (v := ?v96) rfl (by kernel_rfl) (by kernel_rfl) (by kernel_rfl) (fun _ _ _ h => h) (Or.inl ⟨by rfl, ?hy96⟩) (by assumption) ?rest96
          case hy96 => (intro w hSw; (try dsimp only at hSw); go_simp; (try rw [if_pos (by omega)]); (try with_reducible rfl))
          simp only [Act.put, List.setIfInBounds_toArray, List.set_cons_zero, List.set_cons_succ]
          refine wpAnyH_take (i := 24) (oi := { dst := some 96, op := Op.pick (Operand.tmp 85) (Operand.const (Value.bool true)) (Operand.tmp 95), type := 4, pos := "more.go:35", after := #[{ on := 13, ground := Ground.data }, { on := 23, ground := Ground.data }], guard := none }) (v := ?v97) rfl (by kernel_rfl) (by kernel_rfl) (by kernel_rfl) (fun _ _ _ h => h) (Or.inl ⟨by rfl, ?hy97⟩) (by assumption) ?rest97
          case hy97 => (intro w hSw; (try dsimp only at hSw); go_simp; (try rw [if_pos (by omega)]); (try with_reducible rfl))
          simp only [Act.put, List.setIfInBounds_toArray, List.set_cons_zero, List.set_cons_succ]
          refine wpAnyH_take (i := 25) (oi := { dst := some 97, op := Op.move (Operand.tmp 96), type := 4, pos := "more.go:35", after := #[{ on := 24, ground := Ground.data }, { on := 13, ground := Ground.chain }], guard := none }) (v := ?v98) rfl (by kernel_rfl) (by kernel_rfl) (by kernel_rfl) (fun _ _ _ h => h) (Or.inl ⟨by rfl, ?hy98⟩) (by assumption) ?rest98
          case hy98 => (intro w hSw; (try dsimp only at hSw); go_simp; (try rw [if_pos (by omega)]); (try with_reducible rfl))
          simp only [Act.put, List.setIfInBounds_toArray, List.set_cons_zero, List.set_cons_succ]
          refine wpAnyH_take (i := 26) (oi := { dst := some 98, op := Op.move (Operand.tmp 9), type := 24, pos := "more.go:35", after := #[{ on := 25, ground := Ground.guard }], guard := some (25, false) }) (v := ?v99) rfl (by kernel_rfl) (by kernel_rfl) (by kernel_rfl) (fun _ _ _ h => h) (Or.inl ⟨by rfl, ?hy99⟩) (by assumption) ?rest99
          case hy99 => (intro w hSw; (try dsimp only at hSw); go_simp; (try rw [if_pos (by omega)]); (try with_reducible rfl))
          simp only [Act.put, List.setIfInBounds_toArray, List.set_cons_zero, List.set_cons_succ]
          refine wpAnyH_take (i := 27) (oi := { dst := some 99, op := Op.indexAddr 24 (Operand.tmp 98) (Operand.const (Value.int IntKind.i64 1)), type := 0, pos := "more.go:35", after := #[{ on := 26, ground := Ground.data }, { on := 25, ground := Ground.guard }], guard := some (25, false) }) (v := ?v100) rfl (by kernel_rfl) (by kernel_rfl) (by kernel_rfl) (fun _ _ _ h => h) (Or.inl ⟨by rfl, ?hy100⟩) (by assumption) ?rest100
          case hy100 => (intro w hSw; (try dsimp only at hSw); go_simp; (try rw [if_pos (by omega)]); (try with_reducible rfl))
          simp only [Act.put, List.setIfInBounds_toArray, List.set_cons_zero, List.set_cons_succ]
          refine wpAnyH_take (i := 28) (oi := { dst := some 100, op := Op.load 5 (Operand.tmp 99), type := 5, pos := "more.go:35", after := #[{ on := 27, ground := Ground.data }, { on := 25, ground := Ground.guard }], guard := some (25, false) }) (v := ?v101) rfl (by kernel_rfl) (by kernel_rfl) (by kernel_rfl) (fun _ _ _ h => h) (Or.inl ⟨by rfl, ?hy101⟩) (by assumption) ?rest101
          case hy101 => (intro w hSw; (try dsimp only at hSw); go_simp; (try rw [if_pos (by omega)]); (try with_reducible rfl))
          simp only [Act.put, List.setIfInBounds_toArray, List.set_cons_zero, List.set_cons_succ]
          refine wpAnyH_take (i := 29) (oi := { dst := some 101, op := Op.convert 5 3 (Operand.tmp 100), type := 3, pos := "more.go:35", after := #[{ on := 28, ground := Ground.data }, { on := 25, ground := Ground.guard }], guard := some (25, false) }) (v := ?v102) rfl (by kernel_rfl) (by kernel_rfl) (by kernel_rfl) (fun _ _ _ h => h) (Or.inl ⟨by rfl, ?hy102⟩) (by assumption) ?rest102
          case hy102 => (intro w hSw; (try dsimp only at hSw); go_simp; (try rw [if_pos (by omega)]); (try with_reducible rfl))
          simp only [Act.put, List.setIfInBounds_toArray, List.set_cons_zero, List.set_cons_succ]
          refine wpAnyH_take (i := 30) (oi := { dst := some 102, op := Op.fieldAddr 49 (Operand.tmp 7) 0, type := 0, pos := "more.go:35", after := #[{ on := 25, ground := Ground.guard }], guard := some (25, false) }) (v := ?v103) rfl (by kernel_rfl) (by kernel_rfl) (by kernel_rfl) (fun _ _ _ h => h) (Or.inl ⟨by rfl, ?hy103⟩) (by assumption) ?rest103
          case hy103 => (intro w hSw; (try dsimp only at hSw); go_simp; (try rw [if_pos (by omega)]); (try with_reducible rfl))
          simp only [Act.put, List.setIfInBounds_toArray, List.set_cons_zero, List.set_cons_succ]
          refine wpAnyH_take (i := 31) (oi := { dst := some 103, op := Op.load 3 (Operand.tmp 102), type := 3, pos := "more.go:35", after := #[{ on := 30, ground := Ground.data }, { on := 25, ground := Ground.guard }], guard := some (25, false) }) (v := ?v104) rfl (by kernel_rfl) (by kernel_rfl) (by kernel_rfl) (fun _ _ _ h => h) (Or.inl ⟨by rfl, ?hy104⟩) (by assumption) ?rest104
          case hy104 => (intro w hSw; (try dsimp only at hSw); go_simp; (try rw [if_pos (by omega)]); (try with_reducible rfl))
          simp only [Act.put, List.setIfInBounds_toArray, List.set_cons_zero, List.set_cons_succ]
          refine wpAnyH_take (i := 32) (oi := { dst := some 104, op := Op.binOp BinOp.neq 3 (Operand.tmp 101) (Operand.tmp 103) 3, type := 4, pos := "more.go:35", after := #[{ on := 29, ground := Ground.data }, { on := 31, ground := Ground.data }, { on := 25, ground := Ground.guard }], guard := some (25, false) }) (v := ?v105) rfl (by kernel_rfl) (by kernel_rfl) (by kernel_rfl) (fun _ _ _ h => h) (Or.inl ⟨by rfl, ?hy105⟩) (by assumption) ?rest105
          case hy105 => (intro w hSw; (try dsimp only at hSw); go_simp; (try rw [if_pos (by omega)]); (try with_reducible rfl))
          simp only [Act.put, List.setIfInBounds_toArray, List.set_cons_zero, List.set_cons_succ]
          refine wpAnyH_take (i := 33) (oi := { dst := some 105, op := Op.pick (Operand.tmp 97) (Operand.const (Value.bool true)) (Operand.tmp 104), type := 4, pos := "more.go:35", after := #[{ on := 25, ground := Ground.data }, { on := 32, ground := Ground.data }], guard := none }) (v := ?v106) rfl (by kernel_rfl) (by kernel_rfl) (by kernel_rfl) (fun _ _ _ h => h) (Or.inl ⟨by rfl, ?hy106⟩) (by assumption) ?rest106
          case hy106 => (intro w hSw; (try dsimp only at hSw); go_simp; (try rw [if_pos (by omega)]); (try with_reducible rfl))
          simp only [Act.put, List.setIfInBounds_toArray, List.set_cons_zero, List.set_cons_succ]
          refine wpAnyH_done (by kernel_rfl) ?_ _
          refine NoPanic.normal ?_
          have R0 := ((unhide HX4).cell (p := ⟨wi.heap.size, 0, none⟩) (cell_lt P0)).trans P0
          have F0 := ((unhide HX4).frozen (p := ⟨wi.heap.size, 0, none⟩) (cell_lt P0)).trans Q0
          have R1 := ((unhide HX4).cell (p := ⟨wi.heap.size, 1, none⟩) (cell_lt P1)).trans P1
          have F1 := ((unhide HX4).frozen (p := ⟨wi.heap.size, 1, none⟩) (cell_lt P1)).trans Q1
          have R2 := ((unhide HX4).cell (p := ⟨wi.heap.size, 2, none⟩) (cell_lt P2)).trans P2
          have F2 := ((unhide HX4).frozen (p := ⟨wi.heap.size, 2, none⟩) (cell_lt P2)).trans Q2
          have R3 := ((unhide HX4).cell (p := ⟨wi.heap.size, 3, none⟩) (cell_lt P3)).trans P3
          have F3 := ((unhide HX4).frozen (p := ⟨wi.heap.size, 3, none⟩) (cell_lt P3)).trans Q3
          have k2 := ((unhide HX4).cell (p := ⟨g, o + 2, none⟩) (cell_lt y2)).trans y2
          have k3 := ((unhide HX4).cell (p := ⟨g, o + 3, none⟩) (cell_lt y3)).trans y3
          have k4 := ((unhide HX4).cell (p := ⟨g, o + 4, none⟩) (cell_lt y4)).trans y4
          have k5 := ((unhide HX4).cell (p := ⟨g, o + 5, none⟩) (cell_lt y5)).trans y5
          have HB4 : Hid (Below WB.heap.size WB w4) := (unhide HB3).trans ((unhide HX4).mono (unhide HB3).size)
          have hsz4 := (unhide HB4).size
          have hl4 : wi.heap.size < w4.heap.size := cell_lt R0
          clear HB3 HX4 z3 HG3 hE3d hE3 P0 Q0 P1 Q1 P2 Q2 P3 Q3 y0 y1 y2 y3 y4 y5
          obtain ⟨d0, hd0⟩ : ∃ d, d = X / 16777216 := ⟨_, rfl⟩
          rw [← hd0] at k2
          obtain ⟨d1, hd1⟩ : ∃ d, d = X / 65536 % 256 := ⟨_, rfl⟩
          rw [← hd1] at k3
          obtain ⟨d2, hd2⟩ : ∃ d, d = X / 256 % 256 := ⟨_, rfl⟩
          rw [← hd2] at k4
          obtain ⟨d3, hd3⟩ : ∃ d, d = X % 256 := ⟨_, rfl⟩
          rw [← hd3] at k5
          have b0 : 0 ≤ d0 ∧ d0 ≤ 255 := by omega
          have b1 : 0 ≤ d1 ∧ d1 ≤ 255 := by omega
          have b2 : 0 ≤ d2 ∧ d2 ≤ 255 := by omega
          have b3 : 0 ≤ d3 ∧ d3 ≤ 255 := by omega
          have e0 : bits .or .i64 0 d0 = d0 := V.or_zero d0 b0.1 (by omega)
          have e1 := or_256 (d0) d1 (by omega) (by omega) b1.1 b1.2
          have e2 := or_256 (d0 * 256 + d1) d2 (by omega) (by omega) b2.1 b2.2
          have e3 := or_256 ((d0 * 256 + d1) * 256 + d2) d3 (by omega) (by omega) b3.1 b3.2
          have hsum : ((d0 * 256 + d1) * 256 + d2) * 256 + d3 = X := by omega
          have hne : ((((d0 * 256 + d1) * 256 + d2) * 256 + d3) != X) = false := by rw [hsum]; simp
          clear hd0
          clear hd1
          clear hd2
          clear hd3
          have HSUM := hide hsum
          clear hsum
          go_wp2
          refine wp_loop_rounds 5 ?_
          rw [rounds_succ]
          go_wp2_with fail
          rw [rounds_succ]
          go_wp2_with fail
          rw [rounds_succ]
          go_wp2_with fail
          rw [rounds_succ]
          go_wp2_with fail
          rw [rounds_succ]
          go_wp2_with fail
          have HP5 := hide (put_any _ [(39, 4294967296, es, es)] 1 ((w4.setCell ⟨wi.heap.size, 1, none⟩ (.int .i64 4294967296)).alloc (.cells #[.int .i64 39, .int .i64 4294967296, .string ⟨#[]⟩, .string ⟨#[]⟩] 49)) (prp_lit1 (w4.setCell ⟨wi.heap.size, 1, none⟩ (.int .i64 4294967296)) _ _ _ _ 1 _) (by simp) (small_lit1 _ _ _ _ es_small es_small))
          rw [num_bad 39 4294967296 (by omega), show (w4.setCell ⟨wi.heap.size, 1, none⟩ (.int .i64 4294967296)).heap.size = w4.heap.size from by simp] at HP5
          have hb5s : Below WB.heap.size WB (w4.setCell ⟨wi.heap.size, 1, none⟩ (.int .i64 4294967296)) := (unhide HB4).setCell (by show WB.heap.size ≤ wi.heap.size; omega) _
          refine (unhide HP5).mono ?_
          rintro e w5 ⟨v5, E5, rfl, -, hE5, hb5⟩
          have HB5 : Hid (Below WB.heap.size WB w5) := (hb5s.alloc (by simp; omega) _).trans (hb5.mono (by simp; omega))
          have R50 : w5.cell? ⟨wi.heap.size, 0, none⟩ = some (.int .i64 39) := (hb5.cell (p := ⟨wi.heap.size, 0, none⟩) (by simp; omega)).trans ((World.cell?_alloc_lt _ _ ⟨wi.heap.size, 0, none⟩ (by simp; omega)).trans (by simp (maxDischargeDepth := 12) [cell_sets, R0]))
          have F50 : w5.frozen? ⟨wi.heap.size, 0, none⟩ = false := (hb5.frozen (p := ⟨wi.heap.size, 0, none⟩) (by simp; omega)).trans ((((Below.refl (w4.setCell ⟨wi.heap.size, 1, none⟩ (.int .i64 4294967296)).heap.size (w4.setCell ⟨wi.heap.size, 1, none⟩ (.int .i64 4294967296))).alloc (Nat.le_refl _) _).frozen (p := ⟨wi.heap.size, 0, none⟩) (by simp; omega)).trans ((World.frozen?_setCell ..).trans F0))
          have R51 : w5.cell? ⟨wi.heap.size, 1, none⟩ = some (.int .i64 4294967296) := (hb5.cell (p := ⟨wi.heap.size, 1, none⟩) (by simp; omega)).trans ((World.cell?_alloc_lt _ _ ⟨wi.heap.size, 1, none⟩ (by simp; omega)).trans (by simp (maxDischargeDepth := 12) [cell_sets, R1]))
          have F51 : w5.frozen? ⟨wi.heap.size, 1, none⟩ = false := (hb5.frozen (p := ⟨wi.heap.size, 1, none⟩) (by simp; omega)).trans ((((Below.refl (w4.setCell ⟨wi.heap.size, 1, none⟩ (.int .i64 4294967296)).heap.size (w4.setCell ⟨wi.heap.size, 1, none⟩ (.int .i64 4294967296))).alloc (Nat.le_refl _) _).frozen (p := ⟨wi.heap.size, 1, none⟩) (by simp; omega)).trans ((World.frozen?_setCell ..).trans F1))
          have R52 : w5.cell? ⟨wi.heap.size, 2, none⟩ = some (.string ⟨#[]⟩) := (hb5.cell (p := ⟨wi.heap.size, 2, none⟩) (by simp; omega)).trans ((World.cell?_alloc_lt _ _ ⟨wi.heap.size, 2, none⟩ (by simp; omega)).trans (by simp (maxDischargeDepth := 12) [cell_sets, R2]))
          have F52 : w5.frozen? ⟨wi.heap.size, 2, none⟩ = false := (hb5.frozen (p := ⟨wi.heap.size, 2, none⟩) (by simp; omega)).trans ((((Below.refl (w4.setCell ⟨wi.heap.size, 1, none⟩ (.int .i64 4294967296)).heap.size (w4.setCell ⟨wi.heap.size, 1, none⟩ (.int .i64 4294967296))).alloc (Nat.le_refl _) _).frozen (p := ⟨wi.heap.size, 2, none⟩) (by simp; omega)).trans ((World.frozen?_setCell ..).trans F2))
          have R53 : w5.cell? ⟨wi.heap.size, 3, none⟩ = some (.string ⟨#[]⟩) := (hb5.cell (p := ⟨wi.heap.size, 3, none⟩) (by simp; omega)).trans ((World.cell?_alloc_lt _ _ ⟨wi.heap.size, 3, none⟩ (by simp; omega)).trans (by simp (maxDischargeDepth := 12) [cell_sets, R3]))
          have F53 : w5.frozen? ⟨wi.heap.size, 3, none⟩ = false := (hb5.frozen (p := ⟨wi.heap.size, 3, none⟩) (by simp; omega)).trans ((((Below.refl (w4.setCell ⟨wi.heap.size, 1, none⟩ (.int .i64 4294967296)).heap.size (w4.setCell ⟨wi.heap.size, 1, none⟩ (.int .i64 4294967296))).alloc (Nat.le_refl _) _).frozen (p := ⟨wi.heap.size, 3, none⟩) (by simp; omega)).trans ((World.frozen?_setCell ..).trans F3))
          have hl5 : wi.heap.size < w5.heap.size := cell_lt R50
          clear hb5 hb5s HP5 HB4 R0 F0 R1 F1 R2 F2 R3 F3
          have HP6 := hide (put_any _ [(39, 0, es, es)] 1 ((w5.setCell ⟨wi.heap.size, 1, none⟩ (.int .i64 0)).alloc (.cells #[.int .i64 39, .int .i64 0, .string ⟨#[]⟩, .string ⟨#[]⟩] 49)) (prp_lit1 (w5.setCell ⟨wi.heap.size, 1, none⟩ (.int .i64 0)) _ _ _ _ 1 _) (by simp) (small_lit1 _ _ _ _ es_small es_small))
          rw [num_bad 39 0 (by omega), show (w5.setCell ⟨wi.heap.size, 1, none⟩ (.int .i64 0)).heap.size = w5.heap.size from by simp] at HP6
          have hb6s : Below WB.heap.size WB (w5.setCell ⟨wi.heap.size, 1, none⟩ (.int .i64 0)) := (unhide HB5).setCell (by show WB.heap.size ≤ wi.heap.size; omega) _
          go_wp2_with fail
          refine (unhide HP6).mono ?_
          rintro e w6 ⟨v6, E6, rfl, -, hE6, hb6⟩
          have HB6 : Hid (Below WB.heap.size WB w6) := (hb6s.alloc (by simp; omega) _).trans (hb6.mono (by simp; omega))
          have R60 : w6.cell? ⟨wi.heap.size, 0, none⟩ = some (.int .i64 39) := (hb6.cell (p := ⟨wi.heap.size, 0, none⟩) (by simp; omega)).trans ((World.cell?_alloc_lt _ _ ⟨wi.heap.size, 0, none⟩ (by simp; omega)).trans (by simp (maxDischargeDepth := 12) [cell_sets, R50]))
          have F60 : w6.frozen? ⟨wi.heap.size, 0, none⟩ = false := (hb6.frozen (p := ⟨wi.heap.size, 0, none⟩) (by simp; omega)).trans ((((Below.refl (w5.setCell ⟨wi.heap.size, 1, none⟩ (.int .i64 0)).heap.size (w5.setCell ⟨wi.heap.size, 1, none⟩ (.int .i64 0))).alloc (Nat.le_refl _) _).frozen (p := ⟨wi.heap.size, 0, none⟩) (by simp; omega)).trans ((World.frozen?_setCell ..).trans F50))
          have R61 : w6.cell? ⟨wi.heap.size, 1, none⟩ = some (.int .i64 0) := (hb6.cell (p := ⟨wi.heap.size, 1, none⟩) (by simp; omega)).trans ((World.cell?_alloc_lt _ _ ⟨wi.heap.size, 1, none⟩ (by simp; omega)).trans (by simp (maxDischargeDepth := 12) [cell_sets, R51]))
          have F61 : w6.frozen? ⟨wi.heap.size, 1, none⟩ = false := (hb6.frozen (p := ⟨wi.heap.size, 1, none⟩) (by simp; omega)).trans ((((Below.refl (w5.setCell ⟨wi.heap.size, 1, none⟩ (.int .i64 0)).heap.size (w5.setCell ⟨wi.heap.size, 1, none⟩ (.int .i64 0))).alloc (Nat.le_refl _) _).frozen (p := ⟨wi.heap.size, 1, none⟩) (by simp; omega)).trans ((World.frozen?_setCell ..).trans F51))
          have R62 : w6.cell? ⟨wi.heap.size, 2, none⟩ = some (.string ⟨#[]⟩) := (hb6.cell (p := ⟨wi.heap.size, 2, none⟩) (by simp; omega)).trans ((World.cell?_alloc_lt _ _ ⟨wi.heap.size, 2, none⟩ (by simp; omega)).trans (by simp (maxDischargeDepth := 12) [cell_sets, R52]))
          have F62 : w6.frozen? ⟨wi.heap.size, 2, none⟩ = false := (hb6.frozen (p := ⟨wi.heap.size, 2, none⟩) (by simp; omega)).trans ((((Below.refl (w5.setCell ⟨wi.heap.size, 1, none⟩ (.int .i64 0)).heap.size (w5.setCell ⟨wi.heap.size, 1, none⟩ (.int .i64 0))).alloc (Nat.le_refl _) _).frozen (p := ⟨wi.heap.size, 2, none⟩) (by simp; omega)).trans ((World.frozen?_setCell ..).trans F52))
          have R63 : w6.cell? ⟨wi.heap.size, 3, none⟩ = some (.string ⟨#[]⟩) := (hb6.cell (p := ⟨wi.heap.size, 3, none⟩) (by simp; omega)).trans ((World.cell?_alloc_lt _ _ ⟨wi.heap.size, 3, none⟩ (by simp; omega)).trans (by simp (maxDischargeDepth := 12) [cell_sets, R53]))
          have F63 : w6.frozen? ⟨wi.heap.size, 3, none⟩ = false := (hb6.frozen (p := ⟨wi.heap.size, 3, none⟩) (by simp; omega)).trans ((((Below.refl (w5.setCell ⟨wi.heap.size, 1, none⟩ (.int .i64 0)).heap.size (w5.setCell ⟨wi.heap.size, 1, none⟩ (.int .i64 0))).alloc (Nat.le_refl _) _).frozen (p := ⟨wi.heap.size, 3, none⟩) (by simp; omega)).trans ((World.frozen?_setCell ..).trans F53))
          have HE5 : Hid (ErrP w6 E5 1) := ((errp_set (unhide hE5) R51).below (((Below.refl (w5.setCell ⟨wi.heap.size, 1, none⟩ (.int .i64 0)).heap.size (w5.setCell ⟨wi.heap.size, 1, none⟩ (.int .i64 0))).alloc (Nat.le_refl _) _).trans (hb6.mono (by simp))))
          clear hb6 hb6s HP6 HB5 R50 F50 R51 F51 R52 F52 R53 F53
          have HG6 : Hid (Laid w6) := ((unhide HWB) _ (unhide HB6)).2.1
          go_wp2_with fail
          refine (numlp _ 1 _ (unhide HG6) (unhide HE5)).mono ?_
          rintro e w7 ⟨rfl, hb7⟩
          have HB7 : Hid (Below WB.heap.size WB w7) := (unhide HB6).trans (hb7.mono (unhide HB6).size)
          have HG7 : Hid (Laid w7) := ((unhide HWB) _ (unhide HB7)).2.1
          have HE6 : Hid (ErrP w7 E6 1) := (unhide hE6).below hb7
          clear hb7
          go_wp2_with fail
          refine (numlp _ 1 _ (unhide HG7) (unhide HE6)).mono ?_
          rintro e w8 ⟨rfl, hb8⟩
          have HB8 : Hid (Below WB.heap.size WB w8) := (unhide HB7).trans (hb8.mono (unhide HB7).size)
          clear hb8
          go_wp2
          go_roundw
          case rel => exact ⟨2, by omega, by go_num, unhide HB8⟩
          case measure => simp [intOf]
        · go_wp2
          go_roundw
          case rel => exact ⟨k + 1, by omega, by omega, by go_num, unhide HBI⟩
          case measure => simp [intOf]; omega
    · obtain ⟨-, hgw, hbw⟩ := (unhide HWB) wo hbel
      have HB0 := hide hbw
      have HGE := hide hgw
      clear hbel hbw hgw
      by_cases hl2 : k < len
      · have hk2 : k = 12 := by omega
        subst hk2
        go_wp2_with fail
        refine (wakes_any _ (unhide HGE)).mono ?_
        rintro e w2 ⟨rfl, hb2⟩
        go_wp2
        go_ret
        exact ⟨rfl, (unhide HB0).trans (hb2.mono (unhide HB0).size)⟩
      · go_wp2_with fail
        refine (wakes_any _ (unhide HGE)).mono ?_
        rintro e w2 ⟨rfl, hb2⟩
        go_wp2
        go_ret
        exact ⟨rfl, (unhide HB0).trans (hb2.mono (unhide HB0).size)⟩
theorem numbers_walk0 (ao : Option Addr) (cap : Nat) (w : World) (hg : Laid w) : Calls Tryd.prog 7 #[.slice ao 0 cap] w fun e w' => e = .returned (.bool true) ∧ Below w.heap.size w w' := by
  have HG := hide hg
  clear hg
  go_enter Tryd.func7, Tryd.ntmps7
  go_wp2
  refine wp_loop_rounds 1 ?_
  rw [rounds_succ]
  go_wp2_with fail
  refine (wakes_any _ ((unhide HG).below (((Below.refl _ _).alloc (Nat.le_refl _) _).alloc (by simp) _) (unhide HG).pos)).mono ?_
  rintro e w2 ⟨rfl, hb2⟩
  go_wp2
  go_ret
  exact ⟨rfl, (((Below.refl _ _).alloc (Nat.le_refl _) _).alloc (by simp) _).trans (hb2.mono (by simp; omega))⟩
end Go.Proofs.YtpfpollejhdbgaaDoor
