/- Proved here: helpers, one text behind the other. -/
import Derived.Test.YtpfpollejhdbgaaDoorM7
import Derived.Test.YtpfpollejhdbgaaDoorM5
/- Proved here: prop.getOne reads one property with which bytes begin, or tells an error of below. Helper contracts. -/
namespace Go.Proofs.YtpfpollejhdbgaaDoor
open Go.RowKit
set_option maxRecDepth 100000

def GoOk (p : Pr) (K : Int) (w : World) (e : Ending) (w' : World) : Prop := e = .returned (.tuple #[.agg #[.int .i64 p.1, .int .i64 p.2.1, .string p.2.2.1, .string p.2.2.2], .int .i64 K, .nilIface]) ∧ Below w.heap.size w w'
/-- four cells of one block, written one behind the other -/
def set4 (w : World) (B : Nat) (a b : Int) (s t : ByteArray) : World := (((w.setCell ⟨B, 0, none⟩ (.int .i64 a)).setCell ⟨B, 1, none⟩ (.int .i64 b)).setCell ⟨B, 2, none⟩ (.string s)).setCell ⟨B, 3, none⟩ (.string t)
theorem set4_c0 (w : World) (B : Nat) (a b : Int) (s t : ByteArray) {x : Value} (h : w.cell? ⟨B, 0, none⟩ = some x) : (set4 w B a b s t).cell? ⟨B, 0, none⟩ = some (.int .i64 a) := by
  unfold set4
  simp (maxDischargeDepth := 12) [cell_set, h]
theorem set4_c1 (w : World) (B : Nat) (a b : Int) (s t : ByteArray) {x : Value} (h : w.cell? ⟨B, 1, none⟩ = some x) : (set4 w B a b s t).cell? ⟨B, 1, none⟩ = some (.int .i64 b) := by
  unfold set4
  simp (maxDischargeDepth := 12) [cell_set, h]
theorem set4_c2 (w : World) (B : Nat) (a b : Int) (s t : ByteArray) {x : Value} (h : w.cell? ⟨B, 2, none⟩ = some x) : (set4 w B a b s t).cell? ⟨B, 2, none⟩ = some (.string s) := by
  unfold set4
  simp (maxDischargeDepth := 12) [cell_set, h]
theorem set4_c3 (w : World) (B : Nat) (a b : Int) (s t : ByteArray) {x : Value} (h : w.cell? ⟨B, 3, none⟩ = some x) : (set4 w B a b s t).cell? ⟨B, 3, none⟩ = some (.string t) := by
  unfold set4
  simp (maxDischargeDepth := 12) [cell_set, h]
theorem set4_frozen (w : World) (B : Nat) (a b : Int) (s t : ByteArray) (p : Addr) : (set4 w B a b s t).frozen? p = w.frozen? p := by
  unfold set4
  simp [World.frozen?_setCell]
theorem set4_below (w w0 : World) (B B0 : Nat) (a b : Int) (s t : ByteArray) (h : Below B0 w0 w) (hB : B0 ≤ B) : Below B0 w0 (set4 w B a b s t) := by
  unfold set4
  exact (((h.setCell hB _).setCell hB _).setCell hB _).setCell hB _
theorem set4_off {B : Nat} {w : World} {v : Value} {n : Int} (h : InnOff B w v n) (a b : Int) (s t : ByteArray) : InnOff B (set4 w B a b s t) v n := by
  unfold set4
  exact (((h.set rfl).set rfl).set rfl).set rfl
theorem gone_bad1 (v : Value) (l : List Int) (w : World) (h : Byt w v l) (m : Int) (hv : (V.vget l).2.2 = m) (hm : m ≠ 0) : Calls Tryd.prog 50 #[v] w (GvBad w) := by
  obtain ⟨ao, cap, rfl, hc1, hc2⟩ := h.form
  have HV := hide h
  have Hhv := hide hv
  clear h hv
  generalize hn : l.length = n at hc1 HV
  go_enter Tryd.func50, Tryd.ntmps50
  go_wp2_with fail
  refine (vget_fail _ l _ ((unhide HV).below (by go_grown)) m (unhide Hhv) hm).mono ?_
  rintro e w1 ⟨a, b, x, rfl, hi, hb1⟩
  have HB1 : Hid (Below w.heap.size w w1) := ((Below.refl _ _).alloc (Nat.le_refl _) _).trans (hb1.mono (by simp))
  have q0 : w1.cell? ⟨w.heap.size, 0, none⟩ = some (.int .i64 0) := (hb1.cell (p := ⟨w.heap.size, 0, none⟩) (by simp)).trans (by simp)
  have f0 : w1.frozen? ⟨w.heap.size, 0, none⟩ = false := (hb1.frozen (p := ⟨w.heap.size, 0, none⟩) (by simp)).trans (by simp)
  have q1 : w1.cell? ⟨w.heap.size, 1, none⟩ = some (.int .i64 0) := (hb1.cell (p := ⟨w.heap.size, 1, none⟩) (by simp)).trans (by simp)
  have f1 : w1.frozen? ⟨w.heap.size, 1, none⟩ = false := (hb1.frozen (p := ⟨w.heap.size, 1, none⟩) (by simp)).trans (by simp)
  have q2 : w1.cell? ⟨w.heap.size, 2, none⟩ = some (.string ⟨#[]⟩) := (hb1.cell (p := ⟨w.heap.size, 2, none⟩) (by simp)).trans (by simp)
  have f2 : w1.frozen? ⟨w.heap.size, 2, none⟩ = false := (hb1.frozen (p := ⟨w.heap.size, 2, none⟩) (by simp)).trans (by simp)
  have q3 : w1.cell? ⟨w.heap.size, 3, none⟩ = some (.string ⟨#[]⟩) := (hb1.cell (p := ⟨w.heap.size, 3, none⟩) (by simp)).trans (by simp)
  have f3 : w1.frozen? ⟨w.heap.size, 3, none⟩ = false := (hb1.frozen (p := ⟨w.heap.size, 3, none⟩) (by simp)).trans (by simp)
  have HOF := hide ((unhide hi).off q1)
  clear hb1 hi
  go_wp2
  (try simp only [Exit.inBlock, Exit.then])
  refine bodyPost_ret (res_p (B := w.heap.size) (v0 := .int .i64 0) (v1 := .int .i64 0) (v2 := .string ⟨#[]⟩) (v3 := .string ⟨#[]⟩) rfl rfl ?c0 ?c1 ?c2 ?c3) rfl ?_
  case c0 => simp (maxDischargeDepth := 12) [cell_set, q0]
  case c1 => simp (maxDischargeDepth := 12) [cell_set, q1]
  case c2 => simp (maxDischargeDepth := 12) [cell_set, q2]
  case c3 => simp (maxDischargeDepth := 12) [cell_set, q3]
  refine ⟨_, _, _, _, _, _, _, m, rfl, InnOff.inn (B := w.heap.size) ?_, ?_⟩
  · refine InnOff.set ?_ rfl; refine InnOff.set ?_ rfl; refine InnOff.set ?_ rfl; refine InnOff.set ?_ rfl; exact unhide HOF
  · have := unhide HB1; go_grown
set_option maxHeartbeats 1000000 in
theorem gone_ok (v : Value) (l : List Int) (w : World) (h : Byt w v l) (id : Int) (Q : Nat) (hv : V.vget l = (id, (Q : Int), 0)) (hQ : 1 ≤ Q ∧ Q ≤ l.length) (f wd lo hi : Int) (hsh : shv id = .agg #[.int .i64 f, .int .i64 wd, .int .i64 lo, .int .i64 hi]) (N : Int) (s t : ByteArray) (M : Nat) (hM : Q + M ≤ l.length) (hg : ∀ vb W, Byt W vb (l.drop Q) → Calls Tryd.prog 65 #[vb, shp f wd lo hi] W (GvOk N s t M W)) : Calls Tryd.prog 50 #[v] w (GoOk (id, N, s, t) (Q + M : Nat) w) := by
  obtain ⟨b, off, cap, rfl, hc1, hc2⟩ := h.form1 (by omega)
  unfold maxLen at hc2
  have HV := hide h
  have Hhv := hide hv
  have HSH := hide hsh
  have HG := hide hg
  clear h hv hsh hg
  generalize hn : l.length = n at hc1 hQ HV hM
  have HN := hide hn
  clear hn
  by_cases hcQ : cap = Q
  · have hcQ2 := hcQ.symm
    clear hcQ
    subst hcQ2
    go_enter Tryd.func50, Tryd.ntmps50
    go_wp2_with fail
    refine (vget_good _ l _ ((unhide HV).below (by go_grown)) id Q (unhide Hhv)).mono ?_
    rintro e w1 ⟨rfl, hb1⟩
    have HB1 : Hid (Below w.heap.size w w1) := ((Below.refl _ _).alloc (Nat.le_refl _) _).trans (hb1.mono (by simp))
    have HD : Hid (Byt w1 (.slice (some ⟨b, off, none⟩) 0 0) (l.drop Q)) := by
      show Byt _ _ _
      have := ((unhide HV).below (unhide HB1)).drop' Q (by omega)
      rw [if_pos rfl, Nat.sub_self, show n - Q = 0 from by omega] at this; exact this
    have q0 : w1.cell? ⟨w.heap.size, 0, none⟩ = some (.int .i64 0) := (hb1.cell (p := ⟨w.heap.size, 0, none⟩) (by simp)).trans (by simp)
    have f0 : w1.frozen? ⟨w.heap.size, 0, none⟩ = false := (hb1.frozen (p := ⟨w.heap.size, 0, none⟩) (by simp)).trans (by simp)
    have q1 : w1.cell? ⟨w.heap.size, 1, none⟩ = some (.int .i64 0) := (hb1.cell (p := ⟨w.heap.size, 1, none⟩) (by simp)).trans (by simp)
    have f1 : w1.frozen? ⟨w.heap.size, 1, none⟩ = false := (hb1.frozen (p := ⟨w.heap.size, 1, none⟩) (by simp)).trans (by simp)
    have q2 : w1.cell? ⟨w.heap.size, 2, none⟩ = some (.string ⟨#[]⟩) := (hb1.cell (p := ⟨w.heap.size, 2, none⟩) (by simp)).trans (by simp)
    have f2 : w1.frozen? ⟨w.heap.size, 2, none⟩ = false := (hb1.frozen (p := ⟨w.heap.size, 2, none⟩) (by simp)).trans (by simp)
    have q3 : w1.cell? ⟨w.heap.size, 3, none⟩ = some (.string ⟨#[]⟩) := (hb1.cell (p := ⟨w.heap.size, 3, none⟩) (by simp)).trans (by simp)
    have f3 : w1.frozen? ⟨w.heap.size, 3, none⟩ = false := (hb1.frozen (p := ⟨w.heap.size, 3, none⟩) (by simp)).trans (by simp)
    have hl1 : w.heap.size < w1.heap.size := cell_lt q0
    have HC : Hid (Below w1.heap.size w1 w1) := Below.refl _ _
    clear hb1
    go_wp2_with fail
    refine wp_region_noPanic ?_
    refine wp_region_held_drew (S := (fun _ => True)) (by kernel_rfl) trivial (fun hHeld => ?_)
    refine wpAnyH_take (i := 0) (oi := { dst := some 18, op := Op.move (Operand.tmp 0), type := 24, pos := "prop.go:275", after := #[], guard := none }) (v := ?v1) rfl (by kernel_rfl) (by kernel_rfl) (by kernel_rfl) (fun _ _ _ h => h) (Or.inl ⟨by rfl, ?hy1⟩) (by assumption) ?rest1
    case hy1 => (intro w hSw; (try dsimp only at hSw); go_simp; (try rw [if_pos (by omega)]); (try with_reducible rfl))
    simp only [Act.put, List.setIfInBounds_toArray, List.set_cons_zero, List.set_cons_succ]
    refine wpAnyH_take (i := 1) (oi := { dst := some 19, op := Op.move (Operand.tmp 6), type := 3, pos := "prop.go:275", after := #[], guard := none }) (v := ?v2) rfl (by kernel_rfl) (by kernel_rfl) (by kernel_rfl) (fun _ _ _ h => h) (Or.inl ⟨by rfl, ?hy2⟩) (by assumption) ?rest2
    case hy2 => (intro w hSw; (try dsimp only at hSw); go_simp; (try rw [if_pos (by omega)]); (try with_reducible rfl))
    simp only [Act.put, List.setIfInBounds_toArray, List.set_cons_zero, List.set_cons_succ]
    refine wpAnyH_take (i := 2) (oi := { dst := some 20, op := Op.slice 24 (Operand.tmp 18) (some (Operand.tmp 19)) none none, type := 24, pos := "prop.go:275", after := #[{ on := 0, ground := Ground.data }, { on := 1, ground := Ground.data }], guard := none }) (v := ?v3) rfl (by kernel_rfl) (by kernel_rfl) (by kernel_rfl) (fun _ _ _ h => h) (Or.inl ⟨by rfl, ?hy3⟩) (by assumption) ?rest3
    case hy3 => (intro w hSw; (try dsimp only at hSw); go_simp; (try rw [if_pos (by omega)]); (try with_reducible rfl))
    simp only [Act.put, List.setIfInBounds_toArray, List.set_cons_zero, List.set_cons_succ]
    refine wpAnyH_take (i := 3) (oi := { dst := some 21, op := Op.move (Operand.tmp 5), type := 3, pos := "prop.go:275", after := #[], guard := none }) (v := ?v4) rfl (by kernel_rfl) (by kernel_rfl) (by kernel_rfl) (fun _ _ _ h => h) (Or.inl ⟨by rfl, ?hy4⟩) (by assumption) ?rest4
    case hy4 => (intro w hSw; (try dsimp only at hSw); go_simp; (try rw [if_pos (by omega)]); (try with_reducible rfl))
    simp only [Act.put, List.setIfInBounds_toArray, List.set_cons_zero, List.set_cons_succ]
    refine wpAnyH_ready (rs := [4]) (by kernel_rfl) (by simp) ?_
    refine AllReadyH.cons (o := { dst := some 22, op := Op.call { callee := Callee.value (Operand.func 55), args := #[Operand.tmp 21], argTypes := #[3] }, type := 94, pos := "prop.go:275", after := #[{ on := 3, ground := Ground.data }], guard := none }) rfl (fun K hK => ?_) AllReadyH.nil
    go_simp
    refine (shape_use id f wd lo hi (unhide HSH) _).mono ?_
    rintro e w2 ⟨rfl, hb2⟩
    have hb2' := below_undrew1 hb2
    clear hb2
    have HD2 := hide ((unhide HD).below hb2')
    refine hK.out _ _ trivial (fun hHeld => ?_)
    clear hK K
    refine wpAnyH_ready (rs := [5]) (by kernel_rfl) (by simp) ?_
    refine AllReadyH.cons (o := { dst := some 23, op := Op.call { callee := Callee.value (Operand.func 65), args := #[Operand.tmp 20, Operand.tmp 22], argTypes := #[24, 94] }, type := 86, pos := "prop.go:275", after := #[{ on := 2, ground := Ground.data }, { on := 4, ground := Ground.data }, { on := 4, ground := Ground.chain }], guard := none }) rfl (fun K hK => ?_) AllReadyH.nil
    go_simp
    refine ((unhide HG) _ _ (unhide HD2)).mono ?_
    rintro e w3 ⟨rfl, hb3⟩
    have HB3 : Hid (Below w1.heap.size w1 w3) := hb2'.trans (hb3.mono hb2'.size)
    have r0 := ((unhide HB3).cell (cell_lt q0)).trans q0
    have g0 := ((unhide HB3).frozen (p := ⟨w.heap.size, 0, none⟩) (cell_lt q0)).trans f0
    have r1 := ((unhide HB3).cell (cell_lt q1)).trans q1
    have g1 := ((unhide HB3).frozen (p := ⟨w.heap.size, 1, none⟩) (cell_lt q1)).trans f1
    have r2 := ((unhide HB3).cell (cell_lt q2)).trans q2
    have g2 := ((unhide HB3).frozen (p := ⟨w.heap.size, 2, none⟩) (cell_lt q2)).trans f2
    have r3 := ((unhide HB3).cell (cell_lt q3)).trans q3
    have g3 := ((unhide HB3).frozen (p := ⟨w.heap.size, 3, none⟩) (cell_lt q3)).trans f3
    clear hb2' hb3
    refine hK.out _ _ trivial (fun hHeld => ?_)
    clear hK K
    refine wpAnyH_take (i := 6) (oi := { dst := some 17, op := Op.move (Operand.tmp 23), type := 86, pos := "prop.go:275", after := #[{ on := 5, ground := Ground.data }], guard := none }) (v := ?v5) rfl (by kernel_rfl) (by kernel_rfl) (by kernel_rfl) (fun _ _ _ h => h) (Or.inl ⟨by rfl, ?hy5⟩) (by assumption) ?rest5
    case hy5 => (intro w hSw; (try dsimp only at hSw); go_simp; (try rw [if_pos (by omega)]); (try with_reducible rfl))
    simp only [Act.put, List.setIfInBounds_toArray, List.set_cons_zero, List.set_cons_succ]
    refine wpAnyH_take (i := 7) (oi := { dst := some 24, op := Op.extract (Operand.tmp 17) 0, type := 49, pos := "prop.go:275", after := #[{ on := 6, ground := Ground.data }], guard := none }) (v := ?v6) rfl (by kernel_rfl) (by kernel_rfl) (by kernel_rfl) (fun _ _ _ h => h) (Or.inl ⟨by rfl, ?hy6⟩) (by assumption) ?rest6
    case hy6 => (intro w hSw; (try dsimp only at hSw); go_simp; (try rw [if_pos (by omega)]); (try with_reducible rfl))
    simp only [Act.put, List.setIfInBounds_toArray, List.set_cons_zero, List.set_cons_succ]
    refine wpAnyH_take (i := 8) (oi := { dst := some 25, op := Op.extract (Operand.tmp 17) 1, type := 3, pos := "prop.go:275", after := #[{ on := 6, ground := Ground.data }, { on := 10, ground := Ground.gcOnly Departure.lateStores }], guard := none }) (v := ?v7) rfl (by kernel_rfl) (by kernel_rfl) (by kernel_rfl) (fun _ _ _ h => h) (Or.inl ⟨by rfl, ?hy7⟩) (by assumption) ?rest7
    case hy7 => (intro w hSw; (try dsimp only at hSw); go_simp; (try rw [if_pos (by omega)]); (try with_reducible rfl))
    simp only [Act.put, List.setIfInBounds_toArray, List.set_cons_zero, List.set_cons_succ]
    refine wpAnyH_take (i := 9) (oi := { dst := some 26, op := Op.extract (Operand.tmp 17) 2, type := 33, pos := "prop.go:275", after := #[{ on := 6, ground := Ground.data }, { on := 11, ground := Ground.gcOnly Departure.lateStores }], guard := none }) (v := ?v8) rfl (by kernel_rfl) (by kernel_rfl) (by kernel_rfl) (fun _ _ _ h => h) (Or.inl ⟨by rfl, ?hy8⟩) (by assumption) ?rest8
    case hy8 => (intro w hSw; (try dsimp only at hSw); go_simp; (try rw [if_pos (by omega)]); (try with_reducible rfl))
    simp only [Act.put, List.setIfInBounds_toArray, List.set_cons_zero, List.set_cons_succ]
    refine wpAnyH_ready (rs := [10]) (by kernel_rfl) (by simp) ?_
    refine AllReadyH.cons (o := { dst := none, op := Op.store 49 (Operand.tmp 2) (Operand.tmp 24), type := 0, pos := "prop.go:275", after := #[{ on := 7, ground := Ground.data }, { on := 5, ground := Ground.chain }, { on := 0, ground := Ground.phase }, { on := 1, ground := Ground.phase }, { on := 2, ground := Ground.phase }, { on := 3, ground := Ground.phase }, { on := 4, ground := Ground.phase }, { on := 5, ground := Ground.phase }, { on := 6, ground := Ground.phase }, { on := 7, ground := Ground.phase }, { on := 8, ground := Ground.textOnly Departure.lateStores }, { on := 9, ground := Ground.textOnly Departure.lateStores }], guard := none }) rfl (fun K hK => ?_) AllReadyH.nil
    go_simp
    refine hK.out _ _ trivial (fun hHeld => ?_)
    clear hK K
    show wpAnyH _ _ _ _ _ _ _ _ (set4 w3 w.heap.size 0 N s t)
    have c0 := set4_c0 w3 w.heap.size 0 N s t r0
    have c1 := set4_c1 w3 w.heap.size 0 N s t r1
    have c2 := set4_c2 w3 w.heap.size 0 N s t r2
    have c3 := set4_c3 w3 w.heap.size 0 N s t r3
    have e0 := (set4_frozen w3 w.heap.size 0 N s t ⟨w.heap.size, 0, none⟩).trans g0
    have e1 := (set4_frozen w3 w.heap.size 0 N s t ⟨w.heap.size, 1, none⟩).trans g1
    have e2 := (set4_frozen w3 w.heap.size 0 N s t ⟨w.heap.size, 2, none⟩).trans g2
    have e3 := (set4_frozen w3 w.heap.size 0 N s t ⟨w.heap.size, 3, none⟩).trans g3
    have HB4 : Hid (Below w.heap.size w (set4 w3 w.heap.size 0 N s t)) := set4_below _ _ _ _ _ _ _ _ ((unhide HB1).trans ((unhide HB3).mono (unhide HB1).size)) (Nat.le_refl _)
    generalize set4 w3 w.heap.size 0 N s t = W4 at c0 c1 c2 c3 e0 e1 e2 e3 HB4  ⊢
    clear r0 r1 r2 r3 g0 g1 g2 g3 q0 q1 q2 q3 f0 f1 f2 f3 HB3
    refine wpAnyH_ready (rs := [11]) (by kernel_rfl) (by simp) ?_
    refine AllReadyH.cons (o := { dst := some 3, op := Op.assign (Operand.tmp 25), type := 3, pos := "prop.go:275", after := #[{ on := 8, ground := Ground.data }, { on := 10, ground := Ground.chain }, { on := 0, ground := Ground.phase }, { on := 1, ground := Ground.phase }, { on := 2, ground := Ground.phase }, { on := 3, ground := Ground.phase }, { on := 4, ground := Ground.phase }, { on := 5, ground := Ground.phase }, { on := 6, ground := Ground.phase }, { on := 7, ground := Ground.phase }, { on := 8, ground := Ground.phase }, { on := 9, ground := Ground.textOnly Departure.lateStores }, { on := 10, ground := Ground.phase }], guard := none }) rfl (fun K hK => ?_) AllReadyH.nil
    go_simp
    refine hK.out _ _ trivial (fun hHeld => ?_)
    clear hK K
    refine wpAnyH_ready (rs := [12]) (by kernel_rfl) (by simp) ?_
    refine AllReadyH.cons (o := { dst := some 4, op := Op.assign (Operand.tmp 26), type := 33, pos := "prop.go:275", after := #[{ on := 9, ground := Ground.data }, { on := 11, ground := Ground.chain }, { on := 0, ground := Ground.phase }, { on := 1, ground := Ground.phase }, { on := 2, ground := Ground.phase }, { on := 3, ground := Ground.phase }, { on := 4, ground := Ground.phase }, { on := 5, ground := Ground.phase }, { on := 6, ground := Ground.phase }, { on := 7, ground := Ground.phase }, { on := 8, ground := Ground.phase }, { on := 9, ground := Ground.phase }, { on := 10, ground := Ground.phase }, { on := 11, ground := Ground.phase }], guard := none }) rfl (fun K hK => ?_) AllReadyH.nil
    go_simp
    refine hK.out _ _ trivial (fun hHeld => ?_)
    clear hK K
    refine wpAnyH_done (by kernel_rfl) ?_ _
    refine NoPanic.normal ?_
    clear HD2 HG
    go_wp2
    (try simp only [Exit.inBlock, Exit.then])
    refine bodyPost_ret (res_p (B := w.heap.size) (v0 := .int .i64 (id)) (v1 := .int .i64 (N)) (v2 := .string s) (v3 := .string t) rfl rfl ?c0 ?c1 ?c2 ?c3) rfl ?_
    case c0 => simp (maxDischargeDepth := 12) [cell_set, c0]
    case c1 => simp (maxDischargeDepth := 12) [cell_set, c1]
    case c2 => simp (maxDischargeDepth := 12) [cell_set, c2]
    case c3 => simp (maxDischargeDepth := 12) [cell_set, c3]
    exact ⟨by go_num, by have := unhide HB4; go_grown⟩
  · go_enter Tryd.func50, Tryd.ntmps50
    go_wp2_with fail
    refine (vget_good _ l _ ((unhide HV).below (by go_grown)) id Q (unhide Hhv)).mono ?_
    rintro e w1 ⟨rfl, hb1⟩
    have HB1 : Hid (Below w.heap.size w w1) := ((Below.refl _ _).alloc (Nat.le_refl _) _).trans (hb1.mono (by simp))
    have HD : Hid (Byt w1 (.slice (some ⟨b, off + Q, none⟩) (n - Q) (cap - Q)) (l.drop Q)) := by
      show Byt _ _ _
      have := ((unhide HV).below (unhide HB1)).drop' Q (by omega)
      rw [if_neg hcQ] at this; exact this
    have q0 : w1.cell? ⟨w.heap.size, 0, none⟩ = some (.int .i64 0) := (hb1.cell (p := ⟨w.heap.size, 0, none⟩) (by simp)).trans (by simp)
    have f0 : w1.frozen? ⟨w.heap.size, 0, none⟩ = false := (hb1.frozen (p := ⟨w.heap.size, 0, none⟩) (by simp)).trans (by simp)
    have q1 : w1.cell? ⟨w.heap.size, 1, none⟩ = some (.int .i64 0) := (hb1.cell (p := ⟨w.heap.size, 1, none⟩) (by simp)).trans (by simp)
    have f1 : w1.frozen? ⟨w.heap.size, 1, none⟩ = false := (hb1.frozen (p := ⟨w.heap.size, 1, none⟩) (by simp)).trans (by simp)
    have q2 : w1.cell? ⟨w.heap.size, 2, none⟩ = some (.string ⟨#[]⟩) := (hb1.cell (p := ⟨w.heap.size, 2, none⟩) (by simp)).trans (by simp)
    have f2 : w1.frozen? ⟨w.heap.size, 2, none⟩ = false := (hb1.frozen (p := ⟨w.heap.size, 2, none⟩) (by simp)).trans (by simp)
    have q3 : w1.cell? ⟨w.heap.size, 3, none⟩ = some (.string ⟨#[]⟩) := (hb1.cell (p := ⟨w.heap.size, 3, none⟩) (by simp)).trans (by simp)
    have f3 : w1.frozen? ⟨w.heap.size, 3, none⟩ = false := (hb1.frozen (p := ⟨w.heap.size, 3, none⟩) (by simp)).trans (by simp)
    have hl1 : w.heap.size < w1.heap.size := cell_lt q0
    have HC : Hid (Below w1.heap.size w1 w1) := Below.refl _ _
    clear hb1
    go_wp2_with fail
    refine wp_region_noPanic ?_
    refine wp_region_held_drew (S := (fun _ => True)) (by kernel_rfl) trivial (fun hHeld => ?_)
    refine wpAnyH_take (i := 0) (oi := { dst := some 18, op := Op.move (Operand.tmp 0), type := 24, pos := "prop.go:275", after := #[], guard := none }) (v := ?v9) rfl (by kernel_rfl) (by kernel_rfl) (by kernel_rfl) (fun _ _ _ h => h) (Or.inl ⟨by rfl, ?hy9⟩) (by assumption) ?rest9
    case hy9 => (intro w hSw; (try dsimp only at hSw); go_simp; (try rw [if_pos (by omega)]); (try with_reducible rfl))
    simp only [Act.put, List.setIfInBounds_toArray, List.set_cons_zero, List.set_cons_succ]
    refine wpAnyH_take (i := 1) (oi := { dst := some 19, op := Op.move (Operand.tmp 6), type := 3, pos := "prop.go:275", after := #[], guard := none }) (v := ?v10) rfl (by kernel_rfl) (by kernel_rfl) (by kernel_rfl) (fun _ _ _ h => h) (Or.inl ⟨by rfl, ?hy10⟩) (by assumption) ?rest10
    case hy10 => (intro w hSw; (try dsimp only at hSw); go_simp; (try rw [if_pos (by omega)]); (try with_reducible rfl))
    simp only [Act.put, List.setIfInBounds_toArray, List.set_cons_zero, List.set_cons_succ]
    refine wpAnyH_take (i := 2) (oi := { dst := some 20, op := Op.slice 24 (Operand.tmp 18) (some (Operand.tmp 19)) none none, type := 24, pos := "prop.go:275", after := #[{ on := 0, ground := Ground.data }, { on := 1, ground := Ground.data }], guard := none }) (v := ?v11) rfl (by kernel_rfl) (by kernel_rfl) (by kernel_rfl) (fun _ _ _ h => h) (Or.inl ⟨by rfl, ?hy11⟩) (by assumption) ?rest11
    case hy11 => (intro w hSw; (try dsimp only at hSw); go_simp; (try rw [if_pos (by omega)]); (try with_reducible rfl))
    simp only [Act.put, List.setIfInBounds_toArray, List.set_cons_zero, List.set_cons_succ]
    refine wpAnyH_take (i := 3) (oi := { dst := some 21, op := Op.move (Operand.tmp 5), type := 3, pos := "prop.go:275", after := #[], guard := none }) (v := ?v12) rfl (by kernel_rfl) (by kernel_rfl) (by kernel_rfl) (fun _ _ _ h => h) (Or.inl ⟨by rfl, ?hy12⟩) (by assumption) ?rest12
    case hy12 => (intro w hSw; (try dsimp only at hSw); go_simp; (try rw [if_pos (by omega)]); (try with_reducible rfl))
    simp only [Act.put, List.setIfInBounds_toArray, List.set_cons_zero, List.set_cons_succ]
    refine wpAnyH_ready (rs := [4]) (by kernel_rfl) (by simp) ?_
    refine AllReadyH.cons (o := { dst := some 22, op := Op.call { callee := Callee.value (Operand.func 55), args := #[Operand.tmp 21], argTypes := #[3] }, type := 94, pos := "prop.go:275", after := #[{ on := 3, ground := Ground.data }], guard := none }) rfl (fun K hK => ?_) AllReadyH.nil
    go_simp
    refine (shape_use id f wd lo hi (unhide HSH) _).mono ?_
    rintro e w2 ⟨rfl, hb2⟩
    have hb2' := below_undrew1 hb2
    clear hb2
    have HD2 := hide ((unhide HD).below hb2')
    refine hK.out _ _ trivial (fun hHeld => ?_)
    clear hK K
    refine wpAnyH_ready (rs := [5]) (by kernel_rfl) (by simp) ?_
    refine AllReadyH.cons (o := { dst := some 23, op := Op.call { callee := Callee.value (Operand.func 65), args := #[Operand.tmp 20, Operand.tmp 22], argTypes := #[24, 94] }, type := 86, pos := "prop.go:275", after := #[{ on := 2, ground := Ground.data }, { on := 4, ground := Ground.data }, { on := 4, ground := Ground.chain }], guard := none }) rfl (fun K hK => ?_) AllReadyH.nil
    go_simp
    refine ((unhide HG) _ _ (unhide HD2)).mono ?_
    rintro e w3 ⟨rfl, hb3⟩
    have HB3 : Hid (Below w1.heap.size w1 w3) := hb2'.trans (hb3.mono hb2'.size)
    have r0 := ((unhide HB3).cell (cell_lt q0)).trans q0
    have g0 := ((unhide HB3).frozen (p := ⟨w.heap.size, 0, none⟩) (cell_lt q0)).trans f0
    have r1 := ((unhide HB3).cell (cell_lt q1)).trans q1
    have g1 := ((unhide HB3).frozen (p := ⟨w.heap.size, 1, none⟩) (cell_lt q1)).trans f1
    have r2 := ((unhide HB3).cell (cell_lt q2)).trans q2
    have g2 := ((unhide HB3).frozen (p := ⟨w.heap.size, 2, none⟩) (cell_lt q2)).trans f2
    have r3 := ((unhide HB3).cell (cell_lt q3)).trans q3
    have g3 := ((unhide HB3).frozen (p := ⟨w.heap.size, 3, none⟩) (cell_lt q3)).trans f3
    clear hb2' hb3
    refine hK.out _ _ trivial (fun hHeld => ?_)
    clear hK K
    refine wpAnyH_take (i := 6) (oi := { dst := some 17, op := Op.move (Operand.tmp 23), type := 86, pos := "prop.go:275", after := #[{ on := 5, ground := Ground.data }], guard := none }) (v := ?v13) rfl (by kernel_rfl) (by kernel_rfl) (by kernel_rfl) (fun _ _ _ h => h) (Or.inl ⟨by rfl, ?hy13⟩) (by assumption) ?rest13
    case hy13 => (intro w hSw; (try dsimp only at hSw); go_simp; (try rw [if_pos (by omega)]); (try with_reducible rfl))
    simp only [Act.put, List.setIfInBounds_toArray, List.set_cons_zero, List.set_cons_succ]
    refine wpAnyH_take (i := 7) (oi := { dst := some 24, op := Op.extract (Operand.tmp 17) 0, type := 49, pos := "prop.go:275", after := #[{ on := 6, ground := Ground.data }], guard := none }) (v := ?v14) rfl (by kernel_rfl) (by kernel_rfl) (by kernel_rfl) (fun _ _ _ h => h) (Or.inl ⟨by rfl, ?hy14⟩) (by assumption) ?rest14
    case hy14 => (intro w hSw; (try dsimp only at hSw); go_simp; (try rw [if_pos (by omega)]); (try with_reducible rfl))
    simp only [Act.put, List.setIfInBounds_toArray, List.set_cons_zero, List.set_cons_succ]
    refine wpAnyH_take (i := 8) (oi := { dst := some 25, op := Op.extract (Operand.tmp 17) 1, type := 3, pos := "prop.go:275", after := #[{ on := 6, ground := Ground.data }, { on := 10, ground := Ground.gcOnly Departure.lateStores }], guard := none }) (v := ?v15) rfl (by kernel_rfl) (by kernel_rfl) (by kernel_rfl) (fun _ _ _ h => h) (Or.inl ⟨by rfl, ?hy15⟩) (by assumption) ?rest15
    case hy15 => (intro w hSw; (try dsimp only at hSw); go_simp; (try rw [if_pos (by omega)]); (try with_reducible rfl))
    simp only [Act.put, List.setIfInBounds_toArray, List.set_cons_zero, List.set_cons_succ]
    refine wpAnyH_take (i := 9) (oi := { dst := some 26, op := Op.extract (Operand.tmp 17) 2, type := 33, pos := "prop.go:275", after := #[{ on := 6, ground := Ground.data }, { on := 11, ground := Ground.gcOnly Departure.lateStores }], guard := none }) (v := ?v16) rfl (by kernel_rfl) (by kernel_rfl) (by kernel_rfl) (fun _ _ _ h => h) (Or.inl ⟨by rfl, ?hy16⟩) (by assumption) ?rest16
    case hy16 => (intro w hSw; (try dsimp only at hSw); go_simp; (try rw [if_pos (by omega)]); (try with_reducible rfl))
    simp only [Act.put, List.setIfInBounds_toArray, List.set_cons_zero, List.set_cons_succ]
    refine wpAnyH_ready (rs := [10]) (by kernel_rfl) (by simp) ?_
    refine AllReadyH.cons (o := { dst := none, op := Op.store 49 (Operand.tmp 2) (Operand.tmp 24), type := 0, pos := "prop.go:275", after := #[{ on := 7, ground := Ground.data }, { on := 5, ground := Ground.chain }, { on := 0, ground := Ground.phase }, { on := 1, ground := Ground.phase }, { on := 2, ground := Ground.phase }, { on := 3, ground := Ground.phase }, { on := 4, ground := Ground.phase }, { on := 5, ground := Ground.phase }, { on := 6, ground := Ground.phase }, { on := 7, ground := Ground.phase }, { on := 8, ground := Ground.textOnly Departure.lateStores }, { on := 9, ground := Ground.textOnly Departure.lateStores }], guard := none }) rfl (fun K hK => ?_) AllReadyH.nil
    go_simp
    refine hK.out _ _ trivial (fun hHeld => ?_)
    clear hK K
    show wpAnyH _ _ _ _ _ _ _ _ (set4 w3 w.heap.size 0 N s t)
    have c0 := set4_c0 w3 w.heap.size 0 N s t r0
    have c1 := set4_c1 w3 w.heap.size 0 N s t r1
    have c2 := set4_c2 w3 w.heap.size 0 N s t r2
    have c3 := set4_c3 w3 w.heap.size 0 N s t r3
    have e0 := (set4_frozen w3 w.heap.size 0 N s t ⟨w.heap.size, 0, none⟩).trans g0
    have e1 := (set4_frozen w3 w.heap.size 0 N s t ⟨w.heap.size, 1, none⟩).trans g1
    have e2 := (set4_frozen w3 w.heap.size 0 N s t ⟨w.heap.size, 2, none⟩).trans g2
    have e3 := (set4_frozen w3 w.heap.size 0 N s t ⟨w.heap.size, 3, none⟩).trans g3
    have HB4 : Hid (Below w.heap.size w (set4 w3 w.heap.size 0 N s t)) := set4_below _ _ _ _ _ _ _ _ ((unhide HB1).trans ((unhide HB3).mono (unhide HB1).size)) (Nat.le_refl _)
    generalize set4 w3 w.heap.size 0 N s t = W4 at c0 c1 c2 c3 e0 e1 e2 e3 HB4  ⊢
    clear r0 r1 r2 r3 g0 g1 g2 g3 q0 q1 q2 q3 f0 f1 f2 f3 HB3
    refine wpAnyH_ready (rs := [11]) (by kernel_rfl) (by simp) ?_
    refine AllReadyH.cons (o := { dst := some 3, op := Op.assign (Operand.tmp 25), type := 3, pos := "prop.go:275", after := #[{ on := 8, ground := Ground.data }, { on := 10, ground := Ground.chain }, { on := 0, ground := Ground.phase }, { on := 1, ground := Ground.phase }, { on := 2, ground := Ground.phase }, { on := 3, ground := Ground.phase }, { on := 4, ground := Ground.phase }, { on := 5, ground := Ground.phase }, { on := 6, ground := Ground.phase }, { on := 7, ground := Ground.phase }, { on := 8, ground := Ground.phase }, { on := 9, ground := Ground.textOnly Departure.lateStores }, { on := 10, ground := Ground.phase }], guard := none }) rfl (fun K hK => ?_) AllReadyH.nil
    go_simp
    refine hK.out _ _ trivial (fun hHeld => ?_)
    clear hK K
    refine wpAnyH_ready (rs := [12]) (by kernel_rfl) (by simp) ?_
    refine AllReadyH.cons (o := { dst := some 4, op := Op.assign (Operand.tmp 26), type := 33, pos := "prop.go:275", after := #[{ on := 9, ground := Ground.data }, { on := 11, ground := Ground.chain }, { on := 0, ground := Ground.phase }, { on := 1, ground := Ground.phase }, { on := 2, ground := Ground.phase }, { on := 3, ground := Ground.phase }, { on := 4, ground := Ground.phase }, { on := 5, ground := Ground.phase }, { on := 6, ground := Ground.phase }, { on := 7, ground := Ground.phase }, { on := 8, ground := Ground.phase }, { on := 9, ground := Ground.phase }, { on := 10, ground := Ground.phase }, { on := 11, ground := Ground.phase }], guard := none }) rfl (fun K hK => ?_) AllReadyH.nil
    go_simp
    refine hK.out _ _ trivial (fun hHeld => ?_)
    clear hK K
    refine wpAnyH_done (by kernel_rfl) ?_ _
    refine NoPanic.normal ?_
    clear HD2 HG
    go_wp2
    (try simp only [Exit.inBlock, Exit.then])
    refine bodyPost_ret (res_p (B := w.heap.size) (v0 := .int .i64 (id)) (v1 := .int .i64 (N)) (v2 := .string s) (v3 := .string t) rfl rfl ?c0 ?c1 ?c2 ?c3) rfl ?_
    case c0 => simp (maxDischargeDepth := 12) [cell_set, c0]
    case c1 => simp (maxDischargeDepth := 12) [cell_set, c1]
    case c2 => simp (maxDischargeDepth := 12) [cell_set, c2]
    case c3 => simp (maxDischargeDepth := 12) [cell_set, c3]
    exact ⟨by go_num, by have := unhide HB4; go_grown⟩
set_option maxHeartbeats 1000000 in
theorem gone_bad2 (v : Value) (l : List Int) (w : World) (h : Byt w v l) (id : Int) (Q : Nat) (hv : V.vget l = (id, (Q : Int), 0)) (hQ : 1 ≤ Q ∧ Q ≤ l.length) (f wd lo hi : Int) (hsh : shv id = .agg #[.int .i64 f, .int .i64 wd, .int .i64 lo, .int .i64 hi]) (hg : ∀ vb W, Byt W vb (l.drop Q) → Calls Tryd.prog 65 #[vb, shp f wd lo hi] W (GvBad W)) : Calls Tryd.prog 50 #[v] w (GvBad w) := by
  obtain ⟨b, off, cap, rfl, hc1, hc2⟩ := h.form1 (by omega)
  unfold maxLen at hc2
  have HV := hide h
  have Hhv := hide hv
  have HSH := hide hsh
  have HG := hide hg
  clear h hv hsh hg
  generalize hn : l.length = n at hc1 hQ HV 
  have HN := hide hn
  clear hn
  by_cases hcQ : cap = Q
  · have hcQ2 := hcQ.symm
    clear hcQ
    subst hcQ2
    go_enter Tryd.func50, Tryd.ntmps50
    go_wp2_with fail
    refine (vget_good _ l _ ((unhide HV).below (by go_grown)) id Q (unhide Hhv)).mono ?_
    rintro e w1 ⟨rfl, hb1⟩
    have HB1 : Hid (Below w.heap.size w w1) := ((Below.refl _ _).alloc (Nat.le_refl _) _).trans (hb1.mono (by simp))
    have HD : Hid (Byt w1 (.slice (some ⟨b, off, none⟩) 0 0) (l.drop Q)) := by
      show Byt _ _ _
      have := ((unhide HV).below (unhide HB1)).drop' Q (by omega)
      rw [if_pos rfl, Nat.sub_self, show n - Q = 0 from by omega] at this; exact this
    have q0 : w1.cell? ⟨w.heap.size, 0, none⟩ = some (.int .i64 0) := (hb1.cell (p := ⟨w.heap.size, 0, none⟩) (by simp)).trans (by simp)
    have f0 : w1.frozen? ⟨w.heap.size, 0, none⟩ = false := (hb1.frozen (p := ⟨w.heap.size, 0, none⟩) (by simp)).trans (by simp)
    have q1 : w1.cell? ⟨w.heap.size, 1, none⟩ = some (.int .i64 0) := (hb1.cell (p := ⟨w.heap.size, 1, none⟩) (by simp)).trans (by simp)
    have f1 : w1.frozen? ⟨w.heap.size, 1, none⟩ = false := (hb1.frozen (p := ⟨w.heap.size, 1, none⟩) (by simp)).trans (by simp)
    have q2 : w1.cell? ⟨w.heap.size, 2, none⟩ = some (.string ⟨#[]⟩) := (hb1.cell (p := ⟨w.heap.size, 2, none⟩) (by simp)).trans (by simp)
    have f2 : w1.frozen? ⟨w.heap.size, 2, none⟩ = false := (hb1.frozen (p := ⟨w.heap.size, 2, none⟩) (by simp)).trans (by simp)
    have q3 : w1.cell? ⟨w.heap.size, 3, none⟩ = some (.string ⟨#[]⟩) := (hb1.cell (p := ⟨w.heap.size, 3, none⟩) (by simp)).trans (by simp)
    have f3 : w1.frozen? ⟨w.heap.size, 3, none⟩ = false := (hb1.frozen (p := ⟨w.heap.size, 3, none⟩) (by simp)).trans (by simp)
    have hl1 : w.heap.size < w1.heap.size := cell_lt q0
    have HC : Hid (Below w1.heap.size w1 w1) := Below.refl _ _
    clear hb1
    go_wp2_with fail
    refine wp_region_noPanic ?_
    refine wp_region_held_drew (S := (fun _ => True)) (by kernel_rfl) trivial (fun hHeld => ?_)
    refine wpAnyH_take (i := 0) (oi := { dst := some 18, op := Op.move (Operand.tmp 0), type := 24, pos := "prop.go:275", after := #[], guard := none }) (v := ?v17) rfl (by kernel_rfl) (by kernel_rfl) (by kernel_rfl) (fun _ _ _ h => h) (Or.inl ⟨by rfl, ?hy17⟩) (by assumption) ?rest17
    case hy17 => (intro w hSw; (try dsimp only at hSw); go_simp; (try rw [if_pos (by omega)]); (try with_reducible rfl))
    simp only [Act.put, List.setIfInBounds_toArray, List.set_cons_zero, List.set_cons_succ]
    refine wpAnyH_take (i := 1) (oi := { dst := some 19, op := Op.move (Operand.tmp 6), type := 3, pos := "prop.go:275", after := #[], guard := none }) (v := ?v18) rfl (by kernel_rfl) (by kernel_rfl) (by kernel_rfl) (fun _ _ _ h => h) (Or.inl ⟨by rfl, ?hy18⟩) (by assumption) ?rest18
    case hy18 => (intro w hSw; (try dsimp only at hSw); go_simp; (try rw [if_pos (by omega)]); (try with_reducible rfl))
    simp only [Act.put, List.setIfInBounds_toArray, List.set_cons_zero, List.set_cons_succ]
    refine wpAnyH_take (i := 2) (oi := { dst := some 20, op := Op.slice 24 (Operand.tmp 18) (some (Operand.tmp 19)) none none, type := 24, pos := "prop.go:275", after := #[{ on := 0, ground := Ground.data }, { on := 1, ground := Ground.data }], guard := none }) (v := ?v19) rfl (by kernel_rfl) (by kernel_rfl) (by kernel_rfl) (fun _ _ _ h => h) (Or.inl ⟨by rfl, ?hy19⟩) (by assumption) ?rest19
    case hy19 => (intro w hSw; (try dsimp only at hSw); go_simp; (try rw [if_pos (by omega)]); (try with_reducible rfl))
    simp only [Act.put, List.setIfInBounds_toArray, List.set_cons_zero, List.set_cons_succ]
    refine wpAnyH_take (i := 3) (oi := { dst := some 21, op := Op.move (Operand.tmp 5), type := 3, pos := "prop.go:275", after := #[], guard := none }) (v := ?v20) rfl (by kernel_rfl) (by kernel_rfl) (by kernel_rfl) (fun _ _ _ h => h) (Or.inl ⟨by rfl, ?hy20⟩) (by assumption) ?rest20
    case hy20 => (intro w hSw; (try dsimp only at hSw); go_simp; (try rw [if_pos (by omega)]); (try with_reducible rfl))
    simp only [Act.put, List.setIfInBounds_toArray, List.set_cons_zero, List.set_cons_succ]
    refine wpAnyH_ready (rs := [4]) (by kernel_rfl) (by simp) ?_
    refine AllReadyH.cons (o := { dst := some 22, op := Op.call { callee := Callee.value (Operand.func 55), args := #[Operand.tmp 21], argTypes := #[3] }, type := 94, pos := "prop.go:275", after := #[{ on := 3, ground := Ground.data }], guard := none }) rfl (fun K hK => ?_) AllReadyH.nil
    go_simp
    refine (shape_use id f wd lo hi (unhide HSH) _).mono ?_
    rintro e w2 ⟨rfl, hb2⟩
    have hb2' := below_undrew1 hb2
    clear hb2
    have HD2 := hide ((unhide HD).below hb2')
    refine hK.out _ _ trivial (fun hHeld => ?_)
    clear hK K
    refine wpAnyH_ready (rs := [5]) (by kernel_rfl) (by simp) ?_
    refine AllReadyH.cons (o := { dst := some 23, op := Op.call { callee := Callee.value (Operand.func 65), args := #[Operand.tmp 20, Operand.tmp 22], argTypes := #[24, 94] }, type := 86, pos := "prop.go:275", after := #[{ on := 2, ground := Ground.data }, { on := 4, ground := Ground.data }, { on := 4, ground := Ground.chain }], guard := none }) rfl (fun K hK => ?_) AllReadyH.nil
    go_simp
    refine ((unhide HG) _ _ (unhide HD2)).mono ?_
    rintro e w3 ⟨i3, n3, s3, t3, k3, ty3, x3, m3, rfl, hi3, hb3⟩
    have HB3 : Hid (Below w1.heap.size w1 w3) := hb2'.trans (hb3.mono hb2'.size)
    have r0 := ((unhide HB3).cell (cell_lt q0)).trans q0
    have g0 := ((unhide HB3).frozen (p := ⟨w.heap.size, 0, none⟩) (cell_lt q0)).trans f0
    have r1 := ((unhide HB3).cell (cell_lt q1)).trans q1
    have g1 := ((unhide HB3).frozen (p := ⟨w.heap.size, 1, none⟩) (cell_lt q1)).trans f1
    have r2 := ((unhide HB3).cell (cell_lt q2)).trans q2
    have g2 := ((unhide HB3).frozen (p := ⟨w.heap.size, 2, none⟩) (cell_lt q2)).trans f2
    have r3 := ((unhide HB3).cell (cell_lt q3)).trans q3
    have g3 := ((unhide HB3).frozen (p := ⟨w.heap.size, 3, none⟩) (cell_lt q3)).trans f3
    clear hb2' hb3
    refine hK.out _ _ trivial (fun hHeld => ?_)
    clear hK K
    refine wpAnyH_take (i := 6) (oi := { dst := some 17, op := Op.move (Operand.tmp 23), type := 86, pos := "prop.go:275", after := #[{ on := 5, ground := Ground.data }], guard := none }) (v := ?v21) rfl (by kernel_rfl) (by kernel_rfl) (by kernel_rfl) (fun _ _ _ h => h) (Or.inl ⟨by rfl, ?hy21⟩) (by assumption) ?rest21
    case hy21 => (intro w hSw; (try dsimp only at hSw); go_simp; (try rw [if_pos (by omega)]); (try with_reducible rfl))
    simp only [Act.put, List.setIfInBounds_toArray, List.set_cons_zero, List.set_cons_succ]
    refine wpAnyH_take (i := 7) (oi := { dst := some 24, op := Op.extract (Operand.tmp 17) 0, type := 49, pos := "prop.go:275", after := #[{ on := 6, ground := Ground.data }], guard := none }) (v := ?v22) rfl (by kernel_rfl) (by kernel_rfl) (by kernel_rfl) (fun _ _ _ h => h) (Or.inl ⟨by rfl, ?hy22⟩) (by assumption) ?rest22
    case hy22 => (intro w hSw; (try dsimp only at hSw); go_simp; (try rw [if_pos (by omega)]); (try with_reducible rfl))
    simp only [Act.put, List.setIfInBounds_toArray, List.set_cons_zero, List.set_cons_succ]
    refine wpAnyH_take (i := 8) (oi := { dst := some 25, op := Op.extract (Operand.tmp 17) 1, type := 3, pos := "prop.go:275", after := #[{ on := 6, ground := Ground.data }, { on := 10, ground := Ground.gcOnly Departure.lateStores }], guard := none }) (v := ?v23) rfl (by kernel_rfl) (by kernel_rfl) (by kernel_rfl) (fun _ _ _ h => h) (Or.inl ⟨by rfl, ?hy23⟩) (by assumption) ?rest23
    case hy23 => (intro w hSw; (try dsimp only at hSw); go_simp; (try rw [if_pos (by omega)]); (try with_reducible rfl))
    simp only [Act.put, List.setIfInBounds_toArray, List.set_cons_zero, List.set_cons_succ]
    refine wpAnyH_take (i := 9) (oi := { dst := some 26, op := Op.extract (Operand.tmp 17) 2, type := 33, pos := "prop.go:275", after := #[{ on := 6, ground := Ground.data }, { on := 11, ground := Ground.gcOnly Departure.lateStores }], guard := none }) (v := ?v24) rfl (by kernel_rfl) (by kernel_rfl) (by kernel_rfl) (fun _ _ _ h => h) (Or.inl ⟨by rfl, ?hy24⟩) (by assumption) ?rest24
    case hy24 => (intro w hSw; (try dsimp only at hSw); go_simp; (try rw [if_pos (by omega)]); (try with_reducible rfl))
    simp only [Act.put, List.setIfInBounds_toArray, List.set_cons_zero, List.set_cons_succ]
    refine wpAnyH_ready (rs := [10]) (by kernel_rfl) (by simp) ?_
    refine AllReadyH.cons (o := { dst := none, op := Op.store 49 (Operand.tmp 2) (Operand.tmp 24), type := 0, pos := "prop.go:275", after := #[{ on := 7, ground := Ground.data }, { on := 5, ground := Ground.chain }, { on := 0, ground := Ground.phase }, { on := 1, ground := Ground.phase }, { on := 2, ground := Ground.phase }, { on := 3, ground := Ground.phase }, { on := 4, ground := Ground.phase }, { on := 5, ground := Ground.phase }, { on := 6, ground := Ground.phase }, { on := 7, ground := Ground.phase }, { on := 8, ground := Ground.textOnly Departure.lateStores }, { on := 9, ground := Ground.textOnly Departure.lateStores }], guard := none }) rfl (fun K hK => ?_) AllReadyH.nil
    go_simp
    refine hK.out _ _ trivial (fun hHeld => ?_)
    clear hK K
    show wpAnyH _ _ _ _ _ _ _ _ (set4 w3 w.heap.size i3 n3 s3 t3)
    have c0 := set4_c0 w3 w.heap.size i3 n3 s3 t3 r0
    have c1 := set4_c1 w3 w.heap.size i3 n3 s3 t3 r1
    have c2 := set4_c2 w3 w.heap.size i3 n3 s3 t3 r2
    have c3 := set4_c3 w3 w.heap.size i3 n3 s3 t3 r3
    have e0 := (set4_frozen w3 w.heap.size i3 n3 s3 t3 ⟨w.heap.size, 0, none⟩).trans g0
    have e1 := (set4_frozen w3 w.heap.size i3 n3 s3 t3 ⟨w.heap.size, 1, none⟩).trans g1
    have e2 := (set4_frozen w3 w.heap.size i3 n3 s3 t3 ⟨w.heap.size, 2, none⟩).trans g2
    have e3 := (set4_frozen w3 w.heap.size i3 n3 s3 t3 ⟨w.heap.size, 3, none⟩).trans g3
    have HB4 : Hid (Below w.heap.size w (set4 w3 w.heap.size i3 n3 s3 t3)) := set4_below _ _ _ _ _ _ _ _ ((unhide HB1).trans ((unhide HB3).mono (unhide HB1).size)) (Nat.le_refl _)
    have HOF4 := hide (set4_off ((unhide hi3).off r1) i3 n3 s3 t3)
    clear hi3
    generalize set4 w3 w.heap.size i3 n3 s3 t3 = W4 at c0 c1 c2 c3 e0 e1 e2 e3 HB4 HOF4 ⊢
    clear r0 r1 r2 r3 g0 g1 g2 g3 q0 q1 q2 q3 f0 f1 f2 f3 HB3
    refine wpAnyH_ready (rs := [11]) (by kernel_rfl) (by simp) ?_
    refine AllReadyH.cons (o := { dst := some 3, op := Op.assign (Operand.tmp 25), type := 3, pos := "prop.go:275", after := #[{ on := 8, ground := Ground.data }, { on := 10, ground := Ground.chain }, { on := 0, ground := Ground.phase }, { on := 1, ground := Ground.phase }, { on := 2, ground := Ground.phase }, { on := 3, ground := Ground.phase }, { on := 4, ground := Ground.phase }, { on := 5, ground := Ground.phase }, { on := 6, ground := Ground.phase }, { on := 7, ground := Ground.phase }, { on := 8, ground := Ground.phase }, { on := 9, ground := Ground.textOnly Departure.lateStores }, { on := 10, ground := Ground.phase }], guard := none }) rfl (fun K hK => ?_) AllReadyH.nil
    go_simp
    refine hK.out _ _ trivial (fun hHeld => ?_)
    clear hK K
    refine wpAnyH_ready (rs := [12]) (by kernel_rfl) (by simp) ?_
    refine AllReadyH.cons (o := { dst := some 4, op := Op.assign (Operand.tmp 26), type := 33, pos := "prop.go:275", after := #[{ on := 9, ground := Ground.data }, { on := 11, ground := Ground.chain }, { on := 0, ground := Ground.phase }, { on := 1, ground := Ground.phase }, { on := 2, ground := Ground.phase }, { on := 3, ground := Ground.phase }, { on := 4, ground := Ground.phase }, { on := 5, ground := Ground.phase }, { on := 6, ground := Ground.phase }, { on := 7, ground := Ground.phase }, { on := 8, ground := Ground.phase }, { on := 9, ground := Ground.phase }, { on := 10, ground := Ground.phase }, { on := 11, ground := Ground.phase }], guard := none }) rfl (fun K hK => ?_) AllReadyH.nil
    go_simp
    refine hK.out _ _ trivial (fun hHeld => ?_)
    clear hK K
    refine wpAnyH_done (by kernel_rfl) ?_ _
    refine NoPanic.normal ?_
    clear HD2 HG
    go_wp2
    (try simp only [Exit.inBlock, Exit.then])
    refine bodyPost_ret (res_p (B := w.heap.size) (v0 := .int .i64 (0)) (v1 := .int .i64 (0)) (v2 := .string ⟨#[]⟩) (v3 := .string ⟨#[]⟩) rfl rfl ?c0 ?c1 ?c2 ?c3) rfl ?_
    case c0 => simp (maxDischargeDepth := 12) [cell_set, c0]
    case c1 => simp (maxDischargeDepth := 12) [cell_set, c1]
    case c2 => simp (maxDischargeDepth := 12) [cell_set, c2]
    case c3 => simp (maxDischargeDepth := 12) [cell_set, c3]
    refine ⟨_, _, _, _, _, _, _, m3, rfl, InnOff.inn (B := w.heap.size) ?_, ?_⟩
    · refine InnOff.set ?_ rfl; refine InnOff.set ?_ rfl; refine InnOff.set ?_ rfl; refine InnOff.set ?_ rfl; exact unhide HOF4
    · have := unhide HB4; go_grown
  · go_enter Tryd.func50, Tryd.ntmps50
    go_wp2_with fail
    refine (vget_good _ l _ ((unhide HV).below (by go_grown)) id Q (unhide Hhv)).mono ?_
    rintro e w1 ⟨rfl, hb1⟩
    have HB1 : Hid (Below w.heap.size w w1) := ((Below.refl _ _).alloc (Nat.le_refl _) _).trans (hb1.mono (by simp))
    have HD : Hid (Byt w1 (.slice (some ⟨b, off + Q, none⟩) (n - Q) (cap - Q)) (l.drop Q)) := by
      show Byt _ _ _
      have := ((unhide HV).below (unhide HB1)).drop' Q (by omega)
      rw [if_neg hcQ] at this; exact this
    have q0 : w1.cell? ⟨w.heap.size, 0, none⟩ = some (.int .i64 0) := (hb1.cell (p := ⟨w.heap.size, 0, none⟩) (by simp)).trans (by simp)
    have f0 : w1.frozen? ⟨w.heap.size, 0, none⟩ = false := (hb1.frozen (p := ⟨w.heap.size, 0, none⟩) (by simp)).trans (by simp)
    have q1 : w1.cell? ⟨w.heap.size, 1, none⟩ = some (.int .i64 0) := (hb1.cell (p := ⟨w.heap.size, 1, none⟩) (by simp)).trans (by simp)
    have f1 : w1.frozen? ⟨w.heap.size, 1, none⟩ = false := (hb1.frozen (p := ⟨w.heap.size, 1, none⟩) (by simp)).trans (by simp)
    have q2 : w1.cell? ⟨w.heap.size, 2, none⟩ = some (.string ⟨#[]⟩) := (hb1.cell (p := ⟨w.heap.size, 2, none⟩) (by simp)).trans (by simp)
    have f2 : w1.frozen? ⟨w.heap.size, 2, none⟩ = false := (hb1.frozen (p := ⟨w.heap.size, 2, none⟩) (by simp)).trans (by simp)
    have q3 : w1.cell? ⟨w.heap.size, 3, none⟩ = some (.string ⟨#[]⟩) := (hb1.cell (p := ⟨w.heap.size, 3, none⟩) (by simp)).trans (by simp)
    have f3 : w1.frozen? ⟨w.heap.size, 3, none⟩ = false := (hb1.frozen (p := ⟨w.heap.size, 3, none⟩) (by simp)).trans (by simp)
    have hl1 : w.heap.size < w1.heap.size := cell_lt q0
    have HC : Hid (Below w1.heap.size w1 w1) := Below.refl _ _
    clear hb1
    go_wp2_with fail
    refine wp_region_noPanic ?_
    refine wp_region_held_drew (S := (fun _ => True)) (by kernel_rfl) trivial (fun hHeld => ?_)
    refine wpAnyH_take (i := 0) (oi := { dst := some 18, op := Op.move (Operand.tmp 0), type := 24, pos := "prop.go:275", after := #[], guard := none }) (v := ?v25) rfl (by kernel_rfl) (by kernel_rfl) (by kernel_rfl) (fun _ _ _ h => h) (Or.inl ⟨by rfl, ?hy25⟩) (by assumption) ?rest25
    case hy25 => (intro w hSw; (try dsimp only at hSw); go_simp; (try rw [if_pos (by omega)]); (try with_reducible rfl))
    simp only [Act.put, List.setIfInBounds_toArray, List.set_cons_zero, List.set_cons_succ]
    refine wpAnyH_take (i := 1) (oi := { dst := some 19, op := Op.move (Operand.tmp 6), type := 3, pos := "prop.go:275", after := #[], guard := none }) (v := ?v26) rfl (by kernel_rfl) (by kernel_rfl) (by kernel_rfl) (fun _ _ _ h => h) (Or.inl ⟨by rfl, ?hy26⟩) (by assumption) ?rest26
    case hy26 => (intro w hSw; (try dsimp only at hSw); go_simp; (try rw [if_pos (by omega)]); (try with_reducible rfl))
    simp only [Act.put, List.setIfInBounds_toArray, List.set_cons_zero, List.set_cons_succ]
    refine wpAnyH_take (i := 2) (oi := { dst := some 20, op := Op.slice 24 (Operand.tmp 18) (some (Operand.tmp 19)) none none, type := 24, pos := "prop.go:275", after := #[{ on := 0, ground := Ground.data }, { on := 1, ground := Ground.data }], guard := none }) (v := ?v27) rfl (by kernel_rfl) (by kernel_rfl) (by kernel_rfl) (fun _ _ _ h => h) (Or.inl ⟨by rfl, ?hy27⟩) (by assumption) ?rest27
    case hy27 => (intro w hSw; (try dsimp only at hSw); go_simp; (try rw [if_pos (by omega)]); (try with_reducible rfl))
    simp only [Act.put, List.setIfInBounds_toArray, List.set_cons_zero, List.set_cons_succ]
    refine wpAnyH_take (i := 3) (oi := { dst := some 21, op := Op.move (Operand.tmp 5), type := 3, pos := "prop.go:275", after := #[], guard := none }) (v := ?v28) rfl (by kernel_rfl) (by kernel_rfl) (by kernel_rfl) (fun _ _ _ h => h) (Or.inl ⟨by rfl, ?hy28⟩) (by assumption) ?rest28
    case hy28 => (intro w hSw; (try dsimp only at hSw); go_simp; (try rw [if_pos (by omega)]); (try with_reducible rfl))
    simp only [Act.put, List.setIfInBounds_toArray, List.set_cons_zero, List.set_cons_succ]
    refine wpAnyH_ready (rs := [4]) (by kernel_rfl) (by simp) ?_
    refine AllReadyH.cons (o := { dst := some 22, op := Op.call { callee := Callee.value (Operand.func 55), args := #[Operand.tmp 21], argTypes := #[3] }, type := 94, pos := "prop.go:275", after := #[{ on := 3, ground := Ground.data }], guard := none }) rfl (fun K hK => ?_) AllReadyH.nil
    go_simp
    refine (shape_use id f wd lo hi (unhide HSH) _).mono ?_
    rintro e w2 ⟨rfl, hb2⟩
    have hb2' := below_undrew1 hb2
    clear hb2
    have HD2 := hide ((unhide HD).below hb2')
    refine hK.out _ _ trivial (fun hHeld => ?_)
    clear hK K
    refine wpAnyH_ready (rs := [5]) (by kernel_rfl) (by simp) ?_
    refine AllReadyH.cons (o := { dst := some 23, op := Op.call { callee := Callee.value (Operand.func 65), args := #[Operand.tmp 20, Operand.tmp 22], argTypes := #[24, 94] }, type := 86, pos := "prop.go:275", after := #[{ on := 2, ground := Ground.data }, { on := 4, ground := Ground.data }, { on := 4, ground := Ground.chain }], guard := none }) rfl (fun K hK => ?_) AllReadyH.nil
    go_simp
    refine ((unhide HG) _ _ (unhide HD2)).mono ?_
    rintro e w3 ⟨i3, n3, s3, t3, k3, ty3, x3, m3, rfl, hi3, hb3⟩
    have HB3 : Hid (Below w1.heap.size w1 w3) := hb2'.trans (hb3.mono hb2'.size)
    have r0 := ((unhide HB3).cell (cell_lt q0)).trans q0
    have g0 := ((unhide HB3).frozen (p := ⟨w.heap.size, 0, none⟩) (cell_lt q0)).trans f0
    have r1 := ((unhide HB3).cell (cell_lt q1)).trans q1
    have g1 := ((unhide HB3).frozen (p := ⟨w.heap.size, 1, none⟩) (cell_lt q1)).trans f1
    have r2 := ((unhide HB3).cell (cell_lt q2)).trans q2
    have g2 := ((unhide HB3).frozen (p := ⟨w.heap.size, 2, none⟩) (cell_lt q2)).trans f2
    have r3 := ((unhide HB3).cell (cell_lt q3)).trans q3
    have g3 := ((unhide HB3).frozen (p := ⟨w.heap.size, 3, none⟩) (cell_lt q3)).trans f3
    clear hb2' hb3
    refine hK.out _ _ trivial (fun hHeld => ?_)
    clear hK K
    refine wpAnyH_take (i := 6) (oi := { dst := some 17, op := Op.move (Operand.tmp 23), type := 86, pos := "prop.go:275", after := #[{ on := 5, ground := Ground.data }], guard := none }) (v := ?v29) rfl (by kernel_rfl) (by kernel_rfl) (by kernel_rfl) (fun _ _ _ h => h) (Or.inl ⟨by rfl, ?hy29⟩) (by assumption) ?rest29
    case hy29 => (intro w hSw; (try dsimp only at hSw); go_simp; (try rw [if_pos (by omega)]); (try with_reducible rfl))
    simp only [Act.put, List.setIfInBounds_toArray, List.set_cons_zero, List.set_cons_succ]
    refine wpAnyH_take (i := 7) (oi := { dst := some 24, op := Op.extract (Operand.tmp 17) 0, type := 49, pos := "prop.go:275", after := #[{ on := 6, ground := Ground.data }], guard := none }) (v := ?v30) rfl (by kernel_rfl) (by kernel_rfl) (by kernel_rfl) (fun _ _ _ h => h) (Or.inl ⟨by rfl, ?hy30⟩) (by assumption) ?rest30
    case hy30 => (intro w hSw; (try dsimp only at hSw); go_simp; (try rw [if_pos (by omega)]); (try with_reducible rfl))
    simp only [Act.put, List.setIfInBounds_toArray, List.set_cons_zero, List.set_cons_succ]
    refine wpAnyH_take (i := 8) (oi := { dst := some 25, op := Op.extract (Operand.tmp 17) 1, type := 3, pos := "prop.go:275", after := #[{ on := 6, ground := Ground.data }, { on := 10, ground := Ground.gcOnly Departure.lateStores }], guard := none }) (v := ?v31) rfl (by kernel_rfl) (by kernel_rfl) (by kernel_rfl) (fun _ _ _ h => h) (Or.inl ⟨by rfl, ?hy31⟩) (by assumption) ?rest31
    case hy31 => (intro w hSw; (try dsimp only at hSw); go_simp; (try rw [if_pos (by omega)]); (try with_reducible rfl))
    simp only [Act.put, List.setIfInBounds_toArray, List.set_cons_zero, List.set_cons_succ]
    refine wpAnyH_take (i := 9) (oi := { dst := some 26, op := Op.extract (Operand.tmp 17) 2, type := 33, pos := "prop.go:275", after := #[{ on := 6, ground := Ground.data }, { on := 11, ground := Ground.gcOnly Departure.lateStores }], guard := none }) (v := ?v32) rfl (by kernel_rfl) (by kernel_rfl) (by kernel_rfl) (fun _ _ _ h => h) (Or.inl ⟨by rfl, ?hy32⟩) (by assumption) ?rest32
    case hy32 => (intro w hSw; (try dsimp only at hSw); go_simp; (try rw [if_pos (by omega)]); (try with_reducible rfl))
    simp only [Act.put, List.setIfInBounds_toArray, List.set_cons_zero, List.set_cons_succ]
    refine wpAnyH_ready (rs := [10]) (by kernel_rfl) (by simp) ?_
    refine AllReadyH.cons (o := { dst := none, op := Op.store 49 (Operand.tmp 2) (Operand.tmp 24), type := 0, pos := "prop.go:275", after := #[{ on := 7, ground := Ground.data }, { on := 5, ground := Ground.chain }, { on := 0, ground := Ground.phase }, { on := 1, ground := Ground.phase }, { on := 2, ground := Ground.phase }, { on := 3, ground := Ground.phase }, { on := 4, ground := Ground.phase }, { on := 5, ground := Ground.phase }, { on := 6, ground := Ground.phase }, { on := 7, ground := Ground.phase }, { on := 8, ground := Ground.textOnly Departure.lateStores }, { on := 9, ground := Ground.textOnly Departure.lateStores }], guard := none }) rfl (fun K hK => ?_) AllReadyH.nil
    go_simp
    refine hK.out _ _ trivial (fun hHeld => ?_)
    clear hK K
    show wpAnyH _ _ _ _ _ _ _ _ (set4 w3 w.heap.size i3 n3 s3 t3)
    have c0 := set4_c0 w3 w.heap.size i3 n3 s3 t3 r0
    have c1 := set4_c1 w3 w.heap.size i3 n3 s3 t3 r1
    have c2 := set4_c2 w3 w.heap.size i3 n3 s3 t3 r2
    have c3 := set4_c3 w3 w.heap.size i3 n3 s3 t3 r3
    have e0 := (set4_frozen w3 w.heap.size i3 n3 s3 t3 ⟨w.heap.size, 0, none⟩).trans g0
    have e1 := (set4_frozen w3 w.heap.size i3 n3 s3 t3 ⟨w.heap.size, 1, none⟩).trans g1
    have e2 := (set4_frozen w3 w.heap.size i3 n3 s3 t3 ⟨w.heap.size, 2, none⟩).trans g2
    have e3 := (set4_frozen w3 w.heap.size i3 n3 s3 t3 ⟨w.heap.size, 3, none⟩).trans g3
    have HB4 : Hid (Below w.heap.size w (set4 w3 w.heap.size i3 n3 s3 t3)) := set4_below _ _ _ _ _ _ _ _ ((unhide HB1).trans ((unhide HB3).mono (unhide HB1).size)) (Nat.le_refl _)
    have HOF4 := hide (set4_off ((unhide hi3).off r1) i3 n3 s3 t3)
    clear hi3
    generalize set4 w3 w.heap.size i3 n3 s3 t3 = W4 at c0 c1 c2 c3 e0 e1 e2 e3 HB4 HOF4 ⊢
    clear r0 r1 r2 r3 g0 g1 g2 g3 q0 q1 q2 q3 f0 f1 f2 f3 HB3
    refine wpAnyH_ready (rs := [11]) (by kernel_rfl) (by simp) ?_
    refine AllReadyH.cons (o := { dst := some 3, op := Op.assign (Operand.tmp 25), type := 3, pos := "prop.go:275", after := #[{ on := 8, ground := Ground.data }, { on := 10, ground := Ground.chain }, { on := 0, ground := Ground.phase }, { on := 1, ground := Ground.phase }, { on := 2, ground := Ground.phase }, { on := 3, ground := Ground.phase }, { on := 4, ground := Ground.phase }, { on := 5, ground := Ground.phase }, { on := 6, ground := Ground.phase }, { on := 7, ground := Ground.phase }, { on := 8, ground := Ground.phase }, { on := 9, ground := Ground.textOnly Departure.lateStores }, { on := 10, ground := Ground.phase }], guard := none }) rfl (fun K hK => ?_) AllReadyH.nil
    go_simp
    refine hK.out _ _ trivial (fun hHeld => ?_)
    clear hK K
    refine wpAnyH_ready (rs := [12]) (by kernel_rfl) (by simp) ?_
    refine AllReadyH.cons (o := { dst := some 4, op := Op.assign (Operand.tmp 26), type := 33, pos := "prop.go:275", after := #[{ on := 9, ground := Ground.data }, { on := 11, ground := Ground.chain }, { on := 0, ground := Ground.phase }, { on := 1, ground := Ground.phase }, { on := 2, ground := Ground.phase }, { on := 3, ground := Ground.phase }, { on := 4, ground := Ground.phase }, { on := 5, ground := Ground.phase }, { on := 6, ground := Ground.phase }, { on := 7, ground := Ground.phase }, { on := 8, ground := Ground.phase }, { on := 9, ground := Ground.phase }, { on := 10, ground := Ground.phase }, { on := 11, ground := Ground.phase }], guard := none }) rfl (fun K hK => ?_) AllReadyH.nil
    go_simp
    refine hK.out _ _ trivial (fun hHeld => ?_)
    clear hK K
    refine wpAnyH_done (by kernel_rfl) ?_ _
    refine NoPanic.normal ?_
    clear HD2 HG
    go_wp2
    (try simp only [Exit.inBlock, Exit.then])
    refine bodyPost_ret (res_p (B := w.heap.size) (v0 := .int .i64 (0)) (v1 := .int .i64 (0)) (v2 := .string ⟨#[]⟩) (v3 := .string ⟨#[]⟩) rfl rfl ?c0 ?c1 ?c2 ?c3) rfl ?_
    case c0 => simp (maxDischargeDepth := 12) [cell_set, c0]
    case c1 => simp (maxDischargeDepth := 12) [cell_set, c1]
    case c2 => simp (maxDischargeDepth := 12) [cell_set, c2]
    case c3 => simp (maxDischargeDepth := 12) [cell_set, c3]
    refine ⟨_, _, _, _, _, _, _, m3, rfl, InnOff.inn (B := w.heap.size) ?_, ?_⟩
    · refine InnOff.set ?_ rfl; refine InnOff.set ?_ rfl; refine InnOff.set ?_ rfl; refine InnOff.set ?_ rfl; exact unhide HOF4
    · have := unhide HB4; go_grown
end Go.Proofs.YtpfpollejhdbgaaDoor
/- Proved here: one property with which bytes begin, and all of which bytes are made, as plain functions; prop.getOne tells the first. Helpers. -/
namespace Go.Proofs.YtpfpollejhdbgaaDoor
open Go.RowKit
set_option maxRecDepth 100000

/-- what a property of a kind has, read off bytes: whether it is there, its number, its texts, how many bytes -/
def gval (k : Int) (l : List Int) : Bool × Int × ByteArray × ByteArray × Nat :=
  if k = 1 ∨ k = 2 ∨ k = 4 then (decide (k ≤ l.length), be k l, es, es, k.toNat)
  else if k = 5 then (decide ((V.vget l).2.2 = 0), (V.vget l).1, es, es, (V.vget l).2.1.toNat)
  else if k = 6 then (decide ((gt l).2.2 = 0), 0, (gt l).1, es, (gt l).2.1.toNat)
  else if k = 7 then (decide ((gbn l).2.2 = 0), 0, (gbn l).1, es, (gbn l).2.1.toNat)
  else if k = 8 then (decide ((gt l).2.2 = 0) && decide ((gt (l.drop (gt l).2.1.toNat)).2.2 = 0), 0, (gt l).1, (gt (l.drop (gt l).2.1.toNat)).1, (gt l).2.1.toNat + (gt (l.drop (gt l).2.1.toNat)).2.1.toNat)
  else (false, 0, es, es, 0)
def gid (l : List Int) : Int := (V.vget l).1
def ghd (l : List Int) : Nat := (V.vget l).2.1.toNat
def grs (l : List Int) : Bool × Int × ByteArray × ByteArray × Nat := gval (kd (gid l)) (l.drop (ghd l))
def gok (l : List Int) : Bool := decide ((V.vget l).2.2 = 0) && (grs l).1
def gpr (l : List Int) : Pr := (gid l, (grs l).2.1, (grs l).2.2.1, (grs l).2.2.2.1)
def gsz (l : List Int) : Nat := ghd l + (grs l).2.2.2.2
/-- the properties of which bytes are made -/
def parse (l : List Int) : Option (List Pr) :=
  if _h : l = [] then some [] else if gok l = true then (parse (l.drop (max 1 (gsz l)))).map (gpr l :: ·) else none
termination_by l.length
decreasing_by
  rw [List.length_drop]
  have := List.length_pos_iff.2 _h
  omega
def Rng (l : List Int) : Prop := ∀ j, 0 ≤ l.getD j 0 ∧ l.getD j 0 ≤ 255
theorem Rng.drop {l : List Int} (h : Rng l) (k : Nat) : Rng (l.drop k) := fun j => by
  rw [List.getD_eq_getElem?_getD, List.getElem?_drop, ← List.getD_eq_getElem?_getD]; exact h _
theorem vget_is (l : List Int) (hr : Rng l) (h : (V.vget l).2.2 = 0) : V.vget l = (gid l, (ghd l : Int), 0) ∧ 1 ≤ ghd l ∧ ghd l ≤ l.length ∧ 0 ≤ gid l ∧ gid l ≤ 268435455 ∧ V.put (gid l) = l.take (ghd l) := by
  obtain ⟨n, k, e, he⟩ : ∃ n k e, V.vget l = (n, k, e) := ⟨_, _, _, rfl⟩
  rw [he] at h
  simp only at h
  subst h
  obtain ⟨h0, h1, K, rfl, h2, h3, h4⟩ := V.vget_ok l hr n k he
  have e1 : gid l = n := by unfold gid; rw [he]
  have e2 : ghd l = K := by unfold ghd; rw [he]; simp
  rw [e1, e2]
  exact ⟨he, h2, h3, h0, h1, h4⟩
theorem gt_is (l : List Int) (h : (gt l).2.2 = 0) : gt l = ((gt l).1, (((gt l).2.1.toNat : Nat) : Int), 0) ∧ 2 ≤ (gt l).2.1.toNat ∧ (gt l).2.1.toNat ≤ l.length ∧ utf (sb (gt l).1) = true ∧ (gt l).1 = gbs l := by
  rcases gt_cases l with ⟨s, K, hf, hu, rfl, rfl, hg⟩ | ⟨m, hm, hg⟩
  · rw [hg]
    unfold full at hf
    rw [Bool.and_eq_true, decide_eq_true_eq, decide_eq_true_eq] at hf
    refine ⟨by rw [Int.toNat_natCast], ?_, ?_, hu, rfl⟩
    · show 2 ≤ ((2 + nb l : Nat) : Int).toNat
      omega
    · show ((2 + nb l : Nat) : Int).toNat ≤ _
      omega
  · rw [hg] at h
    exact absurd h hm
theorem gbn_is (l : List Int) (h : (gbn l).2.2 = 0) : gbn l = ((gbn l).1, (((gbn l).2.1.toNat : Nat) : Int), 0) ∧ 2 ≤ (gbn l).2.1.toNat ∧ (gbn l).2.1.toNat ≤ l.length ∧ (gbn l).1 = gbs l := by
  unfold gbn at *
  by_cases hf : full l = true
  · rw [if_pos hf] at h ⊢
    unfold full at hf
    rw [Bool.and_eq_true, decide_eq_true_eq, decide_eq_true_eq] at hf
    refine ⟨by rw [Int.toNat_natCast], ?_, ?_, rfl⟩
    · show 2 ≤ ((2 + nb l : Nat) : Int).toNat
      omega
    · show ((2 + nb l : Nat) : Int).toNat ≤ _
      omega
  · rw [if_neg hf] at h
    simp at h
theorem gval_le (k : Int) (l : List Int) (hr : Rng l) (h : (gval k l).1 = true) : (gval k l).2.2.2.2 ≤ l.length := by
  unfold gval at h ⊢
  by_cases k1 : k = 1 ∨ k = 2 ∨ k = 4
  · rw [if_pos k1] at h ⊢
    simp only [decide_eq_true_eq] at h ⊢
    omega
  rw [if_neg k1] at h ⊢
  by_cases k5 : k = 5
  · rw [if_pos k5] at h ⊢
    simp only [decide_eq_true_eq] at h ⊢
    exact (vget_is l hr h).2.2.1
  rw [if_neg k5] at h ⊢
  by_cases k6 : k = 6
  · rw [if_pos k6] at h ⊢
    simp only [decide_eq_true_eq] at h ⊢
    exact (gt_is l h).2.2.1
  rw [if_neg k6] at h ⊢
  by_cases k7 : k = 7
  · rw [if_pos k7] at h ⊢
    simp only [decide_eq_true_eq] at h ⊢
    exact (gbn_is l h).2.2.1
  rw [if_neg k7] at h ⊢
  by_cases k8 : k = 8
  · rw [if_pos k8] at h ⊢
    simp only [Bool.and_eq_true, decide_eq_true_eq] at h ⊢
    have a := (gt_is l h.1).2.2.1
    have b := (gt_is _ h.2).2.2.1
    rw [List.length_drop] at b
    omega
  rw [if_neg k8] at h
  simp at h
theorem gok_le (l : List Int) (hr : Rng l) (h : gok l = true) : 1 ≤ gsz l ∧ gsz l ≤ l.length ∧ 0 ≤ gid l ∧ gid l ≤ 268435455 := by
  unfold gok at h
  rw [Bool.and_eq_true, decide_eq_true_eq] at h
  obtain ⟨_, a, b, c, d, _⟩ := vget_is l hr h.1
  have e := gval_le _ _ (hr.drop (ghd l)) h.2
  rw [List.length_drop] at e
  unfold gsz grs
  omega
theorem parse_nil : parse [] = some [] := by rw [parse, dif_pos rfl]
theorem parse_no (l : List Int) (h : l ≠ []) (hg : gok l = false) : parse l = none := by rw [parse, dif_neg h, if_neg (by rw [hg]; decide)]
theorem parse_yes (l : List Int) (h : l ≠ []) (hr : Rng l) (hg : gok l = true) : parse l = (parse (l.drop (gsz l))).map (gpr l :: ·) := by
  rw [parse, dif_neg h, if_pos hg, Nat.max_eq_right (gok_le l hr hg).1]
theorem getOne_good (v : Value) (l : List Int) (w : World) (h : Byt w v l) (hg : gok l = true) : Calls Tryd.prog 50 #[v] w (GoOk (gpr l) (gsz l) w) := by
  have hr := h.range
  have hle := gok_le l hr hg
  unfold gok at hg
  rw [Bool.and_eq_true, decide_eq_true_eq] at hg
  obtain ⟨hv, a, b, c, d, _⟩ := vget_is l hr hg.1
  have hg2 := hg.2
  have hl := gval_le _ _ (Rng.drop hr (ghd l)) hg2
  rw [List.length_drop] at hl
  unfold gpr gsz
  refine gone_ok v l w h (gid l) (ghd l) hv ⟨a, b⟩ (frm (gid l)) (wid (gid l)) (lst (gid l)) (mx (gid l)) rfl _ _ _ _ (by unfold grs; omega) ?_
  intro vb W hb
  have hfrm : frm (gid l) = (if kd (gid l) = 1 ∨ kd (gid l) = 2 ∨ kd (gid l) = 4 then 1 else if kd (gid l) = 5 then 2 else if kd (gid l) = 6 then 3 else if kd (gid l) = 7 then 4 else if kd (gid l) = 8 then 5 else 0) := rfl
  have hwid : wid (gid l) = (if kd (gid l) = 1 ∨ kd (gid l) = 2 ∨ kd (gid l) = 4 then kd (gid l) else 0) := rfl
  have hr' := Rng.drop hr (ghd l)
  unfold grs at hg2 ⊢
  generalize kd (gid l) = k at hg2 hfrm hwid ⊢
  generalize l.drop (ghd l) = m at hg2 hb hr' ⊢
  rw [hfrm, hwid]
  clear hfrm hwid
  unfold gval at hg2 ⊢
  by_cases k1 : k = 1 ∨ k = 2 ∨ k = 4
  · rw [if_pos k1] at hg2 ⊢
    rw [if_pos k1, if_pos k1]
    simp only [decide_eq_true_eq] at hg2 ⊢
    have := gval_num vb m W hb k (lst (gid l)) (mx (gid l)) k1 hg2
    rw [show ((k.toNat : Nat) : Int) = k from by omega]
    exact this
  rw [if_neg k1] at hg2 ⊢
  rw [if_neg k1, if_neg k1]
  by_cases k5 : k = 5
  · rw [if_pos k5] at hg2 ⊢
    rw [if_pos k5]
    simp only [decide_eq_true_eq] at hg2 ⊢
    obtain ⟨hv', _⟩ := vget_is m hr' hg2
    exact gval_var vb m W hb _ _ _ _ _ hv'
  rw [if_neg k5] at hg2 ⊢
  rw [if_neg k5]
  by_cases k6 : k = 6
  · rw [if_pos k6] at hg2 ⊢
    rw [if_pos k6]
    simp only [decide_eq_true_eq] at hg2 ⊢
    exact gval_text vb m W hb _ _ _ _ _ (gt_is m hg2).1
  rw [if_neg k6] at hg2 ⊢
  rw [if_neg k6]
  by_cases k7 : k = 7
  · rw [if_pos k7] at hg2 ⊢
    rw [if_pos k7]
    simp only [decide_eq_true_eq] at hg2 ⊢
    exact gval_bin vb m W hb _ _ _ _ _ (gbn_is m hg2).1
  rw [if_neg k7] at hg2 ⊢
  rw [if_neg k7]
  by_cases k8 : k = 8
  · rw [if_pos k8] at hg2 ⊢
    rw [if_pos k8]
    simp only [Bool.and_eq_true, decide_eq_true_eq] at hg2 ⊢
    obtain ⟨e1, e2, e3, _⟩ := gt_is m hg2.1
    obtain ⟨f1, f2, f3, _⟩ := gt_is _ hg2.2
    rw [List.length_drop] at f3
    exact gval_pair vb m W hb _ _ _ _ _ _ _ e1 f1 ⟨e2, e3⟩ (by omega)
  rw [if_neg k8] at hg2
  simp at hg2
theorem getOne_fail (v : Value) (l : List Int) (w : World) (h : Byt w v l) (hg : gok l = false) : Calls Tryd.prog 50 #[v] w (GvBad w) := by
  have hr := h.range
  by_cases hv0 : (V.vget l).2.2 = 0
  · obtain ⟨hv, a, b, c, d, _⟩ := vget_is l hr hv0
    have hg2 : (grs l).1 = false := by
      unfold gok at hg
      rw [hv0] at hg
      simpa using hg
    refine gone_bad2 v l w h (gid l) (ghd l) hv ⟨a, b⟩ (frm (gid l)) (wid (gid l)) (lst (gid l)) (mx (gid l)) rfl ?_
    intro vb W hb
    have hfrm : frm (gid l) = (if kd (gid l) = 1 ∨ kd (gid l) = 2 ∨ kd (gid l) = 4 then 1 else if kd (gid l) = 5 then 2 else if kd (gid l) = 6 then 3 else if kd (gid l) = 7 then 4 else if kd (gid l) = 8 then 5 else 0) := rfl
    have hwid : wid (gid l) = (if kd (gid l) = 1 ∨ kd (gid l) = 2 ∨ kd (gid l) = 4 then kd (gid l) else 0) := rfl
    unfold grs at hg2
    generalize kd (gid l) = k at hg2 hfrm hwid ⊢
    generalize l.drop (ghd l) = m at hg2 hb
    rw [hfrm, hwid]
    clear hfrm hwid
    unfold gval at hg2
    by_cases k1 : k = 1 ∨ k = 2 ∨ k = 4
    · rw [if_pos k1] at hg2
      rw [if_pos k1, if_pos k1]
      simp only [decide_eq_false_iff_not] at hg2
      exact gval_num_bad vb m W hb k _ _ (by omega)
    rw [if_neg k1] at hg2
    rw [if_neg k1, if_neg k1]
    by_cases k5 : k = 5
    · rw [if_pos k5] at hg2
      rw [if_pos k5]
      simp only [decide_eq_false_iff_not] at hg2
      exact gval_var_bad vb m W hb _ _ _ _ rfl hg2
    rw [if_neg k5] at hg2
    rw [if_neg k5]
    by_cases k6 : k = 6
    · rw [if_pos k6] at hg2
      rw [if_pos k6]
      simp only [decide_eq_false_iff_not] at hg2
      exact gval_text_bad vb m W hb _ _ _ _ rfl hg2
    rw [if_neg k6] at hg2
    rw [if_neg k6]
    by_cases k7 : k = 7
    · rw [if_pos k7] at hg2
      rw [if_pos k7]
      simp only [decide_eq_false_iff_not] at hg2
      exact gval_bin_bad vb m W hb _ _ _ _ rfl hg2
    rw [if_neg k7] at hg2
    rw [if_neg k7]
    by_cases k8 : k = 8
    · rw [if_pos k8] at hg2
      rw [if_pos k8]
      by_cases h1 : (gt m).2.2 = 0
      · obtain ⟨e1, e2, e3, _⟩ := gt_is m h1
        have h2 : ¬ (gt (m.drop (gt m).2.1.toNat)).2.2 = 0 := by
          rw [h1] at hg2
          simpa using hg2
        exact gval_pair_bad vb m W hb _ _ _ (fun W' hb' => gpair_bad2 vb m W' hb' _ _ e1 ⟨e2, e3⟩ _ rfl h2)
      · exact gval_pair_bad vb m W hb _ _ _ (fun W' hb' => gpair_bad1 vb m W' hb' _ rfl h1)
    rw [if_neg k8]
    exact gval_none vb m W hb _ _ _
  · exact gone_bad1 v l w h _ rfl hv0
/-- what is read has texts that may be -/
theorem gpr_txo (l : List Int) (hr : Rng l) (h : gok l = true) : txo (gpr l) = true ∧ (gpr l).2.2.1.size ≤ 65535 ∧ (gpr l).2.2.2.size ≤ 65535 := by
  unfold gok at h
  rw [Bool.and_eq_true, decide_eq_true_eq] at h
  have hg2 := h.2
  have hr' := hr.drop (ghd l)
  unfold gpr txo
  simp only
  unfold grs at hg2 ⊢
  generalize kd (gid l) = k at hg2 ⊢
  generalize l.drop (ghd l) = m at hg2 hr' ⊢
  have hes : es.size ≤ 65535 := by decide
  have key : ∀ s : ByteArray, utf (sb s) = true → s.size ≤ 65535 → chk (sb s) = 0 := fun s a b => by
    unfold chk
    rw [if_pos a, if_pos (by rw [sb_length]; exact b)]
  unfold gval at hg2 ⊢
  by_cases k1 : k = 1 ∨ k = 2 ∨ k = 4
  · rw [if_pos k1]
    rw [if_neg (by omega), if_neg (by omega), if_neg (by omega)]
    exact ⟨by simp; omega, hes, hes⟩
  rw [if_neg k1] at hg2 ⊢
  by_cases k5 : k = 5
  · rw [if_pos k5]
    rw [if_neg (by omega), if_neg (by omega), if_neg (by omega)]
    exact ⟨by simp; omega, hes, hes⟩
  rw [if_neg k5] at hg2 ⊢
  by_cases k6 : k = 6
  · rw [if_pos k6] at hg2 ⊢
    simp only [decide_eq_true_eq] at hg2 ⊢
    rw [if_pos k6]
    obtain ⟨_, _, _, hu, hs⟩ := gt_is m hg2
    have hz : (gt m).1.size ≤ 65535 := by rw [hs]; exact gbs_size m hr'
    exact ⟨key _ hu hz, hz, hes⟩
  rw [if_neg k6] at hg2 ⊢
  by_cases k7 : k = 7
  · rw [if_pos k7] at hg2 ⊢
    simp only [decide_eq_true_eq] at hg2 ⊢
    rw [if_neg k6, if_pos k7]
    obtain ⟨_, _, _, hs⟩ := gbn_is m hg2
    have hz : (gbn m).1.size ≤ 65535 := by rw [hs]; exact gbs_size m hr'
    exact ⟨hz, hz, hes⟩
  rw [if_neg k7] at hg2 ⊢
  by_cases k8 : k = 8
  · rw [if_pos k8] at hg2 ⊢
    simp only [Bool.and_eq_true, decide_eq_true_eq] at hg2 ⊢
    rw [if_neg k6, if_neg k7, if_pos k8]
    obtain ⟨_, _, _, hu, hs⟩ := gt_is m hg2.1
    obtain ⟨_, _, _, hu2, hs2⟩ := gt_is _ hg2.2
    have hz : (gt m).1.size ≤ 65535 := by rw [hs]; exact gbs_size m hr'
    have hz2 : (gt (m.drop (gt m).2.1.toNat)).1.size ≤ 65535 := by rw [hs2]; exact gbs_size _ (hr'.drop _)
    exact ⟨⟨key _ hu hz, key _ hu2 hz2⟩, hz, hz2⟩
  rw [if_neg k8] at hg2
  simp at hg2
/-- lists that begin alike -/
theorem at0_app (d e : List Pr) (i : Nat) (h : i < d.length) : at0 (d ++ e) i = at0 d i := by
  unfold at0
  rw [List.getD_eq_getElem?_getD, List.getElem?_append_left h, ← List.getD_eq_getElem?_getD]
theorem at0_mid (d e : List Pr) (p : Pr) : at0 (d ++ p :: e) d.length = p := by
  unfold at0
  simp
def sn (d : List Pr) (id : Int) : Bool := d.any fun q => decide (q.1 = id)
theorem seen_app (d e : List Pr) (i : Nat) (h : i ≤ d.length) (id : Int) : seen (d ++ e) i id = seen d i id := by
  unfold seen
  rw [List.take_append_of_le_length h]
theorem okAt_app (place : Int) (d e : List Pr) (i : Nat) (h : i < d.length) : okAt place (d ++ e) i = okAt place d i := by
  unfold okAt
  rw [at0_app d e i h, seen_app d e i (by omega)]
theorem okAt_mid (place : Int) (d e : List Pr) (p : Pr) : okAt place (d ++ p :: e) d.length = (tk place p.1 p.2.1 p.2.2.1 p.2.2.2 (sn d p.1) && txo p) := by
  rw [okAt_tk, at0_mid, seen_app d _ _ (Nat.le_refl _)]
  unfold seen sn
  rw [List.take_length]
theorem sn_snoc (d : List Pr) (p : Pr) (id : Int) : sn (d ++ [p]) id = (sn d id || decide (p.1 = id)) := by
  unfold sn
  rw [List.any_append]; simp
/-- the number that read tells -/
def rdn (place : Int) (l : List Int) : Int := match parse l with
  | none => 1
  | some q => chkP place q
theorem rdn_none (place : Int) (l : List Int) (h : parse l = none) : rdn place l = 1 := by unfold rdn; rw [h]
theorem rdn_some (place : Int) (l : List Int) (q : List Pr) (h : parse l = some q) : rdn place l = chkP place q := by unfold rdn; rw [h]
theorem rdn_bad (place : Int) (l r : List Int) (d : List Pr) (p : Pr) (h : parse l = (parse r).map ((d ++ [p]) ++ ·)) (hp : okAt place (d ++ [p]) d.length = false) : rdn place l = 1 := by
  cases hr : parse r with
  | none => rw [hr] at h; exact rdn_none place l h
  | some q =>
    rw [hr] at h
    rw [rdn_some place l _ h]
    refine chkP_bad place _ d.length (by simp) ?_
    rw [okAt_app place (d ++ [p]) q d.length (by simp)]
    exact hp
end Go.Proofs.YtpfpollejhdbgaaDoor
/- Proved here: prop.read reads the properties of which bytes are made, or tells an error around ErrForm. Helper contracts. -/
namespace Go.Proofs.YtpfpollejhdbgaaDoor
open Go.RowKit
set_option maxRecDepth 100000

def lenOf : Value → Nat
  | .slice _ n _ => n
  | _ => 0
def ReadPost (place : Int) (l : List Int) (w : World) (e : Ending) (w' : World) : Prop :=
  (∃ q v, parse l = some q ∧ okTo place q q.length ∧ e = .returned (.tuple #[v, .int .i64 q.length, .nilIface]) ∧ Hid (w'.ownsRow w.heap.size 49 4 v (min q.length 32) (pcs (q.take 32))) ∧ Below w.heap.size w w') ∨
  (rdn place l = 1 ∧ ∃ E, e = .returned (.tuple #[.slice none 0 0, .int .i64 0, .iface 79 E]) ∧ Hid (ErrP w' (.iface 79 E) 1) ∧ Below w.heap.size w w')
theorem pcs_app (d : List Pr) (p : Pr) : pcs (d ++ [p]) = pcs d ++ [.int .i64 p.1, .int .i64 p.2.1, .string p.2.2.1, .string p.2.2.2] := by unfold pcs; simp
theorem okTo_snoc (place : Int) (d : List Pr) (p : Pr) (h : okTo place d d.length) (hp : okAt place (d ++ [p]) d.length = true) : okTo place (d ++ [p]) (d ++ [p]).length := by
  intro i hi
  rw [List.length_append, List.length_singleton] at hi
  rcases Nat.lt_or_ge i d.length with a | a
  · rw [okAt_app place d [p] i a]; exact h i a
  · obtain rfl : i = d.length := by omega
    exact hp
theorem prp_row {w w' : World} {R : Nat} {place : Int} {f g : Nat → Bool} (h : RowAt w R place f) (hb : Below w.heap.size w w') (e : ∀ j, j ≤ 42 → f j = g j) : RowAt w' R place g := (h.below hb).congr e
set_option maxHeartbeats 4000000 in
theorem read_any (v : Value) (l : List Int) (place : Int) (w : World) (h : Byt w v l) :
    Calls Tryd.prog 36 #[v, .int .i64 place] w (ReadPost place l w) := by
  obtain ⟨i0, hi, hz0, hz1, hz2⟩ := info_parts Tryd.infoProp
  obtain ⟨ao, cap, rfl, hc1, hc2⟩ := h.form
  unfold maxLen at hc2
  have HV := hide h
  clear h
  generalize hn : l.length = n at hc1 HV
  have HN := hide hn
  clear hn
  go_enter Tryd.func36, Tryd.ntmps36
  iterate 19 go_step
  refine wpList_value rfl (row_build _ _ _ _ _ _ place rfl _) ?_
  simp only [Act.put, List.setIfInBounds_toArray, List.set_cons_zero, List.set_cons_succ]
  refine wpList_value rfl (row_alloc _ _ _ _ _ _) ?_
  simp only [Act.put, List.setIfInBounds_toArray, List.set_cons_zero, List.set_cons_succ]
  refine wpList_skip rfl (row_store _ _ _ _ _ _ _ place _ rfl rfl) ?_
  simp only [Act.put]
  go_wp2
  have hR0 : Hid (RowAt (w.alloc (.cells (rowA place) 76)) w.heap.size place (fun _ => false)) := rowAt_new w place
  go_loopw [0, 4, 5] (fun b0 l0 c0 wr => ∃ (bv lv : Value) (rest : List Int) (d : List Pr) (k m : Nat), b0 = bv ∧ l0 = lv ∧ c0 = .int .i64 k ∧ m + k ≤ n ∧ Hid (d.length = k) ∧ Hid (rest.length = m) ∧ Hid (Byt w bv rest) ∧ Hid (parse l = (parse rest).map (d ++ ·)) ∧ Hid (okTo place d d.length) ∧ Hid (RowAt wr w.heap.size place (fun j => sn d j)) ∧ Hid (wr.ownsRow (w.heap.size + 1) 49 4 lv (min k 32) (pcs (d.take 32))) ∧ Below w.heap.size w wr) (fun b0 _ _ _ => lenOf b0)
  case atStart =>
    refine ⟨_, _, l, [], 0, n, rfl, rfl, rfl, by omega, rfl, unhide HN, unhide HV, ?_, okTo_zero _ _, (unhide hR0).congr (fun j _ => rfl), ?_, (Below.refl _ _).alloc (Nat.le_refl _) _⟩
    · show parse l = _
      cases parse l <;> simp
    · exact World.ownsRow_nil _ _ _ _
  case round =>
    obtain ⟨_, _, rest, d, k, m, rfl, rfl, rfl, hmk, HD, HM, HY, HP, HOK, HROW, HOWN, hbel⟩ := hrel
    clear hR0
    have hsz := hbel.size
    have hRl := (unhide HROW).lt
    obtain ⟨ao2, cap2, hu0, hcc1, hcc2⟩ := (unhide HY).form
    unfold maxLen at hcc2
    rw [unhide HM] at hu0 hcc1
    by_cases hm0 : m = 0
    · subst hu0
      subst hm0
      have HPA : Hid (parse l = some d) := by
        have hr0 : rest = [] := List.length_eq_zero_iff.1 (unhide HM)
        have := unhide HP
        rw [hr0, parse_nil] at this
        show parse l = some d
        simpa using this
      have HO2 : Hid (wr.ownsRow w.heap.size 49 4 u4 (min d.length 32) (pcs (d.take 32))) := by
        show World.ownsRow _ _ _ _ _ _ _
        rw [unhide HD]
        exact owns_mono (unhide HOWN) (by omega)
      have HDD : Hid ((k : Int) = (d.length : Int)) := by show _ = _; rw [unhide HD]
      go_wp2
      go_returns
      exact .inl ⟨d, _, unhide HPA, unhide HOK, by rw [← unhide HDD]; rfl, HO2, hbel⟩
    · have HNE : Hid (rest ≠ []) := by
        intro e
        have := unhide HM
        rw [e] at this
        simp at this
        omega
      have hbel' := hide hbel
      have HY' : Hid (Byt wr u0 rest) := (unhide HY).below hbel
      have HYW : Hid (Byt w u0 rest) := HY
      obtain ⟨b, off, cap3, hu1, -, -⟩ := (unhide HY).form1 (by rw [unhide HM]; omega)
      rw [hu0] at hu1
      simp only [Value.slice.injEq] at hu1
      obtain ⟨rfl, -, rfl⟩ := hu1
      subst hu0
      clear hbel HY
      cases hgk : gok rest
      · have HC : Hid (rdn place l = 1) := rdn_none place l (by rw [unhide HP, parse_no rest (unhide HNE) hgk]; rfl)
        have HGK := hide hgk
        clear hgk
        go_wp2_with fail
        refine (getOne_fail _ rest _ (unhide HY') (unhide HGK)).mono ?_
        rintro e w2 ⟨i2, n2, s2, t2, k2, ty2, x2, m2, rfl, hin2, hb2⟩
        have HB2 : Hid (Below w.heap.size w w2) := (unhide hbel').trans (hb2.mono hsz)
        have hs2 := (unhide HB2).size
        go_wp2_with fail
        refine (broken_use _ m2 _ ((unhide hin2).below ((Below.refl _ _).alloc (Nat.le_refl _) _))).mono ?_
        rintro e w4 ⟨E, rfl, hE, hb4⟩
        go_wp2
        go_returns
        exact .inr ⟨unhide HC, _, rfl, hE, ((unhide HB2).alloc hs2 _).trans (hb4.mono (by simp; omega))⟩
      · have hr := (unhide HY').range
        obtain ⟨hg1, hg2, hg3, hg4⟩ := gok_le rest hr hgk
        rw [unhide HM] at hg2
        have HTX := hide (gpr_txo rest hr hgk)
        have HPY := hide (parse_yes rest (unhide HNE) hr hgk)
        have HG1 := hide (getOne_good _ rest _ (unhide HY') hgk)
        clear hr hgk
        generalize hz : gsz rest = z at hg1 hg2 HPY HG1
        clear hz
        obtain ⟨id, N, s, t, hp⟩ : ∃ id N s t, gpr rest = (id, N, s, t) := ⟨_, _, _, _, rfl⟩
        have hid : id = gid rest := by have := congrArg Prod.fst hp; exact this.symm
        rw [← hid] at hg3 hg4
        rw [hp] at HTX HPY HG1
        clear hp hid
        have HP2 : Hid (parse l = (parse (rest.drop z)).map ((d ++ [(id, N, s, t)]) ++ ·)) := by
          show _ = _
          rw [unhide HP, unhide HPY, Option.map_map]
          congr 1
          funext x
          simp
        clear HPY HP
        go_wp2_with fail
        refine (unhide HG1).mono ?_
        rintro e w2 ⟨rfl, hb2⟩
        have HB2 : Hid (Below w.heap.size w w2) := (unhide hbel').trans (hb2.mono hsz)
        have hs2 := (unhide HB2).size
        have HROW2 : Hid (RowAt w2 w.heap.size place (fun j => sn d j)) := (unhide HROW).below hb2
        have HOWN2 : Hid (w2.ownsRow (w.heap.size + 1) 49 4 u4 (min k 32) (pcs (d.take 32))) := owns_below (unhide HOWN) hb2
        have hRl2 := (unhide HROW2).lt
        clear hb2 HROW HOWN HY' hbel' HG1
        have HOT := hide (okAt_mid place d [] (id, N, s, t))
        cases htk : tk place id N s t (sn d id)
        · have HC : Hid (rdn place l = 1) := rdn_bad place l _ d _ (unhide HP2) ((unhide HOT).trans (by simp only [htk, Bool.false_and]))
          have HTK := hide (tk_toNat (sn d) htk)
          clear htk HOT
          go_wp2_with fail
          refine (take_bad w.heap.size place id N s t (fun j => sn d j) _ ((unhide HROW2).below ((Below.refl _ _).alloc (Nat.le_refl _) _)) (unhide HTK)).mono ?_
          rintro e w3 ⟨E, rfl, hE, hb3⟩
          go_wp2
          go_returns
          exact .inr ⟨unhide HC, _, rfl, hE, ((unhide HB2).alloc hs2 _).trans (hb3.mono (by simp; omega))⟩
        · obtain ⟨hmst, hfit⟩ := tk_mst htk
          obtain ⟨hi1, hi2⟩ := id_range id place hmst
          obtain ⟨q, rfl⟩ : ∃ q : Nat, id = q := ⟨id.toNat, by omega⟩
          have HOKM : Hid (okAt place (d ++ [((q : Int), N, s, t)]) d.length = true) := (unhide HOT).trans (by simp only [htk, Bool.true_and]; exact (unhide HTX).1)
          have HOK2 : Hid (okTo place (d ++ [((q : Int), N, s, t)]) (d ++ [((q : Int), N, s, t)]).length) := okTo_snoc place d _ (unhide HOK) (unhide HOKM)
          have HTK := hide htk
          have HG : Hid (∀ j : Nat, j ≤ 42 → (sn d (j : Int) || decide (q = j)) = sn (d ++ [((q : Int), N, s, t)]) (j : Int)) := fun j _ => by
            rw [sn_snoc, show decide (((q : Int), N, s, t).1 = (j : Int)) = decide (q = j) from by rw [decide_eq_decide]; constructor <;> intro h <;> omega]
          clear htk hmst hfit HOT HOKM HOK
          go_wp2_with fail
          refine (take_use w.heap.size q place N s t (fun j => sn d j) (fun j => sn (d ++ [((q : Int), N, s, t)]) j) _ (by omega) ((unhide HROW2).below ((Below.refl _ _).alloc (Nat.le_refl _) _)) (unhide HTK) (unhide HG) w.heap.size (Nat.le_refl _)).mono ?_
          rintro e w3 ⟨rfl, HROW3, hb3, HOWT, HCT⟩
          have d0 : w3.cell? ⟨w2.heap.size, 0, none⟩ = some (.int .i64 (q : Int)) := ((unhide HCT) w2.heap.size 0 (by omega) (by simp)).trans (by simp)
          have d1 : w3.cell? ⟨w2.heap.size, 1, none⟩ = some (.int .i64 N) := ((unhide HCT) w2.heap.size 1 (by omega) (by simp)).trans (by simp)
          have d2 : w3.cell? ⟨w2.heap.size, 2, none⟩ = some (.string s) := ((unhide HCT) w2.heap.size 2 (by omega) (by simp)).trans (by simp)
          have d3 : w3.cell? ⟨w2.heap.size, 3, none⟩ = some (.string t) := ((unhide HCT) w2.heap.size 3 (by omega) (by simp)).trans (by simp)
          have HOWN3 : Hid (w3.ownsRow (w.heap.size + 1) 49 4 u4 (min k 32) (pcs (d.take 32))) := (unhide HOWT) _ _ _ _ _ _ (by omega) ((unhide HOWN2).alloc _)
          have HB3 : Hid (Below w.heap.size w w3) := ((unhide HB2).alloc hs2 _).trans hb3
          have hs3 : w.heap.size + 1 ≤ w3.heap.size := by have := (unhide HROW3).lt; omega
          clear hb3 HOWT HCT HOWN2 HROW2 HG HTK HB2
          have HLEN2 : Hid ((d ++ [((q : Int), N, s, t)]).length = k + 1) := by show _ = _; rw [List.length_append, unhide HD]; rfl
          by_cases h32 : k < 32
          · have HM1 : Hid (min k 32 = k) := Nat.min_eq_left (by omega)
            have HM2 : Hid (min (k + 1) 32 = k + 1) := Nat.min_eq_left (by omega)
            have HT1 : Hid (d.take 32 = d) := List.take_of_length_le (by rw [unhide HD]; omega)
            have HT2 : Hid ((d ++ [((q : Int), N, s, t)]).take 32 = d ++ [((q : Int), N, s, t)]) := List.take_of_length_le (by rw [unhide HLEN2]; omega)
            rw [unhide HM1, unhide HT1] at HOWN3
            go_wp2_with (first
              | (at_builtin; refine wpList_append_own _ rfl _ _ 23 rfl (w.heap.size + 1) 49 i0 _ 4 48 Tryd.underlying23 hi hz0 hz1 hz2 rfl (by decide) _ _ _ rfl ((unhide HOWN3).alloc _) ⟨w3.heap.size, 0, none⟩ 1 1 [.int .i64 (q : Int), .int .i64 N, .string s, .string t] rfl rfl (four_cell _ _ _ _ _ _) (four_one _ _ _ _) (by unfold maxLen; omega) (by omega) (by simp; omega) ?_)
              | go_in)
            intro v4 w4 hown4 hgrow4 _
            have HB4 : Hid (Below w.heap.size w w4) := ((unhide HB3).alloc (unhide HB3).size _).grown hgrow4 (by simp; omega) (fun g hg => by have := ((unhide HOWN3).lt g hg).1; omega)
            have HROW4 : Hid (RowAt w4 w.heap.size place (fun j => sn (d ++ [((q : Int), N, s, t)]) j)) := row_grown ((unhide HROW3).below ((Below.refl _ _).alloc (Nat.le_refl _) _)) hgrow4 (fun g hg => by have := ((unhide HOWN3).lt g hg).1; omega)
            have HOWN4 : Hid (w4.ownsRow (w.heap.size + 1) 49 4 v4 (min (k + 1) 32) (pcs ((d ++ [((q : Int), N, s, t)]).take 32))) := by
              show World.ownsRow _ _ _ _ _ _ _
              rw [unhide HM2, unhide HT2, pcs_app]
              exact hown4
            clear hown4 hgrow4 HOWN3 HROW3 d0 d1 d2 d3
            by_cases hcz : cap2 = z
            · have hm1 : m = cap2 := by omega
              have hm2 : m = z := by omega
              clear hcz
              subst hm1
              subst hm2
              have HBD : Hid (Byt w (.slice (some ⟨b, off, none⟩) 0 0) (rest.drop m)) := by
                show Byt _ _ _
                have := (unhide HYW).drop' m (Nat.le_refl _)
                rw [if_pos rfl, Nat.sub_self] at this
                exact this
              have HML : Hid ((rest.drop m).length = 0) := by show _ = _; rw [List.length_drop, unhide HM]; omega
              clear HYW HM
              go_wp2
              go_roundw
              case rel => exact ⟨_, _, _, _, k + 1, 0, rfl, rfl, by go_num, by omega, HLEN2, HML, HBD, HP2, HOK2, HROW4, HOWN4, unhide HB4⟩
              case measure => simp [lenOf]; omega
            · have HBD : Hid (Byt w (.slice (some ⟨b, off + z, none⟩) (m - z) (cap2 - z)) (rest.drop z)) := by
                show Byt _ _ _
                have := (unhide HYW).drop' z hg2
                rw [if_neg hcz] at this
                exact this
              have HML : Hid ((rest.drop z).length = m - z) := by show _ = _; rw [List.length_drop, unhide HM]
              clear HYW HM
              go_wp2
              go_roundw
              case rel => exact ⟨_, _, _, _, k + 1, m - z, rfl, rfl, by go_num, by omega, HLEN2, HML, HBD, HP2, HOK2, HROW4, HOWN4, unhide HB4⟩
              case measure => simp [lenOf]; omega
          · have HM1 : Hid (min k 32 = min (k + 1) 32) := by show _ = _; omega
            have HT1 : Hid (d.take 32 = (d ++ [((q : Int), N, s, t)]).take 32) := by show _ = _; rw [List.take_append_of_le_length (by rw [unhide HD]; omega)]
            rw [unhide HM1, unhide HT1] at HOWN3
            by_cases hcz : cap2 = z
            · have hm1 : m = cap2 := by omega
              have hm2 : m = z := by omega
              clear hcz
              subst hm1
              subst hm2
              have HBD : Hid (Byt w (.slice (some ⟨b, off, none⟩) 0 0) (rest.drop m)) := by
                show Byt _ _ _
                have := (unhide HYW).drop' m (Nat.le_refl _)
                rw [if_pos rfl, Nat.sub_self] at this
                exact this
              have HML : Hid ((rest.drop m).length = 0) := by show _ = _; rw [List.length_drop, unhide HM]; omega
              clear HYW HM
              go_wp2
              go_roundw
              case rel => exact ⟨_, _, _, _, k + 1, 0, rfl, rfl, by go_num, by omega, HLEN2, HML, HBD, HP2, HOK2, HROW3, HOWN3, unhide HB3⟩
              case measure => simp [lenOf]; omega
            · have HBD : Hid (Byt w (.slice (some ⟨b, off + z, none⟩) (m - z) (cap2 - z)) (rest.drop z)) := by
                show Byt _ _ _
                have := (unhide HYW).drop' z hg2
                rw [if_neg hcz] at this
                exact this
              have HML : Hid ((rest.drop z).length = m - z) := by show _ = _; rw [List.length_drop, unhide HM]
              clear HYW HM
              go_wp2
              go_roundw
              case rel => exact ⟨_, _, _, _, k + 1, m - z, rfl, rfl, by go_num, by omega, HLEN2, HML, HBD, HP2, HOK2, HROW3, HOWN3, unhide HB3⟩
              case measure => simp [lenOf]; omega
end Go.Proofs.YtpfpollejhdbgaaDoor
