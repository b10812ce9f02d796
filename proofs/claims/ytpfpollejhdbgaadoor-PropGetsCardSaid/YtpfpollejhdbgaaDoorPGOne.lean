/- Proved here: prop.getOne reads one property with which bytes begin, or tells an error of below. Helper contracts. -/
import Derived.Test.YtpfpollejhdbgaaDoorPGVal
namespace Go.Proofs.YtpfpollejhdbgaaDoor
open Go.RowKit
set_option maxRecDepth 100000

def GoOk (p : Pr) (K : Int) (w : World) (e : Ending) (w' : World) : Prop := e = .returned (.tuple #[.agg #[.int .i64 p.1, .int .i64 p.2.1, .string p.2.2.1, .string p.2.2.2], .int .i64 K, .nilIface]) ∧ Below w.heap.size w w'
/-- four cells of one block, written one behind the other -/
def set4 (w : World) (B : Nat) (a b : Int) (s t : ByteArray) : World := (((w.setCell ⟨B, 0, none⟩ (.int .i64 a)).setCell ⟨B, 1, none⟩ (.int .i64 b)).setCell ⟨B, 2, none⟩ (.string s)).setCell ⟨B, 3, none⟩ (.string t)
theorem set4_c0 (w : World) (B : Nat) (a b : Int) (s t : ByteArray) {x : Value} (h : w.cell? ⟨B, 0, none⟩ = some x) : (set4 w B a b s t).cell? ⟨B, 0, none⟩ = some (.int .i64 a) := by
  unfold set4
  simp (maxDischargeDepth := 12) [cell_set, h]
theorem set4_c1 (w : World) (B : Nat) (a b : Int) (s t : ByteArray) {x : Value} (h : w.cell? ⟨B, 1, none⟩ = some x) : (set4 w B a b s t).cell? ⟨B, 1, none⟩ = some (.int .i64 b) := by
  unfold set4
  simp (maxDischargeDepth := 12) [cell_set, h]
theorem set4_c2 (w : World) (B : Nat) (a b : Int) (s t : ByteArray) {x : Value} (h : w.cell? ⟨B, 2, none⟩ = some x) : (set4 w B a b s t).cell? ⟨B, 2, none⟩ = some (.string s) := by
  unfold set4
  simp (maxDischargeDepth := 12) [cell_set, h]
theorem set4_c3 (w : World) (B : Nat) (a b : Int) (s t : ByteArray) {x : Value} (h : w.cell? ⟨B, 3, none⟩ = some x) : (set4 w B a b s t).cell? ⟨B, 3, none⟩ = some (.string t) := by
  unfold set4
  simp (maxDischargeDepth := 12) [cell_set, h]
theorem set4_frozen (w : World) (B : Nat) (a b : Int) (s t : ByteArray) (p : Addr) : (set4 w B a b s t).frozen? p = w.frozen? p := by
  unfold set4
  simp [World.frozen?_setCell]
theorem set4_below (w w0 : World) (B B0 : Nat) (a b : Int) (s t : ByteArray) (h : Below B0 w0 w) (hB : B0 ≤ B) : Below B0 w0 (set4 w B a b s t) := by
  unfold set4
  exact (((h.setCell hB _).setCell hB _).setCell hB _).setCell hB _
theorem set4_off {B : Nat} {w : World} {v : Value} {n : Int} (h : InnOff B w v n) (a b : Int) (s t : ByteArray) : InnOff B (set4 w B a b s t) v n := by
  unfold set4
  exact (((h.set rfl).set rfl).set rfl).set rfl
theorem gone_bad1 (v : Value) (l : List Int) (w : World) (h : Byt w v l) (m : Int) (hv : (V.vget l).2.2 = m) (hm : m ≠ 0) : Calls Tryd.prog 50 #[v] w (GvBad w) := by
  obtain ⟨ao, cap, rfl, hc1, hc2⟩ := h.form
  have HV := hide h
  have Hhv := hide hv
  clear h hv
  generalize hn : l.length = n at hc1 HV
  go_enter Tryd.func50, Tryd.ntmps50
  go_wp2_with fail
  refine (vget_fail _ l _ ((unhide HV).below (by go_grown)) m (unhide Hhv) hm).mono ?_
  rintro e w1 ⟨a, b, x, rfl, hi, hb1⟩
  have HB1 : Hid (Below w.heap.size w w1) := ((Below.refl _ _).alloc (Nat.le_refl _) _).trans (hb1.mono (by simp))
  have q0 : w1.cell? ⟨w.heap.size, 0, none⟩ = some (.int .i64 0) := (hb1.cell (p := ⟨w.heap.size, 0, none⟩) (by simp)).trans (by simp)
  have f0 : w1.frozen? ⟨w.heap.size, 0, none⟩ = false := (hb1.frozen (p := ⟨w.heap.size, 0, none⟩) (by simp)).trans (by simp)
  have q1 : w1.cell? ⟨w.heap.size, 1, none⟩ = some (.int .i64 0) := (hb1.cell (p := ⟨w.heap.size, 1, none⟩) (by simp)).trans (by simp)
  have f1 : w1.frozen? ⟨w.heap.size, 1, none⟩ = false := (hb1.frozen (p := ⟨w.heap.size, 1, none⟩) (by simp)).trans (by simp)
  have q2 : w1.cell? ⟨w.heap.size, 2, none⟩ = some (.string ⟨#[]⟩) := (hb1.cell (p := ⟨w.heap.size, 2, none⟩) (by simp)).trans (by simp)
  have f2 : w1.frozen? ⟨w.heap.size, 2, none⟩ = false := (hb1.frozen (p := ⟨w.heap.size, 2, none⟩) (by simp)).trans (by simp)
  have q3 : w1.cell? ⟨w.heap.size, 3, none⟩ = some (.string ⟨#[]⟩) := (hb1.cell (p := ⟨w.heap.size, 3, none⟩) (by simp)).trans (by simp)
  have f3 : w1.frozen? ⟨w.heap.size, 3, none⟩ = false := (hb1.frozen (p := ⟨w.heap.size, 3, none⟩) (by simp)).trans (by simp)
  have HOF := hide ((unhide hi).off q1)
  clear hb1 hi
  go_wp2
  (try simp only [Exit.inBlock, Exit.then])
  refine bodyPost_ret (res_p (B := w.heap.size) (v0 := .int .i64 0) (v1 := .int .i64 0) (v2 := .string ⟨#[]⟩) (v3 := .string ⟨#[]⟩) rfl rfl ?c0 ?c1 ?c2 ?c3) rfl ?_
  case c0 => simp (maxDischargeDepth := 12) [cell_set, q0]
  case c1 => simp (maxDischargeDepth := 12) [cell_set, q1]
  case c2 => simp (maxDischargeDepth := 12) [cell_set, q2]
  case c3 => simp (maxDischargeDepth := 12) [cell_set, q3]
  refine ⟨_, _, _, _, _, _, _, m, rfl, InnOff.inn (B := w.heap.size) ?_, ?_⟩
  · refine InnOff.set ?_ rfl; refine InnOff.set ?_ rfl; refine InnOff.set ?_ rfl; refine InnOff.set ?_ rfl; exact unhide HOF
  · have := unhide HB1; go_grown
set_option maxHeartbeats 1000000 in
theorem gone_ok (v : Value) (l : List Int) (w : World) (h : Byt w v l) (id : Int) (Q : Nat) (hv : V.vget l = (id, (Q : Int), 0)) (hQ : 1 ≤ Q ∧ Q ≤ l.length) (f wd lo hi : Int) (hsh : shv id = .agg #[.int .i64 f, .int .i64 wd, .int .i64 lo, .int .i64 hi]) (N : Int) (s t : ByteArray) (M : Nat) (hM : Q + M ≤ l.length) (hg : ∀ vb W, Byt W vb (l.drop Q) → Calls Tryd.prog 65 #[vb, shp f wd lo hi] W (GvOk N s t M W)) : Calls Tryd.prog 50 #[v] w (GoOk (id, N, s, t) (Q + M : Nat) w) := by
  obtain ⟨b, off, cap, rfl, hc1, hc2⟩ := h.form1 (by omega)
  unfold maxLen at hc2
  have HV := hide h
  have Hhv := hide hv
  have HSH := hide hsh
  have HG := hide hg
  clear h hv hsh hg
  generalize hn : l.length = n at hc1 hQ HV hM
  have HN := hide hn
  clear hn
  by_cases hcQ : cap = Q
  · have hcQ2 := hcQ.symm
    clear hcQ
    subst hcQ2
    go_enter Tryd.func50, Tryd.ntmps50
    go_wp2_with fail
    refine (vget_good _ l _ ((unhide HV).below (by go_grown)) id Q (unhide Hhv)).mono ?_
    rintro e w1 ⟨rfl, hb1⟩
    have HB1 : Hid (Below w.heap.size w w1) := ((Below.refl _ _).alloc (Nat.le_refl _) _).trans (hb1.mono (by simp))
    have HD : Hid (Byt w1 (.slice (some ⟨b, off, none⟩) 0 0) (l.drop Q)) := by
      show Byt _ _ _
      have := ((unhide HV).below (unhide HB1)).drop' Q (by omega)
      rw [if_pos rfl, Nat.sub_self, show n - Q = 0 from by omega] at this; exact this
    have q0 : w1.cell? ⟨w.heap.size, 0, none⟩ = some (.int .i64 0) := (hb1.cell (p := ⟨w.heap.size, 0, none⟩) (by simp)).trans (by simp)
    have f0 : w1.frozen? ⟨w.heap.size, 0, none⟩ = false := (hb1.frozen (p := ⟨w.heap.size, 0, none⟩) (by simp)).trans (by simp)
    have q1 : w1.cell? ⟨w.heap.size, 1, none⟩ = some (.int .i64 0) := (hb1.cell (p := ⟨w.heap.size, 1, none⟩) (by simp)).trans (by simp)
    have f1 : w1.frozen? ⟨w.heap.size, 1, none⟩ = false := (hb1.frozen (p := ⟨w.heap.size, 1, none⟩) (by simp)).trans (by simp)
    have q2 : w1.cell? ⟨w.heap.size, 2, none⟩ = some (.string ⟨#[]⟩) := (hb1.cell (p := ⟨w.heap.size, 2, none⟩) (by simp)).trans (by simp)
    have f2 : w1.frozen? ⟨w.heap.size, 2, none⟩ = false := (hb1.frozen (p := ⟨w.heap.size, 2, none⟩) (by simp)).trans (by simp)
    have q3 : w1.cell? ⟨w.heap.size, 3, none⟩ = some (.string ⟨#[]⟩) := (hb1.cell (p := ⟨w.heap.size, 3, none⟩) (by simp)).trans (by simp)
    have f3 : w1.frozen? ⟨w.heap.size, 3, none⟩ = false := (hb1.frozen (p := ⟨w.heap.size, 3, none⟩) (by simp)).trans (by simp)
    have hl1 : w.heap.size < w1.heap.size := cell_lt q0
    have HC : Hid (Below w1.heap.size w1 w1) := Below.refl _ _
    clear hb1
    go_wp2_with fail
    refine wp_region_noPanic ?_
    refine wp_region_held_drew (S := (fun _ => True)) (by kernel_rfl) trivial (fun hHeld => ?_)
    refine wpAnyH_take (i := 0) (oi := { dst := some 18, op := Op.move (Operand.tmp 0), type := 24, pos := "prop.go:275", after := #[], guard := none }) (v := ?v1) rfl (by kernel_rfl) (by kernel_rfl) (by kernel_rfl) (fun _ _ _ h => h) (Or.inl ⟨by rfl, ?hy1⟩) (by assumption) ?rest1
    case hy1 => (intro w hSw; (try dsimp only at hSw); go_simp; (try rw [if_pos (by omega)]); (try with_reducible rfl))
    simp only [Act.put, List.setIfInBounds_toArray, List.set_cons_zero, List.set_cons_succ]
    refine wpAnyH_take (i := 1) (oi := { dst := some 19, op := Op.move (Operand.tmp 6), type := 3, pos := "prop.go:275", after := #[], guard := none }) (v := ?v2) rfl (by kernel_rfl) (by kernel_rfl) (by kernel_rfl) (fun _ _ _ h => h) (Or.inl ⟨by rfl, ?hy2⟩) (by assumption) ?rest2
    case hy2 => (intro w hSw; (try dsimp only at hSw); go_simp; (try rw [if_pos (by omega)]); (try with_reducible rfl))
    simp only [Act.put, List.setIfInBounds_toArray, List.set_cons_zero, List.set_cons_succ]
    refine wpAnyH_take (i := 2) (oi := { dst := some 20, op := Op.slice 24 (Operand.tmp 18) (some (Operand.tmp 19)) none none, type := 24, pos := "prop.go:275", after := #[{ on := 0, ground := Ground.data }, { on := 1, ground := Ground.data }], guard := none }) (v := ?v3) rfl (by kernel_rfl) (by kernel_rfl) (by kernel_rfl) (fun _ _ _ h => h) (Or.inl ⟨by rfl, ?hy3⟩) (by assumption) ?rest3
    case hy3 => (intro w hSw; (try dsimp only at hSw); go_simp; (try rw [if_pos (by omega)]); (try with_reducible rfl))
    simp only [Act.put, List.setIfInBounds_toArray, List.set_cons_zero, List.set_cons_succ]
    refine wpAnyH_take (i := 3) (oi := { dst := some 21, op := Op.move (Operand.tmp 5), type := 3, pos := "prop.go:275", after := #[], guard := none }) (v := ?v4) rfl (by kernel_rfl) (by kernel_rfl) (by kernel_rfl) (fun _ _ _ h => h) (Or.inl ⟨by rfl, ?hy4⟩) (by assumption) ?rest4
    case hy4 => (intro w hSw; (try dsimp only at hSw); go_simp; (try rw [if_pos (by omega)]); (try with_reducible rfl))
    simp only [Act.put, List.setIfInBounds_toArray, List.set_cons_zero, List.set_cons_succ]
    refine wpAnyH_ready (rs := [4]) (by kernel_rfl) (by simp) ?_
    refine AllReadyH.cons (o := { dst := some 22, op := Op.call { callee := Callee.value (Operand.func 55), args := #[Operand.tmp 21], argTypes := #[3] }, type := 94, pos := "prop.go:275", after := #[{ on := 3, ground := Ground.data }], guard := none }) rfl (fun K hK => ?_) AllReadyH.nil
    go_simp
    refine (shape_use id f wd lo hi (unhide HSH) _).mono ?_
    rintro e w2 ⟨rfl, hb2⟩
    have hb2' := below_undrew1 hb2
    clear hb2
    have HD2 := hide ((unhide HD).below hb2')
    refine hK.out _ _ trivial (fun hHeld => ?_)
    clear hK K
    refine wpAnyH_ready (rs := [5]) (by kernel_rfl) (by simp) ?_
    refine AllReadyH.cons (o := { dst := some 23, op := Op.call { callee := Callee.value (Operand.func 65), args := #[Operand.tmp 20, Operand.tmp 22], argTypes := #[24, 94] }, type := 86, pos := "prop.go:275", after := #[{ on := 2, ground := Ground.data }, { on := 4, ground := Ground.data }, { on := 4, ground := Ground.chain }], guard := none }) rfl (fun K hK => ?_) AllReadyH.nil
    go_simp
    refine ((unhide HG) _ _ (unhide HD2)).mono ?_
    rintro e w3 ⟨rfl, hb3⟩
    have HB3 : Hid (Below w1.heap.size w1 w3) := hb2'.trans (hb3.mono hb2'.size)
    have r0 := ((unhide HB3).cell (cell_lt q0)).trans q0
    have g0 := ((unhide HB3).frozen (p := ⟨w.heap.size, 0, none⟩) (cell_lt q0)).trans f0
    have r1 := ((unhide HB3).cell (cell_lt q1)).trans q1
    have g1 := ((unhide HB3).frozen (p := ⟨w.heap.size, 1, none⟩) (cell_lt q1)).trans f1
    have r2 := ((unhide HB3).cell (cell_lt q2)).trans q2
    have g2 := ((unhide HB3).frozen (p := ⟨w.heap.size, 2, none⟩) (cell_lt q2)).trans f2
    have r3 := ((unhide HB3).cell (cell_lt q3)).trans q3
    have g3 := ((unhide HB3).frozen (p := ⟨w.heap.size, 3, none⟩) (cell_lt q3)).trans f3
    clear hb2' hb3
    refine hK.out _ _ trivial (fun hHeld => ?_)
    clear hK K
    refine wpAnyH_take (i := 6) (oi := { dst := some 17, op := Op.move (Operand.tmp 23), type := 86, pos := "prop.go:275", after := #[{ on := 5, ground := Ground.data }], guard := none }) (v := ?v5) rfl (by kernel_rfl) (by kernel_rfl) (by kernel_rfl) (fun _ _ _ h => h) (Or.inl ⟨by rfl, ?hy5⟩) (by assumption) ?rest5
    case hy5 => (intro w hSw; (try dsimp only at hSw); go_simp; (try rw [if_pos (by omega)]); (try with_reducible rfl))
    simp only [Act.put, List.setIfInBounds_toArray, List.set_cons_zero, List.set_cons_succ]
    refine wpAnyH_take (i := 7) (oi := { dst := some 24, op := Op.extract (Operand.tmp 17) 0, type := 49, pos := "prop.go:275", after := #[{ on := 6, ground := Ground.data }], guard := none }) (v := ?v6) rfl (by kernel_rfl) (by kernel_rfl) (by kernel_rfl) (fun _ _ _ h => h) (Or.inl ⟨by rfl, ?hy6⟩) (by assumption) ?rest6
    case hy6 => (intro w hSw; (try dsimp only at hSw); go_simp; (try rw [if_pos (by omega)]); (try with_reducible rfl))
    simp only [Act.put, List.setIfInBounds_toArray, List.set_cons_zero, List.set_cons_succ]
    refine wpAnyH_take (i := 8) (oi := { dst := some 25, op := Op.extract (Operand.tmp 17) 1, type := 3, pos := "prop.go:275", after := #[{ on := 6, ground := Ground.data }, { on := 10, ground := Ground.gcOnly Departure.lateStores }], guard := none }) (v := ?v7) rfl (by kernel_rfl) (by kernel_rfl) (by kernel_rfl) (fun _ _ _ h => h) (Or.inl ⟨by rfl, ?hy7⟩) (by assumption) ?rest7
    case hy7 => (intro w hSw; (try dsimp only at hSw); go_simp; (try rw [if_pos (by omega)]); (try with_reducible rfl))
    simp only [Act.put, List.setIfInBounds_toArray, List.set_cons_zero, List.set_cons_succ]
    refine wpAnyH_take (i := 9) (oi := { dst := some 26, op := Op.extract (Operand.tmp 17) 2, type := 33, pos := "prop.go:275", after := #[{ on := 6, ground := Ground.data }, { on := 11, ground := Ground.gcOnly Departure.lateStores }], guard := none }) (v := ?v8) rfl (by kernel_rfl) (by kernel_rfl) (by kernel_rfl) (fun _ _ _ h => h) (Or.inl ⟨by rfl, ?hy8⟩) (by assumption) ?rest8
    case hy8 => (intro w hSw; (try dsimp only at hSw); go_simp; (try rw [if_pos (by omega)]); (try with_reducible rfl))
    simp only [Act.put, List.setIfInBounds_toArray, List.set_cons_zero, List.set_cons_succ]
    refine wpAnyH_ready (rs := [10]) (by kernel_rfl) (by simp) ?_
    refine AllReadyH.cons (o := { dst := none, op := Op.store 49 (Operand.tmp 2) (Operand.tmp 24), type := 0, pos := "prop.go:275", after := #[{ on := 7, ground := Ground.data }, { on := 5, ground := Ground.chain }, { on := 0, ground := Ground.phase }, { on := 1, ground := Ground.phase }, { on := 2, ground := Ground.phase }, { on := 3, ground := Ground.phase }, { on := 4, ground := Ground.phase }, { on := 5, ground := Ground.phase }, { on := 6, ground := Ground.phase }, { on := 7, ground := Ground.phase }, { on := 8, ground := Ground.textOnly Departure.lateStores }, { on := 9, ground := Ground.textOnly Departure.lateStores }], guard := none }) rfl (fun K hK => ?_) AllReadyH.nil
    go_simp
    refine hK.out _ _ trivial (fun hHeld => ?_)
    clear hK K
    show wpAnyH _ _ _ _ _ _ _ _ (set4 w3 w.heap.size 0 N s t)
    have c0 := set4_c0 w3 w.heap.size 0 N s t r0
    have c1 := set4_c1 w3 w.heap.size 0 N s t r1
    have c2 := set4_c2 w3 w.heap.size 0 N s t r2
    have c3 := set4_c3 w3 w.heap.size 0 N s t r3
    have e0 := (set4_frozen w3 w.heap.size 0 N s t ⟨w.heap.size, 0, none⟩).trans g0
    have e1 := (set4_frozen w3 w.heap.size 0 N s t ⟨w.heap.size, 1, none⟩).trans g1
    have e2 := (set4_frozen w3 w.heap.size 0 N s t ⟨w.heap.size, 2, none⟩).trans g2
    have e3 := (set4_frozen w3 w.heap.size 0 N s t ⟨w.heap.size, 3, none⟩).trans g3
    have HB4 : Hid (Below w.heap.size w (set4 w3 w.heap.size 0 N s t)) := set4_below _ _ _ _ _ _ _ _ ((unhide HB1).trans ((unhide HB3).mono (unhide HB1).size)) (Nat.le_refl _)
    generalize set4 w3 w.heap.size 0 N s t = W4 at c0 c1 c2 c3 e0 e1 e2 e3 HB4  ⊢
    clear r0 r1 r2 r3 g0 g1 g2 g3 q0 q1 q2 q3 f0 f1 f2 f3 HB3
    refine wpAnyH_ready (rs := [11]) (by kernel_rfl) (by simp) ?_
    refine AllReadyH.cons (o := { dst := some 3, op := Op.assign (Operand.tmp 25), type := 3, pos := "prop.go:275", after := #[{ on := 8, ground := Ground.data }, { on := 10, ground := Ground.chain }, { on := 0, ground := Ground.phase }, { on := 1, ground := Ground.phase }, { on := 2, ground := Ground.phase }, { on := 3, ground := Ground.phase }, { on := 4, ground := Ground.phase }, { on := 5, ground := Ground.phase }, { on := 6, ground := Ground.phase }, { on := 7, ground := Ground.phase }, { on := 8, ground := Ground.phase }, { on := 9, ground := Ground.textOnly Departure.lateStores }, { on := 10, ground := Ground.phase }], guard := none }) rfl (fun K hK => ?_) AllReadyH.nil
    go_simp
    refine hK.out _ _ trivial (fun hHeld => ?_)
    clear hK K
    refine wpAnyH_ready (rs := [12]) (by kernel_rfl) (by simp) ?_
    refine AllReadyH.cons (o := { dst := some 4, op := Op.assign (Operand.tmp 26), type := 33, pos := "prop.go:275", after := #[{ on := 9, ground := Ground.data }, { on := 11, ground := Ground.chain }, { on := 0, ground := Ground.phase }, { on := 1, ground := Ground.phase }, { on := 2, ground := Ground.phase }, { on := 3, ground := Ground.phase }, { on := 4, ground := Ground.phase }, { on := 5, ground := Ground.phase }, { on := 6, ground := Ground.phase }, { on := 7, ground := Ground.phase }, { on := 8, ground := Ground.phase }, { on := 9, ground := Ground.phase }, { on := 10, ground := Ground.phase }, { on := 11, ground := Ground.phase }], guard := none }) rfl (fun K hK => ?_) AllReadyH.nil
    go_simp
    refine hK.out _ _ trivial (fun hHeld => ?_)
    clear hK K
    refine wpAnyH_done (by kernel_rfl) ?_ _
    refine NoPanic.normal ?_
    clear HD2 HG
    go_wp2
    (try simp only [Exit.inBlock, Exit.then])
    refine bodyPost_ret (res_p (B := w.heap.size) (v0 := .int .i64 (id)) (v1 := .int .i64 (N)) (v2 := .string s) (v3 := .string t) rfl rfl ?c0 ?c1 ?c2 ?c3) rfl ?_
    case c0 => simp (maxDischargeDepth := 12) [cell_set, c0]
    case c1 => simp (maxDischargeDepth := 12) [cell_set, c1]
    case c2 => simp (maxDischargeDepth := 12) [cell_set, c2]
    case c3 => simp (maxDischargeDepth := 12) [cell_set, c3]
    exact ⟨by go_num, by have := unhide HB4; go_grown⟩
  · go_enter Tryd.func50, Tryd.ntmps50
    go_wp2_with fail
    refine (vget_good _ l _ ((unhide HV).below (by go_grown)) id Q (unhide Hhv)).mono ?_
    rintro e w1 ⟨rfl, hb1⟩
    have HB1 : Hid (Below w.heap.size w w1) := ((Below.refl _ _).alloc (Nat.le_refl _) _).trans (hb1.mono (by simp))
    have HD : Hid (Byt w1 (.slice (some ⟨b, off + Q, none⟩) (n - Q) (cap - Q)) (l.drop Q)) := by
      show Byt _ _ _
      have := ((unhide HV).below (unhide HB1)).drop' Q (by omega)
      rw [if_neg hcQ] at this; exact this
    have q0 : w1.cell? ⟨w.heap.size, 0, none⟩ = some (.int .i64 0) := (hb1.cell (p := ⟨w.heap.size, 0, none⟩) (by simp)).trans (by simp)
    have f0 : w1.frozen? ⟨w.heap.size, 0, none⟩ = false := (hb1.frozen (p := ⟨w.heap.size, 0, none⟩) (by simp)).trans (by simp)
    have q1 : w1.cell? ⟨w.heap.size, 1, none⟩ = some (.int .i64 0) := (hb1.cell (p := ⟨w.heap.size, 1, none⟩) (by simp)).trans (by simp)
    have f1 : w1.frozen? ⟨w.heap.size, 1, none⟩ = false := (hb1.frozen (p := ⟨w.heap.size, 1, none⟩) (by simp)).trans (by simp)
    have q2 : w1.cell? ⟨w.heap.size, 2, none⟩ = some (.string ⟨#[]⟩) := (hb1.cell (p := ⟨w.heap.size, 2, none⟩) (by simp)).trans (by simp)
    have f2 : w1.frozen? ⟨w.heap.size, 2, none⟩ = false := (hb1.frozen (p := ⟨w.heap.size, 2, none⟩) (by simp)).trans (by simp)
    have q3 : w1.cell? ⟨w.heap.size, 3, none⟩ = some (.string ⟨#[]⟩) := (hb1.cell (p := ⟨w.heap.size, 3, none⟩) (by simp)).trans (by simp)
    have f3 : w1.frozen? ⟨w.heap.size, 3, none⟩ = false := (hb1.frozen (p := ⟨w.heap.size, 3, none⟩) (by simp)).trans (by simp)
    have hl1 : w.heap.size < w1.heap.size := cell_lt q0
    have HC : Hid (Below w1.heap.size w1 w1) := Below.refl _ _
    clear hb1
    go_wp2_with fail
    refine wp_region_noPanic ?_
    refine wp_region_held_drew (S := (fun _ => True)) (by kernel_rfl) trivial (fun hHeld => ?_)
    refine wpAnyH_take (i := 0) (oi := { dst := some 18, op := Op.move (Operand.tmp 0), type := 24, pos := "prop.go:275", after := #[], guard := none }) (v := ?v9) rfl (by kernel_rfl) (by kernel_rfl) (by kernel_rfl) (fun _ _ _ h => h) (Or.inl ⟨by rfl, ?hy9⟩) (by assumption) ?rest9
    case hy9 => (intro w hSw; (try dsimp only at hSw); go_simp; (try rw [if_pos (by omega)]); (try with_reducible rfl))
    simp only [Act.put, List.setIfInBounds_toArray, List.set_cons_zero, List.set_cons_succ]
    refine wpAnyH_take (i := 1) (oi := { dst := some 19, op := Op.move (Operand.tmp 6), type := 3, pos := "prop.go:275", after := #[], guard := none }) (v := ?v10) rfl (by kernel_rfl) (by kernel_rfl) (by kernel_rfl) (fun _ _ _ h => h) (Or.inl ⟨by rfl, ?hy10⟩) (by assumption) ?rest10
    case hy10 => (intro w hSw; (try dsimp only at hSw); go_simp; (try rw [if_pos (by omega)]); (try with_reducible rfl))
    simp only [Act.put, List.setIfInBounds_toArray, List.set_cons_zero, List.set_cons_succ]
    refine wpAnyH_take (i := 2) (oi := { dst := some 20, op := Op.slice 24 (Operand.tmp 18) (some (Operand.tmp 19)) none none, type := 24, pos := "prop.go:275", after := #[{ on := 0, ground := Ground.data }, { on := 1, ground := Ground.data }], guard := none }) (v := ?v11) rfl (by kernel_rfl) (by kernel_rfl) (by kernel_rfl) (fun _ _ _ h => h) (Or.inl ⟨by rfl, ?hy11⟩) (by assumption) ?rest11
    case hy11 => (intro w hSw; (try dsimp only at hSw); go_simp; (try rw [if_pos (by omega)]); (try with_reducible rfl))
    simp only [Act.put, List.setIfInBounds_toArray, List.set_cons_zero, List.set_cons_succ]
    refine wpAnyH_take (i := 3) (oi := { dst := some 21, op := Op.move (Operand.tmp 5), type := 3, pos := "prop.go:275", after := #[], guard := none }) (v := ?v12) rfl (by kernel_rfl) (by kernel_rfl) (by kernel_rfl) (fun _ _ _ h => h) (Or.inl ⟨by rfl, ?hy12⟩) (by assumption) ?rest12
    case hy12 => (intro w hSw; (try dsimp only at hSw); go_simp; (try rw [if_pos (by omega)]); (try with_reducible rfl))
    simp only [Act.put, List.setIfInBounds_toArray, List.set_cons_zero, List.set_cons_succ]
    refine wpAnyH_ready (rs := [4]) (by kernel_rfl) (by simp) ?_
    refine AllReadyH.cons (o := { dst := some 22, op := Op.call { callee := Callee.value (Operand.func 55), args := #[Operand.tmp 21], argTypes := #[3] }, type := 94, pos := "prop.go:275", after := #[{ on := 3, ground := Ground.data }], guard := none }) rfl (fun K hK => ?_) AllReadyH.nil
    go_simp
    refine (shape_use id f wd lo hi (unhide HSH) _).mono ?_
    rintro e w2 ⟨rfl, hb2⟩
    have hb2' := below_undrew1 hb2
    clear hb2
    have HD2 := hide ((unhide HD).below hb2')
    refine hK.out _ _ trivial (fun hHeld => ?_)
    clear hK K
    refine wpAnyH_ready (rs := [5]) (by kernel_rfl) (by simp) ?_
    refine AllReadyH.cons (o := { dst := some 23, op := Op.call { callee := Callee.value (Operand.func 65), args := #[Operand.tmp 20, Operand.tmp 22], argTypes := #[24, 94] }, type := 86, pos := "prop.go:275", after := #[{ on := 2, ground := Ground.data }, { on := 4, ground := Ground.data }, { on := 4, ground := Ground.chain }], guard := none }) rfl (fun K hK => ?_) AllReadyH.nil
    go_simp
    refine ((unhide HG) _ _ (unhide HD2)).mono ?_
    rintro e w3 ⟨rfl, hb3⟩
    have HB3 : Hid (Below w1.heap.size w1 w3) := hb2'.trans (hb3.mono hb2'.size)
    have r0 := ((unhide HB3).cell (cell_lt q0)).trans q0
    have g0 := ((unhide HB3).frozen (p := ⟨w.heap.size, 0, none⟩) (cell_lt q0)).trans f0
    have r1 := ((unhide HB3).cell (cell_lt q1)).trans q1
    have g1 := ((unhide HB3).frozen (p := ⟨w.heap.size, 1, none⟩) (cell_lt q1)).trans f1
    have r2 := ((unhide HB3).cell (cell_lt q2)).trans q2
    have g2 := ((unhide HB3).frozen (p := ⟨w.heap.size, 2, none⟩) (cell_lt q2)).trans f2
    have r3 := ((unhide HB3).cell (cell_lt q3)).trans q3
    have g3 := ((unhide HB3).frozen (p := ⟨w.heap.size, 3, none⟩) (cell_lt q3)).trans f3
    clear hb2' hb3
    refine hK.out _ _ trivial (fun hHeld => ?_)
    clear hK K
    refine wpAnyH_take (i := 6) (oi := { dst := some 17, op := Op.move (Operand.tmp 23), type := 86, pos := "prop.go:275", after := #[{ on := 5, ground := Ground.data }], guard := none }) (v := ?v13) rfl (by kernel_rfl) (by kernel_rfl) (by kernel_rfl) (fun _ _ _ h => h) (Or.inl ⟨by rfl, ?hy13⟩) (by assumption) ?rest13
    case hy13 => (intro w hSw; (try dsimp only at hSw); go_simp; (try rw [if_pos (by omega)]); (try with_reducible rfl))
    simp only [Act.put, List.setIfInBounds_toArray, List.set_cons_zero, List.set_cons_succ]
    refine wpAnyH_take (i := 7) (oi := { dst := some 24, op := Op.extract (Operand.tmp 17) 0, type := 49, pos := "prop.go:275", after := #[{ on := 6, ground := Ground.data }], guard := none }) (v := ?v14) rfl (by kernel_rfl) (by kernel_rfl) (by kernel_rfl) (fun _ _ _ h => h) (Or.inl ⟨by rfl, ?hy14⟩) (by assumption) ?rest14
    case hy14 => (intro w hSw; (try dsimp only at hSw); go_simp; (try rw [if_pos (by omega)]); (try with_reducible rfl))
    simp only [Act.put, List.setIfInBounds_toArray, List.set_cons_zero, List.set_cons_succ]
    refine wpAnyH_take (i := 8) (oi := { dst := some 25, op := Op.extract (Operand.tmp 17) 1, type := 3, pos := "prop.go:275", after := #[{ on := 6, ground := Ground.data }, { on := 10, ground := Ground.gcOnly Departure.lateStores }], guard := none }) (v := ?v15) rfl (by kernel_rfl) (by kernel_rfl) (by kernel_rfl) (fun _ _ _ h => h) (Or.inl ⟨by rfl, ?hy15⟩) (by assumption) ?rest15
    case hy15 => (intro w hSw; (try dsimp only at hSw); go_simp; (try rw [if_pos (by omega)]); (try with_reducible rfl))
    simp only [Act.put, List.setIfInBounds_toArray, List.set_cons_zero, List.set_cons_succ]
    refine wpAnyH_take (i := 9) (oi := { dst := some 26, op := Op.extract (Operand.tmp 17) 2, type := 33, pos := "prop.go:275", after := #[{ on := 6, ground := Ground.data }, { on := 11, ground := Ground.gcOnly Departure.lateStores }], guard := none }) (v := ?v16) rfl (by kernel_rfl) (by kernel_rfl) (by kernel_rfl) (fun _ _ _ h => h) (Or.inl ⟨by rfl, ?hy16⟩) (by assumption) ?rest16
    case hy16 => (intro w hSw; (try dsimp only at hSw); go_simp; (try rw [if_pos (by omega)]); (try with_reducible rfl))
    simp only [Act.put, List.setIfInBounds_toArray, List.set_cons_zero, List.set_cons_succ]
    refine wpAnyH_ready (rs := [10]) (by kernel_rfl) (by simp) ?_
    refine AllReadyH.cons (o := { dst := none, op := Op.store 49 (Operand.tmp 2) (Operand.tmp 24), type := 0, pos := "prop.go:275", after := #[{ on := 7, ground := Ground.data }, { on := 5, ground := Ground.chain }, { on := 0, ground := Ground.phase }, { on := 1, ground := Ground.phase }, { on := 2, ground := Ground.phase }, { on := 3, ground := Ground.phase }, { on := 4, ground := Ground.phase }, { on := 5, ground := Ground.phase }, { on := 6, ground := Ground.phase }, { on := 7, ground := Ground.phase }, { on := 8, ground := Ground.textOnly Departure.lateStores }, { on := 9, ground := Ground.textOnly Departure.lateStores }], guard := none }) rfl (fun K hK => ?_) AllReadyH.nil
    go_simp
    refine hK.out _ _ trivial (fun hHeld => ?_)
    clear hK K
    show wpAnyH _ _ _ _ _ _ _ _ (set4 w3 w.heap.size 0 N s t)
    have c0 := set4_c0 w3 w.heap.size 0 N s t r0
    have c1 := set4_c1 w3 w.heap.size 0 N s t r1
    have c2 := set4_c2 w3 w.heap.size 0 N s t r2
    have c3 := set4_c3 w3 w.heap.size 0 N s t r3
    have e0 := (set4_frozen w3 w.heap.size 0 N s t ⟨w.heap.size, 0, none⟩).trans g0
    have e1 := (set4_frozen w3 w.heap.size 0 N s t ⟨w.heap.size, 1, none⟩).trans g1
    have e2 := (set4_frozen w3 w.heap.size 0 N s t ⟨w.heap.size, 2, none⟩).trans g2
    have e3 := (set4_frozen w3 w.heap.size 0 N s t ⟨w.heap.size, 3, none⟩).trans g3
    have HB4 : Hid (Below w.heap.size w (set4 w3 w.heap.size 0 N s t)) := set4_below _ _ _ _ _ _ _ _ ((unhide HB1).trans ((unhide HB3).mono (unhide HB1).size)) (Nat.le_refl _)
    generalize set4 w3 w.heap.size 0 N s t = W4 at c0 c1 c2 c3 e0 e1 e2 e3 HB4  ⊢
    clear r0 r1 r2 r3 g0 g1 g2 g3 q0 q1 q2 q3 f0 f1 f2 f3 HB3
    refine wpAnyH_ready (rs := [11]) (by kernel_rfl) (by simp) ?_
    refine AllReadyH.cons (o := { dst := some 3, op := Op.assign (Operand.tmp 25), type := 3, pos := "prop.go:275", after := #[{ on := 8, ground := Ground.data }, { on := 10, ground := Ground.chain }, { on := 0, ground := Ground.phase }, { on := 1, ground := Ground.phase }, { on := 2, ground := Ground.phase }, { on := 3, ground := Ground.phase }, { on := 4, ground := Ground.phase }, { on := 5, ground := Ground.phase }, { on := 6, ground := Ground.phase }, { on := 7, ground := Ground.phase }, { on := 8, ground := Ground.phase }, { on := 9, ground := Ground.textOnly Departure.lateStores }, { on := 10, ground := Ground.phase }], guard := none }) rfl (fun K hK => ?_) AllReadyH.nil
    go_simp
    refine hK.out _ _ trivial (fun hHeld => ?_)
    clear hK K
    refine wpAnyH_ready (rs := [12]) (by kernel_rfl) (by simp) ?_
    refine AllReadyH.cons (o := { dst := some 4, op := Op.assign (Operand.tmp 26), type := 33, pos := "prop.go:275", after := #[{ on := 9, ground := Ground.data }, { on := 11, ground := Ground.chain }, { on := 0, ground := Ground.phase }, { on := 1, ground := Ground.phase }, { on := 2, ground := Ground.phase }, { on := 3, ground := Ground.phase }, { on := 4, ground := Ground.phase }, { on := 5, ground := Ground.phase }, { on := 6, ground := Ground.phase }, { on := 7, ground := Ground.phase }, { on := 8, ground := Ground.phase }, { on := 9, ground := Ground.phase }, { on := 10, ground := Ground.phase }, { on := 11, ground := Ground.phase }], guard := none }) rfl (fun K hK => ?_) AllReadyH.nil
    go_simp
    refine hK.out _ _ trivial (fun hHeld => ?_)
    clear hK K
    refine wpAnyH_done (by kernel_rfl) ?_ _
    refine NoPanic.normal ?_
    clear HD2 HG
    go_wp2
    (try simp only [Exit.inBlock, Exit.then])
    refine bodyPost_ret (res_p (B := w.heap.size) (v0 := .int .i64 (id)) (v1 := .int .i64 (N)) (v2 := .string s) (v3 := .string t) rfl rfl ?c0 ?c1 ?c2 ?c3) rfl ?_
    case c0 => simp (maxDischargeDepth := 12) [cell_set, c0]
    case c1 => simp (maxDischargeDepth := 12) [cell_set, c1]
    case c2 => simp (maxDischargeDepth := 12) [cell_set, c2]
    case c3 => simp (maxDischargeDepth := 12) [cell_set, c3]
    exact ⟨by go_num, by have := unhide HB4; go_grown⟩
set_option maxHeartbeats 1000000 in
theorem gone_bad2 (v : Value) (l : List Int) (w : World) (h : Byt w v l) (id : Int) (Q : Nat) (hv : V.vget l = (id, (Q : Int), 0)) (hQ : 1 ≤ Q ∧ Q ≤ l.length) (f wd lo hi : Int) (hsh : shv id = .agg #[.int .i64 f, .int .i64 wd, .int .i64 lo, .int .i64 hi]) (hg : ∀ vb W, Byt W vb (l.drop Q) → Calls Tryd.prog 65 #[vb, shp f wd lo hi] W (GvBad W)) : Calls Tryd.prog 50 #[v] w (GvBad w) := by
  obtain ⟨b, off, cap, rfl, hc1, hc2⟩ := h.form1 (by omega)
  unfold maxLen at hc2
  have HV := hide h
  have Hhv := hide hv
  have HSH := hide hsh
  have HG := hide hg
  clear h hv hsh hg
  generalize hn : l.length = n at hc1 hQ HV 
  have HN := hide hn
  clear hn
  by_cases hcQ : cap = Q
  · have hcQ2 := hcQ.symm
    clear hcQ
    subst hcQ2
    go_enter Tryd.func50, Tryd.ntmps50
    go_wp2_with fail
    refine (vget_good _ l _ ((unhide HV).below (by go_grown)) id Q (unhide Hhv)).mono ?_
    rintro e w1 ⟨rfl, hb1⟩
    have HB1 : Hid (Below w.heap.size w w1) := ((Below.refl _ _).alloc (Nat.le_refl _) _).trans (hb1.mono (by simp))
    have HD : Hid (Byt w1 (.slice (some ⟨b, off, none⟩) 0 0) (l.drop Q)) := by
      show Byt _ _ _
      have := ((unhide HV).below (unhide HB1)).drop' Q (by omega)
      rw [if_pos rfl, Nat.sub_self, show n - Q = 0 from by omega] at this; exact this
    have q0 : w1.cell? ⟨w.heap.size, 0, none⟩ = some (.int .i64 0) := (hb1.cell (p := ⟨w.heap.size, 0, none⟩) (by simp)).trans (by simp)
    have f0 : w1.frozen? ⟨w.heap.size, 0, none⟩ = false := (hb1.frozen (p := ⟨w.heap.size, 0, none⟩) (by simp)).trans (by simp)
    have q1 : w1.cell? ⟨w.heap.size, 1, none⟩ = some (.int .i64 0) := (hb1.cell (p := ⟨w.heap.size, 1, none⟩) (by simp)).trans (by simp)
    have f1 : w1.frozen? ⟨w.heap.size, 1, none⟩ = false := (hb1.frozen (p := ⟨w.heap.size, 1, none⟩) (by simp)).trans (by simp)
    have q2 : w1.cell? ⟨w.heap.size, 2, none⟩ = some (.string ⟨#[]⟩) := (hb1.cell (p := ⟨w.heap.size, 2, none⟩) (by simp)).trans (by simp)
    have f2 : w1.frozen? ⟨w.heap.size, 2, none⟩ = false := (hb1.frozen (p := ⟨w.heap.size, 2, none⟩) (by simp)).trans (by simp)
    have q3 : w1.cell? ⟨w.heap.size, 3, none⟩ = some (.string ⟨#[]⟩) := (hb1.cell (p := ⟨w.heap.size, 3, none⟩) (by simp)).trans (by simp)
    have f3 : w1.frozen? ⟨w.heap.size, 3, none⟩ = false := (hb1.frozen (p := ⟨w.heap.size, 3, none⟩) (by simp)).trans (by simp)
    have hl1 : w.heap.size < w1.heap.size := cell_lt q0
    have HC : Hid (Below w1.heap.size w1 w1) := Below.refl _ _
    clear hb1
    go_wp2_with fail
    refine wp_region_noPanic ?_
    refine wp_region_held_drew (S := (fun _ => True)) (by kernel_rfl) trivial (fun hHeld => ?_)
    refine wpAnyH_take (i := 0) (oi := { dst := some 18, op := Op.move (Operand.tmp 0), type := 24, pos := "prop.go:275", after := #[], guard := none }) (v := ?v17) rfl (by kernel_rfl) (by kernel_rfl) (by kernel_rfl) (fun _ _ _ h => h) (Or.inl ⟨by rfl, ?hy17⟩) (by assumption) ?rest17
    case hy17 => (intro w hSw; (try dsimp only at hSw); go_simp; (try rw [if_pos (by omega)]); (try with_reducible rfl))
    simp only [Act.put, List.setIfInBounds_toArray, List.set_cons_zero, List.set_cons_succ]
    refine wpAnyH_take (i := 1) (oi := { dst := some 19, op := Op.move (Operand.tmp 6), type := 3, pos := "prop.go:275", after := #[], guard := none }) (v := ?v18) rfl (by kernel_rfl) (by kernel_rfl) (by kernel_rfl) (fun _ _ _ h => h) (Or.inl ⟨by rfl, ?hy18⟩) (by assumption) ?rest18
    case hy18 => (intro w hSw; (try dsimp only at hSw); go_simp; (try rw [if_pos (by omega)]); (try with_reducible rfl))
    simp only [Act.put, List.setIfInBounds_toArray, List.set_cons_zero, List.set_cons_succ]
    refine wpAnyH_take (i := 2) (oi := { dst := some 20, op := Op.slice 24 (Operand.tmp 18) (some (Operand.tmp 19)) none none, type := 24, pos := "prop.go:275", after := #[{ on := 0, ground := Ground.data }, { on := 1, ground := Ground.data }], guard := none }) (v := ?v19) rfl (by kernel_rfl) (by kernel_rfl) (by kernel_rfl) (fun _ _ _ h => h) (Or.inl ⟨by rfl, ?hy19⟩) (by assumption) ?rest19
    case hy19 => (intro w hSw; (try dsimp only at hSw); go_simp; (try rw [if_pos (by omega)]); (try with_reducible rfl))
    simp only [Act.put, List.setIfInBounds_toArray, List.set_cons_zero, List.set_cons_succ]
    refine wpAnyH_take (i := 3) (oi := { dst := some 21, op := Op.move (Operand.tmp 5), type := 3, pos := "prop.go:275", after := #[], guard := none }) (v := ?v20) rfl (by kernel_rfl) (by kernel_rfl) (by kernel_rfl) (fun _ _ _ h => h) (Or.inl ⟨by rfl, ?hy20⟩) (by assumption) ?rest20
    case hy20 => (intro w hSw; (try dsimp only at hSw); go_simp; (try rw [if_pos (by omega)]); (try with_reducible rfl))
    simp only [Act.put, List.setIfInBounds_toArray, List.set_cons_zero, List.set_cons_succ]
    refine wpAnyH_ready (rs := [4]) (by kernel_rfl) (by simp) ?_
    refine AllReadyH.cons (o := { dst := some 22, op := Op.call { callee := Callee.value (Operand.func 55), args := #[Operand.tmp 21], argTypes := #[3] }, type := 94, pos := "prop.go:275", after := #[{ on := 3, ground := Ground.data }], guard := none }) rfl (fun K hK => ?_) AllReadyH.nil
    go_simp
    refine (shape_use id f wd lo hi (unhide HSH) _).mono ?_
    rintro e w2 ⟨rfl, hb2⟩
    have hb2' := below_undrew1 hb2
    clear hb2
    have HD2 := hide ((unhide HD).below hb2')
    refine hK.out _ _ trivial (fun hHeld => ?_)
    clear hK K
    refine wpAnyH_ready (rs := [5]) (by kernel_rfl) (by simp) ?_
    refine AllReadyH.cons (o := { dst := some 23, op := Op.call { callee := Callee.value (Operand.func 65), args := #[Operand.tmp 20, Operand.tmp 22], argTypes := #[24, 94] }, type := 86, pos := "prop.go:275", after := #[{ on := 2, ground := Ground.data }, { on := 4, ground := Ground.data }, { on := 4, ground := Ground.chain }], guard := none }) rfl (fun K hK => ?_) AllReadyH.nil
    go_simp
    refine ((unhide HG) _ _ (unhide HD2)).mono ?_
    rintro e w3 ⟨i3, n3, s3, t3, k3, ty3, x3, m3, rfl, hi3, hb3⟩
    have HB3 : Hid (Below w1.heap.size w1 w3) := hb2'.trans (hb3.mono hb2'.size)
    have r0 := ((unhide HB3).cell (cell_lt q0)).trans q0
    have g0 := ((unhide HB3).frozen (p := ⟨w.heap.size, 0, none⟩) (cell_lt q0)).trans f0
    have r1 := ((unhide HB3).cell (cell_lt q1)).trans q1
    have g1 := ((unhide HB3).frozen (p := ⟨w.heap.size, 1, none⟩) (cell_lt q1)).trans f1
    have r2 := ((unhide HB3).cell (cell_lt q2)).trans q2
    have g2 := ((unhide HB3).frozen (p := ⟨w.heap.size, 2, none⟩) (cell_lt q2)).trans f2
    have r3 := ((unhide HB3).cell (cell_lt q3)).trans q3
    have g3 := ((unhide HB3).frozen (p := ⟨w.heap.size, 3, none⟩) (cell_lt q3)).trans f3
    clear hb2' hb3
    refine hK.out _ _ trivial (fun hHeld => ?_)
    clear hK K
    refine wpAnyH_take (i := 6) (oi := { dst := some 17, op := Op.move (Operand.tmp 23), type := 86, pos := "prop.go:275", after := #[{ on := 5, ground := Ground.data }], guard := none }) (v := ?v21) rfl (by kernel_rfl) (by kernel_rfl) (by kernel_rfl) (fun _ _ _ h => h) (Or.inl ⟨by rfl, ?hy21⟩) (by assumption) ?rest21
    case hy21 => (intro w hSw; (try dsimp only at hSw); go_simp; (try rw [if_pos (by omega)]); (try with_reducible rfl))
    simp only [Act.put, List.setIfInBounds_toArray, List.set_cons_zero, List.set_cons_succ]
    refine wpAnyH_take (i := 7) (oi := { dst := some 24, op := Op.extract (Operand.tmp 17) 0, type := 49, pos := "prop.go:275", after := #[{ on := 6, ground := Ground.data }], guard := none }) (v := ?v22) rfl (by kernel_rfl) (by kernel_rfl) (by kernel_rfl) (fun _ _ _ h => h) (Or.inl ⟨by rfl, ?hy22⟩) (by assumption) ?rest22
    case hy22 => (intro w hSw; (try dsimp only at hSw); go_simp; (try rw [if_pos (by omega)]); (try with_reducible rfl))
    simp only [Act.put, List.setIfInBounds_toArray, List.set_cons_zero, List.set_cons_succ]
    refine wpAnyH_take (i := 8) (oi := { dst := some 25, op := Op.extract (Operand.tmp 17) 1, type := 3, pos := "prop.go:275", after := #[{ on := 6, ground := Ground.data }, { on := 10, ground := Ground.gcOnly Departure.lateStores }], guard := none }) (v := ?v23) rfl (by kernel_rfl) (by kernel_rfl) (by kernel_rfl) (fun _ _ _ h => h) (Or.inl ⟨by rfl, ?hy23⟩) (by assumption) ?rest23
    case hy23 => (intro w hSw; (try dsimp only at hSw); go_simp; (try rw [if_pos (by omega)]); (try with_reducible rfl))
    simp only [Act.put, List.setIfInBounds_toArray, List.set_cons_zero, List.set_cons_succ]
    refine wpAnyH_take (i := 9) (oi := { dst := some 26, op := Op.extract (Operand.tmp 17) 2, type := 33, pos := "prop.go:275", after := #[{ on := 6, ground := Ground.data }, { on := 11, ground := Ground.gcOnly Departure.lateStores }], guard := none }) (v := ?v24) rfl (by kernel_rfl) (by kernel_rfl) (by kernel_rfl) (fun _ _ _ h => h) (Or.inl ⟨by rfl, ?hy24⟩) (by assumption) ?rest24
    case hy24 => (intro w hSw; (try dsimp only at hSw); go_simp; (try rw [if_pos (by omega)]); (try with_reducible rfl))
    simp only [Act.put, List.setIfInBounds_toArray, List.set_cons_zero, List.set_cons_succ]
    refine wpAnyH_ready (rs := [10]) (by kernel_rfl) (by simp) ?_
    refine AllReadyH.cons (o := { dst := none, op := Op.store 49 (Operand.tmp 2) (Operand.tmp 24), type := 0, pos := "prop.go:275", after := #[{ on := 7, ground := Ground.data }, { on := 5, ground := Ground.chain }, { on := 0, ground := Ground.phase }, { on := 1, ground := Ground.phase }, { on := 2, ground := Ground.phase }, { on := 3, ground := Ground.phase }, { on := 4, ground := Ground.phase }, { on := 5, ground := Ground.phase }, { on := 6, ground := Ground.phase }, { on := 7, ground := Ground.phase }, { on := 8, ground := Ground.textOnly Departure.lateStores }, { on := 9, ground := Ground.textOnly Departure.lateStores }], guard := none }) rfl (fun K hK => ?_) AllReadyH.nil
    go_simp
    refine hK.out _ _ trivial (fun hHeld => ?_)
    clear hK K
    show wpAnyH _ _ _ _ _ _ _ _ (set4 w3 w.heap.size i3 n3 s3 t3)
    have c0 := set4_c0 w3 w.heap.size i3 n3 s3 t3 r0
    have c1 := set4_c1 w3 w.heap.size i3 n3 s3 t3 r1
    have c2 := set4_c2 w3 w.heap.size i3 n3 s3 t3 r2
    have c3 := set4_c3 w3 w.heap.size i3 n3 s3 t3 r3
    have e0 := (set4_frozen w3 w.heap.size i3 n3 s3 t3 ⟨w.heap.size, 0, none⟩).trans g0
    have e1 := (set4_frozen w3 w.heap.size i3 n3 s3 t3 ⟨w.heap.size, 1, none⟩).trans g1
    have e2 := (set4_frozen w3 w.heap.size i3 n3 s3 t3 ⟨w.heap.size, 2, none⟩).trans g2
    have e3 := (set4_frozen w3 w.heap.size i3 n3 s3 t3 ⟨w.heap.size, 3, none⟩).trans g3
    have HB4 : Hid (Below w.heap.size w (set4 w3 w.heap.size i3 n3 s3 t3)) := set4_below _ _ _ _ _ _ _ _ ((unhide HB1).trans ((unhide HB3).mono (unhide HB1).size)) (Nat.le_refl _)
    have HOF4 := hide (set4_off ((unhide hi3).off r1) i3 n3 s3 t3)
    clear hi3
    generalize set4 w3 w.heap.size i3 n3 s3 t3 = W4 at c0 c1 c2 c3 e0 e1 e2 e3 HB4 HOF4 ⊢
    clear r0 r1 r2 r3 g0 g1 g2 g3 q0 q1 q2 q3 f0 f1 f2 f3 HB3
    refine wpAnyH_ready (rs := [11]) (by kernel_rfl) (by simp) ?_
    refine AllReadyH.cons (o := { dst := some 3, op := Op.assign (Operand.tmp 25), type := 3, pos := "prop.go:275", after := #[{ on := 8, ground := Ground.data }, { on := 10, ground := Ground.chain }, { on := 0, ground := Ground.phase }, { on := 1, ground := Ground.phase }, { on := 2, ground := Ground.phase }, { on := 3, ground := Ground.phase }, { on := 4, ground := Ground.phase }, { on := 5, ground := Ground.phase }, { on := 6, ground := Ground.phase }, { on := 7, ground := Ground.phase }, { on := 8, ground := Ground.phase }, { on := 9, ground := Ground.textOnly Departure.lateStores }, { on := 10, ground := Ground.phase }], guard := none }) rfl (fun K hK => ?_) AllReadyH.nil
    go_simp
    refine hK.out _ _ trivial (fun hHeld => ?_)
    clear hK K
    refine wpAnyH_ready (rs := [12]) (by kernel_rfl) (by simp) ?_
    refine AllReadyH.cons (o := { dst := some 4, op := Op.assign (Operand.tmp 26), type := 33, pos := "prop.go:275", after := #[{ on := 9, ground := Ground.data }, { on := 11, ground := Ground.chain }, { on := 0, ground := Ground.phase }, { on := 1, ground := Ground.phase }, { on := 2, ground := Ground.phase }, { on := 3, ground := Ground.phase }, { on := 4, ground := Ground.phase }, { on := 5, ground := Ground.phase }, { on := 6, ground := Ground.phase }, { on := 7, ground := Ground.phase }, { on := 8, ground := Ground.phase }, { on := 9, ground := Ground.phase }, { on := 10, ground := Ground.phase }, { on := 11, ground := Ground.phase }], guard := none }) rfl (fun K hK => ?_) AllReadyH.nil
    go_simp
    refine hK.out _ _ trivial (fun hHeld => ?_)
    clear hK K
    refine wpAnyH_done (by kernel_rfl) ?_ _
    refine NoPanic.normal ?_
    clear HD2 HG
    go_wp2
    (try simp only [Exit.inBlock, Exit.then])
    refine bodyPost_ret (res_p (B := w.heap.size) (v0 := .int .i64 (0)) (v1 := .int .i64 (0)) (v2 := .string ⟨#[]⟩) (v3 := .string ⟨#[]⟩) rfl rfl ?c0 ?c1 ?c2 ?c3) rfl ?_
    case c0 => simp (maxDischargeDepth := 12) [cell_set, c0]
    case c1 => simp (maxDischargeDepth := 12) [cell_set, c1]
    case c2 => simp (maxDischargeDepth := 12) [cell_set, c2]
    case c3 => simp (maxDischargeDepth := 12) [cell_set, c3]
    refine ⟨_, _, _, _, _, _, _, m3, rfl, InnOff.inn (B := w.heap.size) ?_, ?_⟩
    · refine InnOff.set ?_ rfl; refine InnOff.set ?_ rfl; refine InnOff.set ?_ rfl; refine InnOff.set ?_ rfl; exact unhide HOF4
    · have := unhide HB4; go_grown
  · go_enter Tryd.func50, Tryd.ntmps50
    go_wp2_with fail
    refine (vget_good _ l _ ((unhide HV).below (by go_grown)) id Q (unhide Hhv)).mono ?_
    rintro e w1 ⟨rfl, hb1⟩
    have HB1 : Hid (Below w.heap.size w w1) := ((Below.refl _ _).alloc (Nat.le_refl _) _).trans (hb1.mono (by simp))
    have HD : Hid (Byt w1 (.slice (some ⟨b, off + Q, none⟩) (n - Q) (cap - Q)) (l.drop Q)) := by
      show Byt _ _ _
      have := ((unhide HV).below (unhide HB1)).drop' Q (by omega)
      rw [if_neg hcQ] at this; exact this
    have q0 : w1.cell? ⟨w.heap.size, 0, none⟩ = some (.int .i64 0) := (hb1.cell (p := ⟨w.heap.size, 0, none⟩) (by simp)).trans (by simp)
    have f0 : w1.frozen? ⟨w.heap.size, 0, none⟩ = false := (hb1.frozen (p := ⟨w.heap.size, 0, none⟩) (by simp)).trans (by simp)
    have q1 : w1.cell? ⟨w.heap.size, 1, none⟩ = some (.int .i64 0) := (hb1.cell (p := ⟨w.heap.size, 1, none⟩) (by simp)).trans (by simp)
    have f1 : w1.frozen? ⟨w.heap.size, 1, none⟩ = false := (hb1.frozen (p := ⟨w.heap.size, 1, none⟩) (by simp)).trans (by simp)
    have q2 : w1.cell? ⟨w.heap.size, 2, none⟩ = some (.string ⟨#[]⟩) := (hb1.cell (p := ⟨w.heap.size, 2, none⟩) (by simp)).trans (by simp)
    have f2 : w1.frozen? ⟨w.heap.size, 2, none⟩ = false := (hb1.frozen (p := ⟨w.heap.size, 2, none⟩) (by simp)).trans (by simp)
    have q3 : w1.cell? ⟨w.heap.size, 3, none⟩ = some (.string ⟨#[]⟩) := (hb1.cell (p := ⟨w.heap.size, 3, none⟩) (by simp)).trans (by simp)
    have f3 : w1.frozen? ⟨w.heap.size, 3, none⟩ = false := (hb1.frozen (p := ⟨w.heap.size, 3, none⟩) (by simp)).trans (by simp)
    have hl1 : w.heap.size < w1.heap.size := cell_lt q0
    have HC : Hid (Below w1.heap.size w1 w1) := Below.refl _ _
    clear hb1
    go_wp2_with fail
    refine wp_region_noPanic ?_
    refine wp_region_held_drew (S := (fun _ => True)) (by kernel_rfl) trivial (fun hHeld => ?_)
    refine wpAnyH_take (i := 0) (oi := { dst := some 18, op := Op.move (Operand.tmp 0), type := 24, pos := "prop.go:275", after := #[], guard := none }) (v := ?v25) rfl (by kernel_rfl) (by kernel_rfl) (by kernel_rfl) (fun _ _ _ h => h) (Or.inl ⟨by rfl, ?hy25⟩) (by assumption) ?rest25
    case hy25 => (intro w hSw; (try dsimp only at hSw); go_simp; (try rw [if_pos (by omega)]); (try with_reducible rfl))
    simp only [Act.put, List.setIfInBounds_toArray, List.set_cons_zero, List.set_cons_succ]
    refine wpAnyH_take (i := 1) (oi := { dst := some 19, op := Op.move (Operand.tmp 6), type := 3, pos := "prop.go:275", after := #[], guard := none }) (v := ?v26) rfl (by kernel_rfl) (by kernel_rfl) (by kernel_rfl) (fun _ _ _ h => h) (Or.inl ⟨by rfl, ?hy26⟩) (by assumption) ?rest26
    case hy26 => (intro w hSw; (try dsimp only at hSw); go_simp; (try rw [if_pos (by omega)]); (try with_reducible rfl))
    simp only [Act.put, List.setIfInBounds_toArray, List.set_cons_zero, List.set_cons_succ]
    refine wpAnyH_take (i := 2) (oi := { dst := some 20, op := Op.slice 24 (Operand.tmp 18) (some (Operand.tmp 19)) none none, type := 24, pos := "prop.go:275", after := #[{ on := 0, ground := Ground.data }, { on := 1, ground := Ground.data }], guard := none }) (v := ?v27) rfl (by kernel_rfl) (by kernel_rfl) (by kernel_rfl) (fun _ _ _ h => h) (Or.inl ⟨by rfl, ?hy27⟩) (by assumption) ?rest27
    case hy27 => (intro w hSw; (try dsimp only at hSw); go_simp; (try rw [if_pos (by omega)]); (try with_reducible rfl))
    simp only [Act.put, List.setIfInBounds_toArray, List.set_cons_zero, List.set_cons_succ]
    refine wpAnyH_take (i := 3) (oi := { dst := some 21, op := Op.move (Operand.tmp 5), type := 3, pos := "prop.go:275", after := #[], guard := none }) (v := ?v28) rfl (by kernel_rfl) (by kernel_rfl) (by kernel_rfl) (fun _ _ _ h => h) (Or.inl ⟨by rfl, ?hy28⟩) (by assumption) ?rest28
    case hy28 => (intro w hSw; (try dsimp only at hSw); go_simp; (try rw [if_pos (by omega)]); (try with_reducible rfl))
    simp only [Act.put, List.setIfInBounds_toArray, List.set_cons_zero, List.set_cons_succ]
    refine wpAnyH_ready (rs := [4]) (by kernel_rfl) (by simp) ?_
    refine AllReadyH.cons (o := { dst := some 22, op := Op.call { callee := Callee.value (Operand.func 55), args := #[Operand.tmp 21], argTypes := #[3] }, type := 94, pos := "prop.go:275", after := #[{ on := 3, ground := Ground.data }], guard := none }) rfl (fun K hK => ?_) AllReadyH.nil
    go_simp
    refine (shape_use id f wd lo hi (unhide HSH) _).mono ?_
    rintro e w2 ⟨rfl, hb2⟩
    have hb2' := below_undrew1 hb2
    clear hb2
    have HD2 := hide ((unhide HD).below hb2')
    refine hK.out _ _ trivial (fun hHeld => ?_)
    clear hK K
    refine wpAnyH_ready (rs := [5]) (by kernel_rfl) (by simp) ?_
    refine AllReadyH.cons (o := { dst := some 23, op := Op.call { callee := Callee.value (Operand.func 65), args := #[Operand.tmp 20, Operand.tmp 22], argTypes := #[24, 94] }, type := 86, pos := "prop.go:275", after := #[{ on := 2, ground := Ground.data }, { on := 4, ground := Ground.data }, { on := 4, ground := Ground.chain }], guard := none }) rfl (fun K hK => ?_) AllReadyH.nil
    go_simp
    refine ((unhide HG) _ _ (unhide HD2)).mono ?_
    rintro e w3 ⟨i3, n3, s3, t3, k3, ty3, x3, m3, rfl, hi3, hb3⟩
    have HB3 : Hid (Below w1.heap.size w1 w3) := hb2'.trans (hb3.mono hb2'.size)
    have r0 := ((unhide HB3).cell (cell_lt q0)).trans q0
    have g0 := ((unhide HB3).frozen (p := ⟨w.heap.size, 0, none⟩) (cell_lt q0)).trans f0
    have r1 := ((unhide HB3).cell (cell_lt q1)).trans q1
    have g1 := ((unhide HB3).frozen (p := ⟨w.heap.size, 1, none⟩) (cell_lt q1)).trans f1
    have r2 := ((unhide HB3).cell (cell_lt q2)).trans q2
    have g2 := ((unhide HB3).frozen (p := ⟨w.heap.size, 2, none⟩) (cell_lt q2)).trans f2
    have r3 := ((unhide HB3).cell (cell_lt q3)).trans q3
    have g3 := ((unhide HB3).frozen (p := ⟨w.heap.size, 3, none⟩) (cell_lt q3)).trans f3
    clear hb2' hb3
    refine hK.out _ _ trivial (fun hHeld => ?_)
    clear hK K
    refine wpAnyH_take (i := 6) (oi := { dst := some 17, op := Op.move (Operand.tmp 23), type := 86, pos := "prop.go:275", after := #[{ on := 5, ground := Ground.data }], guard := none }) (v := ?v29) rfl (by kernel_rfl) (by kernel_rfl) (by kernel_rfl) (fun _ _ _ h => h) (Or.inl ⟨by rfl, ?hy29⟩) (by assumption) ?rest29
    case hy29 => (intro w hSw; (try dsimp only at hSw); go_simp; (try rw [if_pos (by omega)]); (try with_reducible rfl))
    simp only [Act.put, List.setIfInBounds_toArray, List.set_cons_zero, List.set_cons_succ]
    refine wpAnyH_take (i := 7) (oi := { dst := some 24, op := Op.extract (Operand.tmp 17) 0, type := 49, pos := "prop.go:275", after := #[{ on := 6, ground := Ground.data }], guard := none }) (v := ?v30) rfl (by kernel_rfl) (by kernel_rfl) (by kernel_rfl) (fun _ _ _ h => h) (Or.inl ⟨by rfl, ?hy30⟩) (by assumption) ?rest30
    case hy30 => (intro w hSw; (try dsimp only at hSw); go_simp; (try rw [if_pos (by omega)]); (try with_reducible rfl))
    simp only [Act.put, List.setIfInBounds_toArray, List.set_cons_zero, List.set_cons_succ]
    refine wpAnyH_take (i := 8) (oi := { dst := some 25, op := Op.extract (Operand.tmp 17) 1, type := 3, pos := "prop.go:275", after := #[{ on := 6, ground := Ground.data }, { on := 10, ground := Ground.gcOnly Departure.lateStores }], guard := none }) (v := ?v31) rfl (by kernel_rfl) (by kernel_rfl) (by kernel_rfl) (fun _ _ _ h => h) (Or.inl ⟨by rfl, ?hy31⟩) (by assumption) ?rest31
    case hy31 => (intro w hSw; (try dsimp only at hSw); go_simp; (try rw [if_pos (by omega)]); (try with_reducible rfl))
    simp only [Act.put, List.setIfInBounds_toArray, List.set_cons_zero, List.set_cons_succ]
    refine wpAnyH_take (i := 9) (oi := { dst := some 26, op := Op.extract (Operand.tmp 17) 2, type := 33, pos := "prop.go:275", after := #[{ on := 6, ground := Ground.data }, { on := 11, ground := Ground.gcOnly Departure.lateStores }], guard := none }) (v := ?v32) rfl (by kernel_rfl) (by kernel_rfl) (by kernel_rfl) (fun _ _ _ h => h) (Or.inl ⟨by rfl, ?hy32⟩) (by assumption) ?rest32
    case hy32 => (intro w hSw; (try dsimp only at hSw); go_simp; (try rw [if_pos (by omega)]); (try with_reducible rfl))
    simp only [Act.put, List.setIfInBounds_toArray, List.set_cons_zero, List.set_cons_succ]
    refine wpAnyH_ready (rs := [10]) (by kernel_rfl) (by simp) ?_
    refine AllReadyH.cons (o := { dst := none, op := Op.store 49 (Operand.tmp 2) (Operand.tmp 24), type := 0, pos := "prop.go:275", after := #[{ on := 7, ground := Ground.data }, { on := 5, ground := Ground.chain }, { on := 0, ground := Ground.phase }, { on := 1, ground := Ground.phase }, { on := 2, ground := Ground.phase }, { on := 3, ground := Ground.phase }, { on := 4, ground := Ground.phase }, { on := 5, ground := Ground.phase }, { on := 6, ground := Ground.phase }, { on := 7, ground := Ground.phase }, { on := 8, ground := Ground.textOnly Departure.lateStores }, { on := 9, ground := Ground.textOnly Departure.lateStores }], guard := none }) rfl (fun K hK => ?_) AllReadyH.nil
    go_simp
    refine hK.out _ _ trivial (fun hHeld => ?_)
    clear hK K
    show wpAnyH _ _ _ _ _ _ _ _ (set4 w3 w.heap.size i3 n3 s3 t3)
    have c0 := set4_c0 w3 w.heap.size i3 n3 s3 t3 r0
    have c1 := set4_c1 w3 w.heap.size i3 n3 s3 t3 r1
    have c2 := set4_c2 w3 w.heap.size i3 n3 s3 t3 r2
    have c3 := set4_c3 w3 w.heap.size i3 n3 s3 t3 r3
    have e0 := (set4_frozen w3 w.heap.size i3 n3 s3 t3 ⟨w.heap.size, 0, none⟩).trans g0
    have e1 := (set4_frozen w3 w.heap.size i3 n3 s3 t3 ⟨w.heap.size, 1, none⟩).trans g1
    have e2 := (set4_frozen w3 w.heap.size i3 n3 s3 t3 ⟨w.heap.size, 2, none⟩).trans g2
    have e3 := (set4_frozen w3 w.heap.size i3 n3 s3 t3 ⟨w.heap.size, 3, none⟩).trans g3
    have HB4 : Hid (Below w.heap.size w (set4 w3 w.heap.size i3 n3 s3 t3)) := set4_below _ _ _ _ _ _ _ _ ((unhide HB1).trans ((unhide HB3).mono (unhide HB1).size)) (Nat.le_refl _)
    have HOF4 := hide (set4_off ((unhide hi3).off r1) i3 n3 s3 t3)
    clear hi3
    generalize set4 w3 w.heap.size i3 n3 s3 t3 = W4 at c0 c1 c2 c3 e0 e1 e2 e3 HB4 HOF4 ⊢
    clear r0 r1 r2 r3 g0 g1 g2 g3 q0 q1 q2 q3 f0 f1 f2 f3 HB3
    refine wpAnyH_ready (rs := [11]) (by kernel_rfl) (by simp) ?_
    refine AllReadyH.cons (o := { dst := some 3, op := Op.assign (Operand.tmp 25), type := 3, pos := "prop.go:275", after := #[{ on := 8, ground := Ground.data }, { on := 10, ground := Ground.chain }, { on := 0, ground := Ground.phase }, { on := 1, ground := Ground.phase }, { on := 2, ground := Ground.phase }, { on := 3, ground := Ground.phase }, { on := 4, ground := Ground.phase }, { on := 5, ground := Ground.phase }, { on := 6, ground := Ground.phase }, { on := 7, ground := Ground.phase }, { on := 8, ground := Ground.phase }, { on := 9, ground := Ground.textOnly Departure.lateStores }, { on := 10, ground := Ground.phase }], guard := none }) rfl (fun K hK => ?_) AllReadyH.nil
    go_simp
    refine hK.out _ _ trivial (fun hHeld => ?_)
    clear hK K
    refine wpAnyH_ready (rs := [12]) (by kernel_rfl) (by simp) ?_
    refine AllReadyH.cons (o := { dst := some 4, op := Op.assign (Operand.tmp 26), type := 33, pos := "prop.go:275", after := #[{ on := 9, ground := Ground.data }, { on := 11, ground := Ground.chain }, { on := 0, ground := Ground.phase }, { on := 1, ground := Ground.phase }, { on := 2, ground := Ground.phase }, { on := 3, ground := Ground.phase }, { on := 4, ground := Ground.phase }, { on := 5, ground := Ground.phase }, { on := 6, ground := Ground.phase }, { on := 7, ground := Ground.phase }, { on := 8, ground := Ground.phase }, { on := 9, ground := Ground.phase }, { on := 10, ground := Ground.phase }, { on := 11, ground := Ground.phase }], guard := none }) rfl (fun K hK => ?_) AllReadyH.nil
    go_simp
    refine hK.out _ _ trivial (fun hHeld => ?_)
    clear hK K
    refine wpAnyH_done (by kernel_rfl) ?_ _
    refine NoPanic.normal ?_
    clear HD2 HG
    go_wp2
    (try simp only [Exit.inBlock, Exit.then])
    refine bodyPost_ret (res_p (B := w.heap.size) (v0 := .int .i64 (0)) (v1 := .int .i64 (0)) (v2 := .string ⟨#[]⟩) (v3 := .string ⟨#[]⟩) rfl rfl ?c0 ?c1 ?c2 ?c3) rfl ?_
    case c0 => simp (maxDischargeDepth := 12) [cell_set, c0]
    case c1 => simp (maxDischargeDepth := 12) [cell_set, c1]
    case c2 => simp (maxDischargeDepth := 12) [cell_set, c2]
    case c3 => simp (maxDischargeDepth := 12) [cell_set, c3]
    refine ⟨_, _, _, _, _, _, _, m3, rfl, InnOff.inn (B := w.heap.size) ?_, ?_⟩
    · refine InnOff.set ?_ rfl; refine InnOff.set ?_ rfl; refine InnOff.set ?_ rfl; refine InnOff.set ?_ rfl; exact unhide HOF4
    · have := unhide HB4; go_grown
end Go.Proofs.YtpfpollejhdbgaaDoor
