/- Proved here: helpers, one text behind the other. -/
import Derived.Test.YtoocdfgjkeheaaaGreatDoorM2
import Derived.Test.YtoocdfgjkeheaaaGreatDoorM1
import Derived.Deep.RegionHeld3
import Derived.Handy
import Derived.Deep.WholeRow
/- Proved here: what (*prop.row).take tells of a property behind others, and what it writes down. Helper contracts. -/
namespace Go.Proofs.YtoocdfgjkeheaaaGreatDoor
open Go.RowKit
set_option maxRecDepth 100000

abbrev opPTake0 : Oper := { dst := some 5, op := Op.fieldAddr 120 (Operand.tmp 3) 0, type := 0, pos := "prop.go:131", after := #[], guard := none }
abbrev opPTake1 : Oper := { dst := some 6, op := Op.load 3 (Operand.tmp 5), type := 3, pos := "prop.go:131", after := #[{ on := 0, ground := Ground.data }], guard := none }
abbrev opPTake2 : Oper := { dst := some 7, op := Op.move (Operand.tmp 0), type := 241, pos := "prop.go:131", after := #[], guard := none }
abbrev opPTake3 : Oper := { dst := some 8, op := Op.nilCheck (Operand.tmp 7), type := 0, pos := "prop.go:131", after := #[{ on := 2, ground := Ground.data }], guard := none }
abbrev opPTake4 : Oper := { dst := some 9, op := Op.fieldAddr 235 (Operand.tmp 8) 0, type := 0, pos := "prop.go:131", after := #[{ on := 3, ground := Ground.data }], guard := none }
abbrev opPTake5 : Oper := { dst := some 10, op := Op.load 3 (Operand.tmp 9), type := 3, pos := "prop.go:131", after := #[{ on := 4, ground := Ground.data }], guard := none }
abbrev opPTake6 : Oper := { dst := some 11, op := Op.call { callee := Callee.value (Operand.func 206), args := #[Operand.tmp 6, Operand.tmp 10], argTypes := #[3, 3] }, type := 4, pos := "prop.go:131", after := #[{ on := 1, ground := Ground.data }, { on := 5, ground := Ground.data }], guard := none }
abbrev opPTake7 : Oper := { dst := some 12, op := Op.unOp UnOp.not 4 (Operand.tmp 11), type := 4, pos := "prop.go:131", after := #[{ on := 6, ground := Ground.data }], guard := none }
abbrev opPTake8 : Oper := { dst := some 13, op := Op.move (Operand.tmp 12), type := 4, pos := "prop.go:131", after := #[{ on := 7, ground := Ground.data }, { on := 6, ground := Ground.chain }], guard := none }
abbrev opPTake9 : Oper := { dst := some 14, op := Op.fieldAddr 120 (Operand.tmp 3) 0, type := 0, pos := "prop.go:131", after := #[{ on := 8, ground := Ground.guard }], guard := some (8, false) }
abbrev opPTake10 : Oper := { dst := some 15, op := Op.load 3 (Operand.tmp 14), type := 3, pos := "prop.go:131", after := #[{ on := 9, ground := Ground.data }, { on := 8, ground := Ground.guard }], guard := some (8, false) }
abbrev opPTake11 : Oper := { dst := some 16, op := Op.call { callee := Callee.value (Operand.func 207), args := #[Operand.tmp 15], argTypes := #[3] }, type := 244, pos := "prop.go:131", after := #[{ on := 10, ground := Ground.data }, { on := 8, ground := Ground.chain }, { on := 8, ground := Ground.guard }], guard := some (8, false) }
abbrev opPTake12 : Oper := { dst := some 17, op := Op.load 120 (Operand.tmp 3), type := 120, pos := "prop.go:131", after := #[{ on := 8, ground := Ground.guard }], guard := some (8, false) }
abbrev opPTake13 : Oper := { dst := some 18, op := Op.call { callee := Callee.value (Operand.func 208), args := #[Operand.tmp 16, Operand.tmp 17], argTypes := #[244, 120] }, type := 4, pos := "prop.go:131", after := #[{ on := 11, ground := Ground.data }, { on := 12, ground := Ground.data }, { on := 11, ground := Ground.chain }, { on := 8, ground := Ground.guard }], guard := some (8, false) }
abbrev opPTake14 : Oper := { dst := some 19, op := Op.unOp UnOp.not 4 (Operand.tmp 18), type := 4, pos := "prop.go:131", after := #[{ on := 13, ground := Ground.data }, { on := 8, ground := Ground.guard }], guard := some (8, false) }
abbrev opPTake15 : Oper := { dst := some 20, op := Op.pick (Operand.tmp 13) (Operand.const (Value.bool true)) (Operand.tmp 19), type := 4, pos := "prop.go:131", after := #[{ on := 8, ground := Ground.data }, { on := 14, ground := Ground.data }], guard := none }
abbrev opPTake16 : Oper := { dst := some 22, op := Op.move (Operand.tmp 0), type := 241, pos := "prop.go:134", after := #[], guard := none }
abbrev opPTake17 : Oper := { dst := some 23, op := Op.fieldAddr 120 (Operand.tmp 3) 0, type := 0, pos := "prop.go:134", after := #[], guard := none }
abbrev opPTake18 : Oper := { dst := some 24, op := Op.load 3 (Operand.tmp 23), type := 3, pos := "prop.go:134", after := #[{ on := 1, ground := Ground.data }], guard := none }
abbrev opPTake19 : Oper := { dst := some 25, op := Op.nilCheck (Operand.tmp 22), type := 0, pos := "prop.go:134", after := #[{ on := 0, ground := Ground.data }], guard := none }
abbrev opPTake20 : Oper := { dst := some 26, op := Op.fieldAddr 235 (Operand.tmp 25) 1, type := 0, pos := "prop.go:134", after := #[{ on := 3, ground := Ground.data }], guard := none }
abbrev opPTake21 : Oper := { dst := some 27, op := Op.indexAddr 233 (Operand.tmp 26) (Operand.tmp 24), type := 0, pos := "prop.go:134", after := #[{ on := 4, ground := Ground.data }, { on := 2, ground := Ground.data }], guard := none }
abbrev opPTake22 : Oper := { dst := some 28, op := Op.load 4 (Operand.tmp 27), type := 4, pos := "prop.go:134", after := #[{ on := 5, ground := Ground.data }], guard := none }
abbrev opPTake23 : Oper := { dst := some 29, op := Op.move (Operand.tmp 28), type := 4, pos := "prop.go:134", after := #[{ on := 6, ground := Ground.data }], guard := none }
abbrev opPTake24 : Oper := { dst := some 30, op := Op.fieldAddr 120 (Operand.tmp 3) 0, type := 0, pos := "prop.go:134", after := #[{ on := 7, ground := Ground.guard }], guard := some (7, true) }
abbrev opPTake25 : Oper := { dst := some 31, op := Op.load 3 (Operand.tmp 30), type := 3, pos := "prop.go:134", after := #[{ on := 8, ground := Ground.data }, { on := 7, ground := Ground.guard }], guard := some (7, true) }
abbrev opPTake26 : Oper := { dst := some 32, op := Op.move (Operand.tmp 0), type := 241, pos := "prop.go:134", after := #[{ on := 7, ground := Ground.guard }], guard := some (7, true) }
abbrev opPTake27 : Oper := { dst := some 33, op := Op.nilCheck (Operand.tmp 32), type := 0, pos := "prop.go:134", after := #[{ on := 10, ground := Ground.data }, { on := 7, ground := Ground.guard }], guard := some (7, true) }
abbrev opPTake28 : Oper := { dst := some 34, op := Op.fieldAddr 235 (Operand.tmp 33) 0, type := 0, pos := "prop.go:134", after := #[{ on := 11, ground := Ground.data }, { on := 7, ground := Ground.guard }], guard := some (7, true) }
abbrev opPTake29 : Oper := { dst := some 35, op := Op.load 3 (Operand.tmp 34), type := 3, pos := "prop.go:134", after := #[{ on := 12, ground := Ground.data }, { on := 7, ground := Ground.guard }], guard := some (7, true) }
abbrev opPTake30 : Oper := { dst := some 36, op := Op.call { callee := Callee.value (Operand.func 209), args := #[Operand.tmp 31, Operand.tmp 35], argTypes := #[3, 3] }, type := 4, pos := "prop.go:134", after := #[{ on := 9, ground := Ground.data }, { on := 13, ground := Ground.data }, { on := 7, ground := Ground.chain }, { on := 7, ground := Ground.guard }], guard := some (7, true) }
abbrev opPTake31 : Oper := { dst := some 37, op := Op.unOp UnOp.not 4 (Operand.tmp 36), type := 4, pos := "prop.go:134", after := #[{ on := 14, ground := Ground.data }, { on := 7, ground := Ground.guard }], guard := some (7, true) }
abbrev opPTake32 : Oper := { dst := some 38, op := Op.pick (Operand.tmp 29) (Operand.tmp 37) (Operand.const (Value.bool false)), type := 4, pos := "prop.go:134", after := #[{ on := 7, ground := Ground.data }, { on := 15, ground := Ground.data }], guard := none }
abbrev opPTake33 : Oper := { dst := some 40, op := Op.move (Operand.tmp 0), type := 241, pos := "prop.go:137", after := #[], guard := none }
abbrev opPTake34 : Oper := { dst := some 41, op := Op.fieldAddr 120 (Operand.tmp 3) 0, type := 0, pos := "prop.go:137", after := #[], guard := none }
abbrev opPTake35 : Oper := { dst := some 42, op := Op.load 3 (Operand.tmp 41), type := 3, pos := "prop.go:137", after := #[{ on := 1, ground := Ground.data }], guard := none }
abbrev opPTake36 : Oper := { dst := some 43, op := Op.nilCheck (Operand.tmp 40), type := 0, pos := "prop.go:137", after := #[{ on := 0, ground := Ground.data }], guard := none }
abbrev opPTake37 : Oper := { dst := some 44, op := Op.fieldAddr 235 (Operand.tmp 43) 1, type := 0, pos := "prop.go:137", after := #[{ on := 3, ground := Ground.data }], guard := none }
abbrev opPTake38 : Oper := { dst := some 45, op := Op.indexAddr 233 (Operand.tmp 44) (Operand.tmp 42), type := 0, pos := "prop.go:137", after := #[{ on := 4, ground := Ground.data }, { on := 2, ground := Ground.data }, { on := 0, ground := Ground.phase }, { on := 1, ground := Ground.phase }, { on := 2, ground := Ground.phase }], guard := none }
abbrev opPTake39 : Oper := { dst := none, op := Op.store 4 (Operand.tmp 45) (Operand.const (Value.bool true)), type := 0, pos := "prop.go:137", after := #[{ on := 5, ground := Ground.data }, { on := 0, ground := Ground.phase }, { on := 1, ground := Ground.phase }, { on := 2, ground := Ground.phase }], guard := none }

theorem stand_use (id place : Int) (b : Bool) (h : mst id place = b) (w : World) : Calls Tryz.prog 206 #[.int .i64 id, .int .i64 place] w fun e w' => e = .returned (.bool b) ∧ Below w.heap.size w w' := by
  subst h
  exact stand_any id place w
theorem shape_use (id f wd lo hi : Int) (h : shv id = .agg #[.int .i64 f, .int .i64 wd, .int .i64 lo, .int .i64 hi]) (w : World) : Calls Tryz.prog 207 #[.int .i64 id] w fun e w' => e = .returned (.agg #[.int .i64 f, .int .i64 wd, .int .i64 lo, .int .i64 hi]) ∧ Below w.heap.size w w' := by
  rw [← h]
  exact shape_any id w
theorem fits_is (f wd lo hi id n : Int) (s t : ByteArray) (b : Bool) (h : fitB f lo hi n s t = b) (w : World) :
    Calls Tryz.prog 208 #[.agg #[.int .i64 f, .int .i64 wd, .int .i64 lo, .int .i64 hi], .agg #[.int .i64 id, .int .i64 n, .string s, .string t]] w fun e w' => e = .returned (.bool b) ∧ Below w.heap.size w w' := by
  subst h
  exact fits_any f wd lo hi id n s t w
theorem repeat_is (id place : Int) (b : Bool) (h : rep id place = b) (w : World) : Calls Tryz.prog 209 #[.int .i64 id, .int .i64 place] w fun e w' => e = .returned (.bool b) ∧ w' = w := by
  subst h
  exact repeat_any id place w
theorem below_undrew1 {a w : World} (h : Below a.drew.heap.size a.drew w) : Below a.heap.size a w := ⟨h.os, h.tape, h.output, h.size, h.block⟩
/-- the cells that take reads: the place, and the property that it was handed -/
def TakeS (R B : Nat) (place id n : Int) (s t : ByteArray) (w : World) : Prop :=
  w.cell? ⟨R, 0, none⟩ = some (.int .i64 place) ∧ w.cell? ⟨B, 0, none⟩ = some (.int .i64 id) ∧ w.cell? ⟨B, 1, none⟩ = some (.int .i64 n) ∧ w.cell? ⟨B, 2, none⟩ = some (.string s) ∧ w.cell? ⟨B, 3, none⟩ = some (.string t)
theorem TakeS.below {R B : Nat} {place id n : Int} {s t : ByteArray} {w w' : World} (h : TakeS R B place id n s t w) (hb : Below w.heap.size w w') : TakeS R B place id n s t w' := by
  obtain ⟨h0, h1, h2, h3, h4⟩ := h
  exact ⟨(hb.cell (cell_lt h0)).trans h0, (hb.cell (cell_lt h1)).trans h1, (hb.cell (cell_lt h2)).trans h2, (hb.cell (cell_lt h3)).trans h3, (hb.cell (cell_lt h4)).trans h4⟩
theorem takeS_box (R : Nat) (place id n : Int) (s t : ByteArray) (w : World) (hR : w.cell? ⟨R, 0, none⟩ = some (.int .i64 place)) : TakeS R w.heap.size place id n s t (w.alloc (.cells #[.int .i64 id, .int .i64 n, .string s, .string t] 120)) :=
  ⟨by rw [World.cell?_alloc_lt _ _ ⟨R, 0, none⟩ (cell_lt hR)]; exact hR, by simp, by simp, by simp, by simp⟩
/-- what take tells of a property that may not come -/
def TakeNo (w : World) (e : Ending) (w' : World) : Prop := ∃ E, e = .returned (.iface 149 E) ∧ Hid (ErrP w' (.iface 149 E) 1) ∧ Below w.heap.size w w'
set_option maxHeartbeats 8000000 in
theorem take_no1 (R : Nat) (place id n : Int) (s t : ByteArray) (w : World) (hR : w.cell? ⟨R, 0, none⟩ = some (.int .i64 place)) (hm : mst id place = false) :
    Calls Tryz.prog 200 #[.pointer (some ⟨R, 0, none⟩), .agg #[.int .i64 id, .int .i64 n, .string s, .string t]] w (TakeNo w) := by
  have HS0 : Hid (TakeS R w.heap.size place id n s t (w.alloc (.cells #[.int .i64 id, .int .i64 n, .string s, .string t] 120))) := takeS_box R place id n s t w hR
  have HB0 : Hid (Below w.heap.size w (w.alloc (.cells #[.int .i64 id, .int .i64 n, .string s, .string t] 120))) := (Below.refl _ _).alloc (Nat.le_refl _) _
  clear hR
  go_enter Tryz.func200, Tryz.ntmps200
  go_wp2_with fail
  generalize w.alloc (.cells #[.int .i64 id, .int .i64 n, .string s, .string t] 120) = W0 at HS0 HB0 ⊢
  refine wp_region_noPanic ?_
  refine wp_region_held_drew (S := (fun w' => w'.cell? ⟨R, 0, none⟩ = some (.int .i64 place) ∧ w'.cell? ⟨w.heap.size, 0, none⟩ = some (.int .i64 id) ∧ w'.cell? ⟨w.heap.size, 1, none⟩ = some (.int .i64 n) ∧ w'.cell? ⟨w.heap.size, 2, none⟩ = some (.string s) ∧ w'.cell? ⟨w.heap.size, 3, none⟩ = some (.string t))) (by kernel_rfl) ((unhide HS0).below (below_drewN (Below.refl _ _) 1)) (fun hHeld => ?_)
  refine wpAnyH_take (i := 0) (oi := opPTake0) (v := ?v1) rfl (by kernel_rfl) (by kernel_rfl) (by kernel_rfl) (fun _ _ _ h => h) (Or.inl ⟨by rfl, ?hy1⟩) (by assumption) ?rest1
  case hy1 => (intro w hSw; (try dsimp only at hSw); go_simp; (try rw [if_pos (by omega)]); (try with_reducible rfl))
  simp only [Act.put, List.setIfInBounds_toArray, List.set_cons_zero, List.set_cons_succ]
  refine wpAnyH_take (i := 1) (oi := opPTake1) (v := ?v2) rfl (by kernel_rfl) (by kernel_rfl) (by kernel_rfl) (fun _ _ _ h => h) (Or.inl ⟨by rfl, ?hy2⟩) (by assumption) ?rest2
  case hy2 => (intro w hSw; (try dsimp only at hSw); go_simp; (try rw [if_pos (by omega)]); (try with_reducible rfl))
  simp only [Act.put, List.setIfInBounds_toArray, List.set_cons_zero, List.set_cons_succ]
  refine wpAnyH_take (i := 2) (oi := opPTake2) (v := ?v3) rfl (by kernel_rfl) (by kernel_rfl) (by kernel_rfl) (fun _ _ _ h => h) (Or.inl ⟨by rfl, ?hy3⟩) (by assumption) ?rest3
  case hy3 => (intro w hSw; (try dsimp only at hSw); go_simp; (try rw [if_pos (by omega)]); (try with_reducible rfl))
  simp only [Act.put, List.setIfInBounds_toArray, List.set_cons_zero, List.set_cons_succ]
  refine wpAnyH_take (i := 3) (oi := opPTake3) (v := ?v4) rfl (by kernel_rfl) (by kernel_rfl) (by kernel_rfl) (fun _ _ _ h => h) (Or.inl ⟨by rfl, ?hy4⟩) (by assumption) ?rest4
  case hy4 => (intro w hSw; (try dsimp only at hSw); go_simp; (try rw [if_pos (by omega)]); (try with_reducible rfl))
  simp only [Act.put, List.setIfInBounds_toArray, List.set_cons_zero, List.set_cons_succ]
  refine wpAnyH_take (i := 4) (oi := opPTake4) (v := ?v5) rfl (by kernel_rfl) (by kernel_rfl) (by kernel_rfl) (fun _ _ _ h => h) (Or.inl ⟨by rfl, ?hy5⟩) (by assumption) ?rest5
  case hy5 => (intro w hSw; (try dsimp only at hSw); go_simp; (try rw [if_pos (by omega)]); (try with_reducible rfl))
  simp only [Act.put, List.setIfInBounds_toArray, List.set_cons_zero, List.set_cons_succ]
  refine wpAnyH_take (i := 5) (oi := opPTake5) (v := ?v6) rfl (by kernel_rfl) (by kernel_rfl) (by kernel_rfl) (fun _ _ _ h => h) (Or.inl ⟨by rfl, ?hy6⟩) (by assumption) ?rest6
  case hy6 => (intro w hSw; (try dsimp only at hSw); go_simp; (try rw [if_pos (by omega)]); (try with_reducible rfl))
  simp only [Act.put, List.setIfInBounds_toArray, List.set_cons_zero, List.set_cons_succ]
  refine wpAnyH_ready (rs := [6]) (by kernel_rfl) (by simp) ?_
  refine AllReadyH.cons (o := opPTake6) rfl (fun K hK => ?_) AllReadyH.nil
  go_simp
  refine (stand_use _ place false hm _).mono ?_
  rintro e w1 ⟨rfl, hb1⟩
  have HB1 : Hid (Below W0.heap.size W0 w1) := below_undrew1 hb1
  have HS1 : Hid (TakeS R w.heap.size place id n s t w1) := (unhide HS0).below (unhide HB1)
  clear hb1
  go_wp2_with fail
  refine hK.out _ _ (by exact unhide HS1) (fun hHeld => ?_)
  clear hK K
  refine wpAnyH_take (i := 7) (oi := opPTake7) (v := ?v7) rfl (by kernel_rfl) (by kernel_rfl) (by kernel_rfl) (fun _ _ _ h => h) (Or.inl ⟨by rfl, ?hy7⟩) (by assumption) ?rest7
  case hy7 => (intro w hSw; (try dsimp only at hSw); go_simp; (try rw [if_pos (by omega)]); (try with_reducible rfl))
  simp only [Act.put, List.setIfInBounds_toArray, List.set_cons_zero, List.set_cons_succ]
  refine wpAnyH_take (i := 8) (oi := opPTake8) (v := ?v8) rfl (by kernel_rfl) (by kernel_rfl) (by kernel_rfl) (fun _ _ _ h => h) (Or.inl ⟨by rfl, ?hy8⟩) (by assumption) ?rest8
  case hy8 => (intro w hSw; (try dsimp only at hSw); go_simp; (try rw [if_pos (by omega)]); (try with_reducible rfl))
  simp only [Act.put, List.setIfInBounds_toArray, List.set_cons_zero, List.set_cons_succ]
  refine wpAnyH_take (i := 9) (oi := opPTake9) (v := undef) rfl (by kernel_rfl) (by kernel_rfl) (by kernel_rfl) (fun _ _ _ h => h) (Or.inr ⟨by rfl, rfl⟩) (by assumption) ?_
  simp only [Act.put, List.setIfInBounds_toArray, List.set_cons_zero, List.set_cons_succ]
  refine wpAnyH_take (i := 10) (oi := opPTake10) (v := undef) rfl (by kernel_rfl) (by kernel_rfl) (by kernel_rfl) (fun _ _ _ h => h) (Or.inr ⟨by rfl, rfl⟩) (by assumption) ?_
  simp only [Act.put, List.setIfInBounds_toArray, List.set_cons_zero, List.set_cons_succ]
  refine wpAnyH_take (i := 11) (oi := opPTake11) (v := undef) rfl (by kernel_rfl) (by kernel_rfl) (by kernel_rfl) (fun _ _ _ h => h) (Or.inr ⟨by rfl, rfl⟩) (by assumption) ?_
  simp only [Act.put, List.setIfInBounds_toArray, List.set_cons_zero, List.set_cons_succ]
  refine wpAnyH_take (i := 12) (oi := opPTake12) (v := undef) rfl (by kernel_rfl) (by kernel_rfl) (by kernel_rfl) (fun _ _ _ h => h) (Or.inr ⟨by rfl, rfl⟩) (by assumption) ?_
  simp only [Act.put, List.setIfInBounds_toArray, List.set_cons_zero, List.set_cons_succ]
  refine wpAnyH_take (i := 13) (oi := opPTake13) (v := undef) rfl (by kernel_rfl) (by kernel_rfl) (by kernel_rfl) (fun _ _ _ h => h) (Or.inr ⟨by rfl, rfl⟩) (by assumption) ?_
  simp only [Act.put, List.setIfInBounds_toArray, List.set_cons_zero, List.set_cons_succ]
  refine wpAnyH_take (i := 14) (oi := opPTake14) (v := undef) rfl (by kernel_rfl) (by kernel_rfl) (by kernel_rfl) (fun _ _ _ h => h) (Or.inr ⟨by rfl, rfl⟩) (by assumption) ?_
  simp only [Act.put, List.setIfInBounds_toArray, List.set_cons_zero, List.set_cons_succ]
  refine wpAnyH_take (i := 15) (oi := opPTake15) (v := ?v9) rfl (by kernel_rfl) (by kernel_rfl) (by kernel_rfl) (fun _ _ _ h => h) (Or.inl ⟨by rfl, ?hy9⟩) (by assumption) ?rest9
  case hy9 => (intro w hSw; (try dsimp only at hSw); go_simp; (try rw [if_pos (by omega)]); (try with_reducible rfl))
  simp only [Act.put, List.setIfInBounds_toArray, List.set_cons_zero, List.set_cons_succ]
  refine wpAnyH_done (by kernel_rfl) ?_ _
  refine NoPanic.normal ?_
  go_wp2_with (go_at_call 193; refine (pfault_use 1 _).mono ?_; rintro e w9 ⟨E, rfl, hE, hb9⟩)
  go_ret
  exact ⟨E, rfl, hE, (unhide HB0).trans (((unhide HB1).trans (hb9.mono (unhide HB1).size)).mono (unhide HB0).size)⟩
set_option maxHeartbeats 8000000 in
theorem take_no2 (R : Nat) (place id n : Int) (s t : ByteArray) (w : World) (hR : w.cell? ⟨R, 0, none⟩ = some (.int .i64 place)) (hm : mst id place = true) (hf : fit (id, n, s, t) = false) :
    Calls Tryz.prog 200 #[.pointer (some ⟨R, 0, none⟩), .agg #[.int .i64 id, .int .i64 n, .string s, .string t]] w (TakeNo w) := by
  have HSH : Hid (shv id = .agg #[.int .i64 (frm id), .int .i64 (wid id), .int .i64 (lst id), .int .i64 (mx id)]) := rfl
  rw [fit_eq] at hf
  generalize frm id = f at HSH hf
  generalize wid id = wd at HSH
  generalize lst id = lo at HSH hf
  generalize mx id = hi at HSH hf
  have HS0 : Hid (TakeS R w.heap.size place id n s t (w.alloc (.cells #[.int .i64 id, .int .i64 n, .string s, .string t] 120))) := takeS_box R place id n s t w hR
  have HB0 : Hid (Below w.heap.size w (w.alloc (.cells #[.int .i64 id, .int .i64 n, .string s, .string t] 120))) := (Below.refl _ _).alloc (Nat.le_refl _) _
  clear hR
  go_enter Tryz.func200, Tryz.ntmps200
  go_wp2_with fail
  generalize w.alloc (.cells #[.int .i64 id, .int .i64 n, .string s, .string t] 120) = W0 at HS0 HB0 ⊢
  refine wp_region_noPanic ?_
  refine wp_region_held_drew (S := (fun w' => w'.cell? ⟨R, 0, none⟩ = some (.int .i64 place) ∧ w'.cell? ⟨w.heap.size, 0, none⟩ = some (.int .i64 id) ∧ w'.cell? ⟨w.heap.size, 1, none⟩ = some (.int .i64 n) ∧ w'.cell? ⟨w.heap.size, 2, none⟩ = some (.string s) ∧ w'.cell? ⟨w.heap.size, 3, none⟩ = some (.string t))) (by kernel_rfl) ((unhide HS0).below (below_drewN (Below.refl _ _) 1)) (fun hHeld => ?_)
  refine wpAnyH_take (i := 0) (oi := opPTake0) (v := ?v10) rfl (by kernel_rfl) (by kernel_rfl) (by kernel_rfl) (fun _ _ _ h => h) (Or.inl ⟨by rfl, ?hy10⟩) (by assumption) ?rest10
  case hy10 => (intro w hSw; (try dsimp only at hSw); go_simp; (try rw [if_pos (by omega)]); (try with_reducible rfl))
  simp only [Act.put, List.setIfInBounds_toArray, List.set_cons_zero, List.set_cons_succ]
  refine wpAnyH_take (i := 1) (oi := opPTake1) (v := ?v11) rfl (by kernel_rfl) (by kernel_rfl) (by kernel_rfl) (fun _ _ _ h => h) (Or.inl ⟨by rfl, ?hy11⟩) (by assumption) ?rest11
  case hy11 => (intro w hSw; (try dsimp only at hSw); go_simp; (try rw [if_pos (by omega)]); (try with_reducible rfl))
  simp only [Act.put, List.setIfInBounds_toArray, List.set_cons_zero, List.set_cons_succ]
  refine wpAnyH_take (i := 2) (oi := opPTake2) (v := ?v12) rfl (by kernel_rfl) (by kernel_rfl) (by kernel_rfl) (fun _ _ _ h => h) (Or.inl ⟨by rfl, ?hy12⟩) (by assumption) ?rest12
  case hy12 => (intro w hSw; (try dsimp only at hSw); go_simp; (try rw [if_pos (by omega)]); (try with_reducible rfl))
  simp only [Act.put, List.setIfInBounds_toArray, List.set_cons_zero, List.set_cons_succ]
  refine wpAnyH_take (i := 3) (oi := opPTake3) (v := ?v13) rfl (by kernel_rfl) (by kernel_rfl) (by kernel_rfl) (fun _ _ _ h => h) (Or.inl ⟨by rfl, ?hy13⟩) (by assumption) ?rest13
  case hy13 => (intro w hSw; (try dsimp only at hSw); go_simp; (try rw [if_pos (by omega)]); (try with_reducible rfl))
  simp only [Act.put, List.setIfInBounds_toArray, List.set_cons_zero, List.set_cons_succ]
  refine wpAnyH_take (i := 4) (oi := opPTake4) (v := ?v14) rfl (by kernel_rfl) (by kernel_rfl) (by kernel_rfl) (fun _ _ _ h => h) (Or.inl ⟨by rfl, ?hy14⟩) (by assumption) ?rest14
  case hy14 => (intro w hSw; (try dsimp only at hSw); go_simp; (try rw [if_pos (by omega)]); (try with_reducible rfl))
  simp only [Act.put, List.setIfInBounds_toArray, List.set_cons_zero, List.set_cons_succ]
  refine wpAnyH_take (i := 5) (oi := opPTake5) (v := ?v15) rfl (by kernel_rfl) (by kernel_rfl) (by kernel_rfl) (fun _ _ _ h => h) (Or.inl ⟨by rfl, ?hy15⟩) (by assumption) ?rest15
  case hy15 => (intro w hSw; (try dsimp only at hSw); go_simp; (try rw [if_pos (by omega)]); (try with_reducible rfl))
  simp only [Act.put, List.setIfInBounds_toArray, List.set_cons_zero, List.set_cons_succ]
  refine wpAnyH_ready (rs := [6]) (by kernel_rfl) (by simp) ?_
  refine AllReadyH.cons (o := opPTake6) rfl (fun K hK => ?_) AllReadyH.nil
  go_simp
  refine (stand_use _ place true hm _).mono ?_
  rintro e w1 ⟨rfl, hb1⟩
  have HB1 : Hid (Below W0.heap.size W0 w1) := below_undrew1 hb1
  have HS1 : Hid (TakeS R w.heap.size place id n s t w1) := (unhide HS0).below (unhide HB1)
  clear hb1
  go_wp2_with fail
  refine hK.out _ _ (by exact unhide HS1) (fun hHeld => ?_)
  clear hK K
  refine wpAnyH_take (i := 7) (oi := opPTake7) (v := ?v16) rfl (by kernel_rfl) (by kernel_rfl) (by kernel_rfl) (fun _ _ _ h => h) (Or.inl ⟨by rfl, ?hy16⟩) (by assumption) ?rest16
  case hy16 => (intro w hSw; (try dsimp only at hSw); go_simp; (try rw [if_pos (by omega)]); (try with_reducible rfl))
  simp only [Act.put, List.setIfInBounds_toArray, List.set_cons_zero, List.set_cons_succ]
  refine wpAnyH_take (i := 8) (oi := opPTake8) (v := ?v17) rfl (by kernel_rfl) (by kernel_rfl) (by kernel_rfl) (fun _ _ _ h => h) (Or.inl ⟨by rfl, ?hy17⟩) (by assumption) ?rest17
  case hy17 => (intro w hSw; (try dsimp only at hSw); go_simp; (try rw [if_pos (by omega)]); (try with_reducible rfl))
  simp only [Act.put, List.setIfInBounds_toArray, List.set_cons_zero, List.set_cons_succ]
  refine wpAnyH_take (i := 9) (oi := opPTake9) (v := ?v18) rfl (by kernel_rfl) (by kernel_rfl) (by kernel_rfl) (fun _ _ _ h => h) (Or.inl ⟨by rfl, ?hy18⟩) (by assumption) ?rest18
  case hy18 => (intro w hSw; (try dsimp only at hSw); go_simp; (try rw [if_pos (by omega)]); (try with_reducible rfl))
  simp only [Act.put, List.setIfInBounds_toArray, List.set_cons_zero, List.set_cons_succ]
  refine wpAnyH_take (i := 10) (oi := opPTake10) (v := ?v19) rfl (by kernel_rfl) (by kernel_rfl) (by kernel_rfl) (fun _ _ _ h => h) (Or.inl ⟨by rfl, ?hy19⟩) (by assumption) ?rest19
  case hy19 => (intro w hSw; (try dsimp only at hSw); go_simp; (try rw [if_pos (by omega)]); (try with_reducible rfl))
  simp only [Act.put, List.setIfInBounds_toArray, List.set_cons_zero, List.set_cons_succ]
  refine wpAnyH_take (i := 12) (oi := opPTake12) (v := ?v20) rfl (by kernel_rfl) (by kernel_rfl) (by kernel_rfl) (fun _ _ _ h => h) (Or.inl ⟨by rfl, ?hy20⟩) (by assumption) ?rest20
  case hy20 => (intro w hSw; (try dsimp only at hSw); go_simp; (try rw [if_pos (by omega)]); (try with_reducible rfl))
  simp only [Act.put, List.setIfInBounds_toArray, List.set_cons_zero, List.set_cons_succ]
  refine wpAnyH_ready (rs := [11]) (by kernel_rfl) (by simp) ?_
  refine AllReadyH.cons (o := opPTake11) rfl (fun K hK => ?_) AllReadyH.nil
  go_simp
  refine (shape_use _ f wd lo hi (unhide HSH) _).mono ?_
  rintro e w2 ⟨rfl, hb2⟩
  have HB2 : Hid (Below W0.heap.size W0 w2) := (unhide HB1).trans (hb2.mono (unhide HB1).size)
  have HS2 : Hid (TakeS R w.heap.size place id n s t w2) := (unhide HS0).below (unhide HB2)
  clear hb2 HB1 HS1
  go_wp2_with fail
  refine hK.out _ _ (by exact unhide HS2) (fun hHeld => ?_)
  clear hK K
  refine wpAnyH_ready (rs := [13]) (by kernel_rfl) (by simp) ?_
  refine AllReadyH.cons (o := opPTake13) rfl (fun K hK => ?_) AllReadyH.nil
  go_simp
  refine (fits_is f wd lo hi _ n s t false hf _).mono ?_
  rintro e w3 ⟨rfl, hb3⟩
  have HB3 : Hid (Below W0.heap.size W0 w3) := (unhide HB2).trans (hb3.mono (unhide HB2).size)
  have HS3 : Hid (TakeS R w.heap.size place id n s t w3) := (unhide HS0).below (unhide HB3)
  clear hb3 HB2 HS2
  go_wp2_with fail
  refine hK.out _ _ (by exact unhide HS3) (fun hHeld => ?_)
  clear hK K
  refine wpAnyH_take (i := 14) (oi := opPTake14) (v := ?v21) rfl (by kernel_rfl) (by kernel_rfl) (by kernel_rfl) (fun _ _ _ h => h) (Or.inl ⟨by rfl, ?hy21⟩) (by assumption) ?rest21
  case hy21 => (intro w hSw; (try dsimp only at hSw); go_simp; (try rw [if_pos (by omega)]); (try with_reducible rfl))
  simp only [Act.put, List.setIfInBounds_toArray, List.set_cons_zero, List.set_cons_succ]
  refine wpAnyH_take (i := 15) (oi := opPTake15) (v := ?v22) rfl (by kernel_rfl) (by kernel_rfl) (by kernel_rfl) (fun _ _ _ h => h) (Or.inl ⟨by rfl, ?hy22⟩) (by assumption) ?rest22
  case hy22 => (intro w hSw; (try dsimp only at hSw); go_simp; (try rw [if_pos (by omega)]); (try with_reducible rfl))
  simp only [Act.put, List.setIfInBounds_toArray, List.set_cons_zero, List.set_cons_succ]
  refine wpAnyH_done (by kernel_rfl) ?_ _
  refine NoPanic.normal ?_
  go_wp2_with (go_at_call 193; refine (pfault_use 1 _).mono ?_; rintro e w9 ⟨E, rfl, hE, hb9⟩)
  go_ret
  exact ⟨E, rfl, hE, (unhide HB0).trans (((unhide HB3).trans (hb9.mono (unhide HB3).size)).mono (unhide HB0).size)⟩
set_option maxHeartbeats 8000000 in
theorem take_no3 (R k : Nat) (place n : Int) (s t : ByteArray) (w : World) (hk : k ≤ 42) (hR : w.cell? ⟨R, 0, none⟩ = some (.int .i64 place)) (hsn : w.cell? ⟨R, 1 + k, none⟩ = some (.bool true)) (hm : mst k place = true) (hf : fit (k, n, s, t) = true) (hr : rep k place = false) :
    Calls Tryz.prog 200 #[.pointer (some ⟨R, 0, none⟩), .agg #[.int .i64 (k : Int), .int .i64 n, .string s, .string t]] w (TakeNo w) := by
  have HSH : Hid (shv (k : Int) = .agg #[.int .i64 (frm (k : Int)), .int .i64 (wid (k : Int)), .int .i64 (lst (k : Int)), .int .i64 (mx (k : Int))]) := rfl
  rw [fit_eq] at hf
  generalize frm (k : Int) = f at HSH hf
  generalize wid (k : Int) = wd at HSH
  generalize lst (k : Int) = lo at HSH hf
  generalize mx (k : Int) = hi at HSH hf
  have HQ : Hid ((w.alloc (.cells #[.int .i64 (k : Int), .int .i64 n, .string s, .string t] 120)).cell? ⟨R, 1 + k, none⟩ = some (.bool true)) := by
    show _ = _
    rw [World.cell?_alloc_lt _ _ ⟨R, 1 + k, none⟩ (cell_lt hsn)]; exact hsn
  clear hsn
  have HS0 : Hid (TakeS R w.heap.size place (k : Int) n s t (w.alloc (.cells #[.int .i64 (k : Int), .int .i64 n, .string s, .string t] 120))) := takeS_box R place (k : Int) n s t w hR
  have HB0 : Hid (Below w.heap.size w (w.alloc (.cells #[.int .i64 (k : Int), .int .i64 n, .string s, .string t] 120))) := (Below.refl _ _).alloc (Nat.le_refl _) _
  clear hR
  go_enter Tryz.func200, Tryz.ntmps200
  go_wp2_with fail
  generalize w.alloc (.cells #[.int .i64 (k : Int), .int .i64 n, .string s, .string t] 120) = W0 at HS0 HB0 HQ ⊢
  refine wp_region_noPanic ?_
  refine wp_region_held_drew (S := (fun w' => w'.cell? ⟨R, 0, none⟩ = some (.int .i64 place) ∧ w'.cell? ⟨w.heap.size, 0, none⟩ = some (.int .i64 (k : Int)) ∧ w'.cell? ⟨w.heap.size, 1, none⟩ = some (.int .i64 n) ∧ w'.cell? ⟨w.heap.size, 2, none⟩ = some (.string s) ∧ w'.cell? ⟨w.heap.size, 3, none⟩ = some (.string t))) (by kernel_rfl) ((unhide HS0).below (below_drewN (Below.refl _ _) 1)) (fun hHeld => ?_)
  refine wpAnyH_take (i := 0) (oi := opPTake0) (v := ?v23) rfl (by kernel_rfl) (by kernel_rfl) (by kernel_rfl) (fun _ _ _ h => h) (Or.inl ⟨by rfl, ?hy23⟩) (by assumption) ?rest23
  case hy23 => (intro w hSw; (try dsimp only at hSw); go_simp; (try rw [if_pos (by omega)]); (try with_reducible rfl))
  simp only [Act.put, List.setIfInBounds_toArray, List.set_cons_zero, List.set_cons_succ]
  refine wpAnyH_take (i := 1) (oi := opPTake1) (v := ?v24) rfl (by kernel_rfl) (by kernel_rfl) (by kernel_rfl) (fun _ _ _ h => h) (Or.inl ⟨by rfl, ?hy24⟩) (by assumption) ?rest24
  case hy24 => (intro w hSw; (try dsimp only at hSw); go_simp; (try rw [if_pos (by omega)]); (try with_reducible rfl))
  simp only [Act.put, List.setIfInBounds_toArray, List.set_cons_zero, List.set_cons_succ]
  refine wpAnyH_take (i := 2) (oi := opPTake2) (v := ?v25) rfl (by kernel_rfl) (by kernel_rfl) (by kernel_rfl) (fun _ _ _ h => h) (Or.inl ⟨by rfl, ?hy25⟩) (by assumption) ?rest25
  case hy25 => (intro w hSw; (try dsimp only at hSw); go_simp; (try rw [if_pos (by omega)]); (try with_reducible rfl))
  simp only [Act.put, List.setIfInBounds_toArray, List.set_cons_zero, List.set_cons_succ]
  refine wpAnyH_take (i := 3) (oi := opPTake3) (v := ?v26) rfl (by kernel_rfl) (by kernel_rfl) (by kernel_rfl) (fun _ _ _ h => h) (Or.inl ⟨by rfl, ?hy26⟩) (by assumption) ?rest26
  case hy26 => (intro w hSw; (try dsimp only at hSw); go_simp; (try rw [if_pos (by omega)]); (try with_reducible rfl))
  simp only [Act.put, List.setIfInBounds_toArray, List.set_cons_zero, List.set_cons_succ]
  refine wpAnyH_take (i := 4) (oi := opPTake4) (v := ?v27) rfl (by kernel_rfl) (by kernel_rfl) (by kernel_rfl) (fun _ _ _ h => h) (Or.inl ⟨by rfl, ?hy27⟩) (by assumption) ?rest27
  case hy27 => (intro w hSw; (try dsimp only at hSw); go_simp; (try rw [if_pos (by omega)]); (try with_reducible rfl))
  simp only [Act.put, List.setIfInBounds_toArray, List.set_cons_zero, List.set_cons_succ]
  refine wpAnyH_take (i := 5) (oi := opPTake5) (v := ?v28) rfl (by kernel_rfl) (by kernel_rfl) (by kernel_rfl) (fun _ _ _ h => h) (Or.inl ⟨by rfl, ?hy28⟩) (by assumption) ?rest28
  case hy28 => (intro w hSw; (try dsimp only at hSw); go_simp; (try rw [if_pos (by omega)]); (try with_reducible rfl))
  simp only [Act.put, List.setIfInBounds_toArray, List.set_cons_zero, List.set_cons_succ]
  refine wpAnyH_ready (rs := [6]) (by kernel_rfl) (by simp) ?_
  refine AllReadyH.cons (o := opPTake6) rfl (fun K hK => ?_) AllReadyH.nil
  go_simp
  refine (stand_use _ place true hm _).mono ?_
  rintro e w1 ⟨rfl, hb1⟩
  have HB1 : Hid (Below W0.heap.size W0 w1) := below_undrew1 hb1
  have HS1 : Hid (TakeS R w.heap.size place (k : Int) n s t w1) := (unhide HS0).below (unhide HB1)
  clear hb1
  go_wp2_with fail
  refine hK.out _ _ (by exact unhide HS1) (fun hHeld => ?_)
  clear hK K
  refine wpAnyH_take (i := 7) (oi := opPTake7) (v := ?v29) rfl (by kernel_rfl) (by kernel_rfl) (by kernel_rfl) (fun _ _ _ h => h) (Or.inl ⟨by rfl, ?hy29⟩) (by assumption) ?rest29
  case hy29 => (intro w hSw; (try dsimp only at hSw); go_simp; (try rw [if_pos (by omega)]); (try with_reducible rfl))
  simp only [Act.put, List.setIfInBounds_toArray, List.set_cons_zero, List.set_cons_succ]
  refine wpAnyH_take (i := 8) (oi := opPTake8) (v := ?v30) rfl (by kernel_rfl) (by kernel_rfl) (by kernel_rfl) (fun _ _ _ h => h) (Or.inl ⟨by rfl, ?hy30⟩) (by assumption) ?rest30
  case hy30 => (intro w hSw; (try dsimp only at hSw); go_simp; (try rw [if_pos (by omega)]); (try with_reducible rfl))
  simp only [Act.put, List.setIfInBounds_toArray, List.set_cons_zero, List.set_cons_succ]
  refine wpAnyH_take (i := 9) (oi := opPTake9) (v := ?v31) rfl (by kernel_rfl) (by kernel_rfl) (by kernel_rfl) (fun _ _ _ h => h) (Or.inl ⟨by rfl, ?hy31⟩) (by assumption) ?rest31
  case hy31 => (intro w hSw; (try dsimp only at hSw); go_simp; (try rw [if_pos (by omega)]); (try with_reducible rfl))
  simp only [Act.put, List.setIfInBounds_toArray, List.set_cons_zero, List.set_cons_succ]
  refine wpAnyH_take (i := 10) (oi := opPTake10) (v := ?v32) rfl (by kernel_rfl) (by kernel_rfl) (by kernel_rfl) (fun _ _ _ h => h) (Or.inl ⟨by rfl, ?hy32⟩) (by assumption) ?rest32
  case hy32 => (intro w hSw; (try dsimp only at hSw); go_simp; (try rw [if_pos (by omega)]); (try with_reducible rfl))
  simp only [Act.put, List.setIfInBounds_toArray, List.set_cons_zero, List.set_cons_succ]
  refine wpAnyH_take (i := 12) (oi := opPTake12) (v := ?v33) rfl (by kernel_rfl) (by kernel_rfl) (by kernel_rfl) (fun _ _ _ h => h) (Or.inl ⟨by rfl, ?hy33⟩) (by assumption) ?rest33
  case hy33 => (intro w hSw; (try dsimp only at hSw); go_simp; (try rw [if_pos (by omega)]); (try with_reducible rfl))
  simp only [Act.put, List.setIfInBounds_toArray, List.set_cons_zero, List.set_cons_succ]
  refine wpAnyH_ready (rs := [11]) (by kernel_rfl) (by simp) ?_
  refine AllReadyH.cons (o := opPTake11) rfl (fun K hK => ?_) AllReadyH.nil
  go_simp
  refine (shape_use _ f wd lo hi (unhide HSH) _).mono ?_
  rintro e w2 ⟨rfl, hb2⟩
  have HB2 : Hid (Below W0.heap.size W0 w2) := (unhide HB1).trans (hb2.mono (unhide HB1).size)
  have HS2 : Hid (TakeS R w.heap.size place (k : Int) n s t w2) := (unhide HS0).below (unhide HB2)
  clear hb2 HB1 HS1
  go_wp2_with fail
  refine hK.out _ _ (by exact unhide HS2) (fun hHeld => ?_)
  clear hK K
  refine wpAnyH_ready (rs := [13]) (by kernel_rfl) (by simp) ?_
  refine AllReadyH.cons (o := opPTake13) rfl (fun K hK => ?_) AllReadyH.nil
  go_simp
  refine (fits_is f wd lo hi _ n s t true hf _).mono ?_
  rintro e w3 ⟨rfl, hb3⟩
  have HB3 : Hid (Below W0.heap.size W0 w3) := (unhide HB2).trans (hb3.mono (unhide HB2).size)
  have HS3 : Hid (TakeS R w.heap.size place (k : Int) n s t w3) := (unhide HS0).below (unhide HB3)
  clear hb3 HB2 HS2
  go_wp2_with fail
  refine hK.out _ _ (by exact unhide HS3) (fun hHeld => ?_)
  clear hK K
  refine wpAnyH_take (i := 14) (oi := opPTake14) (v := ?v34) rfl (by kernel_rfl) (by kernel_rfl) (by kernel_rfl) (fun _ _ _ h => h) (Or.inl ⟨by rfl, ?hy34⟩) (by assumption) ?rest34
  case hy34 => (intro w hSw; (try dsimp only at hSw); go_simp; (try rw [if_pos (by omega)]); (try with_reducible rfl))
  simp only [Act.put, List.setIfInBounds_toArray, List.set_cons_zero, List.set_cons_succ]
  refine wpAnyH_take (i := 15) (oi := opPTake15) (v := ?v35) rfl (by kernel_rfl) (by kernel_rfl) (by kernel_rfl) (fun _ _ _ h => h) (Or.inl ⟨by rfl, ?hy35⟩) (by assumption) ?rest35
  case hy35 => (intro w hSw; (try dsimp only at hSw); go_simp; (try rw [if_pos (by omega)]); (try with_reducible rfl))
  simp only [Act.put, List.setIfInBounds_toArray, List.set_cons_zero, List.set_cons_succ]
  refine wpAnyH_done (by kernel_rfl) ?_ _
  refine NoPanic.normal ?_
  have HQ0 : Hid (W0.cell? ⟨R, 1 + k, none⟩ = some (.bool true)) := by show _ = _; exact unhide HQ
  have HQ3 : Hid (w3.cell? ⟨R, 1 + k, none⟩ = some (.bool true)) := ((unhide HB3).cell (cell_lt (unhide HQ0))).trans (unhide HQ0)
  go_wp2_with fail
  refine wp_region_noPanic ?_
  refine wp_region_held_drew (S := (fun w' => w'.cell? ⟨R, 0, none⟩ = some (.int .i64 place) ∧ w'.cell? ⟨w.heap.size, 0, none⟩ = some (.int .i64 (k : Int)) ∧ w'.cell? ⟨R, 1 + k, none⟩ = some (.bool true))) (by kernel_rfl) ⟨(unhide HS3).1, (unhide HS3).2.1, unhide HQ3⟩ (fun hHeld => ?_)
  refine wpAnyH_take (i := 0) (oi := opPTake16) (v := ?v36) rfl (by kernel_rfl) (by kernel_rfl) (by kernel_rfl) (fun _ _ _ h => h) (Or.inl ⟨by rfl, ?hy36⟩) (by assumption) ?rest36
  case hy36 => (intro w hSw; (try dsimp only at hSw); go_simp; (try rw [if_pos (by omega)]); (try with_reducible rfl))
  simp only [Act.put, List.setIfInBounds_toArray, List.set_cons_zero, List.set_cons_succ]
  refine wpAnyH_take (i := 1) (oi := opPTake17) (v := ?v37) rfl (by kernel_rfl) (by kernel_rfl) (by kernel_rfl) (fun _ _ _ h => h) (Or.inl ⟨by rfl, ?hy37⟩) (by assumption) ?rest37
  case hy37 => (intro w hSw; (try dsimp only at hSw); go_simp; (try rw [if_pos (by omega)]); (try with_reducible rfl))
  simp only [Act.put, List.setIfInBounds_toArray, List.set_cons_zero, List.set_cons_succ]
  refine wpAnyH_take (i := 2) (oi := opPTake18) (v := ?v38) rfl (by kernel_rfl) (by kernel_rfl) (by kernel_rfl) (fun _ _ _ h => h) (Or.inl ⟨by rfl, ?hy38⟩) (by assumption) ?rest38
  case hy38 => (intro w hSw; (try dsimp only at hSw); go_simp; (try rw [if_pos (by omega)]); (try with_reducible rfl))
  simp only [Act.put, List.setIfInBounds_toArray, List.set_cons_zero, List.set_cons_succ]
  refine wpAnyH_take (i := 3) (oi := opPTake19) (v := ?v39) rfl (by kernel_rfl) (by kernel_rfl) (by kernel_rfl) (fun _ _ _ h => h) (Or.inl ⟨by rfl, ?hy39⟩) (by assumption) ?rest39
  case hy39 => (intro w hSw; (try dsimp only at hSw); go_simp; (try rw [if_pos (by omega)]); (try with_reducible rfl))
  simp only [Act.put, List.setIfInBounds_toArray, List.set_cons_zero, List.set_cons_succ]
  refine wpAnyH_take (i := 4) (oi := opPTake20) (v := ?v40) rfl (by kernel_rfl) (by kernel_rfl) (by kernel_rfl) (fun _ _ _ h => h) (Or.inl ⟨by rfl, ?hy40⟩) (by assumption) ?rest40
  case hy40 => (intro w hSw; (try dsimp only at hSw); go_simp; (try rw [if_pos (by omega)]); (try with_reducible rfl))
  simp only [Act.put, List.setIfInBounds_toArray, List.set_cons_zero, List.set_cons_succ]
  refine wpAnyH_take (i := 5) (oi := opPTake21) (v := ?v41) rfl (by kernel_rfl) (by kernel_rfl) (by kernel_rfl) (fun _ _ _ h => h) (Or.inl ⟨by rfl, ?hy41⟩) (by assumption) ?rest41
  case hy41 => (intro w hSw; (try dsimp only at hSw); go_simp; (try rw [if_pos (by omega)]); (try with_reducible rfl))
  simp only [Act.put, List.setIfInBounds_toArray, List.set_cons_zero, List.set_cons_succ]
  refine wpAnyH_take (i := 6) (oi := opPTake22) (v := ?v42) rfl (by kernel_rfl) (by kernel_rfl) (by kernel_rfl) (fun _ _ _ h => h) (Or.inl ⟨by rfl, ?hy42⟩) (by assumption) ?rest42
  case hy42 => (intro w hSw; (try dsimp only at hSw); go_simp; (try rw [if_pos (by omega)]); (try with_reducible rfl))
  simp only [Act.put, List.setIfInBounds_toArray, List.set_cons_zero, List.set_cons_succ]
  refine wpAnyH_take (i := 7) (oi := opPTake23) (v := ?v43) rfl (by kernel_rfl) (by kernel_rfl) (by kernel_rfl) (fun _ _ _ h => h) (Or.inl ⟨by rfl, ?hy43⟩) (by assumption) ?rest43
  case hy43 => (intro w hSw; (try dsimp only at hSw); go_simp; (try rw [if_pos (by omega)]); (try with_reducible rfl))
  simp only [Act.put, List.setIfInBounds_toArray, List.set_cons_zero, List.set_cons_succ]
  refine wpAnyH_take (i := 8) (oi := opPTake24) (v := ?v44) rfl (by kernel_rfl) (by kernel_rfl) (by kernel_rfl) (fun _ _ _ h => h) (Or.inl ⟨by rfl, ?hy44⟩) (by assumption) ?rest44
  case hy44 => (intro w hSw; (try dsimp only at hSw); go_simp; (try rw [if_pos (by omega)]); (try with_reducible rfl))
  simp only [Act.put, List.setIfInBounds_toArray, List.set_cons_zero, List.set_cons_succ]
  refine wpAnyH_take (i := 9) (oi := opPTake25) (v := ?v45) rfl (by kernel_rfl) (by kernel_rfl) (by kernel_rfl) (fun _ _ _ h => h) (Or.inl ⟨by rfl, ?hy45⟩) (by assumption) ?rest45
  case hy45 => (intro w hSw; (try dsimp only at hSw); go_simp; (try rw [if_pos (by omega)]); (try with_reducible rfl))
  simp only [Act.put, List.setIfInBounds_toArray, List.set_cons_zero, List.set_cons_succ]
  refine wpAnyH_take (i := 10) (oi := opPTake26) (v := ?v46) rfl (by kernel_rfl) (by kernel_rfl) (by kernel_rfl) (fun _ _ _ h => h) (Or.inl ⟨by rfl, ?hy46⟩) (by assumption) ?rest46
  case hy46 => (intro w hSw; (try dsimp only at hSw); go_simp; (try rw [if_pos (by omega)]); (try with_reducible rfl))
  simp only [Act.put, List.setIfInBounds_toArray, List.set_cons_zero, List.set_cons_succ]
  refine wpAnyH_take (i := 11) (oi := opPTake27) (v := ?v47) rfl (by kernel_rfl) (by kernel_rfl) (by kernel_rfl) (fun _ _ _ h => h) (Or.inl ⟨by rfl, ?hy47⟩) (by assumption) ?rest47
  case hy47 => (intro w hSw; (try dsimp only at hSw); go_simp; (try rw [if_pos (by omega)]); (try with_reducible rfl))
  simp only [Act.put, List.setIfInBounds_toArray, List.set_cons_zero, List.set_cons_succ]
  refine wpAnyH_take (i := 12) (oi := opPTake28) (v := ?v48) rfl (by kernel_rfl) (by kernel_rfl) (by kernel_rfl) (fun _ _ _ h => h) (Or.inl ⟨by rfl, ?hy48⟩) (by assumption) ?rest48
  case hy48 => (intro w hSw; (try dsimp only at hSw); go_simp; (try rw [if_pos (by omega)]); (try with_reducible rfl))
  simp only [Act.put, List.setIfInBounds_toArray, List.set_cons_zero, List.set_cons_succ]
  refine wpAnyH_take (i := 13) (oi := opPTake29) (v := ?v49) rfl (by kernel_rfl) (by kernel_rfl) (by kernel_rfl) (fun _ _ _ h => h) (Or.inl ⟨by rfl, ?hy49⟩) (by assumption) ?rest49
  case hy49 => (intro w hSw; (try dsimp only at hSw); go_simp; (try rw [if_pos (by omega)]); (try with_reducible rfl))
  simp only [Act.put, List.setIfInBounds_toArray, List.set_cons_zero, List.set_cons_succ]
  refine wpAnyH_ready (rs := [14]) (by kernel_rfl) (by simp) ?_
  refine AllReadyH.cons (o := opPTake30) rfl (fun K hK => ?_) AllReadyH.nil
  go_simp
  refine (repeat_is _ place false hr _).mono ?_
  rintro e w4 ⟨rfl, hw4⟩
  obtain rfl := hw4.symm
  clear hw4
  go_wp2_with fail
  refine hK.out _ _ (by assumption) (fun hHeld => ?_)
  clear hK K
  refine wpAnyH_take (i := 15) (oi := opPTake31) (v := ?v50) rfl (by kernel_rfl) (by kernel_rfl) (by kernel_rfl) (fun _ _ _ h => h) (Or.inl ⟨by rfl, ?hy50⟩) (by assumption) ?rest50
  case hy50 => (intro w hSw; (try dsimp only at hSw); go_simp; (try rw [if_pos (by omega)]); (try with_reducible rfl))
  simp only [Act.put, List.setIfInBounds_toArray, List.set_cons_zero, List.set_cons_succ]
  refine wpAnyH_take (i := 16) (oi := opPTake32) (v := ?v51) rfl (by kernel_rfl) (by kernel_rfl) (by kernel_rfl) (fun _ _ _ h => h) (Or.inl ⟨by rfl, ?hy51⟩) (by assumption) ?rest51
  case hy51 => (intro w hSw; (try dsimp only at hSw); go_simp; (try rw [if_pos (by omega)]); (try with_reducible rfl))
  simp only [Act.put, List.setIfInBounds_toArray, List.set_cons_zero, List.set_cons_succ]
  refine wpAnyH_done (by kernel_rfl) ?_ _
  refine NoPanic.normal ?_
  have HB4 : Hid (Below W0.heap.size W0 w3.drew) := below_drewN (unhide HB3) 1
  go_wp2_with (go_at_call 193; refine (pfault_use 1 _).mono ?_; rintro e w9 ⟨E, rfl, hE, hb9⟩)
  go_ret
  exact ⟨E, rfl, hE, (unhide HB0).trans (((unhide HB4).trans (hb9.mono (unhide HB4).size)).mono (unhide HB0).size)⟩
set_option maxHeartbeats 8000000 in
theorem take_ok0 (R k : Nat) (place n : Int) (s t : ByteArray) (w : World) (hk : k ≤ 42) (hR : w.cell? ⟨R, 0, none⟩ = some (.int .i64 place)) (hsn : w.cell? ⟨R, 1 + k, none⟩ = some (.bool false)) (hfz : w.frozen? ⟨R, 1 + k, none⟩ = false) (hm : mst k place = true) (hf : fit (k, n, s, t) = true) :
    Calls Tryz.prog 200 #[.pointer (some ⟨R, 0, none⟩), .agg #[.int .i64 (k : Int), .int .i64 n, .string s, .string t]] w (fun e w' => e = .returned .nilIface ∧ ∃ w1, Below w.heap.size w w1 ∧ w' = w1.setCell ⟨R, 1 + k, none⟩ (.bool true)) := by
  have HSH : Hid (shv (k : Int) = .agg #[.int .i64 (frm (k : Int)), .int .i64 (wid (k : Int)), .int .i64 (lst (k : Int)), .int .i64 (mx (k : Int))]) := rfl
  rw [fit_eq] at hf
  generalize frm (k : Int) = f at HSH hf
  generalize wid (k : Int) = wd at HSH
  generalize lst (k : Int) = lo at HSH hf
  generalize mx (k : Int) = hi at HSH hf
  have hRl : R < w.heap.size := cell_lt hR
  have HQ : Hid ((w.alloc (.cells #[.int .i64 (k : Int), .int .i64 n, .string s, .string t] 120)).cell? ⟨R, 1 + k, none⟩ = some (.bool false)) := by
    show _ = _
    rw [World.cell?_alloc_lt _ _ ⟨R, 1 + k, none⟩ (cell_lt hsn)]; exact hsn
  clear hsn
  have HS0 : Hid (TakeS R w.heap.size place (k : Int) n s t (w.alloc (.cells #[.int .i64 (k : Int), .int .i64 n, .string s, .string t] 120))) := takeS_box R place (k : Int) n s t w hR
  have HB0 : Hid (Below w.heap.size w (w.alloc (.cells #[.int .i64 (k : Int), .int .i64 n, .string s, .string t] 120))) := (Below.refl _ _).alloc (Nat.le_refl _) _
  clear hR
  go_enter Tryz.func200, Tryz.ntmps200
  go_wp2_with fail
  generalize w.alloc (.cells #[.int .i64 (k : Int), .int .i64 n, .string s, .string t] 120) = W0 at HS0 HB0 HQ ⊢
  refine wp_region_noPanic ?_
  refine wp_region_held_drew (S := (fun w' => w'.cell? ⟨R, 0, none⟩ = some (.int .i64 place) ∧ w'.cell? ⟨w.heap.size, 0, none⟩ = some (.int .i64 (k : Int)) ∧ w'.cell? ⟨w.heap.size, 1, none⟩ = some (.int .i64 n) ∧ w'.cell? ⟨w.heap.size, 2, none⟩ = some (.string s) ∧ w'.cell? ⟨w.heap.size, 3, none⟩ = some (.string t))) (by kernel_rfl) ((unhide HS0).below (below_drewN (Below.refl _ _) 1)) (fun hHeld => ?_)
  refine wpAnyH_take (i := 0) (oi := opPTake0) (v := ?v52) rfl (by kernel_rfl) (by kernel_rfl) (by kernel_rfl) (fun _ _ _ h => h) (Or.inl ⟨by rfl, ?hy52⟩) (by assumption) ?rest52
  case hy52 => (intro w hSw; (try dsimp only at hSw); go_simp; (try rw [if_pos (by omega)]); (try with_reducible rfl))
  simp only [Act.put, List.setIfInBounds_toArray, List.set_cons_zero, List.set_cons_succ]
  refine wpAnyH_take (i := 1) (oi := opPTake1) (v := ?v53) rfl (by kernel_rfl) (by kernel_rfl) (by kernel_rfl) (fun _ _ _ h => h) (Or.inl ⟨by rfl, ?hy53⟩) (by assumption) ?rest53
  case hy53 => (intro w hSw; (try dsimp only at hSw); go_simp; (try rw [if_pos (by omega)]); (try with_reducible rfl))
  simp only [Act.put, List.setIfInBounds_toArray, List.set_cons_zero, List.set_cons_succ]
  refine wpAnyH_take (i := 2) (oi := opPTake2) (v := ?v54) rfl (by kernel_rfl) (by kernel_rfl) (by kernel_rfl) (fun _ _ _ h => h) (Or.inl ⟨by rfl, ?hy54⟩) (by assumption) ?rest54
  case hy54 => (intro w hSw; (try dsimp only at hSw); go_simp; (try rw [if_pos (by omega)]); (try with_reducible rfl))
  simp only [Act.put, List.setIfInBounds_toArray, List.set_cons_zero, List.set_cons_succ]
  refine wpAnyH_take (i := 3) (oi := opPTake3) (v := ?v55) rfl (by kernel_rfl) (by kernel_rfl) (by kernel_rfl) (fun _ _ _ h => h) (Or.inl ⟨by rfl, ?hy55⟩) (by assumption) ?rest55
  case hy55 => (intro w hSw; (try dsimp only at hSw); go_simp; (try rw [if_pos (by omega)]); (try with_reducible rfl))
  simp only [Act.put, List.setIfInBounds_toArray, List.set_cons_zero, List.set_cons_succ]
  refine wpAnyH_take (i := 4) (oi := opPTake4) (v := ?v56) rfl (by kernel_rfl) (by kernel_rfl) (by kernel_rfl) (fun _ _ _ h => h) (Or.inl ⟨by rfl, ?hy56⟩) (by assumption) ?rest56
  case hy56 => (intro w hSw; (try dsimp only at hSw); go_simp; (try rw [if_pos (by omega)]); (try with_reducible rfl))
  simp only [Act.put, List.setIfInBounds_toArray, List.set_cons_zero, List.set_cons_succ]
  refine wpAnyH_take (i := 5) (oi := opPTake5) (v := ?v57) rfl (by kernel_rfl) (by kernel_rfl) (by kernel_rfl) (fun _ _ _ h => h) (Or.inl ⟨by rfl, ?hy57⟩) (by assumption) ?rest57
  case hy57 => (intro w hSw; (try dsimp only at hSw); go_simp; (try rw [if_pos (by omega)]); (try with_reducible rfl))
  simp only [Act.put, List.setIfInBounds_toArray, List.set_cons_zero, List.set_cons_succ]
  refine wpAnyH_ready (rs := [6]) (by kernel_rfl) (by simp) ?_
  refine AllReadyH.cons (o := opPTake6) rfl (fun K hK => ?_) AllReadyH.nil
  go_simp
  refine (stand_use _ place true hm _).mono ?_
  rintro e w1 ⟨rfl, hb1⟩
  have HB1 : Hid (Below W0.heap.size W0 w1) := below_undrew1 hb1
  have HS1 : Hid (TakeS R w.heap.size place (k : Int) n s t w1) := (unhide HS0).below (unhide HB1)
  clear hb1
  go_wp2_with fail
  refine hK.out _ _ (by exact unhide HS1) (fun hHeld => ?_)
  clear hK K
  refine wpAnyH_take (i := 7) (oi := opPTake7) (v := ?v58) rfl (by kernel_rfl) (by kernel_rfl) (by kernel_rfl) (fun _ _ _ h => h) (Or.inl ⟨by rfl, ?hy58⟩) (by assumption) ?rest58
  case hy58 => (intro w hSw; (try dsimp only at hSw); go_simp; (try rw [if_pos (by omega)]); (try with_reducible rfl))
  simp only [Act.put, List.setIfInBounds_toArray, List.set_cons_zero, List.set_cons_succ]
  refine wpAnyH_take (i := 8) (oi := opPTake8) (v := ?v59) rfl (by kernel_rfl) (by kernel_rfl) (by kernel_rfl) (fun _ _ _ h => h) (Or.inl ⟨by rfl, ?hy59⟩) (by assumption) ?rest59
  case hy59 => (intro w hSw; (try dsimp only at hSw); go_simp; (try rw [if_pos (by omega)]); (try with_reducible rfl))
  simp only [Act.put, List.setIfInBounds_toArray, List.set_cons_zero, List.set_cons_succ]
  refine wpAnyH_take (i := 9) (oi := opPTake9) (v := ?v60) rfl (by kernel_rfl) (by kernel_rfl) (by kernel_rfl) (fun _ _ _ h => h) (Or.inl ⟨by rfl, ?hy60⟩) (by assumption) ?rest60
  case hy60 => (intro w hSw; (try dsimp only at hSw); go_simp; (try rw [if_pos (by omega)]); (try with_reducible rfl))
  simp only [Act.put, List.setIfInBounds_toArray, List.set_cons_zero, List.set_cons_succ]
  refine wpAnyH_take (i := 10) (oi := opPTake10) (v := ?v61) rfl (by kernel_rfl) (by kernel_rfl) (by kernel_rfl) (fun _ _ _ h => h) (Or.inl ⟨by rfl, ?hy61⟩) (by assumption) ?rest61
  case hy61 => (intro w hSw; (try dsimp only at hSw); go_simp; (try rw [if_pos (by omega)]); (try with_reducible rfl))
  simp only [Act.put, List.setIfInBounds_toArray, List.set_cons_zero, List.set_cons_succ]
  refine wpAnyH_take (i := 12) (oi := opPTake12) (v := ?v62) rfl (by kernel_rfl) (by kernel_rfl) (by kernel_rfl) (fun _ _ _ h => h) (Or.inl ⟨by rfl, ?hy62⟩) (by assumption) ?rest62
  case hy62 => (intro w hSw; (try dsimp only at hSw); go_simp; (try rw [if_pos (by omega)]); (try with_reducible rfl))
  simp only [Act.put, List.setIfInBounds_toArray, List.set_cons_zero, List.set_cons_succ]
  refine wpAnyH_ready (rs := [11]) (by kernel_rfl) (by simp) ?_
  refine AllReadyH.cons (o := opPTake11) rfl (fun K hK => ?_) AllReadyH.nil
  go_simp
  refine (shape_use _ f wd lo hi (unhide HSH) _).mono ?_
  rintro e w2 ⟨rfl, hb2⟩
  have HB2 : Hid (Below W0.heap.size W0 w2) := (unhide HB1).trans (hb2.mono (unhide HB1).size)
  have HS2 : Hid (TakeS R w.heap.size place (k : Int) n s t w2) := (unhide HS0).below (unhide HB2)
  clear hb2 HB1 HS1
  go_wp2_with fail
  refine hK.out _ _ (by exact unhide HS2) (fun hHeld => ?_)
  clear hK K
  refine wpAnyH_ready (rs := [13]) (by kernel_rfl) (by simp) ?_
  refine AllReadyH.cons (o := opPTake13) rfl (fun K hK => ?_) AllReadyH.nil
  go_simp
  refine (fits_is f wd lo hi _ n s t true hf _).mono ?_
  rintro e w3 ⟨rfl, hb3⟩
  have HB3 : Hid (Below W0.heap.size W0 w3) := (unhide HB2).trans (hb3.mono (unhide HB2).size)
  have HS3 : Hid (TakeS R w.heap.size place (k : Int) n s t w3) := (unhide HS0).below (unhide HB3)
  clear hb3 HB2 HS2
  go_wp2_with fail
  refine hK.out _ _ (by exact unhide HS3) (fun hHeld => ?_)
  clear hK K
  refine wpAnyH_take (i := 14) (oi := opPTake14) (v := ?v63) rfl (by kernel_rfl) (by kernel_rfl) (by kernel_rfl) (fun _ _ _ h => h) (Or.inl ⟨by rfl, ?hy63⟩) (by assumption) ?rest63
  case hy63 => (intro w hSw; (try dsimp only at hSw); go_simp; (try rw [if_pos (by omega)]); (try with_reducible rfl))
  simp only [Act.put, List.setIfInBounds_toArray, List.set_cons_zero, List.set_cons_succ]
  refine wpAnyH_take (i := 15) (oi := opPTake15) (v := ?v64) rfl (by kernel_rfl) (by kernel_rfl) (by kernel_rfl) (fun _ _ _ h => h) (Or.inl ⟨by rfl, ?hy64⟩) (by assumption) ?rest64
  case hy64 => (intro w hSw; (try dsimp only at hSw); go_simp; (try rw [if_pos (by omega)]); (try with_reducible rfl))
  simp only [Act.put, List.setIfInBounds_toArray, List.set_cons_zero, List.set_cons_succ]
  refine wpAnyH_done (by kernel_rfl) ?_ _
  refine NoPanic.normal ?_
  have HQ0 : Hid (W0.cell? ⟨R, 1 + k, none⟩ = some (.bool false)) := by show _ = _; exact unhide HQ
  have HQ3 : Hid (w3.cell? ⟨R, 1 + k, none⟩ = some (.bool false)) := ((unhide HB3).cell (cell_lt (unhide HQ0))).trans (unhide HQ0)
  go_wp2_with fail
  refine wp_region_noPanic ?_
  refine wp_region_held_drew (S := (fun w' => w'.cell? ⟨R, 0, none⟩ = some (.int .i64 place) ∧ w'.cell? ⟨w.heap.size, 0, none⟩ = some (.int .i64 (k : Int)) ∧ w'.cell? ⟨R, 1 + k, none⟩ = some (.bool false))) (by kernel_rfl) ⟨(unhide HS3).1, (unhide HS3).2.1, unhide HQ3⟩ (fun hHeld => ?_)
  refine wpAnyH_take (i := 0) (oi := opPTake16) (v := ?v65) rfl (by kernel_rfl) (by kernel_rfl) (by kernel_rfl) (fun _ _ _ h => h) (Or.inl ⟨by rfl, ?hy65⟩) (by assumption) ?rest65
  case hy65 => (intro w hSw; (try dsimp only at hSw); go_simp; (try rw [if_pos (by omega)]); (try with_reducible rfl))
  simp only [Act.put, List.setIfInBounds_toArray, List.set_cons_zero, List.set_cons_succ]
  refine wpAnyH_take (i := 1) (oi := opPTake17) (v := ?v66) rfl (by kernel_rfl) (by kernel_rfl) (by kernel_rfl) (fun _ _ _ h => h) (Or.inl ⟨by rfl, ?hy66⟩) (by assumption) ?rest66
  case hy66 => (intro w hSw; (try dsimp only at hSw); go_simp; (try rw [if_pos (by omega)]); (try with_reducible rfl))
  simp only [Act.put, List.setIfInBounds_toArray, List.set_cons_zero, List.set_cons_succ]
  refine wpAnyH_take (i := 2) (oi := opPTake18) (v := ?v67) rfl (by kernel_rfl) (by kernel_rfl) (by kernel_rfl) (fun _ _ _ h => h) (Or.inl ⟨by rfl, ?hy67⟩) (by assumption) ?rest67
  case hy67 => (intro w hSw; (try dsimp only at hSw); go_simp; (try rw [if_pos (by omega)]); (try with_reducible rfl))
  simp only [Act.put, List.setIfInBounds_toArray, List.set_cons_zero, List.set_cons_succ]
  refine wpAnyH_take (i := 3) (oi := opPTake19) (v := ?v68) rfl (by kernel_rfl) (by kernel_rfl) (by kernel_rfl) (fun _ _ _ h => h) (Or.inl ⟨by rfl, ?hy68⟩) (by assumption) ?rest68
  case hy68 => (intro w hSw; (try dsimp only at hSw); go_simp; (try rw [if_pos (by omega)]); (try with_reducible rfl))
  simp only [Act.put, List.setIfInBounds_toArray, List.set_cons_zero, List.set_cons_succ]
  refine wpAnyH_take (i := 4) (oi := opPTake20) (v := ?v69) rfl (by kernel_rfl) (by kernel_rfl) (by kernel_rfl) (fun _ _ _ h => h) (Or.inl ⟨by rfl, ?hy69⟩) (by assumption) ?rest69
  case hy69 => (intro w hSw; (try dsimp only at hSw); go_simp; (try rw [if_pos (by omega)]); (try with_reducible rfl))
  simp only [Act.put, List.setIfInBounds_toArray, List.set_cons_zero, List.set_cons_succ]
  refine wpAnyH_take (i := 5) (oi := opPTake21) (v := ?v70) rfl (by kernel_rfl) (by kernel_rfl) (by kernel_rfl) (fun _ _ _ h => h) (Or.inl ⟨by rfl, ?hy70⟩) (by assumption) ?rest70
  case hy70 => (intro w hSw; (try dsimp only at hSw); go_simp; (try rw [if_pos (by omega)]); (try with_reducible rfl))
  simp only [Act.put, List.setIfInBounds_toArray, List.set_cons_zero, List.set_cons_succ]
  refine wpAnyH_take (i := 6) (oi := opPTake22) (v := ?v71) rfl (by kernel_rfl) (by kernel_rfl) (by kernel_rfl) (fun _ _ _ h => h) (Or.inl ⟨by rfl, ?hy71⟩) (by assumption) ?rest71
  case hy71 => (intro w hSw; (try dsimp only at hSw); go_simp; (try rw [if_pos (by omega)]); (try with_reducible rfl))
  simp only [Act.put, List.setIfInBounds_toArray, List.set_cons_zero, List.set_cons_succ]
  refine wpAnyH_take (i := 7) (oi := opPTake23) (v := ?v72) rfl (by kernel_rfl) (by kernel_rfl) (by kernel_rfl) (fun _ _ _ h => h) (Or.inl ⟨by rfl, ?hy72⟩) (by assumption) ?rest72
  case hy72 => (intro w hSw; (try dsimp only at hSw); go_simp; (try rw [if_pos (by omega)]); (try with_reducible rfl))
  simp only [Act.put, List.setIfInBounds_toArray, List.set_cons_zero, List.set_cons_succ]
  refine wpAnyH_take (i := 8) (oi := opPTake24) (v := undef) rfl (by kernel_rfl) (by kernel_rfl) (by kernel_rfl) (fun _ _ _ h => h) (Or.inr ⟨by rfl, rfl⟩) (by assumption) ?_
  simp only [Act.put, List.setIfInBounds_toArray, List.set_cons_zero, List.set_cons_succ]
  refine wpAnyH_take (i := 9) (oi := opPTake25) (v := undef) rfl (by kernel_rfl) (by kernel_rfl) (by kernel_rfl) (fun _ _ _ h => h) (Or.inr ⟨by rfl, rfl⟩) (by assumption) ?_
  simp only [Act.put, List.setIfInBounds_toArray, List.set_cons_zero, List.set_cons_succ]
  refine wpAnyH_take (i := 10) (oi := opPTake26) (v := undef) rfl (by kernel_rfl) (by kernel_rfl) (by kernel_rfl) (fun _ _ _ h => h) (Or.inr ⟨by rfl, rfl⟩) (by assumption) ?_
  simp only [Act.put, List.setIfInBounds_toArray, List.set_cons_zero, List.set_cons_succ]
  refine wpAnyH_take (i := 11) (oi := opPTake27) (v := undef) rfl (by kernel_rfl) (by kernel_rfl) (by kernel_rfl) (fun _ _ _ h => h) (Or.inr ⟨by rfl, rfl⟩) (by assumption) ?_
  simp only [Act.put, List.setIfInBounds_toArray, List.set_cons_zero, List.set_cons_succ]
  refine wpAnyH_take (i := 12) (oi := opPTake28) (v := undef) rfl (by kernel_rfl) (by kernel_rfl) (by kernel_rfl) (fun _ _ _ h => h) (Or.inr ⟨by rfl, rfl⟩) (by assumption) ?_
  simp only [Act.put, List.setIfInBounds_toArray, List.set_cons_zero, List.set_cons_succ]
  refine wpAnyH_take (i := 13) (oi := opPTake29) (v := undef) rfl (by kernel_rfl) (by kernel_rfl) (by kernel_rfl) (fun _ _ _ h => h) (Or.inr ⟨by rfl, rfl⟩) (by assumption) ?_
  simp only [Act.put, List.setIfInBounds_toArray, List.set_cons_zero, List.set_cons_succ]
  refine wpAnyH_take (i := 14) (oi := opPTake30) (v := undef) rfl (by kernel_rfl) (by kernel_rfl) (by kernel_rfl) (fun _ _ _ h => h) (Or.inr ⟨by rfl, rfl⟩) (by assumption) ?_
  simp only [Act.put, List.setIfInBounds_toArray, List.set_cons_zero, List.set_cons_succ]
  refine wpAnyH_take (i := 15) (oi := opPTake31) (v := undef) rfl (by kernel_rfl) (by kernel_rfl) (by kernel_rfl) (fun _ _ _ h => h) (Or.inr ⟨by rfl, rfl⟩) (by assumption) ?_
  simp only [Act.put, List.setIfInBounds_toArray, List.set_cons_zero, List.set_cons_succ]
  refine wpAnyH_take (i := 16) (oi := opPTake32) (v := ?v73) rfl (by kernel_rfl) (by kernel_rfl) (by kernel_rfl) (fun _ _ _ h => h) (Or.inl ⟨by rfl, ?hy73⟩) (by assumption) ?rest73
  case hy73 => (intro w hSw; (try dsimp only at hSw); go_simp; (try rw [if_pos (by omega)]); (try with_reducible rfl))
  simp only [Act.put, List.setIfInBounds_toArray, List.set_cons_zero, List.set_cons_succ]
  refine wpAnyH_done (by kernel_rfl) ?_ _
  refine NoPanic.normal ?_
  have hq4 : w3.drew.cell? ⟨R, 1 + k, none⟩ = some (.bool false) := by exact unhide HQ3
  have hx4 : w3.drew.cell? ⟨w.heap.size, 0, none⟩ = some (.int .i64 (k : Int)) := by exact (unhide HS3).2.1
  have HB4 : Hid (Below w.heap.size w w3.drew) := below_drewN ((unhide HB0).trans ((unhide HB3).mono (unhide HB0).size)) 1
  have hz4 : w3.drew.frozen? ⟨R, 1 + k, none⟩ = false := ((unhide HB4).frozen (p := ⟨R, 1 + k, none⟩) hRl).trans hfz
  clear HB3 HS3 HQ3 HQ0 HS0 HB0 HQ hfz HSH hf hm hHeld
  generalize w3.drew = w4 at hq4 hx4 HB4 hz4 ⊢
  go_wp2_with fail
  refine wp_region_noPanic ?_
  refine wp_region_held_drew (S := (fun w' => w'.cell? ⟨w.heap.size, 0, none⟩ = some (.int .i64 (k : Int)))) (by kernel_rfl) (by exact hx4) (fun hHeld => ?_)
  refine wpAnyH_take (i := 0) (oi := opPTake33) (v := ?v74) rfl (by kernel_rfl) (by kernel_rfl) (by kernel_rfl) (fun _ _ _ h => h) (Or.inl ⟨by rfl, ?hy74⟩) (by assumption) ?rest74
  case hy74 => (intro w hSw; (try dsimp only at hSw); go_simp; (try rw [if_pos (by omega)]); (try with_reducible rfl))
  simp only [Act.put, List.setIfInBounds_toArray, List.set_cons_zero, List.set_cons_succ]
  refine wpAnyH_take (i := 1) (oi := opPTake34) (v := ?v75) rfl (by kernel_rfl) (by kernel_rfl) (by kernel_rfl) (fun _ _ _ h => h) (Or.inl ⟨by rfl, ?hy75⟩) (by assumption) ?rest75
  case hy75 => (intro w hSw; (try dsimp only at hSw); go_simp; (try rw [if_pos (by omega)]); (try with_reducible rfl))
  simp only [Act.put, List.setIfInBounds_toArray, List.set_cons_zero, List.set_cons_succ]
  refine wpAnyH_take (i := 2) (oi := opPTake35) (v := ?v76) rfl (by kernel_rfl) (by kernel_rfl) (by kernel_rfl) (fun _ _ _ h => h) (Or.inl ⟨by rfl, ?hy76⟩) (by assumption) ?rest76
  case hy76 => (intro w hSw; (try dsimp only at hSw); go_simp; (try rw [if_pos (by omega)]); (try with_reducible rfl))
  simp only [Act.put, List.setIfInBounds_toArray, List.set_cons_zero, List.set_cons_succ]
  refine wpAnyH_take (i := 3) (oi := opPTake36) (v := ?v77) rfl (by kernel_rfl) (by kernel_rfl) (by kernel_rfl) (fun _ _ _ h => h) (Or.inl ⟨by rfl, ?hy77⟩) (by assumption) ?rest77
  case hy77 => (intro w hSw; (try dsimp only at hSw); go_simp; (try rw [if_pos (by omega)]); (try with_reducible rfl))
  simp only [Act.put, List.setIfInBounds_toArray, List.set_cons_zero, List.set_cons_succ]
  refine wpAnyH_take (i := 4) (oi := opPTake37) (v := ?v78) rfl (by kernel_rfl) (by kernel_rfl) (by kernel_rfl) (fun _ _ _ h => h) (Or.inl ⟨by rfl, ?hy78⟩) (by assumption) ?rest78
  case hy78 => (intro w hSw; (try dsimp only at hSw); go_simp; (try rw [if_pos (by omega)]); (try with_reducible rfl))
  simp only [Act.put, List.setIfInBounds_toArray, List.set_cons_zero, List.set_cons_succ]
  refine wpAnyH_take (i := 5) (oi := opPTake38) (v := ?v79) rfl (by kernel_rfl) (by kernel_rfl) (by kernel_rfl) (fun _ _ _ h => h) (Or.inl ⟨by rfl, ?hy79⟩) (by assumption) ?rest79
  case hy79 => (intro w hSw; (try dsimp only at hSw); go_simp; (try rw [if_pos (by omega)]); (try with_reducible rfl))
  simp only [Act.put, List.setIfInBounds_toArray, List.set_cons_zero, List.set_cons_succ]
  have hq5 : w4.drew.cell? ⟨R, 1 + k, none⟩ = some (.bool false) := hq4
  have hz5 : w4.drew.frozen? ⟨R, 1 + k, none⟩ = false := hz4
  refine wpAnyH_ready (rs := [6]) (by kernel_rfl) (by simp) ?_
  refine AllReadyH.cons (o := opPTake39) rfl (fun K hK => ?_) AllReadyH.nil
  go_simp
  refine hK.out _ _ (by show (w4.setCell ⟨R, 1 + k, none⟩ (.bool true)).cell? _ = _; rw [World.cell?_setCell_far _ _ _ _ (by simp; omega)]; exact hx4) (fun hHeld => ?_)
  clear hK K
  refine wpAnyH_done (by kernel_rfl) ?_ _
  refine NoPanic.normal ?_
  go_wp2
  go_ret
  exact ⟨rfl, w4.drew, below_drewN (unhide HB4) 1, rfl⟩
set_option maxHeartbeats 8000000 in
theorem take_ok1 (R k : Nat) (place n : Int) (s t : ByteArray) (w : World) (hk : k ≤ 42) (hR : w.cell? ⟨R, 0, none⟩ = some (.int .i64 place)) (hsn : w.cell? ⟨R, 1 + k, none⟩ = some (.bool true)) (hfz : w.frozen? ⟨R, 1 + k, none⟩ = false) (hm : mst k place = true) (hf : fit (k, n, s, t) = true) (hr : rep k place = true) :
    Calls Tryz.prog 200 #[.pointer (some ⟨R, 0, none⟩), .agg #[.int .i64 (k : Int), .int .i64 n, .string s, .string t]] w (fun e w' => e = .returned .nilIface ∧ ∃ w1, Below w.heap.size w w1 ∧ w' = w1.setCell ⟨R, 1 + k, none⟩ (.bool true)) := by
  have HSH : Hid (shv (k : Int) = .agg #[.int .i64 (frm (k : Int)), .int .i64 (wid (k : Int)), .int .i64 (lst (k : Int)), .int .i64 (mx (k : Int))]) := rfl
  rw [fit_eq] at hf
  generalize frm (k : Int) = f at HSH hf
  generalize wid (k : Int) = wd at HSH
  generalize lst (k : Int) = lo at HSH hf
  generalize mx (k : Int) = hi at HSH hf
  have hRl : R < w.heap.size := cell_lt hR
  have HQ : Hid ((w.alloc (.cells #[.int .i64 (k : Int), .int .i64 n, .string s, .string t] 120)).cell? ⟨R, 1 + k, none⟩ = some (.bool true)) := by
    show _ = _
    rw [World.cell?_alloc_lt _ _ ⟨R, 1 + k, none⟩ (cell_lt hsn)]; exact hsn
  clear hsn
  have HS0 : Hid (TakeS R w.heap.size place (k : Int) n s t (w.alloc (.cells #[.int .i64 (k : Int), .int .i64 n, .string s, .string t] 120))) := takeS_box R place (k : Int) n s t w hR
  have HB0 : Hid (Below w.heap.size w (w.alloc (.cells #[.int .i64 (k : Int), .int .i64 n, .string s, .string t] 120))) := (Below.refl _ _).alloc (Nat.le_refl _) _
  clear hR
  go_enter Tryz.func200, Tryz.ntmps200
  go_wp2_with fail
  generalize w.alloc (.cells #[.int .i64 (k : Int), .int .i64 n, .string s, .string t] 120) = W0 at HS0 HB0 HQ ⊢
  refine wp_region_noPanic ?_
  refine wp_region_held_drew (S := (fun w' => w'.cell? ⟨R, 0, none⟩ = some (.int .i64 place) ∧ w'.cell? ⟨w.heap.size, 0, none⟩ = some (.int .i64 (k : Int)) ∧ w'.cell? ⟨w.heap.size, 1, none⟩ = some (.int .i64 n) ∧ w'.cell? ⟨w.heap.size, 2, none⟩ = some (.string s) ∧ w'.cell? ⟨w.heap.size, 3, none⟩ = some (.string t))) (by kernel_rfl) ((unhide HS0).below (below_drewN (Below.refl _ _) 1)) (fun hHeld => ?_)
  refine wpAnyH_take (i := 0) (oi := opPTake0) (v := ?v80) rfl (by kernel_rfl) (by kernel_rfl) (by kernel_rfl) (fun _ _ _ h => h) (Or.inl ⟨by rfl, ?hy80⟩) (by assumption) ?rest80
  case hy80 => (intro w hSw; (try dsimp only at hSw); go_simp; (try rw [if_pos (by omega)]); (try with_reducible rfl))
  simp only [Act.put, List.setIfInBounds_toArray, List.set_cons_zero, List.set_cons_succ]
  refine wpAnyH_take (i := 1) (oi := opPTake1) (v := ?v81) rfl (by kernel_rfl) (by kernel_rfl) (by kernel_rfl) (fun _ _ _ h => h) (Or.inl ⟨by rfl, ?hy81⟩) (by assumption) ?rest81
  case hy81 => (intro w hSw; (try dsimp only at hSw); go_simp; (try rw [if_pos (by omega)]); (try with_reducible rfl))
  simp only [Act.put, List.setIfInBounds_toArray, List.set_cons_zero, List.set_cons_succ]
  refine wpAnyH_take (i := 2) (oi := opPTake2) (v := ?v82) rfl (by kernel_rfl) (by kernel_rfl) (by kernel_rfl) (fun _ _ _ h => h) (Or.inl ⟨by rfl, ?hy82⟩) (by assumption) ?rest82
  case hy82 => (intro w hSw; (try dsimp only at hSw); go_simp; (try rw [if_pos (by omega)]); (try with_reducible rfl))
  simp only [Act.put, List.setIfInBounds_toArray, List.set_cons_zero, List.set_cons_succ]
  refine wpAnyH_take (i := 3) (oi := opPTake3) (v := ?v83) rfl (by kernel_rfl) (by kernel_rfl) (by kernel_rfl) (fun _ _ _ h => h) (Or.inl ⟨by rfl, ?hy83⟩) (by assumption) ?rest83
  case hy83 => (intro w hSw; (try dsimp only at hSw); go_simp; (try rw [if_pos (by omega)]); (try with_reducible rfl))
  simp only [Act.put, List.setIfInBounds_toArray, List.set_cons_zero, List.set_cons_succ]
  refine wpAnyH_take (i := 4) (oi := opPTake4) (v := ?v84) rfl (by kernel_rfl) (by kernel_rfl) (by kernel_rfl) (fun _ _ _ h => h) (Or.inl ⟨by rfl, ?hy84⟩) (by assumption) ?rest84
  case hy84 => (intro w hSw; (try dsimp only at hSw); go_simp; (try rw [if_pos (by omega)]); (try with_reducible rfl))
  simp only [Act.put, List.setIfInBounds_toArray, List.set_cons_zero, List.set_cons_succ]
  refine wpAnyH_take (i := 5) (oi := opPTake5) (v := ?v85) rfl (by kernel_rfl) (by kernel_rfl) (by kernel_rfl) (fun _ _ _ h => h) (Or.inl ⟨by rfl, ?hy85⟩) (by assumption) ?rest85
  case hy85 => (intro w hSw; (try dsimp only at hSw); go_simp; (try rw [if_pos (by omega)]); (try with_reducible rfl))
  simp only [Act.put, List.setIfInBounds_toArray, List.set_cons_zero, List.set_cons_succ]
  refine wpAnyH_ready (rs := [6]) (by kernel_rfl) (by simp) ?_
  refine AllReadyH.cons (o := opPTake6) rfl (fun K hK => ?_) AllReadyH.nil
  go_simp
  refine (stand_use _ place true hm _).mono ?_
  rintro e w1 ⟨rfl, hb1⟩
  have HB1 : Hid (Below W0.heap.size W0 w1) := below_undrew1 hb1
  have HS1 : Hid (TakeS R w.heap.size place (k : Int) n s t w1) := (unhide HS0).below (unhide HB1)
  clear hb1
  go_wp2_with fail
  refine hK.out _ _ (by exact unhide HS1) (fun hHeld => ?_)
  clear hK K
  refine wpAnyH_take (i := 7) (oi := opPTake7) (v := ?v86) rfl (by kernel_rfl) (by kernel_rfl) (by kernel_rfl) (fun _ _ _ h => h) (Or.inl ⟨by rfl, ?hy86⟩) (by assumption) ?rest86
  case hy86 => (intro w hSw; (try dsimp only at hSw); go_simp; (try rw [if_pos (by omega)]); (try with_reducible rfl))
  simp only [Act.put, List.setIfInBounds_toArray, List.set_cons_zero, List.set_cons_succ]
  refine wpAnyH_take (i := 8) (oi := opPTake8) (v := ?v87) rfl (by kernel_rfl) (by kernel_rfl) (by kernel_rfl) (fun _ _ _ h => h) (Or.inl ⟨by rfl, ?hy87⟩) (by assumption) ?rest87
  case hy87 => (intro w hSw; (try dsimp only at hSw); go_simp; (try rw [if_pos (by omega)]); (try with_reducible rfl))
  simp only [Act.put, List.setIfInBounds_toArray, List.set_cons_zero, List.set_cons_succ]
  refine wpAnyH_take (i := 9) (oi := opPTake9) (v := ?v88) rfl (by kernel_rfl) (by kernel_rfl) (by kernel_rfl) (fun _ _ _ h => h) (Or.inl ⟨by rfl, ?hy88⟩) (by assumption) ?rest88
  case hy88 => (intro w hSw; (try dsimp only at hSw); go_simp; (try rw [if_pos (by omega)]); (try with_reducible rfl))
  simp only [Act.put, List.setIfInBounds_toArray, List.set_cons_zero, List.set_cons_succ]
  refine wpAnyH_take (i := 10) (oi := opPTake10) (v := ?v89) rfl (by kernel_rfl) (by kernel_rfl) (by kernel_rfl) (fun _ _ _ h => h) (Or.inl ⟨by rfl, ?hy89⟩) (by assumption) ?rest89
  case hy89 => (intro w hSw; (try dsimp only at hSw); go_simp; (try rw [if_pos (by omega)]); (try with_reducible rfl))
  simp only [Act.put, List.setIfInBounds_toArray, List.set_cons_zero, List.set_cons_succ]
  refine wpAnyH_take (i := 12) (oi := opPTake12) (v := ?v90) rfl (by kernel_rfl) (by kernel_rfl) (by kernel_rfl) (fun _ _ _ h => h) (Or.inl ⟨by rfl, ?hy90⟩) (by assumption) ?rest90
  case hy90 => (intro w hSw; (try dsimp only at hSw); go_simp; (try rw [if_pos (by omega)]); (try with_reducible rfl))
  simp only [Act.put, List.setIfInBounds_toArray, List.set_cons_zero, List.set_cons_succ]
  refine wpAnyH_ready (rs := [11]) (by kernel_rfl) (by simp) ?_
  refine AllReadyH.cons (o := opPTake11) rfl (fun K hK => ?_) AllReadyH.nil
  go_simp
  refine (shape_use _ f wd lo hi (unhide HSH) _).mono ?_
  rintro e w2 ⟨rfl, hb2⟩
  have HB2 : Hid (Below W0.heap.size W0 w2) := (unhide HB1).trans (hb2.mono (unhide HB1).size)
  have HS2 : Hid (TakeS R w.heap.size place (k : Int) n s t w2) := (unhide HS0).below (unhide HB2)
  clear hb2 HB1 HS1
  go_wp2_with fail
  refine hK.out _ _ (by exact unhide HS2) (fun hHeld => ?_)
  clear hK K
  refine wpAnyH_ready (rs := [13]) (by kernel_rfl) (by simp) ?_
  refine AllReadyH.cons (o := opPTake13) rfl (fun K hK => ?_) AllReadyH.nil
  go_simp
  refine (fits_is f wd lo hi _ n s t true hf _).mono ?_
  rintro e w3 ⟨rfl, hb3⟩
  have HB3 : Hid (Below W0.heap.size W0 w3) := (unhide HB2).trans (hb3.mono (unhide HB2).size)
  have HS3 : Hid (TakeS R w.heap.size place (k : Int) n s t w3) := (unhide HS0).below (unhide HB3)
  clear hb3 HB2 HS2
  go_wp2_with fail
  refine hK.out _ _ (by exact unhide HS3) (fun hHeld => ?_)
  clear hK K
  refine wpAnyH_take (i := 14) (oi := opPTake14) (v := ?v91) rfl (by kernel_rfl) (by kernel_rfl) (by kernel_rfl) (fun _ _ _ h => h) (Or.inl ⟨by rfl, ?hy91⟩) (by assumption) ?rest91
  case hy91 => (intro w hSw; (try dsimp only at hSw); go_simp; (try rw [if_pos (by omega)]); (try with_reducible rfl))
  simp only [Act.put, List.setIfInBounds_toArray, List.set_cons_zero, List.set_cons_succ]
  refine wpAnyH_take (i := 15) (oi := opPTake15) (v := ?v92) rfl (by kernel_rfl) (by kernel_rfl) (by kernel_rfl) (fun _ _ _ h => h) (Or.inl ⟨by rfl, ?hy92⟩) (by assumption) ?rest92
  case hy92 => (intro w hSw; (try dsimp only at hSw); go_simp; (try rw [if_pos (by omega)]); (try with_reducible rfl))
  simp only [Act.put, List.setIfInBounds_toArray, List.set_cons_zero, List.set_cons_succ]
  refine wpAnyH_done (by kernel_rfl) ?_ _
  refine NoPanic.normal ?_
  have HQ0 : Hid (W0.cell? ⟨R, 1 + k, none⟩ = some (.bool true)) := by show _ = _; exact unhide HQ
  have HQ3 : Hid (w3.cell? ⟨R, 1 + k, none⟩ = some (.bool true)) := ((unhide HB3).cell (cell_lt (unhide HQ0))).trans (unhide HQ0)
  go_wp2_with fail
  refine wp_region_noPanic ?_
  refine wp_region_held_drew (S := (fun w' => w'.cell? ⟨R, 0, none⟩ = some (.int .i64 place) ∧ w'.cell? ⟨w.heap.size, 0, none⟩ = some (.int .i64 (k : Int)) ∧ w'.cell? ⟨R, 1 + k, none⟩ = some (.bool true))) (by kernel_rfl) ⟨(unhide HS3).1, (unhide HS3).2.1, unhide HQ3⟩ (fun hHeld => ?_)
  refine wpAnyH_take (i := 0) (oi := opPTake16) (v := ?v93) rfl (by kernel_rfl) (by kernel_rfl) (by kernel_rfl) (fun _ _ _ h => h) (Or.inl ⟨by rfl, ?hy93⟩) (by assumption) ?rest93
  case hy93 => (intro w hSw; (try dsimp only at hSw); go_simp; (try rw [if_pos (by omega)]); (try with_reducible rfl))
  simp only [Act.put, List.setIfInBounds_toArray, List.set_cons_zero, List.set_cons_succ]
  refine wpAnyH_take (i := 1) (oi := opPTake17) (v := ?v94) rfl (by kernel_rfl) (by kernel_rfl) (by kernel_rfl) (fun _ _ _ h => h) (Or.inl ⟨by rfl, ?hy94⟩) (by assumption) ?rest94
  case hy94 => (intro w hSw; (try dsimp only at hSw); go_simp; (try rw [if_pos (by omega)]); (try with_reducible rfl))
  simp only [Act.put, List.setIfInBounds_toArray, List.set_cons_zero, List.set_cons_succ]
  refine wpAnyH_take (i := 2) (oi := opPTake18) (v := ?v95) rfl (by kernel_rfl) (by kernel_rfl) (by kernel_rfl) (fun _ _ _ h => h) (Or.inl ⟨by rfl, ?hy95⟩) (by assumption) ?rest95
  case hy95 => (intro w hSw; (try dsimp only at hSw); go_simp; (try rw [if_pos (by omega)]); (try with_reducible rfl))
  simp only [Act.put, List.setIfInBounds_toArray, List.set_cons_zero, List.set_cons_succ]
  refine wpAnyH_take (i := 3) (oi := opPTake19) (v := ?v96) rfl (by kernel_rfl) (by kernel_rfl) (by kernel_rfl) (fun _ _ _ h => h) (Or.inl ⟨by rfl, ?hy96⟩) (by assumption) ?rest96
  case hy96 => (intro w hSw; (try dsimp only at hSw); go_simp; (try rw [if_pos (by omega)]); (try with_reducible rfl))
  simp only [Act.put, List.setIfInBounds_toArray, List.set_cons_zero, List.set_cons_succ]
  refine wpAnyH_take (i := 4) (oi := opPTake20) (v := ?v97) rfl (by kernel_rfl) (by kernel_rfl) (by kernel_rfl) (fun _ _ _ h => h) (Or.inl ⟨by rfl, ?hy97⟩) (by assumption) ?rest97
  case hy97 => (intro w hSw; (try dsimp only at hSw); go_simp; (try rw [if_pos (by omega)]); (try with_reducible rfl))
  simp only [Act.put, List.setIfInBounds_toArray, List.set_cons_zero, List.set_cons_succ]
  refine wpAnyH_take (i := 5) (oi := opPTake21) (v := ?v98) rfl (by kernel_rfl) (by kernel_rfl) (by kernel_rfl) (fun _ _ _ h => h) (Or.inl ⟨by rfl, ?hy98⟩) (by assumption) ?rest98
  case hy98 => (intro w hSw; (try dsimp only at hSw); go_simp; (try rw [if_pos (by omega)]); (try with_reducible rfl))
  simp only [Act.put, List.setIfInBounds_toArray, List.set_cons_zero, List.set_cons_succ]
  refine wpAnyH_take (i := 6) (oi := opPTake22) (v := ?v99) rfl (by kernel_rfl) (by kernel_rfl) (by kernel_rfl) (fun _ _ _ h => h) (Or.inl ⟨by rfl, ?hy99⟩) (by assumption) ?rest99
  case hy99 => (intro w hSw; (try dsimp only at hSw); go_simp; (try rw [if_pos (by omega)]); (try with_reducible rfl))
  simp only [Act.put, List.setIfInBounds_toArray, List.set_cons_zero, List.set_cons_succ]
  refine wpAnyH_take (i := 7) (oi := opPTake23) (v := ?v100) rfl (by kernel_rfl) (by kernel_rfl) (by kernel_rfl) (fun _ _ _ h => h) (Or.inl ⟨by rfl, ?hy100⟩) (by assumption) ?rest100
  case hy100 => (intro w hSw; (try dsimp only at hSw); go_simp; (try rw [if_pos (by omega)]); (try with_reducible rfl))
  simp only [Act.put, List.setIfInBounds_toArray, List.set_cons_zero, List.set_cons_succ]
  refine wpAnyH_take (i := 8) (oi := opPTake24) (v := ?v101) rfl (by kernel_rfl) (by kernel_rfl) (by kernel_rfl) (fun _ _ _ h => h) (Or.inl ⟨by rfl, ?hy101⟩) (by assumption) ?rest101
  case hy101 => (intro w hSw; (try dsimp only at hSw); go_simp; (try rw [if_pos (by omega)]); (try with_reducible rfl))
  simp only [Act.put, List.setIfInBounds_toArray, List.set_cons_zero, List.set_cons_succ]
  refine wpAnyH_take (i := 9) (oi := opPTake25) (v := ?v102) rfl (by kernel_rfl) (by kernel_rfl) (by kernel_rfl) (fun _ _ _ h => h) (Or.inl ⟨by rfl, ?hy102⟩) (by assumption) ?rest102
  case hy102 => (intro w hSw; (try dsimp only at hSw); go_simp; (try rw [if_pos (by omega)]); (try with_reducible rfl))
  simp only [Act.put, List.setIfInBounds_toArray, List.set_cons_zero, List.set_cons_succ]
  refine wpAnyH_take (i := 10) (oi := opPTake26) (v := ?v103) rfl (by kernel_rfl) (by kernel_rfl) (by kernel_rfl) (fun _ _ _ h => h) (Or.inl ⟨by rfl, ?hy103⟩) (by assumption) ?rest103
  case hy103 => (intro w hSw; (try dsimp only at hSw); go_simp; (try rw [if_pos (by omega)]); (try with_reducible rfl))
  simp only [Act.put, List.setIfInBounds_toArray, List.set_cons_zero, List.set_cons_succ]
  refine wpAnyH_take (i := 11) (oi := opPTake27) (v := ?v104) rfl (by kernel_rfl) (by kernel_rfl) (by kernel_rfl) (fun _ _ _ h => h) (Or.inl ⟨by rfl, ?hy104⟩) (by assumption) ?rest104
  case hy104 => (intro w hSw; (try dsimp only at hSw); go_simp; (try rw [if_pos (by omega)]); (try with_reducible rfl))
  simp only [Act.put, List.setIfInBounds_toArray, List.set_cons_zero, List.set_cons_succ]
  refine wpAnyH_take (i := 12) (oi := opPTake28) (v := ?v105) rfl (by kernel_rfl) (by kernel_rfl) (by kernel_rfl) (fun _ _ _ h => h) (Or.inl ⟨by rfl, ?hy105⟩) (by assumption) ?rest105
  case hy105 => (intro w hSw; (try dsimp only at hSw); go_simp; (try rw [if_pos (by omega)]); (try with_reducible rfl))
  simp only [Act.put, List.setIfInBounds_toArray, List.set_cons_zero, List.set_cons_succ]
  refine wpAnyH_take (i := 13) (oi := opPTake29) (v := ?v106) rfl (by kernel_rfl) (by kernel_rfl) (by kernel_rfl) (fun _ _ _ h => h) (Or.inl ⟨by rfl, ?hy106⟩) (by assumption) ?rest106
  case hy106 => (intro w hSw; (try dsimp only at hSw); go_simp; (try rw [if_pos (by omega)]); (try with_reducible rfl))
  simp only [Act.put, List.setIfInBounds_toArray, List.set_cons_zero, List.set_cons_succ]
  refine wpAnyH_ready (rs := [14]) (by kernel_rfl) (by simp) ?_
  refine AllReadyH.cons (o := opPTake30) rfl (fun K hK => ?_) AllReadyH.nil
  go_simp
  refine (repeat_is _ place true hr _).mono ?_
  rintro e w4 ⟨rfl, hw4⟩
  obtain rfl := hw4.symm
  clear hw4
  go_wp2_with fail
  refine hK.out _ _ (by assumption) (fun hHeld => ?_)
  clear hK K
  refine wpAnyH_take (i := 15) (oi := opPTake31) (v := ?v107) rfl (by kernel_rfl) (by kernel_rfl) (by kernel_rfl) (fun _ _ _ h => h) (Or.inl ⟨by rfl, ?hy107⟩) (by assumption) ?rest107
  case hy107 => (intro w hSw; (try dsimp only at hSw); go_simp; (try rw [if_pos (by omega)]); (try with_reducible rfl))
  simp only [Act.put, List.setIfInBounds_toArray, List.set_cons_zero, List.set_cons_succ]
  refine wpAnyH_take (i := 16) (oi := opPTake32) (v := ?v108) rfl (by kernel_rfl) (by kernel_rfl) (by kernel_rfl) (fun _ _ _ h => h) (Or.inl ⟨by rfl, ?hy108⟩) (by assumption) ?rest108
  case hy108 => (intro w hSw; (try dsimp only at hSw); go_simp; (try rw [if_pos (by omega)]); (try with_reducible rfl))
  simp only [Act.put, List.setIfInBounds_toArray, List.set_cons_zero, List.set_cons_succ]
  refine wpAnyH_done (by kernel_rfl) ?_ _
  refine NoPanic.normal ?_
  have hq4 : w3.drew.cell? ⟨R, 1 + k, none⟩ = some (.bool true) := by exact unhide HQ3
  have hx4 : w3.drew.cell? ⟨w.heap.size, 0, none⟩ = some (.int .i64 (k : Int)) := by exact (unhide HS3).2.1
  have HB4 : Hid (Below w.heap.size w w3.drew) := below_drewN ((unhide HB0).trans ((unhide HB3).mono (unhide HB0).size)) 1
  have hz4 : w3.drew.frozen? ⟨R, 1 + k, none⟩ = false := ((unhide HB4).frozen (p := ⟨R, 1 + k, none⟩) hRl).trans hfz
  clear HB3 HS3 HQ3 HQ0 HS0 HB0 HQ hfz HSH hf hm hHeld
  generalize w3.drew = w4 at hq4 hx4 HB4 hz4 ⊢
  go_wp2_with fail
  refine wp_region_noPanic ?_
  refine wp_region_held_drew (S := (fun w' => w'.cell? ⟨w.heap.size, 0, none⟩ = some (.int .i64 (k : Int)))) (by kernel_rfl) (by exact hx4) (fun hHeld => ?_)
  refine wpAnyH_take (i := 0) (oi := opPTake33) (v := ?v109) rfl (by kernel_rfl) (by kernel_rfl) (by kernel_rfl) (fun _ _ _ h => h) (Or.inl ⟨by rfl, ?hy109⟩) (by assumption) ?rest109
  case hy109 => (intro w hSw; (try dsimp only at hSw); go_simp; (try rw [if_pos (by omega)]); (try with_reducible rfl))
  simp only [Act.put, List.setIfInBounds_toArray, List.set_cons_zero, List.set_cons_succ]
  refine wpAnyH_take (i := 1) (oi := opPTake34) (v := ?v110) rfl (by kernel_rfl) (by kernel_rfl) (by kernel_rfl) (fun _ _ _ h => h) (Or.inl ⟨by rfl, ?hy110⟩) (by assumption) ?rest110
  case hy110 => (intro w hSw; (try dsimp only at hSw); go_simp; (try rw [if_pos (by omega)]); (try with_reducible rfl))
  simp only [Act.put, List.setIfInBounds_toArray, List.set_cons_zero, List.set_cons_succ]
  refine wpAnyH_take (i := 2) (oi := opPTake35) (v := ?v111) rfl (by kernel_rfl) (by kernel_rfl) (by kernel_rfl) (fun _ _ _ h => h) (Or.inl ⟨by rfl, ?hy111⟩) (by assumption) ?rest111
  case hy111 => (intro w hSw; (try dsimp only at hSw); go_simp; (try rw [if_pos (by omega)]); (try with_reducible rfl))
  simp only [Act.put, List.setIfInBounds_toArray, List.set_cons_zero, List.set_cons_succ]
  refine wpAnyH_take (i := 3) (oi := opPTake36) (v := ?v112) rfl (by kernel_rfl) (by kernel_rfl) (by kernel_rfl) (fun _ _ _ h => h) (Or.inl ⟨by rfl, ?hy112⟩) (by assumption) ?rest112
  case hy112 => (intro w hSw; (try dsimp only at hSw); go_simp; (try rw [if_pos (by omega)]); (try with_reducible rfl))
  simp only [Act.put, List.setIfInBounds_toArray, List.set_cons_zero, List.set_cons_succ]
  refine wpAnyH_take (i := 4) (oi := opPTake37) (v := ?v113) rfl (by kernel_rfl) (by kernel_rfl) (by kernel_rfl) (fun _ _ _ h => h) (Or.inl ⟨by rfl, ?hy113⟩) (by assumption) ?rest113
  case hy113 => (intro w hSw; (try dsimp only at hSw); go_simp; (try rw [if_pos (by omega)]); (try with_reducible rfl))
  simp only [Act.put, List.setIfInBounds_toArray, List.set_cons_zero, List.set_cons_succ]
  refine wpAnyH_take (i := 5) (oi := opPTake38) (v := ?v114) rfl (by kernel_rfl) (by kernel_rfl) (by kernel_rfl) (fun _ _ _ h => h) (Or.inl ⟨by rfl, ?hy114⟩) (by assumption) ?rest114
  case hy114 => (intro w hSw; (try dsimp only at hSw); go_simp; (try rw [if_pos (by omega)]); (try with_reducible rfl))
  simp only [Act.put, List.setIfInBounds_toArray, List.set_cons_zero, List.set_cons_succ]
  have hq5 : w4.drew.cell? ⟨R, 1 + k, none⟩ = some (.bool true) := hq4
  have hz5 : w4.drew.frozen? ⟨R, 1 + k, none⟩ = false := hz4
  refine wpAnyH_ready (rs := [6]) (by kernel_rfl) (by simp) ?_
  refine AllReadyH.cons (o := opPTake39) rfl (fun K hK => ?_) AllReadyH.nil
  go_simp
  refine hK.out _ _ (by show (w4.setCell ⟨R, 1 + k, none⟩ (.bool true)).cell? _ = _; rw [World.cell?_setCell_far _ _ _ _ (by simp; omega)]; exact hx4) (fun hHeld => ?_)
  clear hK K
  refine wpAnyH_done (by kernel_rfl) ?_ _
  refine NoPanic.normal ?_
  go_wp2
  go_ret
  exact ⟨rfl, w4.drew, below_drewN (unhide HB4) 1, rfl⟩
end Go.Proofs.YtoocdfgjkeheaaaGreatDoor
/- Proved here: prop.putNumber tells a number's bytes, the highest first. Helper contracts. -/
namespace Go.Proofs.YtoocdfgjkeheaaaGreatDoor
open Go.RowKit
set_option maxRecDepth 100000

/-- a number in so many bytes, the highest first -/
def nbs (k n : Int) : List Int := if k = 1 then [n] else if k = 2 then [n / 256, n % 256] else [n / 16777216, n / 65536 % 256, n / 256 % 256, n % 256]
def NumPost (k n : Int) (w : World) (e : Ending) (w' : World) : Prop :=
  ∃ v, e = .returned v ∧ Hid (w'.ownsRow w.heap.size 5 1 v (nbs k n).length ((nbs k n).map (Value.int .u8))) ∧ Below w.heap.size w w'
theorem num_1 (n : Int) (w : World) (h0 : 0 ≤ n) (h1 : n ≤ 1) : Calls Tryz.prog 216 #[.int .i64 n, .int .i64 1] w (NumPost 1 n w) := by
  unfold NumPost
  have m1 := V.make1
  have hx : n % 256 = n := by omega
  go_enter Tryz.func216, Tryz.ntmps216
  go_wp2
  refine wp_loop_rounds 2 ?_
  rw [rounds_succ]
  go_wp2
  rw [rounds_succ]
  go_wp2
  go_ret
  exact ⟨_, rfl, World.ownsRow_lit w _ _ (Nat.le_refl _) (by unfold maxLen; omega) (by simp), by go_grown⟩
theorem num_2 (n : Int) (w : World) (h0 : 0 ≤ n) (h1 : n ≤ 65535) : Calls Tryz.prog 216 #[.int .i64 n, .int .i64 2] w (NumPost 2 n w) := by
  unfold NumPost
  have m1 := V.make2
  have hx : n / 256 % 256 = n / 256 := by omega
  go_enter Tryz.func216, Tryz.ntmps216
  go_wp2
  refine wp_loop_rounds 3 ?_
  rw [rounds_succ]
  go_wp2
  rw [rounds_succ]
  go_wp2
  rw [rounds_succ]
  go_wp2
  go_ret
  exact ⟨_, rfl, World.ownsRow_lit w _ _ (Nat.le_refl _) (by unfold maxLen; omega) (by simp), by go_grown⟩
theorem num_4 (n : Int) (w : World) (h0 : 0 ≤ n) (h1 : n ≤ 4294967295) : Calls Tryz.prog 216 #[.int .i64 n, .int .i64 4] w (NumPost 4 n w) := by
  unfold NumPost
  have m1 := V.make4
  have hx : n / 256 / 256 / 256 = n / 16777216 := by omega
  have hy : n / 256 / 256 % 256 = n / 65536 % 256 := by omega
  go_enter Tryz.func216, Tryz.ntmps216
  go_wp2
  refine wp_loop_rounds 5 ?_
  rw [rounds_succ]
  go_wp2
  rw [rounds_succ]
  go_wp2
  rw [rounds_succ]
  go_wp2
  rw [rounds_succ]
  go_wp2
  rw [rounds_succ]
  go_wp2
  go_ret
  exact ⟨_, rfl, World.ownsRow_lit w _ _ (Nat.le_refl _) (by unfold maxLen; omega) (by simp), by go_grown⟩
end Go.Proofs.YtoocdfgjkeheaaaGreatDoor
/- Proved here: prop's putPair, putValue and putOne tell one property's bytes, or an error of below. Helper contracts. -/
namespace Go.Proofs.YtoocdfgjkeheaaaGreatDoor
open Go.RowKit
set_option maxRecDepth 100000

/-- bytes l, and no error -/
def ValOk (l : List Int) (w : World) (e : Ending) (w' : World) : Prop := ∃ v, e = .returned (.tuple #[v, .nilIface]) ∧ Hid (Byt w' v l) ∧ Below w.heap.size w w'
/-- an error of below -/
def ValBad (w : World) (e : Ending) (w' : World) : Prop := ∃ t x n, e = .returned (.tuple #[.slice none 0 0, .iface t x]) ∧ Hid (Inn w' (.iface t x) n) ∧ Below w.heap.size w w'
theorem range_app {xs ys : List Int} (hx : ∀ j, 0 ≤ xs.getD j 0 ∧ xs.getD j 0 ≤ 255) (hy : ∀ j, 0 ≤ ys.getD j 0 ∧ ys.getD j 0 ≤ 255) : ∀ j, 0 ≤ (xs ++ ys).getD j 0 ∧ (xs ++ ys).getD j 0 ≤ 255 := by
  intro j
  rcases Nat.lt_or_ge j xs.length with h | h
  · rw [List.getD_eq_getElem?_getD, List.getElem?_append_left h, ← List.getD_eq_getElem?_getD]; exact hx j
  · rw [List.getD_eq_getElem?_getD, List.getElem?_append_right h, ← List.getD_eq_getElem?_getD]; exact hy _
theorem tput_ok (s : ByteArray) (w : World) (hc : chk (sb s) = 0) : Calls Tryz.prog 175 #[.string s] w (fun e w' => ∃ v, e = .returned (.tuple #[v, .nilIface]) ∧ Hid (w'.ownsRow w.heap.size 5 1 v (2 + s.size) ((tx s).map (Value.int .u8))) ∧ Hid (Byt w' v (tx s)) ∧ Below w.heap.size w w') := by
  refine (put_ok s w hc).mono ?_
  rintro e w' ⟨v, rfl, hown, hb⟩
  exact ⟨v, rfl, hown, byt_of_owns (unhide hown) (tx_range s (by have := chk_0 hc; rw [sb_length] at this; exact this)), hb⟩
theorem tput_bad (s : ByteArray) (w : World) (hs : s.size ≤ 4611686018427387904) (hc : chk (sb s) ≠ 0) : Calls Tryz.prog 175 #[.string s] w (fun e w' => ∃ x n, e = .returned (.tuple #[.slice none 0 0, .iface 149 x]) ∧ Hid (Inn w' (.iface 149 x) n) ∧ Below w.heap.size w w') := by
  refine (put_bad s _ w hs rfl hc).mono ?_
  rintro e w' ⟨rfl, rfl⟩
  exact ⟨_, chk (sb s), rfl, .inr ⟨_, rfl, by simp⟩, fault_below _ _⟩
set_option maxHeartbeats 1000000 in
theorem pair_ok (s t : ByteArray) (w : World) (hs : chk (sb s) = 0) (ht : chk (sb t) = 0) : Calls Tryz.prog 217 #[.string s, .string t] w (ValOk (tx s ++ tx t) w) := by
  have ls : s.size ≤ 65535 := by have := chk_0 hs; rw [sb_length] at this; exact this
  have lt : t.size ≤ 65535 := by have := chk_0 ht; rw [sb_length] at this; exact this
  have HS := hide hs
  have HT := hide ht
  clear hs ht
  go_enter Tryz.func217, Tryz.ntmps217
  go_wp2_with fail
  refine (tput_ok s _ (unhide HS)).mono ?_
  rintro e w1 ⟨v1, rfl, hown1, -, hb1⟩
  have HB1 := hide hb1
  clear hb1
  go_wp2_with fail
  refine (tput_ok t _ (unhide HT)).mono ?_
  rintro e w2 ⟨v2, rfl, -, hy2, hb2⟩
  have HO2 : Hid (w2.ownsRow w.heap.size 5 1 v1 (2 + s.size) ((tx s).map (Value.int .u8))) := owns_below (unhide hown1) hb2
  have HB2 : Hid (Below w.heap.size w w2) := (unhide HB1).trans (hb2.mono (unhide HB1).size)
  clear hb2 HB1 hown1
  go_wp2_with (first
    | (at_builtin; refine wpList_append_byt _ rfl _ _ rfl w.heap.size _ (2 + s.size) (tx s) rfl (unhide HO2) v2 (tx t) rfl (unhide hy2) (by rw [tx_length]; omega) (unhide HB2).size ?_)
    | go_in)
  intro v3 w3 hown3 hgrow3
  have hb3 : Below w.heap.size w w3 := (unhide HB2).grown hgrow3 (unhide HB2).size (fun k hk => ((unhide HO2).lt k hk).1)
  have HY3 : Hid (Byt w3 v3 (tx s ++ tx t)) := byt_of_owns (by rw [List.map_append]; exact hown3) (range_app (tx_range s ls) (tx_range t lt))
  clear hown3 hgrow3
  go_wp2
  go_ret2
  exact ⟨_, rfl, HY3, hb3⟩
theorem pair_bad1 (s t : ByteArray) (w : World) (hl : s.size ≤ 4611686018427387904) (hs : chk (sb s) ≠ 0) : Calls Tryz.prog 217 #[.string s, .string t] w (ValBad w) := by
  have HS := hide hs
  clear hs
  go_enter Tryz.func217, Tryz.ntmps217
  go_wp2_with fail
  refine (tput_bad s _ hl (unhide HS)).mono ?_
  rintro e w1 ⟨x, n, rfl, hi, hb1⟩
  go_wp2
  go_ret2
  exact ⟨_, _, _, rfl, hi, hb1⟩
theorem pair_bad2 (s t : ByteArray) (w : World) (hl : t.size ≤ 4611686018427387904) (hs : chk (sb s) = 0) (ht : chk (sb t) ≠ 0) : Calls Tryz.prog 217 #[.string s, .string t] w (ValBad w) := by
  have HS := hide hs
  have HT := hide ht
  clear hs ht
  go_enter Tryz.func217, Tryz.ntmps217
  go_wp2_with fail
  refine (tput_ok s _ (unhide HS)).mono ?_
  rintro e w1 ⟨v1, rfl, -, -, hb1⟩
  have HB1 := hide hb1
  clear hb1
  go_wp2_with fail
  refine (tput_bad t _ hl (unhide HT)).mono ?_
  rintro e w2 ⟨x, n, rfl, hi, hb2⟩
  go_wp2
  go_ret2
  exact ⟨_, _, _, rfl, hi, (unhide HB1).trans (hb2.mono (unhide HB1).size)⟩
theorem vput_use (n : Int) (w : World) (h0 : 0 ≤ n) (h1 : n ≤ 268435455) : Calls Tryz.prog 58 #[.int .i64 n] w (fun e w' => ∃ v, e = .returned (.tuple #[v, .nilIface]) ∧ Hid (w'.ownsRow w.heap.size 5 1 v (V.put n).length ((V.put n).map (Value.int .u8))) ∧ Hid (Byt w' v (V.put n)) ∧ Below w.heap.size w w') := by
  refine (V.put_use n w h0 h1).mono ?_
  rintro e w' ⟨m, rfl, rfl, hown, hb⟩
  exact ⟨_, rfl, hown, byt_of_owns (unhide hown) (V.put_range n h0 h1), hb⟩
theorem nbs_range (k n : Int) (hk : k = 1 ∧ n ≤ 1 ∨ k = 2 ∧ n ≤ 65535 ∨ k = 4 ∧ n ≤ 4294967295) (h0 : 0 ≤ n) : ∀ j, 0 ≤ (nbs k n).getD j 0 ∧ (nbs k n).getD j 0 ≤ 255 := by
  intro j
  unfold nbs
  rcases hk with ⟨rfl, h⟩ | ⟨rfl, h⟩ | ⟨rfl, h⟩
  · rw [if_pos rfl]
    rcases j with _ | j <;> simp <;> omega
  · rw [if_neg (by omega), if_pos rfl]
    rcases j with _ | _ | j <;> simp <;> omega
  · rw [if_neg (by omega), if_neg (by omega)]
    rcases j with _ | _ | _ | _ | j <;> simp <;> omega
/-- putNumber's answer, as a caller uses it -/
theorem number_use (k n : Int) (w : World) (hk : k = 1 ∧ n ≤ 1 ∨ k = 2 ∧ n ≤ 65535 ∨ k = 4 ∧ n ≤ 4294967295) (h0 : 0 ≤ n) : Calls Tryz.prog 216 #[.int .i64 n, .int .i64 k] w (fun e w' => ∃ v, e = .returned v ∧ Hid (Byt w' v (nbs k n)) ∧ Below w.heap.size w w') := by
  have hr := nbs_range k n hk h0
  have key : ∀ e w', NumPost k n w e w' → ∃ v, e = .returned v ∧ Hid (Byt w' v (nbs k n)) ∧ Below w.heap.size w w' := by
    rintro e w' ⟨v, rfl, hown, hb⟩
    exact ⟨v, rfl, byt_of_owns (unhide hown) hr, hb⟩
  rcases hk with ⟨rfl, h⟩ | ⟨rfl, h⟩ | ⟨rfl, h⟩
  · exact (num_1 n w h0 h).mono key
  · exact (num_2 n w h0 h).mono key
  · exact (num_4 n w h0 h).mono key
def numK (k n : Int) : Prop := k = 1 ∧ n ≤ 1 ∨ k = 2 ∧ n ≤ 65535 ∨ k = 4 ∧ n ≤ 4294967295
theorem value_num (id n k : Int) (s t : ByteArray) (w : World) (lo hi : Int) (hsh : shv id = .agg #[.int .i64 1, .int .i64 k, .int .i64 lo, .int .i64 hi]) (hk : numK k n) (h0 : 0 ≤ n) :
    Calls Tryz.prog 210 #[.agg #[.int .i64 id, .int .i64 n, .string s, .string t]] w (ValOk (nbs k n) w) := by
  have HSH := hide hsh
  have HK := hide hk
  clear hsh hk
  go_enter Tryz.func210, Tryz.ntmps210
  go_wp2_with fail
  refine (shape_use id 1 k lo hi (unhide HSH) _).mono ?_
  rintro e w1 ⟨rfl, hb1⟩
  have HB1 : Hid (Below w.heap.size w w1) := ((Below.refl _ _).alloc (Nat.le_refl _) _).trans (hb1.mono (by simp))
  have c1 : w1.cell? ⟨w.heap.size, 1, none⟩ = some (.int .i64 n) := (hb1.cell (p := ⟨w.heap.size, 1, none⟩) (by simp)).trans (by simp)
  have c2 : w1.cell? ⟨w.heap.size, 2, none⟩ = some (.string s) := (hb1.cell (p := ⟨w.heap.size, 2, none⟩) (by simp)).trans (by simp)
  have c3 : w1.cell? ⟨w.heap.size, 3, none⟩ = some (.string t) := (hb1.cell (p := ⟨w.heap.size, 3, none⟩) (by simp)).trans (by simp)
  have hlt : w.heap.size < w1.heap.size := cell_lt c1
  clear hb1
  go_wp2_with fail
  refine (number_use k n _ (unhide HK) h0).mono ?_
  rintro e w2 ⟨v, rfl, hy, hb2⟩
  go_wp2
  go_ret2
  exact ⟨_, rfl, hy, (((unhide HB1).alloc (unhide HB1).size _).trans (hb2.mono (by simp; omega)))⟩
set_option maxHeartbeats 1000000 in
theorem value_var (id n : Int) (s t : ByteArray) (w : World) (wd lo hi : Int) (hsh : shv id = .agg #[.int .i64 2, .int .i64 wd, .int .i64 lo, .int .i64 hi]) (h0 : 0 ≤ n) (h1 : n ≤ 268435455) :
    Calls Tryz.prog 210 #[.agg #[.int .i64 id, .int .i64 n, .string s, .string t]] w (ValOk (V.put n) w) := by
  have HSH := hide hsh
  clear hsh
  go_enter Tryz.func210, Tryz.ntmps210
  go_wp2_with fail
  refine (shape_use id 2 wd lo hi (unhide HSH) _).mono ?_
  rintro e w1 ⟨rfl, hb1⟩
  have HB1 : Hid (Below w.heap.size w w1) := ((Below.refl _ _).alloc (Nat.le_refl _) _).trans (hb1.mono (by simp))
  have c1 : w1.cell? ⟨w.heap.size, 1, none⟩ = some (.int .i64 n) := (hb1.cell (p := ⟨w.heap.size, 1, none⟩) (by simp)).trans (by simp)
  have c2 : w1.cell? ⟨w.heap.size, 2, none⟩ = some (.string s) := (hb1.cell (p := ⟨w.heap.size, 2, none⟩) (by simp)).trans (by simp)
  have c3 : w1.cell? ⟨w.heap.size, 3, none⟩ = some (.string t) := (hb1.cell (p := ⟨w.heap.size, 3, none⟩) (by simp)).trans (by simp)
  have hlt : w.heap.size < w1.heap.size := cell_lt c1
  clear hb1
  go_wp2_with fail
  refine (vput_use n _ h0 h1).mono ?_
  rintro e w2 ⟨v, rfl, -, hy, hb2⟩
  go_wp2
  go_ret2
  exact ⟨_, rfl, hy, (((unhide HB1).alloc (unhide HB1).size _).trans (hb2.mono (by simp; omega)))⟩
set_option maxHeartbeats 1000000 in
theorem value_text (id n : Int) (s t : ByteArray) (w : World) (wd lo hi : Int) (hsh : shv id = .agg #[.int .i64 3, .int .i64 wd, .int .i64 lo, .int .i64 hi]) (hc : chk (sb s) = 0) :
    Calls Tryz.prog 210 #[.agg #[.int .i64 id, .int .i64 n, .string s, .string t]] w (ValOk (tx s) w) := by
  have HSH := hide hsh
  clear hsh
  have Hhc := hide hc
  clear hc
  go_enter Tryz.func210, Tryz.ntmps210
  go_wp2_with fail
  refine (shape_use id 3 wd lo hi (unhide HSH) _).mono ?_
  rintro e w1 ⟨rfl, hb1⟩
  have HB1 : Hid (Below w.heap.size w w1) := ((Below.refl _ _).alloc (Nat.le_refl _) _).trans (hb1.mono (by simp))
  have c1 : w1.cell? ⟨w.heap.size, 1, none⟩ = some (.int .i64 n) := (hb1.cell (p := ⟨w.heap.size, 1, none⟩) (by simp)).trans (by simp)
  have c2 : w1.cell? ⟨w.heap.size, 2, none⟩ = some (.string s) := (hb1.cell (p := ⟨w.heap.size, 2, none⟩) (by simp)).trans (by simp)
  have c3 : w1.cell? ⟨w.heap.size, 3, none⟩ = some (.string t) := (hb1.cell (p := ⟨w.heap.size, 3, none⟩) (by simp)).trans (by simp)
  have hlt : w.heap.size < w1.heap.size := cell_lt c1
  clear hb1
  go_wp2_with fail
  refine (tput_ok s _ (unhide Hhc)).mono ?_
  rintro e w2 ⟨v, rfl, -, hy, hb2⟩
  go_wp2
  go_ret2
  exact ⟨_, rfl, hy, (((unhide HB1).alloc (unhide HB1).size _).trans (hb2.mono (by simp; omega)))⟩
set_option maxHeartbeats 1000000 in
theorem value_text_bad (id n : Int) (s t : ByteArray) (w : World) (wd lo hi : Int) (hsh : shv id = .agg #[.int .i64 3, .int .i64 wd, .int .i64 lo, .int .i64 hi]) (hl : s.size ≤ 4611686018427387904) (hc : chk (sb s) ≠ 0) :
    Calls Tryz.prog 210 #[.agg #[.int .i64 id, .int .i64 n, .string s, .string t]] w (ValBad w) := by
  have HSH := hide hsh
  clear hsh
  have Hhc := hide hc
  clear hc
  go_enter Tryz.func210, Tryz.ntmps210
  go_wp2_with fail
  refine (shape_use id 3 wd lo hi (unhide HSH) _).mono ?_
  rintro e w1 ⟨rfl, hb1⟩
  have HB1 : Hid (Below w.heap.size w w1) := ((Below.refl _ _).alloc (Nat.le_refl _) _).trans (hb1.mono (by simp))
  have c1 : w1.cell? ⟨w.heap.size, 1, none⟩ = some (.int .i64 n) := (hb1.cell (p := ⟨w.heap.size, 1, none⟩) (by simp)).trans (by simp)
  have c2 : w1.cell? ⟨w.heap.size, 2, none⟩ = some (.string s) := (hb1.cell (p := ⟨w.heap.size, 2, none⟩) (by simp)).trans (by simp)
  have c3 : w1.cell? ⟨w.heap.size, 3, none⟩ = some (.string t) := (hb1.cell (p := ⟨w.heap.size, 3, none⟩) (by simp)).trans (by simp)
  have hlt : w.heap.size < w1.heap.size := cell_lt c1
  clear hb1
  go_wp2_with fail
  refine (tput_bad s _ hl (unhide Hhc)).mono ?_
  rintro e w2 ⟨x, m, rfl, hy, hb2⟩
  go_wp2
  go_ret2
  exact ⟨_, _, _, rfl, hy, (((unhide HB1).alloc (unhide HB1).size _).trans (hb2.mono (by simp; omega)))⟩
set_option maxHeartbeats 1000000 in
theorem value_bin (id n : Int) (s t : ByteArray) (w : World) (wd lo hi : Int) (hsh : shv id = .agg #[.int .i64 4, .int .i64 wd, .int .i64 lo, .int .i64 hi]) (hc : s.size ≤ 65535) :
    Calls Tryz.prog 210 #[.agg #[.int .i64 id, .int .i64 n, .string s, .string t]] w (ValOk (tx s) w) := by
  have HSH := hide hsh
  clear hsh
  go_enter Tryz.func210, Tryz.ntmps210
  go_wp2_with fail
  refine (shape_use id 4 wd lo hi (unhide HSH) _).mono ?_
  rintro e w1 ⟨rfl, hb1⟩
  have HB1 : Hid (Below w.heap.size w w1) := ((Below.refl _ _).alloc (Nat.le_refl _) _).trans (hb1.mono (by simp))
  have c1 : w1.cell? ⟨w.heap.size, 1, none⟩ = some (.int .i64 n) := (hb1.cell (p := ⟨w.heap.size, 1, none⟩) (by simp)).trans (by simp)
  have c2 : w1.cell? ⟨w.heap.size, 2, none⟩ = some (.string s) := (hb1.cell (p := ⟨w.heap.size, 2, none⟩) (by simp)).trans (by simp)
  have c3 : w1.cell? ⟨w.heap.size, 3, none⟩ = some (.string t) := (hb1.cell (p := ⟨w.heap.size, 3, none⟩) (by simp)).trans (by simp)
  have hlt : w.heap.size < w1.heap.size := cell_lt c1
  clear hb1
  go_wp2_with fail
  refine (putBin_ok s _ hc).mono ?_
  rintro e w2 ⟨v, rfl, hown, hb2⟩
  have hy : Hid (Byt w2 v (tx s)) := byt_of_owns (unhide hown) (tx_range s hc)
  go_wp2
  go_ret2
  exact ⟨_, rfl, hy, (((unhide HB1).alloc (unhide HB1).size _).trans (hb2.mono (by simp; omega)))⟩
set_option maxHeartbeats 1000000 in
theorem value_bin_bad (id n : Int) (s t : ByteArray) (w : World) (wd lo hi : Int) (hsh : shv id = .agg #[.int .i64 4, .int .i64 wd, .int .i64 lo, .int .i64 hi]) (hc : 65535 < s.size) :
    Calls Tryz.prog 210 #[.agg #[.int .i64 id, .int .i64 n, .string s, .string t]] w (ValBad w) := by
  have HSH := hide hsh
  clear hsh
  go_enter Tryz.func210, Tryz.ntmps210
  go_wp2_with fail
  refine (shape_use id 4 wd lo hi (unhide HSH) _).mono ?_
  rintro e w1 ⟨rfl, hb1⟩
  have HB1 : Hid (Below w.heap.size w w1) := ((Below.refl _ _).alloc (Nat.le_refl _) _).trans (hb1.mono (by simp))
  have c1 : w1.cell? ⟨w.heap.size, 1, none⟩ = some (.int .i64 n) := (hb1.cell (p := ⟨w.heap.size, 1, none⟩) (by simp)).trans (by simp)
  have c2 : w1.cell? ⟨w.heap.size, 2, none⟩ = some (.string s) := (hb1.cell (p := ⟨w.heap.size, 2, none⟩) (by simp)).trans (by simp)
  have c3 : w1.cell? ⟨w.heap.size, 3, none⟩ = some (.string t) := (hb1.cell (p := ⟨w.heap.size, 3, none⟩) (by simp)).trans (by simp)
  have hlt : w.heap.size < w1.heap.size := cell_lt c1
  clear hb1
  go_wp2_with fail
  refine (putBin_bad s _ hc).mono ?_
  rintro e w2 ⟨rfl, hw2⟩
  have hb2 : Below _ _ w2 := hw2 ▸ fault_below 2 _
  have hy : Hid (Inn w2 (.iface 149 (.pointer (some ⟨w1.heap.size + 1, 0, none⟩))) 2) := .inr ⟨_, rfl, by rw [hw2]; simp⟩
  clear hw2
  go_wp2
  go_ret2
  exact ⟨_, _, _, rfl, hy, (((unhide HB1).alloc (unhide HB1).size _).trans (hb2.mono (by simp; omega)))⟩
set_option maxHeartbeats 1000000 in
theorem value_pair (id n : Int) (s t : ByteArray) (w : World) (wd lo hi : Int) (hsh : shv id = .agg #[.int .i64 5, .int .i64 wd, .int .i64 lo, .int .i64 hi]) (hc : chk (sb s) = 0) (hd : chk (sb t) = 0) :
    Calls Tryz.prog 210 #[.agg #[.int .i64 id, .int .i64 n, .string s, .string t]] w (ValOk (tx s ++ tx t) w) := by
  have HSH := hide hsh
  clear hsh
  have Hhc := hide hc
  clear hc
  have Hhd := hide hd
  clear hd
  go_enter Tryz.func210, Tryz.ntmps210
  go_wp2_with fail
  refine (shape_use id 5 wd lo hi (unhide HSH) _).mono ?_
  rintro e w1 ⟨rfl, hb1⟩
  have HB1 : Hid (Below w.heap.size w w1) := ((Below.refl _ _).alloc (Nat.le_refl _) _).trans (hb1.mono (by simp))
  have c1 : w1.cell? ⟨w.heap.size, 1, none⟩ = some (.int .i64 n) := (hb1.cell (p := ⟨w.heap.size, 1, none⟩) (by simp)).trans (by simp)
  have c2 : w1.cell? ⟨w.heap.size, 2, none⟩ = some (.string s) := (hb1.cell (p := ⟨w.heap.size, 2, none⟩) (by simp)).trans (by simp)
  have c3 : w1.cell? ⟨w.heap.size, 3, none⟩ = some (.string t) := (hb1.cell (p := ⟨w.heap.size, 3, none⟩) (by simp)).trans (by simp)
  have hlt : w.heap.size < w1.heap.size := cell_lt c1
  clear hb1
  go_wp2_with fail
  refine (pair_ok s t _ (unhide Hhc) (unhide Hhd)).mono ?_
  rintro e w2 ⟨v, rfl, hy, hb2⟩
  go_wp2
  go_ret2
  exact ⟨_, rfl, hy, (((unhide HB1).alloc (unhide HB1).size _).trans (hb2.mono (by simp; omega)))⟩
set_option maxHeartbeats 1000000 in
theorem value_pair_bad1 (id n : Int) (s t : ByteArray) (w : World) (wd lo hi : Int) (hsh : shv id = .agg #[.int .i64 5, .int .i64 wd, .int .i64 lo, .int .i64 hi]) (hl : s.size ≤ 4611686018427387904) (hc : chk (sb s) ≠ 0) :
    Calls Tryz.prog 210 #[.agg #[.int .i64 id, .int .i64 n, .string s, .string t]] w (ValBad w) := by
  have HSH := hide hsh
  clear hsh
  have Hhc := hide hc
  clear hc
  go_enter Tryz.func210, Tryz.ntmps210
  go_wp2_with fail
  refine (shape_use id 5 wd lo hi (unhide HSH) _).mono ?_
  rintro e w1 ⟨rfl, hb1⟩
  have HB1 : Hid (Below w.heap.size w w1) := ((Below.refl _ _).alloc (Nat.le_refl _) _).trans (hb1.mono (by simp))
  have c1 : w1.cell? ⟨w.heap.size, 1, none⟩ = some (.int .i64 n) := (hb1.cell (p := ⟨w.heap.size, 1, none⟩) (by simp)).trans (by simp)
  have c2 : w1.cell? ⟨w.heap.size, 2, none⟩ = some (.string s) := (hb1.cell (p := ⟨w.heap.size, 2, none⟩) (by simp)).trans (by simp)
  have c3 : w1.cell? ⟨w.heap.size, 3, none⟩ = some (.string t) := (hb1.cell (p := ⟨w.heap.size, 3, none⟩) (by simp)).trans (by simp)
  have hlt : w.heap.size < w1.heap.size := cell_lt c1
  clear hb1
  go_wp2_with fail
  refine (pair_bad1 s t _ hl (unhide Hhc)).mono ?_
  rintro e w2 ⟨t', x, m, rfl, hy, hb2⟩
  go_wp2
  go_ret2
  exact ⟨_, _, _, rfl, hy, (((unhide HB1).alloc (unhide HB1).size _).trans (hb2.mono (by simp; omega)))⟩
set_option maxHeartbeats 1000000 in
theorem value_pair_bad2 (id n : Int) (s t : ByteArray) (w : World) (wd lo hi : Int) (hsh : shv id = .agg #[.int .i64 5, .int .i64 wd, .int .i64 lo, .int .i64 hi]) (hl : t.size ≤ 4611686018427387904) (hc : chk (sb s) = 0) (hd : chk (sb t) ≠ 0) :
    Calls Tryz.prog 210 #[.agg #[.int .i64 id, .int .i64 n, .string s, .string t]] w (ValBad w) := by
  have HSH := hide hsh
  clear hsh
  have Hhc := hide hc
  clear hc
  have Hhd := hide hd
  clear hd
  go_enter Tryz.func210, Tryz.ntmps210
  go_wp2_with fail
  refine (shape_use id 5 wd lo hi (unhide HSH) _).mono ?_
  rintro e w1 ⟨rfl, hb1⟩
  have HB1 : Hid (Below w.heap.size w w1) := ((Below.refl _ _).alloc (Nat.le_refl _) _).trans (hb1.mono (by simp))
  have c1 : w1.cell? ⟨w.heap.size, 1, none⟩ = some (.int .i64 n) := (hb1.cell (p := ⟨w.heap.size, 1, none⟩) (by simp)).trans (by simp)
  have c2 : w1.cell? ⟨w.heap.size, 2, none⟩ = some (.string s) := (hb1.cell (p := ⟨w.heap.size, 2, none⟩) (by simp)).trans (by simp)
  have c3 : w1.cell? ⟨w.heap.size, 3, none⟩ = some (.string t) := (hb1.cell (p := ⟨w.heap.size, 3, none⟩) (by simp)).trans (by simp)
  have hlt : w.heap.size < w1.heap.size := cell_lt c1
  clear hb1
  go_wp2_with fail
  refine (pair_bad2 s t _ hl (unhide Hhc) (unhide Hhd)).mono ?_
  rintro e w2 ⟨t', x, m, rfl, hy, hb2⟩
  go_wp2
  go_ret2
  exact ⟨_, _, _, rfl, hy, (((unhide HB1).alloc (unhide HB1).size _).trans (hb2.mono (by simp; omega)))⟩
end Go.Proofs.YtoocdfgjkeheaaaGreatDoor
/- Proved here: varint.Get and dovecoteref1.Get, at any bytes that are read from memory, tell one and the same answer (vget). Helper contracts. -/
namespace Go.Proofs.YtoocdfgjkeheaaaGreatDoor.V
open Go.RowKit
set_option maxRecDepth 100000

/-- an error value: nil (0) or a Fault around a number that is not 0 -/
def ErrS (w : World) (v : Value) (n : Int) : Prop := (n = 0 ∧ v = .nilIface) ∨ (n ≠ 0 ∧ ∃ b, v = .iface 149 (.pointer (some ⟨b, 0, none⟩)) ∧ w.cell? ⟨b, 1, none⟩ = some (.iface 84 (.int .i64 n)))
/-- the page's answer at len bytes whose first are x0 x1 x2 x3 -/
def vgetf (len : Nat) (x0 x1 x2 x3 : Int) : Int × Int × Int :=
  if len = 0 then (0, 0, 3) else
  if x0 < 128 then (x0, 1, 0) else
  if len = 1 then (0, 0, 3) else
  if x1 = 0 then (0, 0, 1) else
  if x1 < 128 then ((x0 - 128) + x1 * 128, 2, 0) else
  if len = 2 then (0, 0, 3) else
  if x2 = 0 then (0, 0, 1) else
  if x2 < 128 then ((x0 - 128) + (x1 - 128) * 128 + x2 * 16384, 3, 0) else
  if len = 3 then (0, 0, 3) else
  if x3 = 0 then (0, 0, 1) else
  if x3 < 128 then ((x0 - 128) + (x1 - 128) * 128 + (x2 - 128) * 16384 + x3 * 2097152, 4, 0) else
  (0, 0, 1)
/-- the page's answer at any bytes -/
def vget (bs : List Int) : Int × Int × Int := vgetf bs.length (bs.getD 0 0) (bs.getD 1 0) (bs.getD 2 0) (bs.getD 3 0)

theorem get_at (b off len cap : Nat) (x0 x1 x2 x3 : Int) (w : World) (hlen : len ≤ maxLen) (hc0 : 0 < len → w.cell? ⟨b, off, none⟩ = some (.int .u8 x0)) (hc1 : 1 < len → w.cell? ⟨b, off + 1, none⟩ = some (.int .u8 x1)) (hc2 : 2 < len → w.cell? ⟨b, off + 2, none⟩ = some (.int .u8 x2)) (hc3 : 3 < len → w.cell? ⟨b, off + 3, none⟩ = some (.int .u8 x3)) (r0 : 0 ≤ x0 ∧ x0 ≤ 255) (r1 : 0 ≤ x1 ∧ x1 ≤ 255) (r2 : 0 ≤ x2 ∧ x2 ≤ 255) (r3 : 0 ≤ x3 ∧ x3 ≤ 255) :
    Calls Tryz.prog 116 #[.slice (some ⟨b, off, none⟩) len cap] w fun e w' => ∃ E, e = .returned (.tuple #[.int .i64 (vgetf len x0 x1 x2 x3).1, .int .i64 (vgetf len x0 x1 x2 x3).2.1, E]) ∧ ErrS w' E (vgetf len x0 x1 x2 x3).2.2 ∧ Below w.heap.size w w' := by
  by_cases ds0 : len = 0
  · have hv : vgetf len x0 x1 x2 x3 = (0, 0, 3) := by unfold vgetf; rw [if_pos ds0]
    rw [hv]
    subst ds0
    refine (get_s0 _ _ _).mono ?_
    rintro e w' ⟨rfl, rfl⟩; exact ⟨_, rfl, .inr ⟨by decide, _, rfl, by simp⟩, (Below.refl _ _).alloc (Nat.le_refl _) _⟩
  · skip
    by_cases do1 : x0 < 128
    · have hv : vgetf len x0 x1 x2 x3 = (x0, 1, 0) := by unfold vgetf; rw [if_neg ds0, if_pos do1]
      rw [hv]
      refine (get_o1 b off len cap x0 w hlen (by omega) (hc0 (by omega)) (by omega) (by omega)).mono ?_
      rintro e w' ⟨rfl, rfl⟩; exact ⟨_, rfl, .inl ⟨rfl, rfl⟩, Below.refl _ _⟩
    · skip
      by_cases ds1 : len = 1
      · have hv : vgetf len x0 x1 x2 x3 = (0, 0, 3) := by unfold vgetf; rw [if_neg ds0, if_neg do1, if_pos ds1]
        rw [hv]
        refine (get_s1 b off len cap x0 w hlen (by omega) (hc0 (by omega)) r0 (by omega)).mono ?_
        rintro e w' ⟨rfl, rfl⟩; exact ⟨_, rfl, .inr ⟨by decide, _, rfl, by simp⟩, (Below.refl _ _).alloc (Nat.le_refl _) _⟩
      · skip
        by_cases dz2 : x1 = 0
        · have hv : vgetf len x0 x1 x2 x3 = (0, 0, 1) := by unfold vgetf; rw [if_neg ds0, if_neg do1, if_neg ds1, if_pos dz2]
          rw [hv]
          refine (get_z2 b off len cap x0 x1 w hlen (by omega) (hc0 (by omega)) r0 (hc1 (by omega)) (by omega) (by assumption)).mono ?_
          rintro e w' ⟨rfl, rfl⟩; exact ⟨_, rfl, .inr ⟨by decide, _, rfl, by simp⟩, (Below.refl _ _).alloc (Nat.le_refl _) _⟩
        · skip
          by_cases do2 : x1 < 128
          · have hv : vgetf len x0 x1 x2 x3 = ((x0 - 128) + x1 * 128, 2, 0) := by unfold vgetf; rw [if_neg ds0, if_neg do1, if_neg ds1, if_neg dz2, if_pos do2]
            rw [hv]
            refine (get_o2 b off len cap x0 x1 w hlen (by omega) (hc0 (by omega)) r0 (hc1 (by omega)) (by omega) (by omega) (by omega)).mono ?_
            rintro e w' ⟨rfl, rfl⟩; exact ⟨_, rfl, .inl ⟨rfl, rfl⟩, Below.refl _ _⟩
          · skip
            by_cases ds2 : len = 2
            · have hv : vgetf len x0 x1 x2 x3 = (0, 0, 3) := by unfold vgetf; rw [if_neg ds0, if_neg do1, if_neg ds1, if_neg dz2, if_neg do2, if_pos ds2]
              rw [hv]
              refine (get_s2 b off len cap x0 x1 w hlen (by omega) (hc0 (by omega)) r0 (hc1 (by omega)) r1 (by omega) (by omega)).mono ?_
              rintro e w' ⟨rfl, rfl⟩; exact ⟨_, rfl, .inr ⟨by decide, _, rfl, by simp⟩, (Below.refl _ _).alloc (Nat.le_refl _) _⟩
            · skip
              by_cases dz3 : x2 = 0
              · have hv : vgetf len x0 x1 x2 x3 = (0, 0, 1) := by unfold vgetf; rw [if_neg ds0, if_neg do1, if_neg ds1, if_neg dz2, if_neg do2, if_neg ds2, if_pos dz3]
                rw [hv]
                refine (get_z3 b off len cap x0 x1 x2 w hlen (by omega) (hc0 (by omega)) r0 (hc1 (by omega)) r1 (hc2 (by omega)) (by omega) (by omega) (by assumption)).mono ?_
                rintro e w' ⟨rfl, rfl⟩; exact ⟨_, rfl, .inr ⟨by decide, _, rfl, by simp⟩, (Below.refl _ _).alloc (Nat.le_refl _) _⟩
              · skip
                by_cases do3 : x2 < 128
                · have hv : vgetf len x0 x1 x2 x3 = ((x0 - 128) + (x1 - 128) * 128 + x2 * 16384, 3, 0) := by unfold vgetf; rw [if_neg ds0, if_neg do1, if_neg ds1, if_neg dz2, if_neg do2, if_neg ds2, if_neg dz3, if_pos do3]
                  rw [hv]
                  refine (get_o3 b off len cap x0 x1 x2 w hlen (by omega) (hc0 (by omega)) r0 (hc1 (by omega)) r1 (hc2 (by omega)) (by omega) (by omega) (by omega) (by omega)).mono ?_
                  rintro e w' ⟨rfl, rfl⟩; exact ⟨_, rfl, .inl ⟨rfl, rfl⟩, Below.refl _ _⟩
                · skip
                  by_cases ds3 : len = 3
                  · have hv : vgetf len x0 x1 x2 x3 = (0, 0, 3) := by unfold vgetf; rw [if_neg ds0, if_neg do1, if_neg ds1, if_neg dz2, if_neg do2, if_neg ds2, if_neg dz3, if_neg do3, if_pos ds3]
                    rw [hv]
                    refine (get_s3 b off len cap x0 x1 x2 w hlen (by omega) (hc0 (by omega)) r0 (hc1 (by omega)) r1 (hc2 (by omega)) r2 (by omega) (by omega) (by omega)).mono ?_
                    rintro e w' ⟨rfl, rfl⟩; exact ⟨_, rfl, .inr ⟨by decide, _, rfl, by simp⟩, (Below.refl _ _).alloc (Nat.le_refl _) _⟩
                  · skip
                    by_cases dz4 : x3 = 0
                    · have hv : vgetf len x0 x1 x2 x3 = (0, 0, 1) := by unfold vgetf; rw [if_neg ds0, if_neg do1, if_neg ds1, if_neg dz2, if_neg do2, if_neg ds2, if_neg dz3, if_neg do3, if_neg ds3, if_pos dz4]
                      rw [hv]
                      refine (get_z4 b off len cap x0 x1 x2 x3 w hlen (by omega) (hc0 (by omega)) r0 (hc1 (by omega)) r1 (hc2 (by omega)) r2 (hc3 (by omega)) (by omega) (by omega) (by omega) (by assumption)).mono ?_
                      rintro e w' ⟨rfl, rfl⟩; exact ⟨_, rfl, .inr ⟨by decide, _, rfl, by simp⟩, (Below.refl _ _).alloc (Nat.le_refl _) _⟩
                    · skip
                      by_cases do4 : x3 < 128
                      · have hv : vgetf len x0 x1 x2 x3 = ((x0 - 128) + (x1 - 128) * 128 + (x2 - 128) * 16384 + x3 * 2097152, 4, 0) := by unfold vgetf; rw [if_neg ds0, if_neg do1, if_neg ds1, if_neg dz2, if_neg do2, if_neg ds2, if_neg dz3, if_neg do3, if_neg ds3, if_neg dz4, if_pos do4]
                        rw [hv]
                        refine (get_o4 b off len cap x0 x1 x2 x3 w hlen (by omega) (hc0 (by omega)) r0 (hc1 (by omega)) r1 (hc2 (by omega)) r2 (hc3 (by omega)) (by omega) (by omega) (by omega) (by omega) (by omega)).mono ?_
                        rintro e w' ⟨rfl, rfl⟩; exact ⟨_, rfl, .inl ⟨rfl, rfl⟩, Below.refl _ _⟩
                      · skip
                        have hv : vgetf len x0 x1 x2 x3 = (0, 0, 1) := by unfold vgetf; rw [if_neg ds0, if_neg do1, if_neg ds1, if_neg dz2, if_neg do2, if_neg ds2, if_neg dz3, if_neg do3, if_neg ds3, if_neg dz4, if_neg do4]
                        rw [hv]
                        refine (get_l4 b off len cap x0 x1 x2 x3 w hlen (by omega) (hc0 (by omega)) r0 (hc1 (by omega)) r1 (hc2 (by omega)) r2 (hc3 (by omega)) r3 (by omega) (by omega) (by omega) (by omega)).mono ?_
                        rintro e w' ⟨rfl, rfl⟩; exact ⟨_, rfl, .inr ⟨by decide, _, rfl, by simp⟩, (Below.refl _ _).alloc (Nat.le_refl _) _⟩

theorem rget_at (b off len cap : Nat) (x0 x1 x2 x3 : Int) (w : World) (hlen : len ≤ maxLen) (hc0 : 0 < len → w.cell? ⟨b, off, none⟩ = some (.int .u8 x0)) (hc1 : 1 < len → w.cell? ⟨b, off + 1, none⟩ = some (.int .u8 x1)) (hc2 : 2 < len → w.cell? ⟨b, off + 2, none⟩ = some (.int .u8 x2)) (hc3 : 3 < len → w.cell? ⟨b, off + 3, none⟩ = some (.int .u8 x3)) (r0 : 0 ≤ x0 ∧ x0 ≤ 255) (r1 : 0 ≤ x1 ∧ x1 ≤ 255) (r2 : 0 ≤ x2 ∧ x2 ≤ 255) (r3 : 0 ≤ x3 ∧ x3 ≤ 255) :
    Calls Tryz.prog 125 #[.slice (some ⟨b, off, none⟩) len cap] w fun e w' => e = .returned (.tuple #[.int .i64 (vgetf len x0 x1 x2 x3).1, .int .i64 (vgetf len x0 x1 x2 x3).2.1, .int .i64 (vgetf len x0 x1 x2 x3).2.2]) ∧ Below w.heap.size w w' := by
  by_cases ds0 : len = 0
  · have hv : vgetf len x0 x1 x2 x3 = (0, 0, 3) := by unfold vgetf; rw [if_pos ds0]
    rw [hv]
    subst ds0
    refine (rget_s0 _ _ _).mono ?_
    rintro e w' ⟨rfl, hb⟩; exact ⟨rfl, hb⟩
  · skip
    by_cases do1 : x0 < 128
    · have hv : vgetf len x0 x1 x2 x3 = (x0, 1, 0) := by unfold vgetf; rw [if_neg ds0, if_pos do1]
      rw [hv]
      refine (rget_o1 b off len cap x0 w hlen (by omega) (hc0 (by omega)) (by omega) (by omega)).mono ?_
      rintro e w' ⟨rfl, hb⟩; exact ⟨rfl, hb⟩
    · skip
      by_cases ds1 : len = 1
      · have hv : vgetf len x0 x1 x2 x3 = (0, 0, 3) := by unfold vgetf; rw [if_neg ds0, if_neg do1, if_pos ds1]
        rw [hv]
        refine (rget_s1 b off len cap x0 w hlen (by omega) (hc0 (by omega)) r0 (by omega)).mono ?_
        rintro e w' ⟨rfl, hb⟩; exact ⟨rfl, hb⟩
      · skip
        by_cases dz2 : x1 = 0
        · have hv : vgetf len x0 x1 x2 x3 = (0, 0, 1) := by unfold vgetf; rw [if_neg ds0, if_neg do1, if_neg ds1, if_pos dz2]
          rw [hv]
          refine (rget_z2 b off len cap x0 x1 w hlen (by omega) (hc0 (by omega)) r0 (hc1 (by omega)) (by omega) (by assumption)).mono ?_
          rintro e w' ⟨rfl, hb⟩; exact ⟨rfl, hb⟩
        · skip
          by_cases do2 : x1 < 128
          · have hv : vgetf len x0 x1 x2 x3 = ((x0 - 128) + x1 * 128, 2, 0) := by unfold vgetf; rw [if_neg ds0, if_neg do1, if_neg ds1, if_neg dz2, if_pos do2]
            rw [hv]
            refine (rget_o2 b off len cap x0 x1 w hlen (by omega) (hc0 (by omega)) r0 (hc1 (by omega)) (by omega) (by omega) (by omega)).mono ?_
            rintro e w' ⟨rfl, hb⟩; exact ⟨rfl, hb⟩
          · skip
            by_cases ds2 : len = 2
            · have hv : vgetf len x0 x1 x2 x3 = (0, 0, 3) := by unfold vgetf; rw [if_neg ds0, if_neg do1, if_neg ds1, if_neg dz2, if_neg do2, if_pos ds2]
              rw [hv]
              refine (rget_s2 b off len cap x0 x1 w hlen (by omega) (hc0 (by omega)) r0 (hc1 (by omega)) r1 (by omega) (by omega)).mono ?_
              rintro e w' ⟨rfl, hb⟩; exact ⟨rfl, hb⟩
            · skip
              by_cases dz3 : x2 = 0
              · have hv : vgetf len x0 x1 x2 x3 = (0, 0, 1) := by unfold vgetf; rw [if_neg ds0, if_neg do1, if_neg ds1, if_neg dz2, if_neg do2, if_neg ds2, if_pos dz3]
                rw [hv]
                refine (rget_z3 b off len cap x0 x1 x2 w hlen (by omega) (hc0 (by omega)) r0 (hc1 (by omega)) r1 (hc2 (by omega)) (by omega) (by omega) (by assumption)).mono ?_
                rintro e w' ⟨rfl, hb⟩; exact ⟨rfl, hb⟩
              · skip
                by_cases do3 : x2 < 128
                · have hv : vgetf len x0 x1 x2 x3 = ((x0 - 128) + (x1 - 128) * 128 + x2 * 16384, 3, 0) := by unfold vgetf; rw [if_neg ds0, if_neg do1, if_neg ds1, if_neg dz2, if_neg do2, if_neg ds2, if_neg dz3, if_pos do3]
                  rw [hv]
                  refine (rget_o3 b off len cap x0 x1 x2 w hlen (by omega) (hc0 (by omega)) r0 (hc1 (by omega)) r1 (hc2 (by omega)) (by omega) (by omega) (by omega) (by omega)).mono ?_
                  rintro e w' ⟨rfl, hb⟩; exact ⟨rfl, hb⟩
                · skip
                  by_cases ds3 : len = 3
                  · have hv : vgetf len x0 x1 x2 x3 = (0, 0, 3) := by unfold vgetf; rw [if_neg ds0, if_neg do1, if_neg ds1, if_neg dz2, if_neg do2, if_neg ds2, if_neg dz3, if_neg do3, if_pos ds3]
                    rw [hv]
                    refine (rget_s3 b off len cap x0 x1 x2 w hlen (by omega) (hc0 (by omega)) r0 (hc1 (by omega)) r1 (hc2 (by omega)) r2 (by omega) (by omega) (by omega)).mono ?_
                    rintro e w' ⟨rfl, hb⟩; exact ⟨rfl, hb⟩
                  · skip
                    by_cases dz4 : x3 = 0
                    · have hv : vgetf len x0 x1 x2 x3 = (0, 0, 1) := by unfold vgetf; rw [if_neg ds0, if_neg do1, if_neg ds1, if_neg dz2, if_neg do2, if_neg ds2, if_neg dz3, if_neg do3, if_neg ds3, if_pos dz4]
                      rw [hv]
                      refine (rget_z4 b off len cap x0 x1 x2 x3 w hlen (by omega) (hc0 (by omega)) r0 (hc1 (by omega)) r1 (hc2 (by omega)) r2 (hc3 (by omega)) (by omega) (by omega) (by omega) (by assumption)).mono ?_
                      rintro e w' ⟨rfl, hb⟩; exact ⟨rfl, hb⟩
                    · skip
                      by_cases do4 : x3 < 128
                      · have hv : vgetf len x0 x1 x2 x3 = ((x0 - 128) + (x1 - 128) * 128 + (x2 - 128) * 16384 + x3 * 2097152, 4, 0) := by unfold vgetf; rw [if_neg ds0, if_neg do1, if_neg ds1, if_neg dz2, if_neg do2, if_neg ds2, if_neg dz3, if_neg do3, if_neg ds3, if_neg dz4, if_pos do4]
                        rw [hv]
                        refine (rget_o4 b off len cap x0 x1 x2 x3 w hlen (by omega) (hc0 (by omega)) r0 (hc1 (by omega)) r1 (hc2 (by omega)) r2 (hc3 (by omega)) (by omega) (by omega) (by omega) (by omega) (by omega)).mono ?_
                        rintro e w' ⟨rfl, hb⟩; exact ⟨rfl, hb⟩
                      · skip
                        have hv : vgetf len x0 x1 x2 x3 = (0, 0, 1) := by unfold vgetf; rw [if_neg ds0, if_neg do1, if_neg ds1, if_neg dz2, if_neg do2, if_neg ds2, if_neg dz3, if_neg do3, if_neg ds3, if_neg dz4, if_neg do4]
                        rw [hv]
                        refine (rget_l4 b off len cap x0 x1 x2 x3 w hlen (by omega) (hc0 (by omega)) r0 (hc1 (by omega)) r1 (hc2 (by omega)) r2 (hc3 (by omega)) r3 (by omega) (by omega) (by omega) (by omega)).mono ?_
                        rintro e w' ⟨rfl, hb⟩; exact ⟨rfl, hb⟩

theorem get_any (v : Value) (bs : List Int) (w : World) (h : Byt w v bs) :
    Calls Tryz.prog 116 #[v] w fun e w' => ∃ E, e = .returned (.tuple #[.int .i64 (vget bs).1, .int .i64 (vget bs).2.1, E]) ∧ ErrS w' E (vget bs).2.2 ∧ Below w.heap.size w w' := by
  obtain ⟨ao, cap, rfl, hlen, hr, hcase⟩ := h
  rcases hcase with rfl | ⟨b, off, rfl, hc⟩
  · rw [show vget [] = (0, 0, 3) from rfl]
    refine (get_s0 ao cap w).mono ?_
    rintro e w' ⟨rfl, rfl⟩; exact ⟨_, rfl, .inr ⟨by decide, _, rfl, by simp⟩, (Below.refl _ _).alloc (Nat.le_refl _) _⟩
  · exact get_at b off bs.length cap _ _ _ _ w (Nat.le_trans hlen.1 hlen.2) (hc 0) (hc 1) (hc 2) (hc 3) (hr 0) (hr 1) (hr 2) (hr 3)

theorem rget_any (v : Value) (bs : List Int) (w : World) (h : Byt w v bs) :
    Calls Tryz.prog 125 #[v] w fun e w' => e = .returned (.tuple #[.int .i64 (vget bs).1, .int .i64 (vget bs).2.1, .int .i64 (vget bs).2.2]) ∧ Below w.heap.size w w' := by
  obtain ⟨ao, cap, rfl, hlen, hr, hcase⟩ := h
  rcases hcase with rfl | ⟨b, off, rfl, hc⟩
  · rw [show vget [] = (0, 0, 3) from rfl]
    refine (rget_s0 ao cap w).mono ?_
    rintro e w' ⟨rfl, hb⟩; exact ⟨rfl, hb⟩
  · exact rget_at b off bs.length cap _ _ _ _ w (Nat.le_trans hlen.1 hlen.2) (hc 0) (hc 1) (hc 2) (hc 3) (hr 0) (hr 1) (hr 2) (hr 3)

end Go.Proofs.YtoocdfgjkeheaaaGreatDoor.V
/- Proved here: plain facts on numbers and bytes: what put tells is read back by vget, its beginnings are short, and what vget reads is what put tells. -/
namespace Go.Proofs.YtoocdfgjkeheaaaGreatDoor.V

theorem sz_mono (x y : Int) (h : x ≤ y) : sz x ≤ sz y := by
  unfold sz
  split <;> (try split) <;> (try split) <;> (try split) <;> (try split) <;> (try split) <;> omega
theorem sz_bounds (x : Int) : 1 ≤ sz x ∧ sz x ≤ 4 := by
  unfold sz
  split <;> (try split) <;> (try split) <;> omega

theorem vget_put (x : Int) (h0 : 0 ≤ x) (h1 : x ≤ 268435455) (l : List Int) : vget (put x ++ l) = (x, sz x, 0) := by
  by_cases a : x < 128
  · have hp : put x = [x] := by simp [put, a]
    rw [hp, sz1 x a]
    simp only [vget, List.cons_append, List.nil_append, List.length_cons, List.getD_cons_zero, List.getD_cons_succ]
    unfold vgetf
    rw [if_neg (by omega), if_pos a]
  · by_cases b : x < 16384
    · have hp : put x = [x % 128 + 128, x / 128] := by unfold put; rw [if_neg (by omega), if_pos (by omega)]
      rw [hp, sz2 x (by omega) b]
      simp only [vget, List.cons_append, List.nil_append, List.length_cons, List.getD_cons_zero, List.getD_cons_succ]
      unfold vgetf
      rw [if_neg (by omega), if_neg (by omega), if_neg (by omega), if_neg (by omega), if_pos (by omega)]
      rw [show x % 128 + 128 - 128 + x / 128 * 128 = x from by omega]
    · by_cases c : x < 2097152
      · have hp : put x = [x % 128 + 128, x / 128 % 128 + 128, x / 16384] := by unfold put; rw [if_neg (by omega), if_neg (by omega), if_pos (by omega)]
        rw [hp, sz3 x (by omega) c]
        simp only [vget, List.cons_append, List.nil_append, List.length_cons, List.getD_cons_zero, List.getD_cons_succ]
        unfold vgetf
        rw [if_neg (by omega), if_neg (by omega), if_neg (by omega), if_neg (by omega), if_neg (by omega), if_neg (by omega), if_neg (by omega), if_pos (by omega)]
        rw [show x % 128 + 128 - 128 + (x / 128 % 128 + 128 - 128) * 128 + x / 16384 * 16384 = x from by omega]
      · have hp : put x = [x % 128 + 128, x / 128 % 128 + 128, x / 16384 % 128 + 128, x / 2097152] := by unfold put; rw [if_neg (by omega), if_neg (by omega), if_neg (by omega)]
        rw [hp, sz4 x (by omega)]
        simp only [vget, List.cons_append, List.nil_append, List.length_cons, List.getD_cons_zero, List.getD_cons_succ]
        unfold vgetf
        rw [if_neg (by omega), if_neg (by omega), if_neg (by omega), if_neg (by omega), if_neg (by omega), if_neg (by omega), if_neg (by omega), if_neg (by omega), if_neg (by omega), if_neg (by omega), if_pos (by omega)]
        rw [show x % 128 + 128 - 128 + (x / 128 % 128 + 128 - 128) * 128 + (x / 16384 % 128 + 128 - 128) * 16384 + x / 2097152 * 2097152 = x from by omega]

theorem short0 : vget [] = (0, 0, 3) := rfl
theorem short1 (a : Int) (ha : 128 ≤ a) : vget [a] = (0, 0, 3) := by
  simp only [vget, List.length_cons, List.length_nil, List.getD_cons_zero, List.getD_cons_succ]
  unfold vgetf
  rw [if_neg (by omega), if_neg (by omega), if_pos (by omega)]
theorem short2 (a b : Int) (ha : 128 ≤ a) (hb : 128 ≤ b) : vget [a, b] = (0, 0, 3) := by
  simp only [vget, List.length_cons, List.length_nil, List.getD_cons_zero, List.getD_cons_succ]
  unfold vgetf
  rw [if_neg (by omega), if_neg (by omega), if_neg (by omega), if_neg (by omega), if_neg (by omega), if_pos (by omega)]
theorem short3 (a b c : Int) (ha : 128 ≤ a) (hb : 128 ≤ b) (hc : 128 ≤ c) : vget [a, b, c] = (0, 0, 3) := by
  simp only [vget, List.length_cons, List.length_nil, List.getD_cons_zero, List.getD_cons_succ]
  unfold vgetf
  rw [if_neg (by omega), if_neg (by omega), if_neg (by omega), if_neg (by omega), if_neg (by omega), if_neg (by omega), if_neg (by omega), if_neg (by omega), if_pos (by omega)]

theorem vget_short (x : Int) (j : Nat) (hj : j < (put x).length) : vget ((put x).take j) = (0, 0, 3) := by
  by_cases a : x < 128
  · have hp : put x = [x] := by simp [put, a]
    rw [hp] at hj ⊢
    rcases j with _ | j
    · rfl
    · simp at hj
  · by_cases b : x < 16384
    · have hp : put x = [x % 128 + 128, x / 128] := by unfold put; rw [if_neg (by omega), if_pos (by omega)]
      rw [hp] at hj ⊢
      rcases j with _ | _ | j
      · rfl
      · exact short1 _ (by omega)
      · simp at hj; omega
    · by_cases c : x < 2097152
      · have hp : put x = [x % 128 + 128, x / 128 % 128 + 128, x / 16384] := by unfold put; rw [if_neg (by omega), if_neg (by omega), if_pos (by omega)]
        rw [hp] at hj ⊢
        rcases j with _ | _ | _ | j
        · rfl
        · exact short1 _ (by omega)
        · exact short2 _ _ (by omega) (by omega)
        · simp at hj; omega
      · have hp : put x = [x % 128 + 128, x / 128 % 128 + 128, x / 16384 % 128 + 128, x / 2097152] := by unfold put; rw [if_neg (by omega), if_neg (by omega), if_neg (by omega)]
        rw [hp] at hj ⊢
        rcases j with _ | _ | _ | _ | j
        · rfl
        · exact short1 _ (by omega)
        · exact short2 _ _ (by omega) (by omega)
        · exact short3 _ _ _ (by omega) (by omega) (by omega)
        · simp at hj; omega

/-- what is read is told as just these bytes -/
def Told (l : List Int) (n k : Int) : Prop := 0 ≤ n ∧ n ≤ 268435455 ∧ ∃ K : Nat, k = K ∧ 1 ≤ K ∧ K ≤ l.length ∧ put n = l.take K

theorem vget_ok (l : List Int) (hr : ∀ j, 0 ≤ l.getD j 0 ∧ l.getD j 0 ≤ 255) (n k : Int) (h : vget l = (n, k, 0)) : Told l n k := by
  have r0 := hr 0
  have r1 := hr 1
  have r2 := hr 2
  have r3 := hr 3
  match l, r0, r1, r2, r3, h with
  | [], _, _, _, _, h => simp [short0] at h
  | [a], r0, _, _, _, h =>
    simp only [vget, List.length_cons, List.length_nil, List.getD_cons_zero, List.getD_cons_succ] at h r0
    unfold vgetf at h
    rw [if_neg (by omega)] at h
    by_cases d : a < 128
    · rw [if_pos d] at h
      simp only [Prod.mk.injEq] at h
      obtain ⟨rfl, rfl, _⟩ := h
      exact ⟨by omega, by omega, 1, rfl, by omega, by simp, by unfold put; rw [if_pos d]; rfl⟩
    · rw [if_neg d, if_pos (by omega)] at h
      simp at h
  | [a, b], r0, r1, _, _, h =>
    simp only [vget, List.length_cons, List.length_nil, List.getD_cons_zero, List.getD_cons_succ] at h r0 r1
    unfold vgetf at h
    rw [if_neg (by omega)] at h
    by_cases d : a < 128
    · rw [if_pos d] at h
      simp only [Prod.mk.injEq] at h
      obtain ⟨rfl, rfl, _⟩ := h
      exact ⟨by omega, by omega, 1, rfl, by omega, by simp, by unfold put; rw [if_pos d]; rfl⟩
    · rw [if_neg d, if_neg (by omega)] at h
      by_cases z : b = 0
      · rw [if_pos z] at h; simp at h
      · rw [if_neg z] at h
        by_cases d1 : b < 128
        · rw [if_pos d1] at h
          simp only [Prod.mk.injEq] at h
          obtain ⟨rfl, rfl, _⟩ := h
          exact ⟨by omega, by omega, 2, rfl, by omega, by simp, by
            unfold put; rw [if_neg (by omega), if_pos (by omega), show (a - 128 + b * 128) % 128 + 128 = a from by omega, show (a - 128 + b * 128) / 128 = b from by omega]; rfl⟩
        · rw [if_neg d1, if_pos (by omega)] at h
          simp at h
  | [a, b, c], r0, r1, r2, _, h =>
    simp only [vget, List.length_cons, List.length_nil, List.getD_cons_zero, List.getD_cons_succ] at h r0 r1 r2
    unfold vgetf at h
    rw [if_neg (by omega)] at h
    by_cases d : a < 128
    · rw [if_pos d] at h
      simp only [Prod.mk.injEq] at h
      obtain ⟨rfl, rfl, _⟩ := h
      exact ⟨by omega, by omega, 1, rfl, by omega, by simp, by unfold put; rw [if_pos d]; rfl⟩
    · rw [if_neg d, if_neg (by omega)] at h
      by_cases z : b = 0
      · rw [if_pos z] at h; simp at h
      · rw [if_neg z] at h
        by_cases d1 : b < 128
        · rw [if_pos d1] at h
          simp only [Prod.mk.injEq] at h
          obtain ⟨rfl, rfl, _⟩ := h
          exact ⟨by omega, by omega, 2, rfl, by omega, by simp, by
            unfold put; rw [if_neg (by omega), if_pos (by omega), show (a - 128 + b * 128) % 128 + 128 = a from by omega, show (a - 128 + b * 128) / 128 = b from by omega]; rfl⟩
        · rw [if_neg d1, if_neg (by omega)] at h
          by_cases z2 : c = 0
          · rw [if_pos z2] at h; simp at h
          · rw [if_neg z2] at h
            by_cases d2 : c < 128
            · rw [if_pos d2] at h
              simp only [Prod.mk.injEq] at h
              obtain ⟨rfl, rfl, _⟩ := h
              exact ⟨by omega, by omega, 3, rfl, by omega, by simp, by
                unfold put; rw [if_neg (by omega), if_neg (by omega), if_pos (by omega), show (a - 128 + (b - 128) * 128 + c * 16384) % 128 + 128 = a from by omega, show (a - 128 + (b - 128) * 128 + c * 16384) / 128 % 128 + 128 = b from by omega, show (a - 128 + (b - 128) * 128 + c * 16384) / 16384 = c from by omega]; rfl⟩
            · rw [if_neg d2, if_pos (by omega)] at h
              simp at h
  | a :: b :: c :: e :: r, r0, r1, r2, r3, h =>
    simp only [vget, List.length_cons, List.getD_cons_zero, List.getD_cons_succ] at h r0 r1 r2 r3
    unfold vgetf at h
    rw [if_neg (by omega)] at h
    by_cases d : a < 128
    · rw [if_pos d] at h
      simp only [Prod.mk.injEq] at h
      obtain ⟨rfl, rfl, _⟩ := h
      exact ⟨by omega, by omega, 1, rfl, by omega, by simp, by unfold put; rw [if_pos d]; rfl⟩
    · rw [if_neg d, if_neg (by omega)] at h
      by_cases z : b = 0
      · rw [if_pos z] at h; simp at h
      · rw [if_neg z] at h
        by_cases d1 : b < 128
        · rw [if_pos d1] at h
          simp only [Prod.mk.injEq] at h
          obtain ⟨rfl, rfl, _⟩ := h
          exact ⟨by omega, by omega, 2, rfl, by omega, by simp, by
            unfold put; rw [if_neg (by omega), if_pos (by omega), show (a - 128 + b * 128) % 128 + 128 = a from by omega, show (a - 128 + b * 128) / 128 = b from by omega]; rfl⟩
        · rw [if_neg d1, if_neg (by omega)] at h
          by_cases z2 : c = 0
          · rw [if_pos z2] at h; simp at h
          · rw [if_neg z2] at h
            by_cases d2 : c < 128
            · rw [if_pos d2] at h
              simp only [Prod.mk.injEq] at h
              obtain ⟨rfl, rfl, _⟩ := h
              exact ⟨by omega, by omega, 3, rfl, by omega, by simp, by
                unfold put; rw [if_neg (by omega), if_neg (by omega), if_pos (by omega), show (a - 128 + (b - 128) * 128 + c * 16384) % 128 + 128 = a from by omega, show (a - 128 + (b - 128) * 128 + c * 16384) / 128 % 128 + 128 = b from by omega, show (a - 128 + (b - 128) * 128 + c * 16384) / 16384 = c from by omega]; rfl⟩
            · rw [if_neg d2, if_neg (by omega)] at h
              by_cases z3 : e = 0
              · rw [if_pos z3] at h; simp at h
              · rw [if_neg z3] at h
                by_cases d3 : e < 128
                · rw [if_pos d3] at h
                  simp only [Prod.mk.injEq] at h
                  obtain ⟨rfl, rfl, _⟩ := h
                  exact ⟨by omega, by omega, 4, rfl, by omega, by simp, by
                    unfold put; rw [if_neg (by omega), if_neg (by omega), if_neg (by omega), show (a - 128 + (b - 128) * 128 + (c - 128) * 16384 + e * 2097152) % 128 + 128 = a from by omega, show (a - 128 + (b - 128) * 128 + (c - 128) * 16384 + e * 2097152) / 128 % 128 + 128 = b from by omega, show (a - 128 + (b - 128) * 128 + (c - 128) * 16384 + e * 2097152) / 16384 % 128 + 128 = c from by omega, show (a - 128 + (b - 128) * 128 + (c - 128) * 16384 + e * 2097152) / 2097152 = e from by omega]; rfl⟩
                · rw [if_neg d3] at h
                  simp at h
end Go.Proofs.YtoocdfgjkeheaaaGreatDoor.V
/- Proved here: prop's getPair and getValue read what a property of a shape has, or tell an error of below. Helper contracts. -/
namespace Go.Proofs.YtoocdfgjkeheaaaGreatDoor
open Go.RowKit
set_option maxRecDepth 100000

/-- what a call tells whose error is one of below -/
def Bad3 (w : World) (e : Ending) (w' : World) : Prop := ∃ a b x n, e = .returned (.tuple #[.int .i64 a, .int .i64 b, .iface 149 x]) ∧ Hid (Inn w' (.iface 149 x) n) ∧ Below w.heap.size w w'
theorem vget_good (v : Value) (l : List Int) (w : World) (h : Byt w v l) (n : Int) (K : Nat) (hv : V.vget l = (n, (K : Int), 0)) : Calls Tryz.prog 116 #[v] w fun e w' => e = .returned (.tuple #[.int .i64 n, .int .i64 K, .nilIface]) ∧ Below w.heap.size w w' := by
  refine (V.get_any v l w h).mono ?_
  rintro e w' ⟨E, rfl, hE, hb⟩
  rw [hv] at hE ⊢
  rcases hE with ⟨_, rfl⟩ | ⟨h0, _⟩
  · exact ⟨rfl, hb⟩
  · exact absurd rfl h0
theorem vget_fail (v : Value) (l : List Int) (w : World) (h : Byt w v l) (m : Int) (hv : (V.vget l).2.2 = m) (hm : m ≠ 0) : Calls Tryz.prog 116 #[v] w fun e w' => ∃ a b x, e = .returned (.tuple #[.int .i64 a, .int .i64 b, .iface 149 x]) ∧ Hid (Inn w' (.iface 149 x) m) ∧ Below w.heap.size w w' := by
  refine (V.get_any v l w h).mono ?_
  rintro e w' ⟨E, rfl, hE, hb⟩
  rw [hv] at hE
  rcases hE with ⟨h0, _⟩ | ⟨_, b, rfl, hc⟩
  · exact absurd h0 hm
  · exact ⟨_, _, _, rfl, .inr ⟨b, rfl, hc⟩, hb⟩
theorem fault_cell (n : Int) (w : World) : (faultW n w).cell? ⟨w.heap.size, 1, none⟩ = some (.iface 84 (.int .i64 n)) := by simp [faultW]
theorem gt_cases (l : List Int) : (∃ s K, full l = true ∧ utf (sb (gbs l)) = true ∧ s = gbs l ∧ K = 2 + nb l ∧ gt l = (s, (K : Int), 0)) ∨ (∃ m, m ≠ 0 ∧ gt l = (⟨#[]⟩, 0, m)) := by
  unfold gt
  by_cases hf : full l = true
  · rw [if_pos hf]
    by_cases hu : utf (sb (gbs l)) = true
    · rw [if_pos hu]; exact .inl ⟨_, _, hf, hu, rfl, rfl, rfl⟩
    · rw [if_neg hu]; exact .inr ⟨1, by decide, rfl⟩
  · rw [if_neg hf]; exact .inr ⟨3, by decide, rfl⟩
theorem tget_good (v : Value) (l : List Int) (w : World) (h : Byt w v l) (s : ByteArray) (K : Nat) (hv : gt l = (s, (K : Int), 0)) : Calls Tryz.prog 191 #[v] w fun e w' => e = .returned (.tuple #[.string s, .int .i64 K, .nilIface]) ∧ Below w.heap.size w w' := by
  rcases gt_cases l with ⟨s', K', hf, hu, rfl, rfl, hg⟩ | ⟨m, hm, hg⟩
  · rw [hg] at hv
    simp only [Prod.mk.injEq] at hv
    obtain ⟨rfl, hk, _⟩ := hv
    refine (get_ok v l w h hf hu).mono ?_
    rintro e w' ⟨rfl, q, rfl⟩
    exact ⟨by rw [hk], below_q q⟩
  · rw [hg] at hv
    simp only [Prod.mk.injEq] at hv
    exact absurd hv.2.2 hm
theorem tget_fail (v : Value) (l : List Int) (w : World) (h : Byt w v l) (m : Int) (hv : (gt l).2.2 = m) (hm : m ≠ 0) : Calls Tryz.prog 191 #[v] w fun e w' => ∃ s a x, e = .returned (.tuple #[.string s, .int .i64 a, .iface 149 x]) ∧ Hid (Inn w' (.iface 149 x) m) ∧ Below w.heap.size w w' := by
  unfold gt at hv
  by_cases hf : full l = true
  · rw [if_pos hf] at hv
    by_cases hu : utf (sb (gbs l)) = true
    · rw [if_pos hu] at hv; exact absurd hv.symm hm
    · rw [if_neg hu] at hv
      subst hv
      refine (get_form v l w h hf (by simpa using hu)).mono ?_
      rintro e w' ⟨rfl, q, rfl⟩
      exact ⟨_, _, _, rfl, .inr ⟨_, rfl, fault_cell _ _⟩, (below_q q).trans (fault_below 1 (w.drewN q))⟩
  · rw [if_neg hf] at hv
    subst hv
    refine (get_short v l w h (by simpa using hf)).mono ?_
    rintro e w' ⟨rfl, q, rfl⟩
    exact ⟨_, _, _, rfl, .inr ⟨_, rfl, fault_cell _ _⟩, (below_q q).trans (fault_below 3 (w.drewN q))⟩
theorem tbin_good (v : Value) (l : List Int) (w : World) (h : Byt w v l) (s : ByteArray) (K : Nat) (hv : gbn l = (s, (K : Int), 0)) : Calls Tryz.prog 192 #[v] w fun e w' => e = .returned (.tuple #[.string s, .int .i64 K, .nilIface]) ∧ Below w.heap.size w w' := by
  unfold gbn at hv
  by_cases hf : full l = true
  · rw [if_pos hf] at hv
    simp only [Prod.mk.injEq] at hv
    obtain ⟨rfl, hk, _⟩ := hv
    refine (gbin_ok v l w h hf).mono ?_
    rintro e w' ⟨rfl, q, rfl⟩
    exact ⟨by rw [hk], below_q q⟩
  · rw [if_neg hf] at hv
    simp at hv
theorem tbin_fail (v : Value) (l : List Int) (w : World) (h : Byt w v l) (m : Int) (hv : (gbn l).2.2 = m) (hm : m ≠ 0) : Calls Tryz.prog 192 #[v] w fun e w' => ∃ s a x, e = .returned (.tuple #[.string s, .int .i64 a, .iface 149 x]) ∧ Hid (Inn w' (.iface 149 x) m) ∧ Below w.heap.size w w' := by
  unfold gbn at hv
  by_cases hf : full l = true
  · rw [if_pos hf] at hv; exact absurd hv.symm hm
  · rw [if_neg hf] at hv
    subst hv
    refine (gbin_short v l w h (by simpa using hf)).mono ?_
    rintro e w' ⟨rfl, q, rfl⟩
    exact ⟨_, _, _, rfl, .inr ⟨_, rfl, fault_cell _ _⟩, (below_q q).trans (fault_below 3 (w.drewN q))⟩
theorem gnum_good (v : Value) (l : List Int) (w : World) (h : Byt w v l) (k : Int) (hk : k = 1 ∨ k = 2 ∨ k = 4) (hl : k ≤ l.length) : Calls Tryz.prog 218 #[v, .int .i64 k] w fun e w' => e = .returned (.tuple #[.int .i64 (be k l), .int .i64 k, .nilIface]) ∧ Below w.heap.size w w' := by
  obtain ⟨ao, cap, rfl, hlen, hr, hcase⟩ := h
  rcases hcase with rfl | ⟨b, off, rfl, hc⟩
  · simp at hl; omega
  · rcases hk with rfl | rfl | rfl
    · exact gnum_1 b off l.length cap _ w (by omega) hlen.1 hlen.2 (hc 0 (by omega)) (hr 0)
    · exact gnum_2 b off l.length cap _ _ w (by omega) hlen.1 hlen.2 (hc 0 (by omega)) (hc 1 (by omega)) (hr 0) (hr 1)
    · exact gnum_4 b off l.length cap _ _ _ _ w (by omega) hlen.1 hlen.2 (hc 0 (by omega)) (hc 1 (by omega)) (hc 2 (by omega)) (hc 3 (by omega)) (hr 0) (hr 1) (hr 2) (hr 3)
theorem gnum_fail (v : Value) (l : List Int) (w : World) (h : Byt w v l) (k : Int) (hl : (l.length : Int) < k) : Calls Tryz.prog 218 #[v, .int .i64 k] w fun e w' => e = .returned (.tuple #[.int .i64 0, .int .i64 0, .iface 84 (.int .i64 3)]) ∧ Below w.heap.size w w' := by
  obtain ⟨ao, cap, rfl, _⟩ := h
  refine (gnum_short ao _ cap k w hl).mono ?_
  rintro e w' ⟨rfl, rfl⟩
  exact ⟨rfl, Below.refl _ _⟩

def PairBad (w : World) (e : Ending) (w' : World) : Prop := ∃ s t a x n, e = .returned (.tuple #[.string s, .string t, .int .i64 a, .iface 149 x]) ∧ Hid (Inn w' (.iface 149 x) n) ∧ Below w.heap.size w w'
set_option maxHeartbeats 1000000 in
theorem gpair_ok (v : Value) (l : List Int) (w : World) (h : Byt w v l) (s t : ByteArray) (K M : Nat) (h1 : gt l = (s, (K : Int), 0)) (h2 : gt (l.drop K) = (t, (M : Int), 0)) (hK : 2 ≤ K ∧ K ≤ l.length) (hM : K + M ≤ l.length) :
    Calls Tryz.prog 219 #[v] w fun e w' => e = .returned (.tuple #[.string s, .string t, .int .i64 (K + M : Nat), .nilIface]) ∧ Below w.heap.size w w' := by
  obtain ⟨b, off, cap, rfl, hc1, hc2⟩ := h.form1 (by omega)
  unfold maxLen at hc2
  have HV := hide h
  have H1 := hide h1
  have H2 := hide h2
  clear h h1 h2
  generalize hn : l.length = n at hc1 hK hM HV
  go_enter Tryz.func219, Tryz.ntmps219
  go_wp2_with fail
  refine (tget_good _ l _ (unhide HV) s K (unhide H1)).mono ?_
  rintro e w1 ⟨rfl, hb1⟩
  have HD1 : Hid (cap = K → Byt w1 (.slice (some ⟨b, off, none⟩) (n - K) 0) (l.drop K)) := fun e => by
    have := ((unhide HV).below hb1).drop' K (by omega)
    rw [if_pos e, e, Nat.sub_self] at this; exact this
  have HD2 : Hid (¬ cap = K → Byt w1 (.slice (some ⟨b, off + K, none⟩) (n - K) (cap - K)) (l.drop K)) := fun e => by
    have := ((unhide HV).below hb1).drop' K (by omega)
    rw [if_neg e] at this; exact this
  have HB1 := hide hb1
  clear hb1
  go_wp2_with fail
  case inl h =>
    refine (tget_good _ _ _ ((unhide HD1) h) t M (unhide H2)).mono ?_
    rintro e w2 ⟨rfl, hb2⟩
    go_wp2
    go_returns
    exact ⟨by go_num, (unhide HB1).trans (hb2.mono (unhide HB1).size)⟩
  case inr h =>
    refine (tget_good _ _ _ ((unhide HD2) h) t M (unhide H2)).mono ?_
    rintro e w2 ⟨rfl, hb2⟩
    go_wp2
    go_returns
    exact ⟨by go_num, (unhide HB1).trans (hb2.mono (unhide HB1).size)⟩
theorem gpair_bad1 (v : Value) (l : List Int) (w : World) (h : Byt w v l) (m : Int) (h1 : (gt l).2.2 = m) (hm : m ≠ 0) : Calls Tryz.prog 219 #[v] w (PairBad w) := by
  obtain ⟨ao, cap, rfl, hc1, hc2⟩ := h.form
  have HV := hide h
  have H1 := hide h1
  clear h h1
  generalize hn : l.length = n at hc1 HV
  go_enter Tryz.func219, Tryz.ntmps219
  go_wp2_with fail
  refine (tget_fail _ l _ (unhide HV) m (unhide H1) hm).mono ?_
  rintro e w1 ⟨s, a, x, rfl, hi, hb1⟩
  go_wp2
  go_returns
  exact ⟨_, _, _, _, _, rfl, hi, hb1⟩
set_option maxHeartbeats 1000000 in
theorem gpair_bad2 (v : Value) (l : List Int) (w : World) (h : Byt w v l) (s : ByteArray) (K : Nat) (h1 : gt l = (s, (K : Int), 0)) (hK : 2 ≤ K ∧ K ≤ l.length) (m : Int) (h2 : (gt (l.drop K)).2.2 = m) (hm : m ≠ 0) : Calls Tryz.prog 219 #[v] w (PairBad w) := by
  obtain ⟨b, off, cap, rfl, hc1, hc2⟩ := h.form1 (by omega)
  unfold maxLen at hc2
  have HV := hide h
  have H1 := hide h1
  have H2 := hide h2
  clear h h1 h2
  generalize hn : l.length = n at hc1 hK HV
  go_enter Tryz.func219, Tryz.ntmps219
  go_wp2_with fail
  refine (tget_good _ l _ (unhide HV) s K (unhide H1)).mono ?_
  rintro e w1 ⟨rfl, hb1⟩
  have HD1 : Hid (cap = K → Byt w1 (.slice (some ⟨b, off, none⟩) (n - K) 0) (l.drop K)) := fun e => by
    have := ((unhide HV).below hb1).drop' K (by omega)
    rw [if_pos e, e, Nat.sub_self] at this; exact this
  have HD2 : Hid (¬ cap = K → Byt w1 (.slice (some ⟨b, off + K, none⟩) (n - K) (cap - K)) (l.drop K)) := fun e => by
    have := ((unhide HV).below hb1).drop' K (by omega)
    rw [if_neg e] at this; exact this
  have HB1 := hide hb1
  clear hb1
  go_wp2_with fail
  case inl h =>
    refine (tget_fail _ _ _ ((unhide HD1) h) m (unhide H2) hm).mono ?_
    rintro e w2 ⟨s, a, x, rfl, hi, hb2⟩
    go_wp2
    go_returns
    exact ⟨_, _, _, _, _, rfl, hi, (unhide HB1).trans (hb2.mono (unhide HB1).size)⟩
  case inr h =>
    refine (tget_fail _ _ _ ((unhide HD2) h) m (unhide H2) hm).mono ?_
    rintro e w2 ⟨s, a, x, rfl, hi, hb2⟩
    go_wp2
    go_returns
    exact ⟨_, _, _, _, _, rfl, hi, (unhide HB1).trans (hb2.mono (unhide HB1).size)⟩

theorem cell_set (w : World) (p q : Addr) (v : Value) (h : (w.cell? q).isSome = true) : (w.setCell p v).cell? q = if p = q then some v else w.cell? q := by
  by_cases e : p = q
  · subst e
    rw [if_pos rfl]
    exact World.cell?_setCell_same' w p v h
  · rw [if_neg e]
    exact World.cell?_setCell_other _ _ _ _ e
/-- a return of a property that lies in memory, a number, an error -/
theorem res_p {fn : Func} {a t u : Tmp} (h : fn.results = #[.cell a 120, .tmp t, .tmp u]) {tmps : Array Value} {w : World} {B : Nat} {v0 v1 v2 v3 : Value} (ha : tmps[a]?.getD undef = .pointer (some ⟨B, 0, none⟩)) (c0 : w.cell? ⟨B, 0, none⟩ = some v0) (c1 : w.cell? ⟨B, 1, none⟩ = some v1) (c2 : w.cell? ⟨B, 2, none⟩ = some v2) (c3 : w.cell? ⟨B, 3, none⟩ = some v3) :
    (results fn tmps).run Tryz.prog w = .ok (.tuple #[.agg #[v0, v1, v2, v3], tmps[t]?.getD undef, tmps[u]?.getD undef]) w := by
  simp [results, h, ha, go_sem, c0, c1, c2, c3]
/-- an error of below that does not lie in the block B -/
def InnOff (B : Nat) (w : World) (v : Value) (n : Int) : Prop := v = .iface 84 (.int .i64 n) ∨ ∃ b, b ≠ B ∧ v = .iface 149 (.pointer (some ⟨b, 0, none⟩)) ∧ w.cell? ⟨b, 1, none⟩ = some (.iface 84 (.int .i64 n))
theorem InnOff.inn {B : Nat} {w : World} {v : Value} {n : Int} (h : InnOff B w v n) : Inn w v n := by
  rcases h with h | ⟨b, _, h1, h2⟩
  · exact .inl h
  · exact .inr ⟨b, h1, h2⟩
theorem InnOff.set {B : Nat} {w : World} {v : Value} {n : Int} (h : InnOff B w v n) {p : Addr} {u : Value} (hp : p.block = B) : InnOff B (w.setCell p u) v n := by
  rcases h with h | ⟨b, h0, h1, h2⟩
  · exact .inl h
  · exact .inr ⟨b, h0, h1, by rw [World.cell?_setCell_far _ _ _ _ (by rw [hp]; exact Ne.symm h0)]; exact h2⟩
theorem Inn.off {B : Nat} {w : World} {v : Value} {n z : Int} (h : Inn w v n) (hB : w.cell? ⟨B, 1, none⟩ = some (.int .i64 z)) : InnOff B w v n := by
  rcases h with h | ⟨b, h1, h2⟩
  · exact .inl h
  · refine .inr ⟨b, ?_, h1, h2⟩
    rintro rfl
    rw [hB] at h2
    simp at h2
/-- a property but for its ID, and how many bytes -/
def GvOk (n : Int) (s t : ByteArray) (K : Int) (w : World) (e : Ending) (w' : World) : Prop := e = .returned (.tuple #[.agg #[.int .i64 0, .int .i64 n, .string s, .string t], .int .i64 K, .nilIface]) ∧ Below w.heap.size w w'
def GvBad (w : World) (e : Ending) (w' : World) : Prop := ∃ i n s t K ty x m, e = .returned (.tuple #[.agg #[.int .i64 i, .int .i64 n, .string s, .string t], .int .i64 K, .iface ty x]) ∧ Hid (Inn w' (.iface ty x) m) ∧ Below w.heap.size w w'
abbrev shp (f k lo hi : Int) : Value := .agg #[.int .i64 f, .int .i64 k, .int .i64 lo, .int .i64 hi]
set_option maxHeartbeats 1000000 in
theorem gval_num (v : Value) (l : List Int) (w : World) (h : Byt w v l) (k lo hi : Int) (hk : k = 1 ∨ k = 2 ∨ k = 4) (hl : k ≤ l.length) : Calls Tryz.prog 211 #[v, shp 1 k lo hi] w (GvOk (be k l) es es k w) := by
  obtain ⟨ao, cap, rfl, hc1, hc2⟩ := h.form
  have HV := hide h
  have Hhk := hide hk
  clear hk
  have Hhl := hide hl
  clear hl
  clear h
  generalize hn : l.length = n at hc1 HV
  go_enter Tryz.func211, Tryz.ntmps211
  go_wp2_with fail
  refine (gnum_good _ l _ ((unhide HV).below (by go_grown)) k (unhide Hhk) (unhide Hhl)).mono ?_
  rintro e w1 ⟨rfl, hb1⟩
  have HB1 : Hid (Below w.heap.size w w1) := (((Below.refl _ _).alloc (Nat.le_refl _) _).alloc (by simp) _).trans (hb1.mono (by simp; omega))
  have q0 : w1.cell? ⟨w.heap.size + 1, 0, none⟩ = some (.int .i64 0) := (hb1.cell (p := ⟨w.heap.size + 1, 0, none⟩) (by simp)).trans (by simp)
  have q1 : w1.cell? ⟨w.heap.size + 1, 1, none⟩ = some (.int .i64 0) := (hb1.cell (p := ⟨w.heap.size + 1, 1, none⟩) (by simp)).trans (by simp)
  have q2 : w1.cell? ⟨w.heap.size + 1, 2, none⟩ = some (.string ⟨#[]⟩) := (hb1.cell (p := ⟨w.heap.size + 1, 2, none⟩) (by simp)).trans (by simp)
  have q3 : w1.cell? ⟨w.heap.size + 1, 3, none⟩ = some (.string ⟨#[]⟩) := (hb1.cell (p := ⟨w.heap.size + 1, 3, none⟩) (by simp)).trans (by simp)
  have f0 : w1.frozen? ⟨w.heap.size + 1, 0, none⟩ = false := (hb1.frozen (p := ⟨w.heap.size + 1, 0, none⟩) (by simp)).trans (by simp)
  have f1 : w1.frozen? ⟨w.heap.size + 1, 1, none⟩ = false := (hb1.frozen (p := ⟨w.heap.size + 1, 1, none⟩) (by simp)).trans (by simp)
  have f2 : w1.frozen? ⟨w.heap.size + 1, 2, none⟩ = false := (hb1.frozen (p := ⟨w.heap.size + 1, 2, none⟩) (by simp)).trans (by simp)
  have f3 : w1.frozen? ⟨w.heap.size + 1, 3, none⟩ = false := (hb1.frozen (p := ⟨w.heap.size + 1, 3, none⟩) (by simp)).trans (by simp)
  clear hb1
  go_wp2
  (try simp only [Exit.inBlock, Exit.then])
  refine bodyPost_ret (res_p (B := w.heap.size + 1) (v0 := .int .i64 0) (v1 := .int .i64 (be k l)) (v2 := .string ⟨#[]⟩) (v3 := .string ⟨#[]⟩) rfl rfl ?c0 ?c1 ?c2 ?c3) rfl ?_
  case c0 => simp (maxDischargeDepth := 12) [cell_set, q0]
  case c1 => simp (maxDischargeDepth := 12) [cell_set, q1]
  case c2 => simp (maxDischargeDepth := 12) [cell_set, q2]
  case c3 => simp (maxDischargeDepth := 12) [cell_set, q3]
  exact ⟨rfl, by have := unhide HB1; go_grown⟩
set_option maxHeartbeats 1000000 in
theorem gval_num_bad (v : Value) (l : List Int) (w : World) (h : Byt w v l) (k lo hi : Int) (hl : (l.length : Int) < k) : Calls Tryz.prog 211 #[v, shp 1 k lo hi] w (GvBad w) := by
  obtain ⟨ao, cap, rfl, hc1, hc2⟩ := h.form
  have HV := hide h
  have Hhl := hide hl
  clear hl
  clear h
  generalize hn : l.length = n at hc1 HV
  go_enter Tryz.func211, Tryz.ntmps211
  go_wp2_with fail
  refine (gnum_fail _ l _ ((unhide HV).below (by go_grown)) k (unhide Hhl)).mono ?_
  rintro e w1 ⟨rfl, hb1⟩
  have HB1 : Hid (Below w.heap.size w w1) := (((Below.refl _ _).alloc (Nat.le_refl _) _).alloc (by simp) _).trans (hb1.mono (by simp; omega))
  have q0 : w1.cell? ⟨w.heap.size + 1, 0, none⟩ = some (.int .i64 0) := (hb1.cell (p := ⟨w.heap.size + 1, 0, none⟩) (by simp)).trans (by simp)
  have q1 : w1.cell? ⟨w.heap.size + 1, 1, none⟩ = some (.int .i64 0) := (hb1.cell (p := ⟨w.heap.size + 1, 1, none⟩) (by simp)).trans (by simp)
  have q2 : w1.cell? ⟨w.heap.size + 1, 2, none⟩ = some (.string ⟨#[]⟩) := (hb1.cell (p := ⟨w.heap.size + 1, 2, none⟩) (by simp)).trans (by simp)
  have q3 : w1.cell? ⟨w.heap.size + 1, 3, none⟩ = some (.string ⟨#[]⟩) := (hb1.cell (p := ⟨w.heap.size + 1, 3, none⟩) (by simp)).trans (by simp)
  have f0 : w1.frozen? ⟨w.heap.size + 1, 0, none⟩ = false := (hb1.frozen (p := ⟨w.heap.size + 1, 0, none⟩) (by simp)).trans (by simp)
  have f1 : w1.frozen? ⟨w.heap.size + 1, 1, none⟩ = false := (hb1.frozen (p := ⟨w.heap.size + 1, 1, none⟩) (by simp)).trans (by simp)
  have f2 : w1.frozen? ⟨w.heap.size + 1, 2, none⟩ = false := (hb1.frozen (p := ⟨w.heap.size + 1, 2, none⟩) (by simp)).trans (by simp)
  have f3 : w1.frozen? ⟨w.heap.size + 1, 3, none⟩ = false := (hb1.frozen (p := ⟨w.heap.size + 1, 3, none⟩) (by simp)).trans (by simp)
  clear hb1
  go_wp2
  (try simp only [Exit.inBlock, Exit.then])
  refine bodyPost_ret (res_p (B := w.heap.size + 1) (v0 := .int .i64 0) (v1 := .int .i64 (0)) (v2 := .string ⟨#[]⟩) (v3 := .string ⟨#[]⟩) rfl rfl ?c0 ?c1 ?c2 ?c3) rfl ?_
  case c0 => simp (maxDischargeDepth := 12) [cell_set, q0]
  case c1 => simp (maxDischargeDepth := 12) [cell_set, q1]
  case c2 => simp (maxDischargeDepth := 12) [cell_set, q2]
  case c3 => simp (maxDischargeDepth := 12) [cell_set, q3]
  exact ⟨_, _, _, _, _, _, _, _, rfl, .inl rfl, by have := unhide HB1; go_grown⟩
set_option maxHeartbeats 1000000 in
theorem gval_var (v : Value) (l : List Int) (w : World) (h : Byt w v l) (wd lo hi : Int) (N : Int) (K : Nat) (hg : V.vget l = (N, (K : Int), 0)) : Calls Tryz.prog 211 #[v, shp 2 wd lo hi] w (GvOk N es es K w) := by
  obtain ⟨ao, cap, rfl, hc1, hc2⟩ := h.form
  have HV := hide h
  have Hhg := hide hg
  clear hg
  clear h
  generalize hn : l.length = n at hc1 HV
  go_enter Tryz.func211, Tryz.ntmps211
  go_wp2_with fail
  refine (vget_good _ l _ ((unhide HV).below (by go_grown)) N K (unhide Hhg)).mono ?_
  rintro e w1 ⟨rfl, hb1⟩
  have HB1 : Hid (Below w.heap.size w w1) := (((Below.refl _ _).alloc (Nat.le_refl _) _).alloc (by simp) _).trans (hb1.mono (by simp; omega))
  have q0 : w1.cell? ⟨w.heap.size + 1, 0, none⟩ = some (.int .i64 0) := (hb1.cell (p := ⟨w.heap.size + 1, 0, none⟩) (by simp)).trans (by simp)
  have q1 : w1.cell? ⟨w.heap.size + 1, 1, none⟩ = some (.int .i64 0) := (hb1.cell (p := ⟨w.heap.size + 1, 1, none⟩) (by simp)).trans (by simp)
  have q2 : w1.cell? ⟨w.heap.size + 1, 2, none⟩ = some (.string ⟨#[]⟩) := (hb1.cell (p := ⟨w.heap.size + 1, 2, none⟩) (by simp)).trans (by simp)
  have q3 : w1.cell? ⟨w.heap.size + 1, 3, none⟩ = some (.string ⟨#[]⟩) := (hb1.cell (p := ⟨w.heap.size + 1, 3, none⟩) (by simp)).trans (by simp)
  have f0 : w1.frozen? ⟨w.heap.size + 1, 0, none⟩ = false := (hb1.frozen (p := ⟨w.heap.size + 1, 0, none⟩) (by simp)).trans (by simp)
  have f1 : w1.frozen? ⟨w.heap.size + 1, 1, none⟩ = false := (hb1.frozen (p := ⟨w.heap.size + 1, 1, none⟩) (by simp)).trans (by simp)
  have f2 : w1.frozen? ⟨w.heap.size + 1, 2, none⟩ = false := (hb1.frozen (p := ⟨w.heap.size + 1, 2, none⟩) (by simp)).trans (by simp)
  have f3 : w1.frozen? ⟨w.heap.size + 1, 3, none⟩ = false := (hb1.frozen (p := ⟨w.heap.size + 1, 3, none⟩) (by simp)).trans (by simp)
  clear hb1
  go_wp2
  (try simp only [Exit.inBlock, Exit.then])
  refine bodyPost_ret (res_p (B := w.heap.size + 1) (v0 := .int .i64 0) (v1 := .int .i64 (N)) (v2 := .string ⟨#[]⟩) (v3 := .string ⟨#[]⟩) rfl rfl ?c0 ?c1 ?c2 ?c3) rfl ?_
  case c0 => simp (maxDischargeDepth := 12) [cell_set, q0]
  case c1 => simp (maxDischargeDepth := 12) [cell_set, q1]
  case c2 => simp (maxDischargeDepth := 12) [cell_set, q2]
  case c3 => simp (maxDischargeDepth := 12) [cell_set, q3]
  exact ⟨rfl, by have := unhide HB1; go_grown⟩
set_option maxHeartbeats 1000000 in
theorem gval_var_bad (v : Value) (l : List Int) (w : World) (h : Byt w v l) (wd lo hi : Int) (m : Int) (hg : (V.vget l).2.2 = m) (hm : m ≠ 0) : Calls Tryz.prog 211 #[v, shp 2 wd lo hi] w (GvBad w) := by
  obtain ⟨ao, cap, rfl, hc1, hc2⟩ := h.form
  have HV := hide h
  have Hhg := hide hg
  clear hg
  clear h
  generalize hn : l.length = n at hc1 HV
  go_enter Tryz.func211, Tryz.ntmps211
  go_wp2_with fail
  refine (vget_fail _ l _ ((unhide HV).below (by go_grown)) m (unhide Hhg) hm).mono ?_
  rintro e w1 ⟨a, b, x, rfl, hi, hb1⟩
  have HB1 : Hid (Below w.heap.size w w1) := (((Below.refl _ _).alloc (Nat.le_refl _) _).alloc (by simp) _).trans (hb1.mono (by simp; omega))
  have q0 : w1.cell? ⟨w.heap.size + 1, 0, none⟩ = some (.int .i64 0) := (hb1.cell (p := ⟨w.heap.size + 1, 0, none⟩) (by simp)).trans (by simp)
  have q1 : w1.cell? ⟨w.heap.size + 1, 1, none⟩ = some (.int .i64 0) := (hb1.cell (p := ⟨w.heap.size + 1, 1, none⟩) (by simp)).trans (by simp)
  have q2 : w1.cell? ⟨w.heap.size + 1, 2, none⟩ = some (.string ⟨#[]⟩) := (hb1.cell (p := ⟨w.heap.size + 1, 2, none⟩) (by simp)).trans (by simp)
  have q3 : w1.cell? ⟨w.heap.size + 1, 3, none⟩ = some (.string ⟨#[]⟩) := (hb1.cell (p := ⟨w.heap.size + 1, 3, none⟩) (by simp)).trans (by simp)
  have f0 : w1.frozen? ⟨w.heap.size + 1, 0, none⟩ = false := (hb1.frozen (p := ⟨w.heap.size + 1, 0, none⟩) (by simp)).trans (by simp)
  have f1 : w1.frozen? ⟨w.heap.size + 1, 1, none⟩ = false := (hb1.frozen (p := ⟨w.heap.size + 1, 1, none⟩) (by simp)).trans (by simp)
  have f2 : w1.frozen? ⟨w.heap.size + 1, 2, none⟩ = false := (hb1.frozen (p := ⟨w.heap.size + 1, 2, none⟩) (by simp)).trans (by simp)
  have f3 : w1.frozen? ⟨w.heap.size + 1, 3, none⟩ = false := (hb1.frozen (p := ⟨w.heap.size + 1, 3, none⟩) (by simp)).trans (by simp)
  clear hb1
  have HOF := hide ((unhide hi).off q1)
  clear hi
  go_wp2
  (try simp only [Exit.inBlock, Exit.then])
  refine bodyPost_ret (res_p (B := w.heap.size + 1) (v0 := .int .i64 0) (v1 := .int .i64 (a)) (v2 := .string ⟨#[]⟩) (v3 := .string ⟨#[]⟩) rfl rfl ?c0 ?c1 ?c2 ?c3) rfl ?_
  case c0 => simp (maxDischargeDepth := 12) [cell_set, q0]
  case c1 => simp (maxDischargeDepth := 12) [cell_set, q1]
  case c2 => simp (maxDischargeDepth := 12) [cell_set, q2]
  case c3 => simp (maxDischargeDepth := 12) [cell_set, q3]
  refine ⟨_, _, _, _, _, _, _, m, rfl, InnOff.inn (B := w.heap.size + 1) ?_, ?_⟩
  · refine InnOff.set ?_ rfl; refine InnOff.set ?_ rfl; refine InnOff.set ?_ rfl; refine InnOff.set ?_ rfl; refine InnOff.set ?_ rfl; exact unhide HOF
  · have := unhide HB1; go_grown
set_option maxHeartbeats 1000000 in
theorem gval_text (v : Value) (l : List Int) (w : World) (h : Byt w v l) (wd lo hi : Int) (s : ByteArray) (K : Nat) (hg : gt l = (s, (K : Int), 0)) : Calls Tryz.prog 211 #[v, shp 3 wd lo hi] w (GvOk 0 s es K w) := by
  obtain ⟨ao, cap, rfl, hc1, hc2⟩ := h.form
  have HV := hide h
  have Hhg := hide hg
  clear hg
  clear h
  generalize hn : l.length = n at hc1 HV
  go_enter Tryz.func211, Tryz.ntmps211
  go_wp2_with fail
  refine (tget_good _ l _ ((unhide HV).below (by go_grown)) s K (unhide Hhg)).mono ?_
  rintro e w1 ⟨rfl, hb1⟩
  have HB1 : Hid (Below w.heap.size w w1) := (((Below.refl _ _).alloc (Nat.le_refl _) _).alloc (by simp) _).trans (hb1.mono (by simp; omega))
  have q0 : w1.cell? ⟨w.heap.size + 1, 0, none⟩ = some (.int .i64 0) := (hb1.cell (p := ⟨w.heap.size + 1, 0, none⟩) (by simp)).trans (by simp)
  have q1 : w1.cell? ⟨w.heap.size + 1, 1, none⟩ = some (.int .i64 0) := (hb1.cell (p := ⟨w.heap.size + 1, 1, none⟩) (by simp)).trans (by simp)
  have q2 : w1.cell? ⟨w.heap.size + 1, 2, none⟩ = some (.string ⟨#[]⟩) := (hb1.cell (p := ⟨w.heap.size + 1, 2, none⟩) (by simp)).trans (by simp)
  have q3 : w1.cell? ⟨w.heap.size + 1, 3, none⟩ = some (.string ⟨#[]⟩) := (hb1.cell (p := ⟨w.heap.size + 1, 3, none⟩) (by simp)).trans (by simp)
  have f0 : w1.frozen? ⟨w.heap.size + 1, 0, none⟩ = false := (hb1.frozen (p := ⟨w.heap.size + 1, 0, none⟩) (by simp)).trans (by simp)
  have f1 : w1.frozen? ⟨w.heap.size + 1, 1, none⟩ = false := (hb1.frozen (p := ⟨w.heap.size + 1, 1, none⟩) (by simp)).trans (by simp)
  have f2 : w1.frozen? ⟨w.heap.size + 1, 2, none⟩ = false := (hb1.frozen (p := ⟨w.heap.size + 1, 2, none⟩) (by simp)).trans (by simp)
  have f3 : w1.frozen? ⟨w.heap.size + 1, 3, none⟩ = false := (hb1.frozen (p := ⟨w.heap.size + 1, 3, none⟩) (by simp)).trans (by simp)
  clear hb1
  go_wp2
  (try simp only [Exit.inBlock, Exit.then])
  refine bodyPost_ret (res_p (B := w.heap.size + 1) (v0 := .int .i64 0) (v1 := .int .i64 (0)) (v2 := .string s) (v3 := .string ⟨#[]⟩) rfl rfl ?c0 ?c1 ?c2 ?c3) rfl ?_
  case c0 => simp (maxDischargeDepth := 12) [cell_set, q0]
  case c1 => simp (maxDischargeDepth := 12) [cell_set, q1]
  case c2 => simp (maxDischargeDepth := 12) [cell_set, q2]
  case c3 => simp (maxDischargeDepth := 12) [cell_set, q3]
  exact ⟨rfl, by have := unhide HB1; go_grown⟩
set_option maxHeartbeats 1000000 in
theorem gval_text_bad (v : Value) (l : List Int) (w : World) (h : Byt w v l) (wd lo hi : Int) (m : Int) (hg : (gt l).2.2 = m) (hm : m ≠ 0) : Calls Tryz.prog 211 #[v, shp 3 wd lo hi] w (GvBad w) := by
  obtain ⟨ao, cap, rfl, hc1, hc2⟩ := h.form
  have HV := hide h
  have Hhg := hide hg
  clear hg
  clear h
  generalize hn : l.length = n at hc1 HV
  go_enter Tryz.func211, Tryz.ntmps211
  go_wp2_with fail
  refine (tget_fail _ l _ ((unhide HV).below (by go_grown)) m (unhide Hhg) hm).mono ?_
  rintro e w1 ⟨s, a, x, rfl, hi, hb1⟩
  have HB1 : Hid (Below w.heap.size w w1) := (((Below.refl _ _).alloc (Nat.le_refl _) _).alloc (by simp) _).trans (hb1.mono (by simp; omega))
  have q0 : w1.cell? ⟨w.heap.size + 1, 0, none⟩ = some (.int .i64 0) := (hb1.cell (p := ⟨w.heap.size + 1, 0, none⟩) (by simp)).trans (by simp)
  have q1 : w1.cell? ⟨w.heap.size + 1, 1, none⟩ = some (.int .i64 0) := (hb1.cell (p := ⟨w.heap.size + 1, 1, none⟩) (by simp)).trans (by simp)
  have q2 : w1.cell? ⟨w.heap.size + 1, 2, none⟩ = some (.string ⟨#[]⟩) := (hb1.cell (p := ⟨w.heap.size + 1, 2, none⟩) (by simp)).trans (by simp)
  have q3 : w1.cell? ⟨w.heap.size + 1, 3, none⟩ = some (.string ⟨#[]⟩) := (hb1.cell (p := ⟨w.heap.size + 1, 3, none⟩) (by simp)).trans (by simp)
  have f0 : w1.frozen? ⟨w.heap.size + 1, 0, none⟩ = false := (hb1.frozen (p := ⟨w.heap.size + 1, 0, none⟩) (by simp)).trans (by simp)
  have f1 : w1.frozen? ⟨w.heap.size + 1, 1, none⟩ = false := (hb1.frozen (p := ⟨w.heap.size + 1, 1, none⟩) (by simp)).trans (by simp)
  have f2 : w1.frozen? ⟨w.heap.size + 1, 2, none⟩ = false := (hb1.frozen (p := ⟨w.heap.size + 1, 2, none⟩) (by simp)).trans (by simp)
  have f3 : w1.frozen? ⟨w.heap.size + 1, 3, none⟩ = false := (hb1.frozen (p := ⟨w.heap.size + 1, 3, none⟩) (by simp)).trans (by simp)
  clear hb1
  have HOF := hide ((unhide hi).off q1)
  clear hi
  go_wp2
  (try simp only [Exit.inBlock, Exit.then])
  refine bodyPost_ret (res_p (B := w.heap.size + 1) (v0 := .int .i64 0) (v1 := .int .i64 (0)) (v2 := .string s) (v3 := .string ⟨#[]⟩) rfl rfl ?c0 ?c1 ?c2 ?c3) rfl ?_
  case c0 => simp (maxDischargeDepth := 12) [cell_set, q0]
  case c1 => simp (maxDischargeDepth := 12) [cell_set, q1]
  case c2 => simp (maxDischargeDepth := 12) [cell_set, q2]
  case c3 => simp (maxDischargeDepth := 12) [cell_set, q3]
  refine ⟨_, _, _, _, _, _, _, m, rfl, InnOff.inn (B := w.heap.size + 1) ?_, ?_⟩
  · refine InnOff.set ?_ rfl; refine InnOff.set ?_ rfl; refine InnOff.set ?_ rfl; refine InnOff.set ?_ rfl; refine InnOff.set ?_ rfl; exact unhide HOF
  · have := unhide HB1; go_grown
set_option maxHeartbeats 1000000 in
theorem gval_bin (v : Value) (l : List Int) (w : World) (h : Byt w v l) (wd lo hi : Int) (s : ByteArray) (K : Nat) (hg : gbn l = (s, (K : Int), 0)) : Calls Tryz.prog 211 #[v, shp 4 wd lo hi] w (GvOk 0 s es K w) := by
  obtain ⟨ao, cap, rfl, hc1, hc2⟩ := h.form
  have HV := hide h
  have Hhg := hide hg
  clear hg
  clear h
  generalize hn : l.length = n at hc1 HV
  go_enter Tryz.func211, Tryz.ntmps211
  go_wp2_with fail
  refine (tbin_good _ l _ ((unhide HV).below (by go_grown)) s K (unhide Hhg)).mono ?_
  rintro e w1 ⟨rfl, hb1⟩
  have HB1 : Hid (Below w.heap.size w w1) := (((Below.refl _ _).alloc (Nat.le_refl _) _).alloc (by simp) _).trans (hb1.mono (by simp; omega))
  have q0 : w1.cell? ⟨w.heap.size + 1, 0, none⟩ = some (.int .i64 0) := (hb1.cell (p := ⟨w.heap.size + 1, 0, none⟩) (by simp)).trans (by simp)
  have q1 : w1.cell? ⟨w.heap.size + 1, 1, none⟩ = some (.int .i64 0) := (hb1.cell (p := ⟨w.heap.size + 1, 1, none⟩) (by simp)).trans (by simp)
  have q2 : w1.cell? ⟨w.heap.size + 1, 2, none⟩ = some (.string ⟨#[]⟩) := (hb1.cell (p := ⟨w.heap.size + 1, 2, none⟩) (by simp)).trans (by simp)
  have q3 : w1.cell? ⟨w.heap.size + 1, 3, none⟩ = some (.string ⟨#[]⟩) := (hb1.cell (p := ⟨w.heap.size + 1, 3, none⟩) (by simp)).trans (by simp)
  have f0 : w1.frozen? ⟨w.heap.size + 1, 0, none⟩ = false := (hb1.frozen (p := ⟨w.heap.size + 1, 0, none⟩) (by simp)).trans (by simp)
  have f1 : w1.frozen? ⟨w.heap.size + 1, 1, none⟩ = false := (hb1.frozen (p := ⟨w.heap.size + 1, 1, none⟩) (by simp)).trans (by simp)
  have f2 : w1.frozen? ⟨w.heap.size + 1, 2, none⟩ = false := (hb1.frozen (p := ⟨w.heap.size + 1, 2, none⟩) (by simp)).trans (by simp)
  have f3 : w1.frozen? ⟨w.heap.size + 1, 3, none⟩ = false := (hb1.frozen (p := ⟨w.heap.size + 1, 3, none⟩) (by simp)).trans (by simp)
  clear hb1
  go_wp2
  (try simp only [Exit.inBlock, Exit.then])
  refine bodyPost_ret (res_p (B := w.heap.size + 1) (v0 := .int .i64 0) (v1 := .int .i64 (0)) (v2 := .string s) (v3 := .string ⟨#[]⟩) rfl rfl ?c0 ?c1 ?c2 ?c3) rfl ?_
  case c0 => simp (maxDischargeDepth := 12) [cell_set, q0]
  case c1 => simp (maxDischargeDepth := 12) [cell_set, q1]
  case c2 => simp (maxDischargeDepth := 12) [cell_set, q2]
  case c3 => simp (maxDischargeDepth := 12) [cell_set, q3]
  exact ⟨rfl, by have := unhide HB1; go_grown⟩
set_option maxHeartbeats 1000000 in
theorem gval_bin_bad (v : Value) (l : List Int) (w : World) (h : Byt w v l) (wd lo hi : Int) (m : Int) (hg : (gbn l).2.2 = m) (hm : m ≠ 0) : Calls Tryz.prog 211 #[v, shp 4 wd lo hi] w (GvBad w) := by
  obtain ⟨ao, cap, rfl, hc1, hc2⟩ := h.form
  have HV := hide h
  have Hhg := hide hg
  clear hg
  clear h
  generalize hn : l.length = n at hc1 HV
  go_enter Tryz.func211, Tryz.ntmps211
  go_wp2_with fail
  refine (tbin_fail _ l _ ((unhide HV).below (by go_grown)) m (unhide Hhg) hm).mono ?_
  rintro e w1 ⟨s, a, x, rfl, hi, hb1⟩
  have HB1 : Hid (Below w.heap.size w w1) := (((Below.refl _ _).alloc (Nat.le_refl _) _).alloc (by simp) _).trans (hb1.mono (by simp; omega))
  have q0 : w1.cell? ⟨w.heap.size + 1, 0, none⟩ = some (.int .i64 0) := (hb1.cell (p := ⟨w.heap.size + 1, 0, none⟩) (by simp)).trans (by simp)
  have q1 : w1.cell? ⟨w.heap.size + 1, 1, none⟩ = some (.int .i64 0) := (hb1.cell (p := ⟨w.heap.size + 1, 1, none⟩) (by simp)).trans (by simp)
  have q2 : w1.cell? ⟨w.heap.size + 1, 2, none⟩ = some (.string ⟨#[]⟩) := (hb1.cell (p := ⟨w.heap.size + 1, 2, none⟩) (by simp)).trans (by simp)
  have q3 : w1.cell? ⟨w.heap.size + 1, 3, none⟩ = some (.string ⟨#[]⟩) := (hb1.cell (p := ⟨w.heap.size + 1, 3, none⟩) (by simp)).trans (by simp)
  have f0 : w1.frozen? ⟨w.heap.size + 1, 0, none⟩ = false := (hb1.frozen (p := ⟨w.heap.size + 1, 0, none⟩) (by simp)).trans (by simp)
  have f1 : w1.frozen? ⟨w.heap.size + 1, 1, none⟩ = false := (hb1.frozen (p := ⟨w.heap.size + 1, 1, none⟩) (by simp)).trans (by simp)
  have f2 : w1.frozen? ⟨w.heap.size + 1, 2, none⟩ = false := (hb1.frozen (p := ⟨w.heap.size + 1, 2, none⟩) (by simp)).trans (by simp)
  have f3 : w1.frozen? ⟨w.heap.size + 1, 3, none⟩ = false := (hb1.frozen (p := ⟨w.heap.size + 1, 3, none⟩) (by simp)).trans (by simp)
  clear hb1
  have HOF := hide ((unhide hi).off q1)
  clear hi
  go_wp2
  (try simp only [Exit.inBlock, Exit.then])
  refine bodyPost_ret (res_p (B := w.heap.size + 1) (v0 := .int .i64 0) (v1 := .int .i64 (0)) (v2 := .string s) (v3 := .string ⟨#[]⟩) rfl rfl ?c0 ?c1 ?c2 ?c3) rfl ?_
  case c0 => simp (maxDischargeDepth := 12) [cell_set, q0]
  case c1 => simp (maxDischargeDepth := 12) [cell_set, q1]
  case c2 => simp (maxDischargeDepth := 12) [cell_set, q2]
  case c3 => simp (maxDischargeDepth := 12) [cell_set, q3]
  refine ⟨_, _, _, _, _, _, _, m, rfl, InnOff.inn (B := w.heap.size + 1) ?_, ?_⟩
  · refine InnOff.set ?_ rfl; refine InnOff.set ?_ rfl; refine InnOff.set ?_ rfl; refine InnOff.set ?_ rfl; refine InnOff.set ?_ rfl; exact unhide HOF
  · have := unhide HB1; go_grown
set_option maxHeartbeats 1000000 in
theorem gval_pair (v : Value) (l : List Int) (w : World) (h : Byt w v l) (wd lo hi : Int) (s t : ByteArray) (K M : Nat) (h1 : gt l = (s, (K : Int), 0)) (h2 : gt (l.drop K) = (t, (M : Int), 0)) (hK : 2 ≤ K ∧ K ≤ l.length) (hM : K + M ≤ l.length) : Calls Tryz.prog 211 #[v, shp 5 wd lo hi] w (GvOk 0 s t (K + M : Nat) w) := by
  obtain ⟨ao, cap, rfl, hc1, hc2⟩ := h.form
  have HV := hide h
  have Hh1 := hide h1
  clear h1
  have Hh2 := hide h2
  clear h2
  have HhK := hide hK
  clear hK
  have HhM := hide hM
  clear hM
  clear h
  generalize hn : l.length = n at hc1 HV
  go_enter Tryz.func211, Tryz.ntmps211
  go_wp2_with fail
  refine (gpair_ok _ l _ ((unhide HV).below (by go_grown)) s t K M (unhide Hh1) (unhide Hh2) (unhide HhK) (unhide HhM)).mono ?_
  rintro e w1 ⟨rfl, hb1⟩
  have HB1 : Hid (Below w.heap.size w w1) := (((Below.refl _ _).alloc (Nat.le_refl _) _).alloc (by simp) _).trans (hb1.mono (by simp; omega))
  have q0 : w1.cell? ⟨w.heap.size + 1, 0, none⟩ = some (.int .i64 0) := (hb1.cell (p := ⟨w.heap.size + 1, 0, none⟩) (by simp)).trans (by simp)
  have q1 : w1.cell? ⟨w.heap.size + 1, 1, none⟩ = some (.int .i64 0) := (hb1.cell (p := ⟨w.heap.size + 1, 1, none⟩) (by simp)).trans (by simp)
  have q2 : w1.cell? ⟨w.heap.size + 1, 2, none⟩ = some (.string ⟨#[]⟩) := (hb1.cell (p := ⟨w.heap.size + 1, 2, none⟩) (by simp)).trans (by simp)
  have q3 : w1.cell? ⟨w.heap.size + 1, 3, none⟩ = some (.string ⟨#[]⟩) := (hb1.cell (p := ⟨w.heap.size + 1, 3, none⟩) (by simp)).trans (by simp)
  have f0 : w1.frozen? ⟨w.heap.size + 1, 0, none⟩ = false := (hb1.frozen (p := ⟨w.heap.size + 1, 0, none⟩) (by simp)).trans (by simp)
  have f1 : w1.frozen? ⟨w.heap.size + 1, 1, none⟩ = false := (hb1.frozen (p := ⟨w.heap.size + 1, 1, none⟩) (by simp)).trans (by simp)
  have f2 : w1.frozen? ⟨w.heap.size + 1, 2, none⟩ = false := (hb1.frozen (p := ⟨w.heap.size + 1, 2, none⟩) (by simp)).trans (by simp)
  have f3 : w1.frozen? ⟨w.heap.size + 1, 3, none⟩ = false := (hb1.frozen (p := ⟨w.heap.size + 1, 3, none⟩) (by simp)).trans (by simp)
  clear hb1
  go_wp2
  (try simp only [Exit.inBlock, Exit.then])
  refine bodyPost_ret (res_p (B := w.heap.size + 1) (v0 := .int .i64 0) (v1 := .int .i64 (0)) (v2 := .string s) (v3 := .string t) rfl rfl ?c0 ?c1 ?c2 ?c3) rfl ?_
  case c0 => simp (maxDischargeDepth := 12) [cell_set, q0]
  case c1 => simp (maxDischargeDepth := 12) [cell_set, q1]
  case c2 => simp (maxDischargeDepth := 12) [cell_set, q2]
  case c3 => simp (maxDischargeDepth := 12) [cell_set, q3]
  exact ⟨rfl, by have := unhide HB1; go_grown⟩
set_option maxHeartbeats 1000000 in
theorem gval_pair_bad (v : Value) (l : List Int) (w : World) (h : Byt w v l) (wd lo hi : Int) (hp : ∀ W, Byt W v l → Calls Tryz.prog 219 #[v] W (PairBad W)) : Calls Tryz.prog 211 #[v, shp 5 wd lo hi] w (GvBad w) := by
  obtain ⟨ao, cap, rfl, hc1, hc2⟩ := h.form
  have Hhp := hide hp
  clear hp
  have HV := hide h
  clear h
  generalize hn : l.length = n at hc1 HV Hhp
  go_enter Tryz.func211, Tryz.ntmps211
  go_wp2_with fail
  refine ((unhide Hhp) _ ((unhide HV).below (by go_grown))).mono ?_
  rintro e w1 ⟨s, t, a, x, m, rfl, hi, hb1⟩
  have HB1 : Hid (Below w.heap.size w w1) := (((Below.refl _ _).alloc (Nat.le_refl _) _).alloc (by simp) _).trans (hb1.mono (by simp; omega))
  have q0 : w1.cell? ⟨w.heap.size + 1, 0, none⟩ = some (.int .i64 0) := (hb1.cell (p := ⟨w.heap.size + 1, 0, none⟩) (by simp)).trans (by simp)
  have q1 : w1.cell? ⟨w.heap.size + 1, 1, none⟩ = some (.int .i64 0) := (hb1.cell (p := ⟨w.heap.size + 1, 1, none⟩) (by simp)).trans (by simp)
  have q2 : w1.cell? ⟨w.heap.size + 1, 2, none⟩ = some (.string ⟨#[]⟩) := (hb1.cell (p := ⟨w.heap.size + 1, 2, none⟩) (by simp)).trans (by simp)
  have q3 : w1.cell? ⟨w.heap.size + 1, 3, none⟩ = some (.string ⟨#[]⟩) := (hb1.cell (p := ⟨w.heap.size + 1, 3, none⟩) (by simp)).trans (by simp)
  have f0 : w1.frozen? ⟨w.heap.size + 1, 0, none⟩ = false := (hb1.frozen (p := ⟨w.heap.size + 1, 0, none⟩) (by simp)).trans (by simp)
  have f1 : w1.frozen? ⟨w.heap.size + 1, 1, none⟩ = false := (hb1.frozen (p := ⟨w.heap.size + 1, 1, none⟩) (by simp)).trans (by simp)
  have f2 : w1.frozen? ⟨w.heap.size + 1, 2, none⟩ = false := (hb1.frozen (p := ⟨w.heap.size + 1, 2, none⟩) (by simp)).trans (by simp)
  have f3 : w1.frozen? ⟨w.heap.size + 1, 3, none⟩ = false := (hb1.frozen (p := ⟨w.heap.size + 1, 3, none⟩) (by simp)).trans (by simp)
  clear hb1
  have HOF := hide ((unhide hi).off q1)
  clear hi
  go_wp2
  (try simp only [Exit.inBlock, Exit.then])
  refine bodyPost_ret (res_p (B := w.heap.size + 1) (v0 := .int .i64 0) (v1 := .int .i64 (0)) (v2 := .string s) (v3 := .string t) rfl rfl ?c0 ?c1 ?c2 ?c3) rfl ?_
  case c0 => simp (maxDischargeDepth := 12) [cell_set, q0]
  case c1 => simp (maxDischargeDepth := 12) [cell_set, q1]
  case c2 => simp (maxDischargeDepth := 12) [cell_set, q2]
  case c3 => simp (maxDischargeDepth := 12) [cell_set, q3]
  refine ⟨_, _, _, _, _, _, _, m, rfl, InnOff.inn (B := w.heap.size + 1) ?_, ?_⟩
  · refine InnOff.set ?_ rfl; refine InnOff.set ?_ rfl; refine InnOff.set ?_ rfl; refine InnOff.set ?_ rfl; refine InnOff.set ?_ rfl; refine InnOff.set ?_ rfl; exact unhide HOF
  · have := unhide HB1; go_grown
theorem gval_none (v : Value) (l : List Int) (w : World) (h : Byt w v l) (wd lo hi : Int) : Calls Tryz.prog 211 #[v, shp 0 wd lo hi] w (GvBad w) := by
  obtain ⟨ao, cap, rfl, hc1, hc2⟩ := h.form
  have HV := hide h
  clear h
  generalize hn : l.length = n at hc1 HV
  go_enter Tryz.func211, Tryz.ntmps211
  go_wp2
  go_returns
  exact ⟨_, _, _, _, _, _, _, _, rfl, .inl rfl, by go_grown⟩
end Go.Proofs.YtoocdfgjkeheaaaGreatDoor
/- Proved here: prop.getOne reads one property with which bytes begin, or tells an error of below. Helper contracts. -/
namespace Go.Proofs.YtoocdfgjkeheaaaGreatDoor
open Go.RowKit
set_option maxRecDepth 100000

abbrev opPGOne0 : Oper := { dst := some 18, op := Op.move (Operand.tmp 0), type := 31, pos := "prop.go:275", after := #[], guard := none }
abbrev opPGOne1 : Oper := { dst := some 19, op := Op.move (Operand.tmp 6), type := 3, pos := "prop.go:275", after := #[], guard := none }
abbrev opPGOne2 : Oper := { dst := some 20, op := Op.slice 31 (Operand.tmp 18) (some (Operand.tmp 19)) none none, type := 31, pos := "prop.go:275", after := #[{ on := 0, ground := Ground.data }, { on := 1, ground := Ground.data }], guard := none }
abbrev opPGOne3 : Oper := { dst := some 21, op := Op.move (Operand.tmp 5), type := 3, pos := "prop.go:275", after := #[], guard := none }
abbrev opPGOne4 : Oper := { dst := some 22, op := Op.call { callee := Callee.value (Operand.func 207), args := #[Operand.tmp 21], argTypes := #[3] }, type := 244, pos := "prop.go:275", after := #[{ on := 3, ground := Ground.data }], guard := none }
abbrev opPGOne5 : Oper := { dst := some 23, op := Op.call { callee := Callee.value (Operand.func 211), args := #[Operand.tmp 20, Operand.tmp 22], argTypes := #[31, 244] }, type := 239, pos := "prop.go:275", after := #[{ on := 2, ground := Ground.data }, { on := 4, ground := Ground.data }, { on := 4, ground := Ground.chain }], guard := none }
abbrev opPGOne6 : Oper := { dst := some 17, op := Op.move (Operand.tmp 23), type := 239, pos := "prop.go:275", after := #[{ on := 5, ground := Ground.data }], guard := none }
abbrev opPGOne7 : Oper := { dst := some 24, op := Op.extract (Operand.tmp 17) 0, type := 120, pos := "prop.go:275", after := #[{ on := 6, ground := Ground.data }], guard := none }
abbrev opPGOne8 : Oper := { dst := some 25, op := Op.extract (Operand.tmp 17) 1, type := 3, pos := "prop.go:275", after := #[{ on := 6, ground := Ground.data }, { on := 10, ground := Ground.gcOnly Departure.lateStores }], guard := none }
abbrev opPGOne9 : Oper := { dst := some 26, op := Op.extract (Operand.tmp 17) 2, type := 37, pos := "prop.go:275", after := #[{ on := 6, ground := Ground.data }, { on := 11, ground := Ground.gcOnly Departure.lateStores }], guard := none }
abbrev opPGOne10 : Oper := { dst := none, op := Op.store 120 (Operand.tmp 2) (Operand.tmp 24), type := 0, pos := "prop.go:275", after := #[{ on := 7, ground := Ground.data }, { on := 5, ground := Ground.chain }, { on := 0, ground := Ground.phase }, { on := 1, ground := Ground.phase }, { on := 2, ground := Ground.phase }, { on := 3, ground := Ground.phase }, { on := 4, ground := Ground.phase }, { on := 5, ground := Ground.phase }, { on := 6, ground := Ground.phase }, { on := 7, ground := Ground.phase }, { on := 8, ground := Ground.textOnly Departure.lateStores }, { on := 9, ground := Ground.textOnly Departure.lateStores }], guard := none }
abbrev opPGOne11 : Oper := { dst := some 3, op := Op.assign (Operand.tmp 25), type := 3, pos := "prop.go:275", after := #[{ on := 8, ground := Ground.data }, { on := 10, ground := Ground.chain }, { on := 0, ground := Ground.phase }, { on := 1, ground := Ground.phase }, { on := 2, ground := Ground.phase }, { on := 3, ground := Ground.phase }, { on := 4, ground := Ground.phase }, { on := 5, ground := Ground.phase }, { on := 6, ground := Ground.phase }, { on := 7, ground := Ground.phase }, { on := 8, ground := Ground.phase }, { on := 9, ground := Ground.textOnly Departure.lateStores }, { on := 10, ground := Ground.phase }], guard := none }
abbrev opPGOne12 : Oper := { dst := some 4, op := Op.assign (Operand.tmp 26), type := 37, pos := "prop.go:275", after := #[{ on := 9, ground := Ground.data }, { on := 11, ground := Ground.chain }, { on := 0, ground := Ground.phase }, { on := 1, ground := Ground.phase }, { on := 2, ground := Ground.phase }, { on := 3, ground := Ground.phase }, { on := 4, ground := Ground.phase }, { on := 5, ground := Ground.phase }, { on := 6, ground := Ground.phase }, { on := 7, ground := Ground.phase }, { on := 8, ground := Ground.phase }, { on := 9, ground := Ground.phase }, { on := 10, ground := Ground.phase }, { on := 11, ground := Ground.phase }], guard := none }

def GoOk (p : Pr) (K : Int) (w : World) (e : Ending) (w' : World) : Prop := e = .returned (.tuple #[.agg #[.int .i64 p.1, .int .i64 p.2.1, .string p.2.2.1, .string p.2.2.2], .int .i64 K, .nilIface]) ∧ Below w.heap.size w w'
/-- four cells of one block, written one behind the other -/
def set4 (w : World) (B : Nat) (a b : Int) (s t : ByteArray) : World := (((w.setCell ⟨B, 0, none⟩ (.int .i64 a)).setCell ⟨B, 1, none⟩ (.int .i64 b)).setCell ⟨B, 2, none⟩ (.string s)).setCell ⟨B, 3, none⟩ (.string t)
theorem set4_c0 (w : World) (B : Nat) (a b : Int) (s t : ByteArray) {x : Value} (h : w.cell? ⟨B, 0, none⟩ = some x) : (set4 w B a b s t).cell? ⟨B, 0, none⟩ = some (.int .i64 a) := by
  unfold set4
  simp (maxDischargeDepth := 12) [cell_set, h]
theorem set4_c1 (w : World) (B : Nat) (a b : Int) (s t : ByteArray) {x : Value} (h : w.cell? ⟨B, 1, none⟩ = some x) : (set4 w B a b s t).cell? ⟨B, 1, none⟩ = some (.int .i64 b) := by
  unfold set4
  simp (maxDischargeDepth := 12) [cell_set, h]
theorem set4_c2 (w : World) (B : Nat) (a b : Int) (s t : ByteArray) {x : Value} (h : w.cell? ⟨B, 2, none⟩ = some x) : (set4 w B a b s t).cell? ⟨B, 2, none⟩ = some (.string s) := by
  unfold set4
  simp (maxDischargeDepth := 12) [cell_set, h]
theorem set4_c3 (w : World) (B : Nat) (a b : Int) (s t : ByteArray) {x : Value} (h : w.cell? ⟨B, 3, none⟩ = some x) : (set4 w B a b s t).cell? ⟨B, 3, none⟩ = some (.string t) := by
  unfold set4
  simp (maxDischargeDepth := 12) [cell_set, h]
theorem set4_frozen (w : World) (B : Nat) (a b : Int) (s t : ByteArray) (p : Addr) : (set4 w B a b s t).frozen? p = w.frozen? p := by
  unfold set4
  simp [World.frozen?_setCell]
theorem set4_below (w w0 : World) (B B0 : Nat) (a b : Int) (s t : ByteArray) (h : Below B0 w0 w) (hB : B0 ≤ B) : Below B0 w0 (set4 w B a b s t) := by
  unfold set4
  exact (((h.setCell hB _).setCell hB _).setCell hB _).setCell hB _
theorem set4_off {B : Nat} {w : World} {v : Value} {n : Int} (h : InnOff B w v n) (a b : Int) (s t : ByteArray) : InnOff B (set4 w B a b s t) v n := by
  unfold set4
  exact (((h.set rfl).set rfl).set rfl).set rfl
theorem gone_bad1 (v : Value) (l : List Int) (w : World) (h : Byt w v l) (m : Int) (hv : (V.vget l).2.2 = m) (hm : m ≠ 0) : Calls Tryz.prog 204 #[v] w (GvBad w) := by
  obtain ⟨ao, cap, rfl, hc1, hc2⟩ := h.form
  have HV := hide h
  have Hhv := hide hv
  clear h hv
  generalize hn : l.length = n at hc1 HV
  go_enter Tryz.func204, Tryz.ntmps204
  go_wp2_with fail
  refine (vget_fail _ l _ ((unhide HV).below (by go_grown)) m (unhide Hhv) hm).mono ?_
  rintro e w1 ⟨a, b, x, rfl, hi, hb1⟩
  have HB1 : Hid (Below w.heap.size w w1) := ((Below.refl _ _).alloc (Nat.le_refl _) _).trans (hb1.mono (by simp))
  have q0 : w1.cell? ⟨w.heap.size, 0, none⟩ = some (.int .i64 0) := (hb1.cell (p := ⟨w.heap.size, 0, none⟩) (by simp)).trans (by simp)
  have f0 : w1.frozen? ⟨w.heap.size, 0, none⟩ = false := (hb1.frozen (p := ⟨w.heap.size, 0, none⟩) (by simp)).trans (by simp)
  have q1 : w1.cell? ⟨w.heap.size, 1, none⟩ = some (.int .i64 0) := (hb1.cell (p := ⟨w.heap.size, 1, none⟩) (by simp)).trans (by simp)
  have f1 : w1.frozen? ⟨w.heap.size, 1, none⟩ = false := (hb1.frozen (p := ⟨w.heap.size, 1, none⟩) (by simp)).trans (by simp)
  have q2 : w1.cell? ⟨w.heap.size, 2, none⟩ = some (.string ⟨#[]⟩) := (hb1.cell (p := ⟨w.heap.size, 2, none⟩) (by simp)).trans (by simp)
  have f2 : w1.frozen? ⟨w.heap.size, 2, none⟩ = false := (hb1.frozen (p := ⟨w.heap.size, 2, none⟩) (by simp)).trans (by simp)
  have q3 : w1.cell? ⟨w.heap.size, 3, none⟩ = some (.string ⟨#[]⟩) := (hb1.cell (p := ⟨w.heap.size, 3, none⟩) (by simp)).trans (by simp)
  have f3 : w1.frozen? ⟨w.heap.size, 3, none⟩ = false := (hb1.frozen (p := ⟨w.heap.size, 3, none⟩) (by simp)).trans (by simp)
  have HOF := hide ((unhide hi).off q1)
  clear hb1 hi
  go_wp2
  (try simp only [Exit.inBlock, Exit.then])
  refine bodyPost_ret (res_p (B := w.heap.size) (v0 := .int .i64 0) (v1 := .int .i64 0) (v2 := .string ⟨#[]⟩) (v3 := .string ⟨#[]⟩) rfl rfl ?c0 ?c1 ?c2 ?c3) rfl ?_
  case c0 => simp (maxDischargeDepth := 12) [cell_set, q0]
  case c1 => simp (maxDischargeDepth := 12) [cell_set, q1]
  case c2 => simp (maxDischargeDepth := 12) [cell_set, q2]
  case c3 => simp (maxDischargeDepth := 12) [cell_set, q3]
  refine ⟨_, _, _, _, _, _, _, m, rfl, InnOff.inn (B := w.heap.size) ?_, ?_⟩
  · refine InnOff.set ?_ rfl; refine InnOff.set ?_ rfl; refine InnOff.set ?_ rfl; refine InnOff.set ?_ rfl; exact unhide HOF
  · have := unhide HB1; go_grown
set_option maxHeartbeats 1000000 in
theorem gone_ok (v : Value) (l : List Int) (w : World) (h : Byt w v l) (id : Int) (Q : Nat) (hv : V.vget l = (id, (Q : Int), 0)) (hQ : 1 ≤ Q ∧ Q ≤ l.length) (f wd lo hi : Int) (hsh : shv id = .agg #[.int .i64 f, .int .i64 wd, .int .i64 lo, .int .i64 hi]) (N : Int) (s t : ByteArray) (M : Nat) (hM : Q + M ≤ l.length) (hg : ∀ vb W, Byt W vb (l.drop Q) → Calls Tryz.prog 211 #[vb, shp f wd lo hi] W (GvOk N s t M W)) : Calls Tryz.prog 204 #[v] w (GoOk (id, N, s, t) (Q + M : Nat) w) := by
  obtain ⟨b, off, cap, rfl, hc1, hc2⟩ := h.form1 (by omega)
  unfold maxLen at hc2
  have HV := hide h
  have Hhv := hide hv
  have HSH := hide hsh
  have HG := hide hg
  clear h hv hsh hg
  generalize hn : l.length = n at hc1 hQ HV hM
  have HN := hide hn
  clear hn
  by_cases hcQ : cap = Q
  · have hcQ2 := hcQ.symm
    clear hcQ
    subst hcQ2
    go_enter Tryz.func204, Tryz.ntmps204
    go_wp2_with fail
    refine (vget_good _ l _ ((unhide HV).below (by go_grown)) id Q (unhide Hhv)).mono ?_
    rintro e w1 ⟨rfl, hb1⟩
    have HB1 : Hid (Below w.heap.size w w1) := ((Below.refl _ _).alloc (Nat.le_refl _) _).trans (hb1.mono (by simp))
    have HD : Hid (Byt w1 (.slice (some ⟨b, off, none⟩) 0 0) (l.drop Q)) := by
      show Byt _ _ _
      have := ((unhide HV).below (unhide HB1)).drop' Q (by omega)
      rw [if_pos rfl, Nat.sub_self, show n - Q = 0 from by omega] at this; exact this
    have q0 : w1.cell? ⟨w.heap.size, 0, none⟩ = some (.int .i64 0) := (hb1.cell (p := ⟨w.heap.size, 0, none⟩) (by simp)).trans (by simp)
    have f0 : w1.frozen? ⟨w.heap.size, 0, none⟩ = false := (hb1.frozen (p := ⟨w.heap.size, 0, none⟩) (by simp)).trans (by simp)
    have q1 : w1.cell? ⟨w.heap.size, 1, none⟩ = some (.int .i64 0) := (hb1.cell (p := ⟨w.heap.size, 1, none⟩) (by simp)).trans (by simp)
    have f1 : w1.frozen? ⟨w.heap.size, 1, none⟩ = false := (hb1.frozen (p := ⟨w.heap.size, 1, none⟩) (by simp)).trans (by simp)
    have q2 : w1.cell? ⟨w.heap.size, 2, none⟩ = some (.string ⟨#[]⟩) := (hb1.cell (p := ⟨w.heap.size, 2, none⟩) (by simp)).trans (by simp)
    have f2 : w1.frozen? ⟨w.heap.size, 2, none⟩ = false := (hb1.frozen (p := ⟨w.heap.size, 2, none⟩) (by simp)).trans (by simp)
    have q3 : w1.cell? ⟨w.heap.size, 3, none⟩ = some (.string ⟨#[]⟩) := (hb1.cell (p := ⟨w.heap.size, 3, none⟩) (by simp)).trans (by simp)
    have f3 : w1.frozen? ⟨w.heap.size, 3, none⟩ = false := (hb1.frozen (p := ⟨w.heap.size, 3, none⟩) (by simp)).trans (by simp)
    have hl1 : w.heap.size < w1.heap.size := cell_lt q0
    have HC : Hid (Below w1.heap.size w1 w1) := Below.refl _ _
    clear hb1
    go_wp2_with fail
    refine wp_region_noPanic ?_
    refine wp_region_held_drew (S := (fun _ => True)) (by kernel_rfl) trivial (fun hHeld => ?_)
    refine wpAnyH_take (i := 0) (oi := opPGOne0) (v := ?v1) rfl (by kernel_rfl) (by kernel_rfl) (by kernel_rfl) (fun _ _ _ h => h) (Or.inl ⟨by rfl, ?hy1⟩) (by assumption) ?rest1
    case hy1 => (intro w hSw; (try dsimp only at hSw); go_simp; (try rw [if_pos (by omega)]); (try with_reducible rfl))
    simp only [Act.put, List.setIfInBounds_toArray, List.set_cons_zero, List.set_cons_succ]
    refine wpAnyH_take (i := 1) (oi := opPGOne1) (v := ?v2) rfl (by kernel_rfl) (by kernel_rfl) (by kernel_rfl) (fun _ _ _ h => h) (Or.inl ⟨by rfl, ?hy2⟩) (by assumption) ?rest2
    case hy2 => (intro w hSw; (try dsimp only at hSw); go_simp; (try rw [if_pos (by omega)]); (try with_reducible rfl))
    simp only [Act.put, List.setIfInBounds_toArray, List.set_cons_zero, List.set_cons_succ]
    refine wpAnyH_take (i := 2) (oi := opPGOne2) (v := ?v3) rfl (by kernel_rfl) (by kernel_rfl) (by kernel_rfl) (fun _ _ _ h => h) (Or.inl ⟨by rfl, ?hy3⟩) (by assumption) ?rest3
    case hy3 => (intro w hSw; (try dsimp only at hSw); go_simp; (try rw [if_pos (by omega)]); (try with_reducible rfl))
    simp only [Act.put, List.setIfInBounds_toArray, List.set_cons_zero, List.set_cons_succ]
    refine wpAnyH_take (i := 3) (oi := opPGOne3) (v := ?v4) rfl (by kernel_rfl) (by kernel_rfl) (by kernel_rfl) (fun _ _ _ h => h) (Or.inl ⟨by rfl, ?hy4⟩) (by assumption) ?rest4
    case hy4 => (intro w hSw; (try dsimp only at hSw); go_simp; (try rw [if_pos (by omega)]); (try with_reducible rfl))
    simp only [Act.put, List.setIfInBounds_toArray, List.set_cons_zero, List.set_cons_succ]
    refine wpAnyH_ready (rs := [4]) (by kernel_rfl) (by simp) ?_
    refine AllReadyH.cons (o := opPGOne4) rfl (fun K hK => ?_) AllReadyH.nil
    go_simp
    refine (shape_use id f wd lo hi (unhide HSH) _).mono ?_
    rintro e w2 ⟨rfl, hb2⟩
    have hb2' := below_undrew1 hb2
    clear hb2
    have HD2 := hide ((unhide HD).below hb2')
    refine hK.out _ _ trivial (fun hHeld => ?_)
    clear hK K
    refine wpAnyH_ready (rs := [5]) (by kernel_rfl) (by simp) ?_
    refine AllReadyH.cons (o := opPGOne5) rfl (fun K hK => ?_) AllReadyH.nil
    go_simp
    refine ((unhide HG) _ _ (unhide HD2)).mono ?_
    rintro e w3 ⟨rfl, hb3⟩
    have HB3 : Hid (Below w1.heap.size w1 w3) := hb2'.trans (hb3.mono hb2'.size)
    have r0 := ((unhide HB3).cell (cell_lt q0)).trans q0
    have g0 := ((unhide HB3).frozen (p := ⟨w.heap.size, 0, none⟩) (cell_lt q0)).trans f0
    have r1 := ((unhide HB3).cell (cell_lt q1)).trans q1
    have g1 := ((unhide HB3).frozen (p := ⟨w.heap.size, 1, none⟩) (cell_lt q1)).trans f1
    have r2 := ((unhide HB3).cell (cell_lt q2)).trans q2
    have g2 := ((unhide HB3).frozen (p := ⟨w.heap.size, 2, none⟩) (cell_lt q2)).trans f2
    have r3 := ((unhide HB3).cell (cell_lt q3)).trans q3
    have g3 := ((unhide HB3).frozen (p := ⟨w.heap.size, 3, none⟩) (cell_lt q3)).trans f3
    clear hb2' hb3
    refine hK.out _ _ trivial (fun hHeld => ?_)
    clear hK K
    refine wpAnyH_take (i := 6) (oi := opPGOne6) (v := ?v5) rfl (by kernel_rfl) (by kernel_rfl) (by kernel_rfl) (fun _ _ _ h => h) (Or.inl ⟨by rfl, ?hy5⟩) (by assumption) ?rest5
    case hy5 => (intro w hSw; (try dsimp only at hSw); go_simp; (try rw [if_pos (by omega)]); (try with_reducible rfl))
    simp only [Act.put, List.setIfInBounds_toArray, List.set_cons_zero, List.set_cons_succ]
    refine wpAnyH_take (i := 7) (oi := opPGOne7) (v := ?v6) rfl (by kernel_rfl) (by kernel_rfl) (by kernel_rfl) (fun _ _ _ h => h) (Or.inl ⟨by rfl, ?hy6⟩) (by assumption) ?rest6
    case hy6 => (intro w hSw; (try dsimp only at hSw); go_simp; (try rw [if_pos (by omega)]); (try with_reducible rfl))
    simp only [Act.put, List.setIfInBounds_toArray, List.set_cons_zero, List.set_cons_succ]
    refine wpAnyH_take (i := 8) (oi := opPGOne8) (v := ?v7) rfl (by kernel_rfl) (by kernel_rfl) (by kernel_rfl) (fun _ _ _ h => h) (Or.inl ⟨by rfl, ?hy7⟩) (by assumption) ?rest7
    case hy7 => (intro w hSw; (try dsimp only at hSw); go_simp; (try rw [if_pos (by omega)]); (try with_reducible rfl))
    simp only [Act.put, List.setIfInBounds_toArray, List.set_cons_zero, List.set_cons_succ]
    refine wpAnyH_take (i := 9) (oi := opPGOne9) (v := ?v8) rfl (by kernel_rfl) (by kernel_rfl) (by kernel_rfl) (fun _ _ _ h => h) (Or.inl ⟨by rfl, ?hy8⟩) (by assumption) ?rest8
    case hy8 => (intro w hSw; (try dsimp only at hSw); go_simp; (try rw [if_pos (by omega)]); (try with_reducible rfl))
    simp only [Act.put, List.setIfInBounds_toArray, List.set_cons_zero, List.set_cons_succ]
    refine wpAnyH_ready (rs := [10]) (by kernel_rfl) (by simp) ?_
    refine AllReadyH.cons (o := opPGOne10) rfl (fun K hK => ?_) AllReadyH.nil
    go_simp
    refine hK.out _ _ trivial (fun hHeld => ?_)
    clear hK K
    show wpAnyH _ _ _ _ _ _ _ _ (set4 w3 w.heap.size 0 N s t)
    have c0 := set4_c0 w3 w.heap.size 0 N s t r0
    have c1 := set4_c1 w3 w.heap.size 0 N s t r1
    have c2 := set4_c2 w3 w.heap.size 0 N s t r2
    have c3 := set4_c3 w3 w.heap.size 0 N s t r3
    have e0 := (set4_frozen w3 w.heap.size 0 N s t ⟨w.heap.size, 0, none⟩).trans g0
    have e1 := (set4_frozen w3 w.heap.size 0 N s t ⟨w.heap.size, 1, none⟩).trans g1
    have e2 := (set4_frozen w3 w.heap.size 0 N s t ⟨w.heap.size, 2, none⟩).trans g2
    have e3 := (set4_frozen w3 w.heap.size 0 N s t ⟨w.heap.size, 3, none⟩).trans g3
    have HB4 : Hid (Below w.heap.size w (set4 w3 w.heap.size 0 N s t)) := set4_below _ _ _ _ _ _ _ _ ((unhide HB1).trans ((unhide HB3).mono (unhide HB1).size)) (Nat.le_refl _)
    generalize set4 w3 w.heap.size 0 N s t = W4 at c0 c1 c2 c3 e0 e1 e2 e3 HB4  ⊢
    clear r0 r1 r2 r3 g0 g1 g2 g3 q0 q1 q2 q3 f0 f1 f2 f3 HB3
    refine wpAnyH_ready (rs := [11]) (by kernel_rfl) (by simp) ?_
    refine AllReadyH.cons (o := opPGOne11) rfl (fun K hK => ?_) AllReadyH.nil
    go_simp
    refine hK.out _ _ trivial (fun hHeld => ?_)
    clear hK K
    refine wpAnyH_ready (rs := [12]) (by kernel_rfl) (by simp) ?_
    refine AllReadyH.cons (o := opPGOne12) rfl (fun K hK => ?_) AllReadyH.nil
    go_simp
    refine hK.out _ _ trivial (fun hHeld => ?_)
    clear hK K
    refine wpAnyH_done (by kernel_rfl) ?_ _
    refine NoPanic.normal ?_
    clear HD2 HG
    go_wp2
    (try simp only [Exit.inBlock, Exit.then])
    refine bodyPost_ret (res_p (B := w.heap.size) (v0 := .int .i64 (id)) (v1 := .int .i64 (N)) (v2 := .string s) (v3 := .string t) rfl rfl ?c0 ?c1 ?c2 ?c3) rfl ?_
    case c0 => simp (maxDischargeDepth := 12) [cell_set, c0]
    case c1 => simp (maxDischargeDepth := 12) [cell_set, c1]
    case c2 => simp (maxDischargeDepth := 12) [cell_set, c2]
    case c3 => simp (maxDischargeDepth := 12) [cell_set, c3]
    exact ⟨by go_num, by have := unhide HB4; go_grown⟩
  · go_enter Tryz.func204, Tryz.ntmps204
    go_wp2_with fail
    refine (vget_good _ l _ ((unhide HV).below (by go_grown)) id Q (unhide Hhv)).mono ?_
    rintro e w1 ⟨rfl, hb1⟩
    have HB1 : Hid (Below w.heap.size w w1) := ((Below.refl _ _).alloc (Nat.le_refl _) _).trans (hb1.mono (by simp))
    have HD : Hid (Byt w1 (.slice (some ⟨b, off + Q, none⟩) (n - Q) (cap - Q)) (l.drop Q)) := by
      show Byt _ _ _
      have := ((unhide HV).below (unhide HB1)).drop' Q (by omega)
      rw [if_neg hcQ] at this; exact this
    have q0 : w1.cell? ⟨w.heap.size, 0, none⟩ = some (.int .i64 0) := (hb1.cell (p := ⟨w.heap.size, 0, none⟩) (by simp)).trans (by simp)
    have f0 : w1.frozen? ⟨w.heap.size, 0, none⟩ = false := (hb1.frozen (p := ⟨w.heap.size, 0, none⟩) (by simp)).trans (by simp)
    have q1 : w1.cell? ⟨w.heap.size, 1, none⟩ = some (.int .i64 0) := (hb1.cell (p := ⟨w.heap.size, 1, none⟩) (by simp)).trans (by simp)
    have f1 : w1.frozen? ⟨w.heap.size, 1, none⟩ = false := (hb1.frozen (p := ⟨w.heap.size, 1, none⟩) (by simp)).trans (by simp)
    have q2 : w1.cell? ⟨w.heap.size, 2, none⟩ = some (.string ⟨#[]⟩) := (hb1.cell (p := ⟨w.heap.size, 2, none⟩) (by simp)).trans (by simp)
    have f2 : w1.frozen? ⟨w.heap.size, 2, none⟩ = false := (hb1.frozen (p := ⟨w.heap.size, 2, none⟩) (by simp)).trans (by simp)
    have q3 : w1.cell? ⟨w.heap.size, 3, none⟩ = some (.string ⟨#[]⟩) := (hb1.cell (p := ⟨w.heap.size, 3, none⟩) (by simp)).trans (by simp)
    have f3 : w1.frozen? ⟨w.heap.size, 3, none⟩ = false := (hb1.frozen (p := ⟨w.heap.size, 3, none⟩) (by simp)).trans (by simp)
    have hl1 : w.heap.size < w1.heap.size := cell_lt q0
    have HC : Hid (Below w1.heap.size w1 w1) := Below.refl _ _
    clear hb1
    go_wp2_with fail
    refine wp_region_noPanic ?_
    refine wp_region_held_drew (S := (fun _ => True)) (by kernel_rfl) trivial (fun hHeld => ?_)
    refine wpAnyH_take (i := 0) (oi := opPGOne0) (v := ?v9) rfl (by kernel_rfl) (by kernel_rfl) (by kernel_rfl) (fun _ _ _ h => h) (Or.inl ⟨by rfl, ?hy9⟩) (by assumption) ?rest9
    case hy9 => (intro w hSw; (try dsimp only at hSw); go_simp; (try rw [if_pos (by omega)]); (try with_reducible rfl))
    simp only [Act.put, List.setIfInBounds_toArray, List.set_cons_zero, List.set_cons_succ]
    refine wpAnyH_take (i := 1) (oi := opPGOne1) (v := ?v10) rfl (by kernel_rfl) (by kernel_rfl) (by kernel_rfl) (fun _ _ _ h => h) (Or.inl ⟨by rfl, ?hy10⟩) (by assumption) ?rest10
    case hy10 => (intro w hSw; (try dsimp only at hSw); go_simp; (try rw [if_pos (by omega)]); (try with_reducible rfl))
    simp only [Act.put, List.setIfInBounds_toArray, List.set_cons_zero, List.set_cons_succ]
    refine wpAnyH_take (i := 2) (oi := opPGOne2) (v := ?v11) rfl (by kernel_rfl) (by kernel_rfl) (by kernel_rfl) (fun _ _ _ h => h) (Or.inl ⟨by rfl, ?hy11⟩) (by assumption) ?rest11
    case hy11 => (intro w hSw; (try dsimp only at hSw); go_simp; (try rw [if_pos (by omega)]); (try with_reducible rfl))
    simp only [Act.put, List.setIfInBounds_toArray, List.set_cons_zero, List.set_cons_succ]
    refine wpAnyH_take (i := 3) (oi := opPGOne3) (v := ?v12) rfl (by kernel_rfl) (by kernel_rfl) (by kernel_rfl) (fun _ _ _ h => h) (Or.inl ⟨by rfl, ?hy12⟩) (by assumption) ?rest12
    case hy12 => (intro w hSw; (try dsimp only at hSw); go_simp; (try rw [if_pos (by omega)]); (try with_reducible rfl))
    simp only [Act.put, List.setIfInBounds_toArray, List.set_cons_zero, List.set_cons_succ]
    refine wpAnyH_ready (rs := [4]) (by kernel_rfl) (by simp) ?_
    refine AllReadyH.cons (o := opPGOne4) rfl (fun K hK => ?_) AllReadyH.nil
    go_simp
    refine (shape_use id f wd lo hi (unhide HSH) _).mono ?_
    rintro e w2 ⟨rfl, hb2⟩
    have hb2' := below_undrew1 hb2
    clear hb2
    have HD2 := hide ((unhide HD).below hb2')
    refine hK.out _ _ trivial (fun hHeld => ?_)
    clear hK K
    refine wpAnyH_ready (rs := [5]) (by kernel_rfl) (by simp) ?_
    refine AllReadyH.cons (o := opPGOne5) rfl (fun K hK => ?_) AllReadyH.nil
    go_simp
    refine ((unhide HG) _ _ (unhide HD2)).mono ?_
    rintro e w3 ⟨rfl, hb3⟩
    have HB3 : Hid (Below w1.heap.size w1 w3) := hb2'.trans (hb3.mono hb2'.size)
    have r0 := ((unhide HB3).cell (cell_lt q0)).trans q0
    have g0 := ((unhide HB3).frozen (p := ⟨w.heap.size, 0, none⟩) (cell_lt q0)).trans f0
    have r1 := ((unhide HB3).cell (cell_lt q1)).trans q1
    have g1 := ((unhide HB3).frozen (p := ⟨w.heap.size, 1, none⟩) (cell_lt q1)).trans f1
    have r2 := ((unhide HB3).cell (cell_lt q2)).trans q2
    have g2 := ((unhide HB3).frozen (p := ⟨w.heap.size, 2, none⟩) (cell_lt q2)).trans f2
    have r3 := ((unhide HB3).cell (cell_lt q3)).trans q3
    have g3 := ((unhide HB3).frozen (p := ⟨w.heap.size, 3, none⟩) (cell_lt q3)).trans f3
    clear hb2' hb3
    refine hK.out _ _ trivial (fun hHeld => ?_)
    clear hK K
    refine wpAnyH_take (i := 6) (oi := opPGOne6) (v := ?v13) rfl (by kernel_rfl) (by kernel_rfl) (by kernel_rfl) (fun _ _ _ h => h) (Or.inl ⟨by rfl, ?hy13⟩) (by assumption) ?rest13
    case hy13 => (intro w hSw; (try dsimp only at hSw); go_simp; (try rw [if_pos (by omega)]); (try with_reducible rfl))
    simp only [Act.put, List.setIfInBounds_toArray, List.set_cons_zero, List.set_cons_succ]
    refine wpAnyH_take (i := 7) (oi := opPGOne7) (v := ?v14) rfl (by kernel_rfl) (by kernel_rfl) (by kernel_rfl) (fun _ _ _ h => h) (Or.inl ⟨by rfl, ?hy14⟩) (by assumption) ?rest14
    case hy14 => (intro w hSw; (try dsimp only at hSw); go_simp; (try rw [if_pos (by omega)]); (try with_reducible rfl))
    simp only [Act.put, List.setIfInBounds_toArray, List.set_cons_zero, List.set_cons_succ]
    refine wpAnyH_take (i := 8) (oi := opPGOne8) (v := ?v15) rfl (by kernel_rfl) (by kernel_rfl) (by kernel_rfl) (fun _ _ _ h => h) (Or.inl ⟨by rfl, ?hy15⟩) (by assumption) ?rest15
    case hy15 => (intro w hSw; (try dsimp only at hSw); go_simp; (try rw [if_pos (by omega)]); (try with_reducible rfl))
    simp only [Act.put, List.setIfInBounds_toArray, List.set_cons_zero, List.set_cons_succ]
    refine wpAnyH_take (i := 9) (oi := opPGOne9) (v := ?v16) rfl (by kernel_rfl) (by kernel_rfl) (by kernel_rfl) (fun _ _ _ h => h) (Or.inl ⟨by rfl, ?hy16⟩) (by assumption) ?rest16
    case hy16 => (intro w hSw; (try dsimp only at hSw); go_simp; (try rw [if_pos (by omega)]); (try with_reducible rfl))
    simp only [Act.put, List.setIfInBounds_toArray, List.set_cons_zero, List.set_cons_succ]
    refine wpAnyH_ready (rs := [10]) (by kernel_rfl) (by simp) ?_
    refine AllReadyH.cons (o := opPGOne10) rfl (fun K hK => ?_) AllReadyH.nil
    go_simp
    refine hK.out _ _ trivial (fun hHeld => ?_)
    clear hK K
    show wpAnyH _ _ _ _ _ _ _ _ (set4 w3 w.heap.size 0 N s t)
    have c0 := set4_c0 w3 w.heap.size 0 N s t r0
    have c1 := set4_c1 w3 w.heap.size 0 N s t r1
    have c2 := set4_c2 w3 w.heap.size 0 N s t r2
    have c3 := set4_c3 w3 w.heap.size 0 N s t r3
    have e0 := (set4_frozen w3 w.heap.size 0 N s t ⟨w.heap.size, 0, none⟩).trans g0
    have e1 := (set4_frozen w3 w.heap.size 0 N s t ⟨w.heap.size, 1, none⟩).trans g1
    have e2 := (set4_frozen w3 w.heap.size 0 N s t ⟨w.heap.size, 2, none⟩).trans g2
    have e3 := (set4_frozen w3 w.heap.size 0 N s t ⟨w.heap.size, 3, none⟩).trans g3
    have HB4 : Hid (Below w.heap.size w (set4 w3 w.heap.size 0 N s t)) := set4_below _ _ _ _ _ _ _ _ ((unhide HB1).trans ((unhide HB3).mono (unhide HB1).size)) (Nat.le_refl _)
    generalize set4 w3 w.heap.size 0 N s t = W4 at c0 c1 c2 c3 e0 e1 e2 e3 HB4  ⊢
    clear r0 r1 r2 r3 g0 g1 g2 g3 q0 q1 q2 q3 f0 f1 f2 f3 HB3
    refine wpAnyH_ready (rs := [11]) (by kernel_rfl) (by simp) ?_
    refine AllReadyH.cons (o := opPGOne11) rfl (fun K hK => ?_) AllReadyH.nil
    go_simp
    refine hK.out _ _ trivial (fun hHeld => ?_)
    clear hK K
    refine wpAnyH_ready (rs := [12]) (by kernel_rfl) (by simp) ?_
    refine AllReadyH.cons (o := opPGOne12) rfl (fun K hK => ?_) AllReadyH.nil
    go_simp
    refine hK.out _ _ trivial (fun hHeld => ?_)
    clear hK K
    refine wpAnyH_done (by kernel_rfl) ?_ _
    refine NoPanic.normal ?_
    clear HD2 HG
    go_wp2
    (try simp only [Exit.inBlock, Exit.then])
    refine bodyPost_ret (res_p (B := w.heap.size) (v0 := .int .i64 (id)) (v1 := .int .i64 (N)) (v2 := .string s) (v3 := .string t) rfl rfl ?c0 ?c1 ?c2 ?c3) rfl ?_
    case c0 => simp (maxDischargeDepth := 12) [cell_set, c0]
    case c1 => simp (maxDischargeDepth := 12) [cell_set, c1]
    case c2 => simp (maxDischargeDepth := 12) [cell_set, c2]
    case c3 => simp (maxDischargeDepth := 12) [cell_set, c3]
    exact ⟨by go_num, by have := unhide HB4; go_grown⟩
set_option maxHeartbeats 1000000 in
theorem gone_bad2 (v : Value) (l : List Int) (w : World) (h : Byt w v l) (id : Int) (Q : Nat) (hv : V.vget l = (id, (Q : Int), 0)) (hQ : 1 ≤ Q ∧ Q ≤ l.length) (f wd lo hi : Int) (hsh : shv id = .agg #[.int .i64 f, .int .i64 wd, .int .i64 lo, .int .i64 hi]) (hg : ∀ vb W, Byt W vb (l.drop Q) → Calls Tryz.prog 211 #[vb, shp f wd lo hi] W (GvBad W)) : Calls Tryz.prog 204 #[v] w (GvBad w) := by
  obtain ⟨b, off, cap, rfl, hc1, hc2⟩ := h.form1 (by omega)
  unfold maxLen at hc2
  have HV := hide h
  have Hhv := hide hv
  have HSH := hide hsh
  have HG := hide hg
  clear h hv hsh hg
  generalize hn : l.length = n at hc1 hQ HV 
  have HN := hide hn
  clear hn
  by_cases hcQ : cap = Q
  · have hcQ2 := hcQ.symm
    clear hcQ
    subst hcQ2
    go_enter Tryz.func204, Tryz.ntmps204
    go_wp2_with fail
    refine (vget_good _ l _ ((unhide HV).below (by go_grown)) id Q (unhide Hhv)).mono ?_
    rintro e w1 ⟨rfl, hb1⟩
    have HB1 : Hid (Below w.heap.size w w1) := ((Below.refl _ _).alloc (Nat.le_refl _) _).trans (hb1.mono (by simp))
    have HD : Hid (Byt w1 (.slice (some ⟨b, off, none⟩) 0 0) (l.drop Q)) := by
      show Byt _ _ _
      have := ((unhide HV).below (unhide HB1)).drop' Q (by omega)
      rw [if_pos rfl, Nat.sub_self, show n - Q = 0 from by omega] at this; exact this
    have q0 : w1.cell? ⟨w.heap.size, 0, none⟩ = some (.int .i64 0) := (hb1.cell (p := ⟨w.heap.size, 0, none⟩) (by simp)).trans (by simp)
    have f0 : w1.frozen? ⟨w.heap.size, 0, none⟩ = false := (hb1.frozen (p := ⟨w.heap.size, 0, none⟩) (by simp)).trans (by simp)
    have q1 : w1.cell? ⟨w.heap.size, 1, none⟩ = some (.int .i64 0) := (hb1.cell (p := ⟨w.heap.size, 1, none⟩) (by simp)).trans (by simp)
    have f1 : w1.frozen? ⟨w.heap.size, 1, none⟩ = false := (hb1.frozen (p := ⟨w.heap.size, 1, none⟩) (by simp)).trans (by simp)
    have q2 : w1.cell? ⟨w.heap.size, 2, none⟩ = some (.string ⟨#[]⟩) := (hb1.cell (p := ⟨w.heap.size, 2, none⟩) (by simp)).trans (by simp)
    have f2 : w1.frozen? ⟨w.heap.size, 2, none⟩ = false := (hb1.frozen (p := ⟨w.heap.size, 2, none⟩) (by simp)).trans (by simp)
    have q3 : w1.cell? ⟨w.heap.size, 3, none⟩ = some (.string ⟨#[]⟩) := (hb1.cell (p := ⟨w.heap.size, 3, none⟩) (by simp)).trans (by simp)
    have f3 : w1.frozen? ⟨w.heap.size, 3, none⟩ = false := (hb1.frozen (p := ⟨w.heap.size, 3, none⟩) (by simp)).trans (by simp)
    have hl1 : w.heap.size < w1.heap.size := cell_lt q0
    have HC : Hid (Below w1.heap.size w1 w1) := Below.refl _ _
    clear hb1
    go_wp2_with fail
    refine wp_region_noPanic ?_
    refine wp_region_held_drew (S := (fun _ => True)) (by kernel_rfl) trivial (fun hHeld => ?_)
    refine wpAnyH_take (i := 0) (oi := opPGOne0) (v := ?v17) rfl (by kernel_rfl) (by kernel_rfl) (by kernel_rfl) (fun _ _ _ h => h) (Or.inl ⟨by rfl, ?hy17⟩) (by assumption) ?rest17
    case hy17 => (intro w hSw; (try dsimp only at hSw); go_simp; (try rw [if_pos (by omega)]); (try with_reducible rfl))
    simp only [Act.put, List.setIfInBounds_toArray, List.set_cons_zero, List.set_cons_succ]
    refine wpAnyH_take (i := 1) (oi := opPGOne1) (v := ?v18) rfl (by kernel_rfl) (by kernel_rfl) (by kernel_rfl) (fun _ _ _ h => h) (Or.inl ⟨by rfl, ?hy18⟩) (by assumption) ?rest18
    case hy18 => (intro w hSw; (try dsimp only at hSw); go_simp; (try rw [if_pos (by omega)]); (try with_reducible rfl))
    simp only [Act.put, List.setIfInBounds_toArray, List.set_cons_zero, List.set_cons_succ]
    refine wpAnyH_take (i := 2) (oi := opPGOne2) (v := ?v19) rfl (by kernel_rfl) (by kernel_rfl) (by kernel_rfl) (fun _ _ _ h => h) (Or.inl ⟨by rfl, ?hy19⟩) (by assumption) ?rest19
    case hy19 => (intro w hSw; (try dsimp only at hSw); go_simp; (try rw [if_pos (by omega)]); (try with_reducible rfl))
    simp only [Act.put, List.setIfInBounds_toArray, List.set_cons_zero, List.set_cons_succ]
    refine wpAnyH_take (i := 3) (oi := opPGOne3) (v := ?v20) rfl (by kernel_rfl) (by kernel_rfl) (by kernel_rfl) (fun _ _ _ h => h) (Or.inl ⟨by rfl, ?hy20⟩) (by assumption) ?rest20
    case hy20 => (intro w hSw; (try dsimp only at hSw); go_simp; (try rw [if_pos (by omega)]); (try with_reducible rfl))
    simp only [Act.put, List.setIfInBounds_toArray, List.set_cons_zero, List.set_cons_succ]
    refine wpAnyH_ready (rs := [4]) (by kernel_rfl) (by simp) ?_
    refine AllReadyH.cons (o := opPGOne4) rfl (fun K hK => ?_) AllReadyH.nil
    go_simp
    refine (shape_use id f wd lo hi (unhide HSH) _).mono ?_
    rintro e w2 ⟨rfl, hb2⟩
    have hb2' := below_undrew1 hb2
    clear hb2
    have HD2 := hide ((unhide HD).below hb2')
    refine hK.out _ _ trivial (fun hHeld => ?_)
    clear hK K
    refine wpAnyH_ready (rs := [5]) (by kernel_rfl) (by simp) ?_
    refine AllReadyH.cons (o := opPGOne5) rfl (fun K hK => ?_) AllReadyH.nil
    go_simp
    refine ((unhide HG) _ _ (unhide HD2)).mono ?_
    rintro e w3 ⟨i3, n3, s3, t3, k3, ty3, x3, m3, rfl, hi3, hb3⟩
    have HB3 : Hid (Below w1.heap.size w1 w3) := hb2'.trans (hb3.mono hb2'.size)
    have r0 := ((unhide HB3).cell (cell_lt q0)).trans q0
    have g0 := ((unhide HB3).frozen (p := ⟨w.heap.size, 0, none⟩) (cell_lt q0)).trans f0
    have r1 := ((unhide HB3).cell (cell_lt q1)).trans q1
    have g1 := ((unhide HB3).frozen (p := ⟨w.heap.size, 1, none⟩) (cell_lt q1)).trans f1
    have r2 := ((unhide HB3).cell (cell_lt q2)).trans q2
    have g2 := ((unhide HB3).frozen (p := ⟨w.heap.size, 2, none⟩) (cell_lt q2)).trans f2
    have r3 := ((unhide HB3).cell (cell_lt q3)).trans q3
    have g3 := ((unhide HB3).frozen (p := ⟨w.heap.size, 3, none⟩) (cell_lt q3)).trans f3
    clear hb2' hb3
    refine hK.out _ _ trivial (fun hHeld => ?_)
    clear hK K
    refine wpAnyH_take (i := 6) (oi := opPGOne6) (v := ?v21) rfl (by kernel_rfl) (by kernel_rfl) (by kernel_rfl) (fun _ _ _ h => h) (Or.inl ⟨by rfl, ?hy21⟩) (by assumption) ?rest21
    case hy21 => (intro w hSw; (try dsimp only at hSw); go_simp; (try rw [if_pos (by omega)]); (try with_reducible rfl))
    simp only [Act.put, List.setIfInBounds_toArray, List.set_cons_zero, List.set_cons_succ]
    refine wpAnyH_take (i := 7) (oi := opPGOne7) (v := ?v22) rfl (by kernel_rfl) (by kernel_rfl) (by kernel_rfl) (fun _ _ _ h => h) (Or.inl ⟨by rfl, ?hy22⟩) (by assumption) ?rest22
    case hy22 => (intro w hSw; (try dsimp only at hSw); go_simp; (try rw [if_pos (by omega)]); (try with_reducible rfl))
    simp only [Act.put, List.setIfInBounds_toArray, List.set_cons_zero, List.set_cons_succ]
    refine wpAnyH_take (i := 8) (oi := opPGOne8) (v := ?v23) rfl (by kernel_rfl) (by kernel_rfl) (by kernel_rfl) (fun _ _ _ h => h) (Or.inl ⟨by rfl, ?hy23⟩) (by assumption) ?rest23
    case hy23 => (intro w hSw; (try dsimp only at hSw); go_simp; (try rw [if_pos (by omega)]); (try with_reducible rfl))
    simp only [Act.put, List.setIfInBounds_toArray, List.set_cons_zero, List.set_cons_succ]
    refine wpAnyH_take (i := 9) (oi := opPGOne9) (v := ?v24) rfl (by kernel_rfl) (by kernel_rfl) (by kernel_rfl) (fun _ _ _ h => h) (Or.inl ⟨by rfl, ?hy24⟩) (by assumption) ?rest24
    case hy24 => (intro w hSw; (try dsimp only at hSw); go_simp; (try rw [if_pos (by omega)]); (try with_reducible rfl))
    simp only [Act.put, List.setIfInBounds_toArray, List.set_cons_zero, List.set_cons_succ]
    refine wpAnyH_ready (rs := [10]) (by kernel_rfl) (by simp) ?_
    refine AllReadyH.cons (o := opPGOne10) rfl (fun K hK => ?_) AllReadyH.nil
    go_simp
    refine hK.out _ _ trivial (fun hHeld => ?_)
    clear hK K
    show wpAnyH _ _ _ _ _ _ _ _ (set4 w3 w.heap.size i3 n3 s3 t3)
    have c0 := set4_c0 w3 w.heap.size i3 n3 s3 t3 r0
    have c1 := set4_c1 w3 w.heap.size i3 n3 s3 t3 r1
    have c2 := set4_c2 w3 w.heap.size i3 n3 s3 t3 r2
    have c3 := set4_c3 w3 w.heap.size i3 n3 s3 t3 r3
    have e0 := (set4_frozen w3 w.heap.size i3 n3 s3 t3 ⟨w.heap.size, 0, none⟩).trans g0
    have e1 := (set4_frozen w3 w.heap.size i3 n3 s3 t3 ⟨w.heap.size, 1, none⟩).trans g1
    have e2 := (set4_frozen w3 w.heap.size i3 n3 s3 t3 ⟨w.heap.size, 2, none⟩).trans g2
    have e3 := (set4_frozen w3 w.heap.size i3 n3 s3 t3 ⟨w.heap.size, 3, none⟩).trans g3
    have HB4 : Hid (Below w.heap.size w (set4 w3 w.heap.size i3 n3 s3 t3)) := set4_below _ _ _ _ _ _ _ _ ((unhide HB1).trans ((unhide HB3).mono (unhide HB1).size)) (Nat.le_refl _)
    have HOF4 := hide (set4_off ((unhide hi3).off r1) i3 n3 s3 t3)
    clear hi3
    generalize set4 w3 w.heap.size i3 n3 s3 t3 = W4 at c0 c1 c2 c3 e0 e1 e2 e3 HB4 HOF4 ⊢
    clear r0 r1 r2 r3 g0 g1 g2 g3 q0 q1 q2 q3 f0 f1 f2 f3 HB3
    refine wpAnyH_ready (rs := [11]) (by kernel_rfl) (by simp) ?_
    refine AllReadyH.cons (o := opPGOne11) rfl (fun K hK => ?_) AllReadyH.nil
    go_simp
    refine hK.out _ _ trivial (fun hHeld => ?_)
    clear hK K
    refine wpAnyH_ready (rs := [12]) (by kernel_rfl) (by simp) ?_
    refine AllReadyH.cons (o := opPGOne12) rfl (fun K hK => ?_) AllReadyH.nil
    go_simp
    refine hK.out _ _ trivial (fun hHeld => ?_)
    clear hK K
    refine wpAnyH_done (by kernel_rfl) ?_ _
    refine NoPanic.normal ?_
    clear HD2 HG
    go_wp2
    (try simp only [Exit.inBlock, Exit.then])
    refine bodyPost_ret (res_p (B := w.heap.size) (v0 := .int .i64 (0)) (v1 := .int .i64 (0)) (v2 := .string ⟨#[]⟩) (v3 := .string ⟨#[]⟩) rfl rfl ?c0 ?c1 ?c2 ?c3) rfl ?_
    case c0 => simp (maxDischargeDepth := 12) [cell_set, c0]
    case c1 => simp (maxDischargeDepth := 12) [cell_set, c1]
    case c2 => simp (maxDischargeDepth := 12) [cell_set, c2]
    case c3 => simp (maxDischargeDepth := 12) [cell_set, c3]
    refine ⟨_, _, _, _, _, _, _, m3, rfl, InnOff.inn (B := w.heap.size) ?_, ?_⟩
    · refine InnOff.set ?_ rfl; refine InnOff.set ?_ rfl; refine InnOff.set ?_ rfl; refine InnOff.set ?_ rfl; exact unhide HOF4
    · have := unhide HB4; go_grown
  · go_enter Tryz.func204, Tryz.ntmps204
    go_wp2_with fail
    refine (vget_good _ l _ ((unhide HV).below (by go_grown)) id Q (unhide Hhv)).mono ?_
    rintro e w1 ⟨rfl, hb1⟩
    have HB1 : Hid (Below w.heap.size w w1) := ((Below.refl _ _).alloc (Nat.le_refl _) _).trans (hb1.mono (by simp))
    have HD : Hid (Byt w1 (.slice (some ⟨b, off + Q, none⟩) (n - Q) (cap - Q)) (l.drop Q)) := by
      show Byt _ _ _
      have := ((unhide HV).below (unhide HB1)).drop' Q (by omega)
      rw [if_neg hcQ] at this; exact this
    have q0 : w1.cell? ⟨w.heap.size, 0, none⟩ = some (.int .i64 0) := (hb1.cell (p := ⟨w.heap.size, 0, none⟩) (by simp)).trans (by simp)
    have f0 : w1.frozen? ⟨w.heap.size, 0, none⟩ = false := (hb1.frozen (p := ⟨w.heap.size, 0, none⟩) (by simp)).trans (by simp)
    have q1 : w1.cell? ⟨w.heap.size, 1, none⟩ = some (.int .i64 0) := (hb1.cell (p := ⟨w.heap.size, 1, none⟩) (by simp)).trans (by simp)
    have f1 : w1.frozen? ⟨w.heap.size, 1, none⟩ = false := (hb1.frozen (p := ⟨w.heap.size, 1, none⟩) (by simp)).trans (by simp)
    have q2 : w1.cell? ⟨w.heap.size, 2, none⟩ = some (.string ⟨#[]⟩) := (hb1.cell (p := ⟨w.heap.size, 2, none⟩) (by simp)).trans (by simp)
    have f2 : w1.frozen? ⟨w.heap.size, 2, none⟩ = false := (hb1.frozen (p := ⟨w.heap.size, 2, none⟩) (by simp)).trans (by simp)
    have q3 : w1.cell? ⟨w.heap.size, 3, none⟩ = some (.string ⟨#[]⟩) := (hb1.cell (p := ⟨w.heap.size, 3, none⟩) (by simp)).trans (by simp)
    have f3 : w1.frozen? ⟨w.heap.size, 3, none⟩ = false := (hb1.frozen (p := ⟨w.heap.size, 3, none⟩) (by simp)).trans (by simp)
    have hl1 : w.heap.size < w1.heap.size := cell_lt q0
    have HC : Hid (Below w1.heap.size w1 w1) := Below.refl _ _
    clear hb1
    go_wp2_with fail
    refine wp_region_noPanic ?_
    refine wp_region_held_drew (S := (fun _ => True)) (by kernel_rfl) trivial (fun hHeld => ?_)
    refine wpAnyH_take (i := 0) (oi := opPGOne0) (v := ?v25) rfl (by kernel_rfl) (by kernel_rfl) (by kernel_rfl) (fun _ _ _ h => h) (Or.inl ⟨by rfl, ?hy25⟩) (by assumption) ?rest25
    case hy25 => (intro w hSw; (try dsimp only at hSw); go_simp; (try rw [if_pos (by omega)]); (try with_reducible rfl))
    simp only [Act.put, List.setIfInBounds_toArray, List.set_cons_zero, List.set_cons_succ]
    refine wpAnyH_take (i := 1) (oi := opPGOne1) (v := ?v26) rfl (by kernel_rfl) (by kernel_rfl) (by kernel_rfl) (fun _ _ _ h => h) (Or.inl ⟨by rfl, ?hy26⟩) (by assumption) ?rest26
    case hy26 => (intro w hSw; (try dsimp only at hSw); go_simp; (try rw [if_pos (by omega)]); (try with_reducible rfl))
    simp only [Act.put, List.setIfInBounds_toArray, List.set_cons_zero, List.set_cons_succ]
    refine wpAnyH_take (i := 2) (oi := opPGOne2) (v := ?v27) rfl (by kernel_rfl) (by kernel_rfl) (by kernel_rfl) (fun _ _ _ h => h) (Or.inl ⟨by rfl, ?hy27⟩) (by assumption) ?rest27
    case hy27 => (intro w hSw; (try dsimp only at hSw); go_simp; (try rw [if_pos (by omega)]); (try with_reducible rfl))
    simp only [Act.put, List.setIfInBounds_toArray, List.set_cons_zero, List.set_cons_succ]
    refine wpAnyH_take (i := 3) (oi := opPGOne3) (v := ?v28) rfl (by kernel_rfl) (by kernel_rfl) (by kernel_rfl) (fun _ _ _ h => h) (Or.inl ⟨by rfl, ?hy28⟩) (by assumption) ?rest28
    case hy28 => (intro w hSw; (try dsimp only at hSw); go_simp; (try rw [if_pos (by omega)]); (try with_reducible rfl))
    simp only [Act.put, List.setIfInBounds_toArray, List.set_cons_zero, List.set_cons_succ]
    refine wpAnyH_ready (rs := [4]) (by kernel_rfl) (by simp) ?_
    refine AllReadyH.cons (o := opPGOne4) rfl (fun K hK => ?_) AllReadyH.nil
    go_simp
    refine (shape_use id f wd lo hi (unhide HSH) _).mono ?_
    rintro e w2 ⟨rfl, hb2⟩
    have hb2' := below_undrew1 hb2
    clear hb2
    have HD2 := hide ((unhide HD).below hb2')
    refine hK.out _ _ trivial (fun hHeld => ?_)
    clear hK K
    refine wpAnyH_ready (rs := [5]) (by kernel_rfl) (by simp) ?_
    refine AllReadyH.cons (o := opPGOne5) rfl (fun K hK => ?_) AllReadyH.nil
    go_simp
    refine ((unhide HG) _ _ (unhide HD2)).mono ?_
    rintro e w3 ⟨i3, n3, s3, t3, k3, ty3, x3, m3, rfl, hi3, hb3⟩
    have HB3 : Hid (Below w1.heap.size w1 w3) := hb2'.trans (hb3.mono hb2'.size)
    have r0 := ((unhide HB3).cell (cell_lt q0)).trans q0
    have g0 := ((unhide HB3).frozen (p := ⟨w.heap.size, 0, none⟩) (cell_lt q0)).trans f0
    have r1 := ((unhide HB3).cell (cell_lt q1)).trans q1
    have g1 := ((unhide HB3).frozen (p := ⟨w.heap.size, 1, none⟩) (cell_lt q1)).trans f1
    have r2 := ((unhide HB3).cell (cell_lt q2)).trans q2
    have g2 := ((unhide HB3).frozen (p := ⟨w.heap.size, 2, none⟩) (cell_lt q2)).trans f2
    have r3 := ((unhide HB3).cell (cell_lt q3)).trans q3
    have g3 := ((unhide HB3).frozen (p := ⟨w.heap.size, 3, none⟩) (cell_lt q3)).trans f3
    clear hb2' hb3
    refine hK.out _ _ trivial (fun hHeld => ?_)
    clear hK K
    refine wpAnyH_take (i := 6) (oi := opPGOne6) (v := ?v29) rfl (by kernel_rfl) (by kernel_rfl) (by kernel_rfl) (fun _ _ _ h => h) (Or.inl ⟨by rfl, ?hy29⟩) (by assumption) ?rest29
    case hy29 => (intro w hSw; (try dsimp only at hSw); go_simp; (try rw [if_pos (by omega)]); (try with_reducible rfl))
    simp only [Act.put, List.setIfInBounds_toArray, List.set_cons_zero, List.set_cons_succ]
    refine wpAnyH_take (i := 7) (oi := opPGOne7) (v := ?v30) rfl (by kernel_rfl) (by kernel_rfl) (by kernel_rfl) (fun _ _ _ h => h) (Or.inl ⟨by rfl, ?hy30⟩) (by assumption) ?rest30
    case hy30 => (intro w hSw; (try dsimp only at hSw); go_simp; (try rw [if_pos (by omega)]); (try with_reducible rfl))
    simp only [Act.put, List.setIfInBounds_toArray, List.set_cons_zero, List.set_cons_succ]
    refine wpAnyH_take (i := 8) (oi := opPGOne8) (v := ?v31) rfl (by kernel_rfl) (by kernel_rfl) (by kernel_rfl) (fun _ _ _ h => h) (Or.inl ⟨by rfl, ?hy31⟩) (by assumption) ?rest31
    case hy31 => (intro w hSw; (try dsimp only at hSw); go_simp; (try rw [if_pos (by omega)]); (try with_reducible rfl))
    simp only [Act.put, List.setIfInBounds_toArray, List.set_cons_zero, List.set_cons_succ]
    refine wpAnyH_take (i := 9) (oi := opPGOne9) (v := ?v32) rfl (by kernel_rfl) (by kernel_rfl) (by kernel_rfl) (fun _ _ _ h => h) (Or.inl ⟨by rfl, ?hy32⟩) (by assumption) ?rest32
    case hy32 => (intro w hSw; (try dsimp only at hSw); go_simp; (try rw [if_pos (by omega)]); (try with_reducible rfl))
    simp only [Act.put, List.setIfInBounds_toArray, List.set_cons_zero, List.set_cons_succ]
    refine wpAnyH_ready (rs := [10]) (by kernel_rfl) (by simp) ?_
    refine AllReadyH.cons (o := opPGOne10) rfl (fun K hK => ?_) AllReadyH.nil
    go_simp
    refine hK.out _ _ trivial (fun hHeld => ?_)
    clear hK K
    show wpAnyH _ _ _ _ _ _ _ _ (set4 w3 w.heap.size i3 n3 s3 t3)
    have c0 := set4_c0 w3 w.heap.size i3 n3 s3 t3 r0
    have c1 := set4_c1 w3 w.heap.size i3 n3 s3 t3 r1
    have c2 := set4_c2 w3 w.heap.size i3 n3 s3 t3 r2
    have c3 := set4_c3 w3 w.heap.size i3 n3 s3 t3 r3
    have e0 := (set4_frozen w3 w.heap.size i3 n3 s3 t3 ⟨w.heap.size, 0, none⟩).trans g0
    have e1 := (set4_frozen w3 w.heap.size i3 n3 s3 t3 ⟨w.heap.size, 1, none⟩).trans g1
    have e2 := (set4_frozen w3 w.heap.size i3 n3 s3 t3 ⟨w.heap.size, 2, none⟩).trans g2
    have e3 := (set4_frozen w3 w.heap.size i3 n3 s3 t3 ⟨w.heap.size, 3, none⟩).trans g3
    have HB4 : Hid (Below w.heap.size w (set4 w3 w.heap.size i3 n3 s3 t3)) := set4_below _ _ _ _ _ _ _ _ ((unhide HB1).trans ((unhide HB3).mono (unhide HB1).size)) (Nat.le_refl _)
    have HOF4 := hide (set4_off ((unhide hi3).off r1) i3 n3 s3 t3)
    clear hi3
    generalize set4 w3 w.heap.size i3 n3 s3 t3 = W4 at c0 c1 c2 c3 e0 e1 e2 e3 HB4 HOF4 ⊢
    clear r0 r1 r2 r3 g0 g1 g2 g3 q0 q1 q2 q3 f0 f1 f2 f3 HB3
    refine wpAnyH_ready (rs := [11]) (by kernel_rfl) (by simp) ?_
    refine AllReadyH.cons (o := opPGOne11) rfl (fun K hK => ?_) AllReadyH.nil
    go_simp
    refine hK.out _ _ trivial (fun hHeld => ?_)
    clear hK K
    refine wpAnyH_ready (rs := [12]) (by kernel_rfl) (by simp) ?_
    refine AllReadyH.cons (o := opPGOne12) rfl (fun K hK => ?_) AllReadyH.nil
    go_simp
    refine hK.out _ _ trivial (fun hHeld => ?_)
    clear hK K
    refine wpAnyH_done (by kernel_rfl) ?_ _
    refine NoPanic.normal ?_
    clear HD2 HG
    go_wp2
    (try simp only [Exit.inBlock, Exit.then])
    refine bodyPost_ret (res_p (B := w.heap.size) (v0 := .int .i64 (0)) (v1 := .int .i64 (0)) (v2 := .string ⟨#[]⟩) (v3 := .string ⟨#[]⟩) rfl rfl ?c0 ?c1 ?c2 ?c3) rfl ?_
    case c0 => simp (maxDischargeDepth := 12) [cell_set, c0]
    case c1 => simp (maxDischargeDepth := 12) [cell_set, c1]
    case c2 => simp (maxDischargeDepth := 12) [cell_set, c2]
    case c3 => simp (maxDischargeDepth := 12) [cell_set, c3]
    refine ⟨_, _, _, _, _, _, _, m3, rfl, InnOff.inn (B := w.heap.size) ?_, ?_⟩
    · refine InnOff.set ?_ rfl; refine InnOff.set ?_ rfl; refine InnOff.set ?_ rfl; refine InnOff.set ?_ rfl; exact unhide HOF4
    · have := unhide HB4; go_grown
end Go.Proofs.YtoocdfgjkeheaaaGreatDoor
/- Proved here: prop.putOne tells the bytes of a property that may be, or an error of below where a text may not be. Helper contracts. -/
namespace Go.Proofs.YtoocdfgjkeheaaaGreatDoor
open Go.RowKit
set_option maxRecDepth 100000

theorem lst_pos (id : Int) : 0 ≤ lst id := by unfold lst; split <;> omega
theorem fit_num {id n : Int} {s t : ByteArray} (h : fit (id, n, s, t) = true) : 0 ≤ n ∧ lst id ≤ n ∧ n ≤ mx id := by
  unfold fit at h
  rw [Bool.and_eq_true, Bool.and_eq_true, decide_eq_true_eq, decide_eq_true_eq] at h
  have := lst_pos id
  have h1 := h.1
  simp only at h1
  omega
theorem shv_of (id k f wd m : Int) (hk : kd id = k) (hf : (if k = 1 ∨ k = 2 ∨ k = 4 then 1 else if k = 5 then 2 else if k = 6 then 3 else if k = 7 then 4 else if k = 8 then 5 else 0) = f) (hw : (if k = 1 ∨ k = 2 ∨ k = 4 then k else 0) = wd) (hm : mx id = m) : shv id = .agg #[.int .i64 f, .int .i64 wd, .int .i64 (lst id), .int .i64 m] := by
  unfold shv frm wid
  rw [hk, hf, hw, hm]
theorem pvb_num (id n : Int) (s t : ByteArray) (k : Int) (hk : kd id = k) (h : k = 1 ∨ k = 2 ∨ k = 4) : pvb (id, n, s, t) = nbs k n := by
  unfold pvb nbs
  rcases h with rfl | rfl | rfl <;> simp [hk]
theorem value_ok (id n : Int) (s t : ByteArray) (w : World) (hm : may (id, n, s, t) = true) : Calls Tryz.prog 210 #[.agg #[.int .i64 id, .int .i64 n, .string s, .string t]] w (ValOk (pvb (id, n, s, t)) w) := by
  unfold may at hm
  rw [Bool.and_eq_true] at hm
  obtain ⟨hf, ht⟩ := hm
  obtain ⟨h0, h1, h2⟩ := fit_num hf
  have hx : mx id = (if kd id = 1 then 1 else if kd id = 2 then 65535 else if kd id = 4 then 4294967295 else if kd id = 5 then 268435455 else 0) := rfl
  rcases kd_cases id with h | h | h | h | h | h | h | h
  · unfold txo at ht; simp [h] at ht
  · rw [pvb_num id n s t 1 h (by omega)]
    rw [if_pos h] at hx
    exact value_num id n 1 s t w _ _ (shv_of id 1 1 1 1 h rfl rfl hx) (.inl ⟨rfl, by omega⟩) h0
  · rw [pvb_num id n s t 2 h (by omega)]
    rw [if_neg (by omega), if_pos h] at hx
    exact value_num id n 2 s t w _ _ (shv_of id 2 1 2 65535 h rfl rfl hx) (.inr (.inl ⟨rfl, by omega⟩)) h0
  · rw [pvb_num id n s t 4 h (by omega)]
    rw [if_neg (by omega), if_neg (by omega), if_pos h] at hx
    exact value_num id n 4 s t w _ _ (shv_of id 4 1 4 4294967295 h rfl rfl hx) (.inr (.inr ⟨rfl, by omega⟩)) h0
  · rw [show pvb (id, n, s, t) = V.put n from by unfold pvb; simp [h]]
    rw [if_neg (by omega), if_neg (by omega), if_neg (by omega), if_pos h] at hx
    exact value_var id n s t w _ _ _ (shv_of id 5 2 0 _ h rfl rfl hx) h0 (by omega)
  · rw [show pvb (id, n, s, t) = tx s from by unfold pvb; simp [h]]
    rw [if_neg (by omega), if_neg (by omega), if_neg (by omega), if_neg (by omega)] at hx
    exact value_text id n s t w _ _ _ (shv_of id 6 3 0 _ h rfl rfl hx) (by unfold txo at ht; simpa [h] using ht)
  · rw [show pvb (id, n, s, t) = tx s from by unfold pvb; simp [h]]
    rw [if_neg (by omega), if_neg (by omega), if_neg (by omega), if_neg (by omega)] at hx
    exact value_bin id n s t w _ _ _ (shv_of id 7 4 0 _ h rfl rfl hx) (by unfold txo at ht; simpa [h] using ht)
  · rw [show pvb (id, n, s, t) = tx s ++ tx t from by unfold pvb; simp [h]]
    rw [if_neg (by omega), if_neg (by omega), if_neg (by omega), if_neg (by omega)] at hx
    have hc : chk (sb s) = 0 ∧ chk (sb t) = 0 := by unfold txo at ht; simpa [h] using ht
    exact value_pair id n s t w _ _ _ (shv_of id 8 5 0 _ h rfl rfl hx) hc.1 hc.2
theorem value_bad (id n : Int) (s t : ByteArray) (w : World) (hls : s.size ≤ 4611686018427387904) (hlt : t.size ≤ 4611686018427387904) (hk : kd id ≠ 0) (ht : txo (id, n, s, t) = false) : Calls Tryz.prog 210 #[.agg #[.int .i64 id, .int .i64 n, .string s, .string t]] w (ValBad w) := by
  have hx : mx id = (if kd id = 1 then 1 else if kd id = 2 then 65535 else if kd id = 4 then 4294967295 else if kd id = 5 then 268435455 else 0) := rfl
  rcases kd_cases id with h | h | h | h | h | h | h | h
  · exact absurd h hk
  · unfold txo at ht; simp [h] at ht
  · unfold txo at ht; simp [h] at ht
  · unfold txo at ht; simp [h] at ht
  · unfold txo at ht; simp [h] at ht
  · rw [if_neg (by omega), if_neg (by omega), if_neg (by omega), if_neg (by omega)] at hx
    exact value_text_bad id n s t w _ _ _ (shv_of id 6 3 0 _ h rfl rfl hx) hls (by unfold txo at ht; simpa [h] using ht)
  · rw [if_neg (by omega), if_neg (by omega), if_neg (by omega), if_neg (by omega)] at hx
    exact value_bin_bad id n s t w _ _ _ (shv_of id 7 4 0 _ h rfl rfl hx) (by unfold txo at ht; simpa [h] using ht)
  · rw [if_neg (by omega), if_neg (by omega), if_neg (by omega), if_neg (by omega)] at hx
    have hc : chk (sb s) = 0 → ¬ chk (sb t) = 0 := by unfold txo at ht; simpa [h] using ht
    by_cases hs : chk (sb s) = 0
    · exact value_pair_bad2 id n s t w _ _ _ (shv_of id 8 5 0 _ h rfl rfl hx) hlt hs (hc hs)
    · exact value_pair_bad1 id n s t w _ _ _ (shv_of id 8 5 0 _ h rfl rfl hx) hls hs
theorem pvb_range (id n : Int) (s t : ByteArray) (w : World) (v : Value) (h : Byt w v (pvb (id, n, s, t))) : ∀ j, 0 ≤ (pvb (id, n, s, t)).getD j 0 ∧ (pvb (id, n, s, t)).getD j 0 ≤ 255 := h.range
set_option maxHeartbeats 1000000 in
theorem one_ok (id n : Int) (s t : ByteArray) (w : World) (hi : 1 ≤ id ∧ id ≤ 42) (hm : may (id, n, s, t) = true) : Calls Tryz.prog 201 #[.agg #[.int .i64 id, .int .i64 n, .string s, .string t]] w (ValOk (pb (id, n, s, t)) w) := by
  have hle := pvb_le _ hm
  have HM := hide hm
  have HV := hide (fun W => value_ok id n s t W hm)
  have HL := hide (V.put_len id)
  have HP : Hid (pb (id, n, s, t) = V.put id ++ pvb (id, n, s, t)) := rfl
  generalize pb (id, n, s, t) = l at HP ⊢
  generalize pvb (id, n, s, t) = l2 at HP HV hle
  clear hm HM
  go_enter Tryz.func201, Tryz.ntmps201
  go_wp2_with fail
  refine (vput_use id _ (by omega) (by omega)).mono ?_
  rintro e w1 ⟨v1, rfl, hown1, hy1, hb1⟩
  have HR := hide (unhide hy1).range
  have HB1 : Hid (Below w.heap.size w w1) := ((Below.refl _ _).alloc (Nat.le_refl _) _).trans (hb1.mono (by simp))
  have c0 : w1.cell? ⟨w.heap.size, 0, none⟩ = some (.int .i64 id) := (hb1.cell (p := ⟨w.heap.size, 0, none⟩) (by simp)).trans (by simp)
  have c1 : w1.cell? ⟨w.heap.size, 1, none⟩ = some (.int .i64 n) := (hb1.cell (p := ⟨w.heap.size, 1, none⟩) (by simp)).trans (by simp)
  have c2 : w1.cell? ⟨w.heap.size, 2, none⟩ = some (.string s) := (hb1.cell (p := ⟨w.heap.size, 2, none⟩) (by simp)).trans (by simp)
  have c3 : w1.cell? ⟨w.heap.size, 3, none⟩ = some (.string t) := (hb1.cell (p := ⟨w.heap.size, 3, none⟩) (by simp)).trans (by simp)
  have HO1 : Hid (w1.ownsRow w.heap.size 5 1 v1 (V.put id).length ((V.put id).map (Value.int .u8))) := owns_mono (unhide hown1) (by simp)
  clear hb1 hown1 hy1
  go_wp2_with fail
  refine ((unhide HV) _).mono ?_
  rintro e w2 ⟨v2, rfl, hy2, hb2⟩
  have HO2 : Hid (w2.ownsRow w.heap.size 5 1 v1 (V.put id).length ((V.put id).map (Value.int .u8))) := owns_below (unhide HO1) hb2
  have HB2 : Hid (Below w.heap.size w w2) := (unhide HB1).trans (hb2.mono (unhide HB1).size)
  clear hb2 HB1 HO1 c0 c1 c2 c3
  go_wp2_with (first
    | (at_builtin; refine wpList_append_byt _ rfl _ _ rfl w.heap.size _ (V.put id).length (V.put id) rfl (unhide HO2) v2 l2 rfl (unhide hy2) (by have := unhide HL; omega) (unhide HB2).size ?_)
    | go_in)
  intro v3 w3 hown3 hgrow3
  have hb3 : Below w.heap.size w w3 := (unhide HB2).grown hgrow3 (unhide HB2).size (fun k hk => ((unhide HO2).lt k hk).1)
  have HY3 : Hid (Byt w3 v3 l) := by
    show Byt _ _ _
    rw [unhide HP]
    exact byt_of_owns (by rw [List.map_append]; exact hown3) (range_app (unhide HR) (unhide hy2).range)
  clear hown3 hgrow3
  go_wp2
  go_ret2
  exact ⟨_, rfl, HY3, hb3⟩
theorem one_bad (id n : Int) (s t : ByteArray) (w : World) (hi : 1 ≤ id ∧ id ≤ 42) (hls : s.size ≤ 4611686018427387904) (hlt : t.size ≤ 4611686018427387904) (hk : kd id ≠ 0) (ht : txo (id, n, s, t) = false) : Calls Tryz.prog 201 #[.agg #[.int .i64 id, .int .i64 n, .string s, .string t]] w (ValBad w) := by
  have HV := hide (fun W => value_bad id n s t W hls hlt hk ht)
  clear hls hlt hk ht
  go_enter Tryz.func201, Tryz.ntmps201
  go_wp2_with fail
  refine (vput_use id _ (by omega) (by omega)).mono ?_
  rintro e w1 ⟨v1, rfl, -, -, hb1⟩
  have HB1 : Hid (Below w.heap.size w w1) := ((Below.refl _ _).alloc (Nat.le_refl _) _).trans (hb1.mono (by simp))
  have c0 : w1.cell? ⟨w.heap.size, 0, none⟩ = some (.int .i64 id) := (hb1.cell (p := ⟨w.heap.size, 0, none⟩) (by simp)).trans (by simp)
  have c1 : w1.cell? ⟨w.heap.size, 1, none⟩ = some (.int .i64 n) := (hb1.cell (p := ⟨w.heap.size, 1, none⟩) (by simp)).trans (by simp)
  have c2 : w1.cell? ⟨w.heap.size, 2, none⟩ = some (.string s) := (hb1.cell (p := ⟨w.heap.size, 2, none⟩) (by simp)).trans (by simp)
  have c3 : w1.cell? ⟨w.heap.size, 3, none⟩ = some (.string t) := (hb1.cell (p := ⟨w.heap.size, 3, none⟩) (by simp)).trans (by simp)
  clear hb1
  go_wp2_with fail
  refine ((unhide HV) _).mono ?_
  rintro e w2 ⟨t2, x2, m, rfl, hi2, hb2⟩
  go_wp2
  go_ret2
  exact ⟨_, _, _, rfl, hi2, (unhide HB1).trans (hb2.mono (unhide HB1).size)⟩
end Go.Proofs.YtoocdfgjkeheaaaGreatDoor
/- Proved here: a new row (prop.row: a place, and 43 flags), built, laid and stored as one: laws for a walk's three operations. Helpers. -/
namespace Go.Proofs.YtoocdfgjkeheaaaGreatDoor
open Go.RowKit
set_option maxRecDepth 100000

theorem wpList_value {P : Program} {ops : Array Oper} {rest : List Oper} {o : Oper} {a : Act} {w w' : World} {v : Value} {Q : Exit → Act → World → Prop} (hg : o.guard = none) (hr : (execOp a.eval o).run P w = .ok (.value v) w') (h : wpList P ops Q rest (a.put o.dst v) w') : wpList P ops Q (o :: rest) a w :=
  wpList_plain hg fun K hK => by unfold Oper.wp; rw [hr]; exact hK _ _ h
theorem wpList_skip {P : Program} {ops : Array Oper} {rest : List Oper} {o : Oper} {a : Act} {w w' : World} {Q : Exit → Act → World → Prop} (hg : o.guard = none) (hr : (execOp a.eval o).run P w = .ok .skip w') (h : wpList P ops Q rest (a.put o.dst undef) w') : wpList P ops Q (o :: rest) a w :=
  wpList_plain hg fun K hK => by unfold Oper.wp; rw [hr]; exact hK _ _ h
/-- a row in which nothing has come -/
def rowA (place : Int) : Array Value := #[.int .i64 place] ++ Array.replicate 43 (.bool false)
theorem rowA_size (place : Int) : (rowA place).size = 44 := by simp [rowA]
theorem rowA_one (place : Int) : (rowA place).all (·.oneCell') = true := by kernel_rfl
theorem rowA_lit (place : Int) : rowA place = #[.int .i64 place, .bool false, .bool false, .bool false, .bool false, .bool false, .bool false, .bool false, .bool false, .bool false, .bool false, .bool false, .bool false, .bool false, .bool false, .bool false, .bool false, .bool false, .bool false, .bool false, .bool false, .bool false, .bool false, .bool false, .bool false, .bool false, .bool false, .bool false, .bool false, .bool false, .bool false, .bool false, .bool false, .bool false, .bool false, .bool false, .bool false, .bool false, .bool false, .bool false, .bool false, .bool false, .bool false, .bool false] := by kernel_rfl
theorem row_build (a : Act) (dst : Option Tmp) (x : Operand) (ty : TypeId) (pos : String) (after : Array Edge) (place : Int) (hx : a.eval x = .int .i64 place) (w : World) :
    (execOp a.eval ⟨dst, .build 235 #[(0, x)], ty, pos, after, none⟩).run Tryz.prog w = .ok (.value (.agg (rowA place))) w := by
  unfold execOp
  simp only [List.map_toArray, List.map_cons, List.map_nil, hx]
  kernel_rfl
theorem row_alloc (ρ : Operand → Value) (dst : Option Tmp) (ty : TypeId) (pos : String) (after : Array Edge) (w : World) :
    (execOp ρ ⟨dst, .alloc 235, ty, pos, after, none⟩).run Tryz.prog w = .ok (.value (.pointer (some ⟨w.heap.size, 0, none⟩))) (w.alloc (.cells (rowA 0) 235)) := by
  kernel_rfl
theorem row_size : (Tryz.prog.info? 235).map (·.size) = some 44 := by kernel_rfl
theorem row_store (a : Act) (dst : Option Tmp) (x y : Operand) (ty : TypeId) (pos : String) (after : Array Edge) (place : Int) (w : World) (hx : a.eval x = .pointer (some ⟨w.heap.size, 0, none⟩)) (hy : a.eval y = .agg (rowA place)) :
    (execOp a.eval ⟨dst, .store 235 x y, ty, pos, after, none⟩).run Tryz.prog (w.alloc (.cells (rowA 0) 235)) = .ok .skip (w.alloc (.cells (rowA place) 235)) := by
  show Sem.run Tryz.prog (do Instr.storeAt 235 (a.eval x) (a.eval y); pure Next.skip) _ = _
  rw [hx, hy]
  simp only [Sem.run_bind]
  rw [run_storeAt_new w 235 (rowA 0) (rowA place) (by rw [row_size, rowA_size]) (by rw [rowA_size, rowA_size]) (rowA_one place)]
  rfl
end Go.Proofs.YtoocdfgjkeheaaaGreatDoor
