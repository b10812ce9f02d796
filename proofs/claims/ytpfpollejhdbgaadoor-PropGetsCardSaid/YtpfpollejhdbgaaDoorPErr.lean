/- Proved here: errors.Is at an api.Errno and at an *api.Fault around one, and prop's wrap, fault, few, broken. Helper contracts. -/
import Derived.Test.YtpfpollejhdbgaaDoorErrNum
import Derived.Test.YtpfpollejhdbgaaDoorTPoint
import Derived.Handy
namespace Go.Proofs.YtpfpollejhdbgaaDoor
open Go.RowKit Go.Extern.Stop Go.Stop Go.Extern
set_option maxRecDepth 100000

abbrev wrapW (v : Value) (w : World) : World := w.alloc (.cells #[.string ⟨#[112, 114, 111, 112]⟩, v] 81)
theorem wrap_any (t : TypeId) (x : Value) (w : World) : Calls Tryd.prog 31 #[.iface t x] w fun e w' => e = .returned (.iface 79 (.pointer (some ⟨w.heap.size, 0, none⟩))) ∧ w' = wrapW (.iface t x) w := by
  go_enter Tryd.func31, Tryd.ntmps31
  go_wp2
  go_ret
  exact ⟨rfl, rfl⟩
theorem pfault_any (n : Int) (w : World) : Calls Tryd.prog 35 #[.int .i64 n] w fun e w' => e = .returned (.iface 79 (.pointer (some ⟨w.heap.size, 0, none⟩))) ∧ w' = wrapW (.iface 65 (.int .i64 n)) w := by
  go_enter Tryd.func35, Tryd.ntmps35
  go_wp2_with (go_at_call 31; refine (wrap_any _ _ _).mono ?_; rintro e w' ⟨rfl, rfl⟩)
  go_ret
  exact ⟨rfl, rfl⟩
/-- an error value of prop: nil, a Fault around the number, or one around a Fault of below -/
def ErrP (w : World) (v : Value) (n : Int) : Prop :=
  ErrIs w v n ∨ ∃ b c, v = .iface 79 (.pointer (some ⟨b, 0, none⟩)) ∧ w.cell? ⟨b, 1, none⟩ = some (.iface 79 (.pointer (some ⟨c, 0, none⟩))) ∧ w.cell? ⟨c, 1, none⟩ = some (.iface 65 (.int .i64 n))
/-- an error of below: a number, or a Fault around one -/
def Inn (w : World) (v : Value) (n : Int) : Prop := v = .iface 65 (.int .i64 n) ∨ ∃ b, v = .iface 79 (.pointer (some ⟨b, 0, none⟩)) ∧ w.cell? ⟨b, 1, none⟩ = some (.iface 65 (.int .i64 n))
theorem ErrP.below {w w' : World} {v : Value} {n : Int} (h : ErrP w v n) (hb : Below w.heap.size w w') : ErrP w' v n := by
  rcases h with h | ⟨b, c, h1, h2, h3⟩
  · exact .inl (h.below hb)
  · exact .inr ⟨b, c, h1, by rw [hb.cell (p := ⟨b, 1, none⟩) (cell_lt h2)]; exact h2, by rw [hb.cell (p := ⟨c, 1, none⟩) (cell_lt h3)]; exact h3⟩
theorem ErrP.nil (w : World) : ErrP w .nilIface 0 := .inl (.inl ⟨rfl, rfl⟩)
theorem Inn.below {w w' : World} {v : Value} {n : Int} (h : Inn w v n) (hb : Below w.heap.size w w') : Inn w' v n := by
  rcases h with h | ⟨b, h1, h2⟩
  · exact .inl h
  · exact .inr ⟨b, h1, by rw [hb.cell (p := ⟨b, 1, none⟩) (cell_lt h2)]; exact h2⟩
theorem wrap_is (n : Int) (v : Value) (w : World) (h : Inn w v n) : ErrP (wrapW v w) (.iface 79 (.pointer (some ⟨w.heap.size, 0, none⟩))) n := by
  rcases h with rfl | ⟨b, rfl, hc⟩
  · exact .inl (.inr ⟨_, rfl, by simp⟩)
  · exact .inr ⟨_, b, rfl, by simp, by rw [World.cell?_alloc_lt _ _ ⟨b, 1, none⟩ (cell_lt hc)]; exact hc⟩
theorem wrap_below (v : Value) (w : World) : Below w.heap.size w (wrapW v w) := (Below.refl _ _).alloc (Nat.le_refl _) _
/-- fault's answer, as a caller uses it -/
theorem pfault_use (n : Int) (w : World) : Calls Tryd.prog 35 #[.int .i64 n] w fun e w' => ∃ E, e = .returned (.iface 79 E) ∧ Hid (ErrP w' (.iface 79 E) n) ∧ Below w.heap.size w w' := by
  refine (pfault_any n w).mono ?_
  rintro e w' ⟨rfl, rfl⟩
  exact ⟨_, rfl, wrap_is n _ w (.inl rfl), wrap_below _ _⟩
theorem wrap_use (v : Value) (n : Int) (w : World) (h : Inn w v n) : Calls Tryd.prog 31 #[v] w fun e w' => ∃ E, e = .returned (.iface 79 E) ∧ Hid (ErrP w' (.iface 79 E) n) ∧ Below w.heap.size w w' := by
  obtain ⟨t, x, rfl⟩ : ∃ t x, v = .iface t x := by rcases h with rfl | ⟨b, rfl, _⟩ <;> exact ⟨_, _, rfl⟩
  refine (wrap_any t x w).mono ?_
  rintro e w' ⟨rfl, rfl⟩
  exact ⟨_, rfl, wrap_is n _ w h, wrap_below _ _⟩
theorem few_ok (n : Int) (w : World) (h : n ≤ 32) : Calls Tryd.prog 32 #[.int .i64 n] w fun e w' => e = .returned .nilIface ∧ w' = w := by
  go_enter Tryd.func32, Tryd.ntmps32
  go_wp2
  go_ret
  exact ⟨rfl, rfl⟩
theorem few_bad (n : Int) (w : World) (h : 32 < n) : Calls Tryd.prog 32 #[.int .i64 n] w fun e w' => ∃ E, e = .returned (.iface 79 E) ∧ Hid (ErrP w' (.iface 79 E) 2) ∧ Below w.heap.size w w' := by
  go_enter Tryd.func32, Tryd.ntmps32
  go_wp2_with (go_at_call 35; refine (pfault_use 2 _).mono ?_; rintro e w' ⟨E, rfl, hE, hb⟩)
  go_ret
  exact ⟨_, rfl, hE, hb⟩

theorem methodComp (h : Value) (w : World) : (Go.method 277 122 (.agg #[h]) "Comparable").run Tryd.prog w = .ok (117, .agg #[h]) w := by kernel_rfl
theorem compE (w : World) : ((ReflectliteType.method fun t => do Rtype.noPackHeld "Comparable" t; (fun a => Value.bool a.comparable) <$> typeInfo t) #[.agg #[.pointer (some ⟨1, 65, none⟩)]]).run Tryd.prog w = .ok (.bool true) w := by kernel_rfl
theorem noIsF (v : Value) (xT : TypeId) (w : World) : (Instr.typeAssert (.iface 79 v) xT 141 true).run Tryd.prog w = .ok (.tuple #[.nilIface, .bool false]) w := run_typeAssert_lacksB Tryd.underlying141 (by kernel_rfl) (by kernel_rfl) v xT w
theorem noIsE (v : Value) (xT : TypeId) (w : World) : (Instr.typeAssert (.iface 65 v) xT 141 true).run Tryd.prog w = .ok (.tuple #[.nilIface, .bool false]) w := run_typeAssert_lacksB Tryd.underlying141 (by kernel_rfl) (by kernel_rfl) v xT w
theorem noUnwrapE (v : Value) (xT : TypeId) (w : World) : (Instr.typeAssert (.iface 65 v) xT 129 true).run Tryd.prog w = .ok (.tuple #[.nilIface, .bool false]) w := run_typeAssert_lacksB Tryd.underlying129 (by kernel_rfl) (by kernel_rfl) v xT w
theorem noUnwrapsE (v : Value) (xT : TypeId) (w : World) : (Instr.typeAssert (.iface 65 v) xT 131 true).run Tryd.prog w = .ok (.tuple #[.nilIface, .bool false]) w := run_typeAssert_lacksB Tryd.underlying131 (by kernel_rfl) (by kernel_rfl) v xT w

theorem eqE (n : Int) (w : World) : (binOp .eql 33 (.iface 65 (.int .i64 n)) (.iface 65 (.int .i64 1))).run Tryd.prog w = .ok (.bool (n == 1)) w := by kernel_rfl
theorem eqF (v u : Value) (w : World) : (binOp .eql 33 (.iface 79 v) (.iface 65 u)).run Tryd.prog w = .ok (.bool false) w := by kernel_rfl
theorem eqN (t : TypeId) (v : Value) (w : World) : (binOp .eql 33 (.iface t v) .nilIface).run Tryd.prog w = .ok (.bool false) w := by kernel_rfl
set_option maxHeartbeats 4000000 in
theorem is_errno (n : Int) (w : World) : Calls Tryd.prog 73 #[.iface 65 (.int .i64 n), .iface 65 (.int .i64 1), .bool true] w fun e w' => e = .returned (.bool (n == 1)) ∧ w' = w := by
  have nI := noIsE
  have q1 := eqE
  have q2 := eqF
  have nU := noUnwrapE
  have nV := noUnwrapsE
  by_cases h : n = 1
  · subst h
    go_enter Tryd.func73, Tryd.ntmps73
    go_wp2
    refine wp_loop_rounds 1 ?_
    rw [rounds_succ]
    go_wp2
    go_ret
    exact ⟨rfl, rfl⟩
  · have hb : (n == 1) = false := beq_eq_false_iff_ne.2 h
    go_enter Tryd.func73, Tryd.ntmps73
    go_wp2
    refine wp_loop_rounds 1 ?_
    rw [rounds_succ]
    go_wp2
    go_ret
    exact ⟨ret_bool hb.symm, rfl⟩
set_option maxHeartbeats 4000000 in
theorem is_fault (b : Nat) (n : Int) (w : World) (hc : w.cell? ⟨b, 1, none⟩ = some (.iface 65 (.int .i64 n))) : Calls Tryd.prog 73 #[.iface 79 (.pointer (some ⟨b, 0, none⟩)), .iface 65 (.int .i64 1), .bool true] w fun e w' => e = .returned (.bool (n == 1)) ∧ w' = w := by
  have nI := noIsE
  have q1 := eqE
  have q2 := eqF
  have nU := noUnwrapE
  have nV := noUnwrapsE
  have nF := noIsF
  have hU := hasUnwrapF
  have mU := methodUnwrap
  by_cases h : n = 1
  · subst h
    go_enter Tryd.func73, Tryd.ntmps73
    go_wp2
    refine wp_loop_rounds 2 ?_
    rw [rounds_succ]
    go_wp2_with (go_at_call 111; refine (unwrap_any _ _ _ hc).mono ?_; rintro e w' ⟨rfl, rfl⟩)
    rw [rounds_succ]
    go_wp2
    go_ret
    exact ⟨rfl, rfl⟩
  · have hb : (n == 1) = false := beq_eq_false_iff_ne.2 h
    go_enter Tryd.func73, Tryd.ntmps73
    go_wp2
    refine wp_loop_rounds 2 ?_
    rw [rounds_succ]
    go_wp2_with (go_at_call 111; refine (unwrap_any _ _ _ hc).mono ?_; rintro e w' ⟨rfl, rfl⟩)
    rw [rounds_succ]
    go_wp2
    go_ret
    exact ⟨ret_bool hb.symm, rfl⟩
theorem is_inn (v : Value) (n : Int) (w : World) (h : Inn w v n) : Calls Tryd.prog 73 #[v, .iface 65 (.int .i64 1), .bool true] w fun e w' => e = .returned (.bool (n == 1)) ∧ w' = w := by
  rcases h with rfl | ⟨b, rfl, hc⟩
  · exact is_errno n w
  · exact is_fault b n w hc
set_option maxHeartbeats 4000000 in
theorem Is_inn (t : TypeId) (x : Value) (n : Int) (w : World) (h : Inn w (.iface t x) n) : Calls Tryd.prog 59 #[.iface t x, .iface 65 (.int .i64 1)] w fun e w' => e = .returned (.bool (n == 1)) ∧ w' = w := by
  have H := hide h
  clear h
  have hT := @run_callFunc_extern Tryd.prog 72 _ ReflectliteType.typeOf Tryd.func72 (by kernel_rfl) (by kernel_rfl) (by kernel_rfl) (by kernel_rfl)
  have hC := @run_callFunc_extern Tryd.prog 117 _ (ReflectliteType.method fun t => do Rtype.noPackHeld "Comparable" t; pure (.bool (← typeInfo t).comparable)) Tryd.func117 (by kernel_rfl) (by kernel_rfl) (by kernel_rfl) (by kernel_rfl)
  have tO := typeOfE
  have mC := methodComp
  have cE := compE
  go_enter Tryd.func59, Tryd.ntmps59
  go_wp2_with (go_at_call 73; refine (is_inn _ n _ (unhide H)).mono ?_; rintro e w' ⟨rfl, rfl⟩)
  go_ret
  exact ⟨rfl, rfl⟩
theorem broken_use (v : Value) (n : Int) (w : World) (h : Inn w v n) : Calls Tryd.prog 45 #[v] w fun e w' => ∃ E, e = .returned (.iface 79 E) ∧ Hid (ErrP w' (.iface 79 E) 1) ∧ Below w.heap.size w w' := by
  obtain ⟨t, x, rfl⟩ : ∃ t x, v = .iface t x := by rcases h with rfl | ⟨b, rfl, _⟩ <;> exact ⟨_, _, rfl⟩
  have H := hide h
  clear h
  by_cases h : n = 1
  · subst h
    go_enter Tryd.func45, Tryd.ntmps45
    go_wp2_with (first | (go_at_call 59; refine (Is_inn t x 1 _ (unhide H)).mono ?_; rintro e w' ⟨rfl, rfl⟩) | (go_at_call 31; refine (wrap_use _ 1 _ (unhide H)).mono ?_; rintro e w' ⟨E, rfl, hE, hb⟩))
    go_ret
    exact ⟨_, rfl, hE, hb⟩
  · have hb : (n == 1) = false := beq_eq_false_iff_ne.2 h
    go_enter Tryd.func45, Tryd.ntmps45
    go_wp2_with (first | (go_at_call 59; refine (Is_inn t x n _ (unhide H)).mono ?_; rintro e w' ⟨rfl, rfl⟩) | (go_at_call 35; refine (pfault_use 1 _).mono ?_; rintro e w' ⟨E, rfl, hE, hb'⟩))
    go_ret
    exact ⟨_, rfl, hE, hb'⟩
end Go.Proofs.YtpfpollejhdbgaaDoor
