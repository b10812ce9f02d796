/- Proved here: helpers, one text behind the other. -/
import Derived.Test.YtpoeakillimibaaGreatDoorZErrNum
import Derived.Test.YtpoeakillimibaaGreatDoorM8
import Derived.Handy
import Derived.Test.YtpoeakillimibaaGreatDoorZKAs0
import Derived.Test.YtpoeakillimibaaGreatDoorZKAs1
import Derived.Test.YtpoeakillimibaaGreatDoorZKAs2
import Derived.Test.YtpoeakillimibaaGreatDoorZKAs3
/- Proved here: errors.Is at an api.Errno and at an *api.Fault around one, and prop's wrap, fault, few, broken. Helper contracts. -/
namespace Go.Proofs.YtpoeakillimibaaGreatDoor
open Go.RowKit Go.Extern.Stop Go.Stop Go.Extern
set_option maxRecDepth 100000

abbrev wrapW (v : Value) (w : World) : World := w.alloc (.cells #[.string ⟨#[112, 114, 111, 112]⟩, v] 151)
theorem wrap_any (t : TypeId) (x : Value) (w : World) : Calls Tryz.prog 178 #[.iface t x] w fun e w' => e = .returned (.iface 149 (.pointer (some ⟨w.heap.size, 0, none⟩))) ∧ w' = wrapW (.iface t x) w := by
  go_enter Tryz.func178, Tryz.ntmps178
  go_wp2
  go_ret
  exact ⟨rfl, rfl⟩
theorem pfault_any (n : Int) (w : World) : Calls Tryz.prog 193 #[.int .i64 n] w fun e w' => e = .returned (.iface 149 (.pointer (some ⟨w.heap.size, 0, none⟩))) ∧ w' = wrapW (.iface 84 (.int .i64 n)) w := by
  go_enter Tryz.func193, Tryz.ntmps193
  go_wp2_with (go_at_call 178; refine (wrap_any _ _ _).mono ?_; rintro e w' ⟨rfl, rfl⟩)
  go_ret
  exact ⟨rfl, rfl⟩
/-- an error value of prop: nil, a Fault around the number, or one around a Fault of below -/
def ErrP (w : World) (v : Value) (n : Int) : Prop :=
  ErrIs w v n ∨ ∃ b c, v = .iface 149 (.pointer (some ⟨b, 0, none⟩)) ∧ w.cell? ⟨b, 1, none⟩ = some (.iface 149 (.pointer (some ⟨c, 0, none⟩))) ∧ w.cell? ⟨c, 1, none⟩ = some (.iface 84 (.int .i64 n))
/-- an error of below: a number, or a Fault around one -/
def Inn (w : World) (v : Value) (n : Int) : Prop := v = .iface 84 (.int .i64 n) ∨ ∃ b, v = .iface 149 (.pointer (some ⟨b, 0, none⟩)) ∧ w.cell? ⟨b, 1, none⟩ = some (.iface 84 (.int .i64 n))
theorem ErrP.below {w w' : World} {v : Value} {n : Int} (h : ErrP w v n) (hb : Below w.heap.size w w') : ErrP w' v n := by
  rcases h with h | ⟨b, c, h1, h2, h3⟩
  · exact .inl (h.below hb)
  · exact .inr ⟨b, c, h1, by rw [hb.cell (p := ⟨b, 1, none⟩) (cell_lt h2)]; exact h2, by rw [hb.cell (p := ⟨c, 1, none⟩) (cell_lt h3)]; exact h3⟩
theorem ErrP.nil (w : World) : ErrP w .nilIface 0 := .inl (.inl ⟨rfl, rfl⟩)
theorem Inn.below {w w' : World} {v : Value} {n : Int} (h : Inn w v n) (hb : Below w.heap.size w w') : Inn w' v n := by
  rcases h with h | ⟨b, h1, h2⟩
  · exact .inl h
  · exact .inr ⟨b, h1, by rw [hb.cell (p := ⟨b, 1, none⟩) (cell_lt h2)]; exact h2⟩
theorem wrap_is (n : Int) (v : Value) (w : World) (h : Inn w v n) : ErrP (wrapW v w) (.iface 149 (.pointer (some ⟨w.heap.size, 0, none⟩))) n := by
  rcases h with rfl | ⟨b, rfl, hc⟩
  · exact .inl (.inr ⟨_, rfl, by simp⟩)
  · exact .inr ⟨_, b, rfl, by simp, by rw [World.cell?_alloc_lt _ _ ⟨b, 1, none⟩ (cell_lt hc)]; exact hc⟩
theorem wrap_below (v : Value) (w : World) : Below w.heap.size w (wrapW v w) := (Below.refl _ _).alloc (Nat.le_refl _) _
/-- fault's answer, as a caller uses it -/
theorem pfault_use (n : Int) (w : World) : Calls Tryz.prog 193 #[.int .i64 n] w fun e w' => ∃ E, e = .returned (.iface 149 E) ∧ Hid (ErrP w' (.iface 149 E) n) ∧ Below w.heap.size w w' := by
  refine (pfault_any n w).mono ?_
  rintro e w' ⟨rfl, rfl⟩
  exact ⟨_, rfl, wrap_is n _ w (.inl rfl), wrap_below _ _⟩
theorem wrap_use (v : Value) (n : Int) (w : World) (h : Inn w v n) : Calls Tryz.prog 178 #[v] w fun e w' => ∃ E, e = .returned (.iface 149 E) ∧ Hid (ErrP w' (.iface 149 E) n) ∧ Below w.heap.size w w' := by
  obtain ⟨t, x, rfl⟩ : ∃ t x, v = .iface t x := by rcases h with rfl | ⟨b, rfl, _⟩ <;> exact ⟨_, _, rfl⟩
  refine (wrap_any t x w).mono ?_
  rintro e w' ⟨rfl, rfl⟩
  exact ⟨_, rfl, wrap_is n _ w h, wrap_below _ _⟩
theorem few_ok (n : Int) (w : World) (h : n ≤ 32) : Calls Tryz.prog 179 #[.int .i64 n] w fun e w' => e = .returned .nilIface ∧ w' = w := by
  go_enter Tryz.func179, Tryz.ntmps179
  go_wp2
  go_ret
  exact ⟨rfl, rfl⟩
theorem few_bad (n : Int) (w : World) (h : 32 < n) : Calls Tryz.prog 179 #[.int .i64 n] w fun e w' => ∃ E, e = .returned (.iface 149 E) ∧ Hid (ErrP w' (.iface 149 E) 2) ∧ Below w.heap.size w w' := by
  go_enter Tryz.func179, Tryz.ntmps179
  go_wp2_with (go_at_call 193; refine (pfault_use 2 _).mono ?_; rintro e w' ⟨E, rfl, hE, hb⟩)
  go_ret
  exact ⟨_, rfl, hE, hb⟩

theorem methodComp (h : Value) (w : World) : (Go.method 384 199 (.agg #[h]) "Comparable").run Tryz.prog w = .ok (248, .agg #[h]) w := by kernel_rfl
theorem compE (w : World) : ((ReflectliteType.method fun t => do Rtype.noPackHeld "Comparable" t; (fun a => Value.bool a.comparable) <$> typeInfo t) #[.agg #[.pointer (some ⟨1, 84, none⟩)]]).run Tryz.prog w = .ok (.bool true) w := by kernel_rfl
theorem noIsF (v : Value) (xT : TypeId) (w : World) : (Instr.typeAssert (.iface 149 v) xT 201 true).run Tryz.prog w = .ok (.tuple #[.nilIface, .bool false]) w := run_typeAssert_lacksB Tryz.underlying201 (by kernel_rfl) (by kernel_rfl) v xT w
theorem noIsE (v : Value) (xT : TypeId) (w : World) : (Instr.typeAssert (.iface 84 v) xT 201 true).run Tryz.prog w = .ok (.tuple #[.nilIface, .bool false]) w := run_typeAssert_lacksB Tryz.underlying201 (by kernel_rfl) (by kernel_rfl) v xT w
theorem noUnwrapE (v : Value) (xT : TypeId) (w : World) : (Instr.typeAssert (.iface 84 v) xT 204 true).run Tryz.prog w = .ok (.tuple #[.nilIface, .bool false]) w := run_typeAssert_lacksB Tryz.underlying204 (by kernel_rfl) (by kernel_rfl) v xT w
theorem noUnwrapsE (v : Value) (xT : TypeId) (w : World) : (Instr.typeAssert (.iface 84 v) xT 206 true).run Tryz.prog w = .ok (.tuple #[.nilIface, .bool false]) w := run_typeAssert_lacksB Tryz.underlying206 (by kernel_rfl) (by kernel_rfl) v xT w

theorem eqE (n : Int) (w : World) : (binOp .eql 37 (.iface 84 (.int .i64 n)) (.iface 84 (.int .i64 1))).run Tryz.prog w = .ok (.bool (n == 1)) w := by kernel_rfl
theorem eqF (v u : Value) (w : World) : (binOp .eql 37 (.iface 149 v) (.iface 84 u)).run Tryz.prog w = .ok (.bool false) w := by kernel_rfl
set_option maxHeartbeats 4000000 in
theorem is_errno (n : Int) (w : World) : Calls Tryz.prog 136 #[.iface 84 (.int .i64 n), .iface 84 (.int .i64 1), .bool true] w fun e w' => e = .returned (.bool (n == 1)) ∧ w' = w := by
  have nI := noIsE
  have q1 := eqE
  have q2 := eqF
  have nU := noUnwrapE
  have nV := noUnwrapsE
  by_cases h : n = 1
  · subst h
    go_enter Tryz.func136, Tryz.ntmps136
    go_wp2
    refine wp_loop_rounds 1 ?_
    rw [rounds_succ]
    go_wp2
    go_ret
    exact ⟨rfl, rfl⟩
  · have hb : (n == 1) = false := beq_eq_false_iff_ne.2 h
    go_enter Tryz.func136, Tryz.ntmps136
    go_wp2
    refine wp_loop_rounds 1 ?_
    rw [rounds_succ]
    go_wp2
    go_ret
    exact ⟨ret_bool hb.symm, rfl⟩
set_option maxHeartbeats 4000000 in
theorem is_fault (b : Nat) (n : Int) (w : World) (hc : w.cell? ⟨b, 1, none⟩ = some (.iface 84 (.int .i64 n))) : Calls Tryz.prog 136 #[.iface 149 (.pointer (some ⟨b, 0, none⟩)), .iface 84 (.int .i64 1), .bool true] w fun e w' => e = .returned (.bool (n == 1)) ∧ w' = w := by
  have nI := noIsE
  have q1 := eqE
  have q2 := eqF
  have nU := noUnwrapE
  have nV := noUnwrapsE
  have nF := noIsF
  have hU := hasUnwrapF
  have mU := methodUnwrap
  by_cases h : n = 1
  · subst h
    go_enter Tryz.func136, Tryz.ntmps136
    go_wp2
    refine wp_loop_rounds 2 ?_
    rw [rounds_succ]
    go_wp2_with (go_at_call 242; refine (unwrap_any _ _ _ hc).mono ?_; rintro e w' ⟨rfl, rfl⟩)
    rw [rounds_succ]
    go_wp2
    go_ret
    exact ⟨rfl, rfl⟩
  · have hb : (n == 1) = false := beq_eq_false_iff_ne.2 h
    go_enter Tryz.func136, Tryz.ntmps136
    go_wp2
    refine wp_loop_rounds 2 ?_
    rw [rounds_succ]
    go_wp2_with (go_at_call 242; refine (unwrap_any _ _ _ hc).mono ?_; rintro e w' ⟨rfl, rfl⟩)
    rw [rounds_succ]
    go_wp2
    go_ret
    exact ⟨ret_bool hb.symm, rfl⟩
theorem is_inn (v : Value) (n : Int) (w : World) (h : Inn w v n) : Calls Tryz.prog 136 #[v, .iface 84 (.int .i64 1), .bool true] w fun e w' => e = .returned (.bool (n == 1)) ∧ w' = w := by
  rcases h with rfl | ⟨b, rfl, hc⟩
  · exact is_errno n w
  · exact is_fault b n w hc
set_option maxHeartbeats 4000000 in
theorem Is_inn (t : TypeId) (x : Value) (n : Int) (w : World) (h : Inn w (.iface t x) n) : Calls Tryz.prog 81 #[.iface t x, .iface 84 (.int .i64 1)] w fun e w' => e = .returned (.bool (n == 1)) ∧ w' = w := by
  have H := hide h
  clear h
  have hT := @run_callFunc_extern Tryz.prog 135 _ ReflectliteType.typeOf Tryz.func135 (by kernel_rfl) (by kernel_rfl) (by kernel_rfl) (by kernel_rfl)
  have hC := @run_callFunc_extern Tryz.prog 248 _ (ReflectliteType.method fun t => do Rtype.noPackHeld "Comparable" t; pure (.bool (← typeInfo t).comparable)) Tryz.func248 (by kernel_rfl) (by kernel_rfl) (by kernel_rfl) (by kernel_rfl)
  have tO := typeOfE
  have mC := methodComp
  have cE := compE
  go_enter Tryz.func81, Tryz.ntmps81
  go_wp2_with (go_at_call 136; refine (is_inn _ n _ (unhide H)).mono ?_; rintro e w' ⟨rfl, rfl⟩)
  go_ret
  exact ⟨rfl, rfl⟩
theorem broken_use (v : Value) (n : Int) (w : World) (h : Inn w v n) : Calls Tryz.prog 202 #[v] w fun e w' => ∃ E, e = .returned (.iface 149 E) ∧ Hid (ErrP w' (.iface 149 E) 1) ∧ Below w.heap.size w w' := by
  obtain ⟨t, x, rfl⟩ : ∃ t x, v = .iface t x := by rcases h with rfl | ⟨b, rfl, _⟩ <;> exact ⟨_, _, rfl⟩
  have H := hide h
  clear h
  by_cases h : n = 1
  · subst h
    go_enter Tryz.func202, Tryz.ntmps202
    go_wp2_with (first | (go_at_call 81; refine (Is_inn t x 1 _ (unhide H)).mono ?_; rintro e w' ⟨rfl, rfl⟩) | (go_at_call 178; refine (wrap_use _ 1 _ (unhide H)).mono ?_; rintro e w' ⟨E, rfl, hE, hb⟩))
    go_ret
    exact ⟨_, rfl, hE, hb⟩
  · have hb : (n == 1) = false := beq_eq_false_iff_ne.2 h
    go_enter Tryz.func202, Tryz.ntmps202
    go_wp2_with (first | (go_at_call 81; refine (Is_inn t x n _ (unhide H)).mono ?_; rintro e w' ⟨rfl, rfl⟩) | (go_at_call 193; refine (pfault_use 1 _).mono ?_; rintro e w' ⟨E, rfl, hE, hb'⟩))
    go_ret
    exact ⟨_, rfl, hE, hb'⟩
end Go.Proofs.YtpoeakillimibaaGreatDoor
/- Proved here: errors.Is at an api.Errno and at up to three *api.Faults around one. Helper contracts. -/
namespace Go.Proofs.YtpoeakillimibaaGreatDoor
open Go.RowKit Go.Extern.Stop Go.Stop Go.Extern
set_option maxRecDepth 100000

/-- an error that is the number n, with d Faults around it -/
def Er (w : World) : Nat → Value → Int → Prop
  | 0, v, n => v = .iface 84 (.int .i64 n)
  | d + 1, v, n => ∃ b u, v = .iface 149 (.pointer (some ⟨b, 0, none⟩)) ∧ w.cell? ⟨b, 1, none⟩ = some u ∧ Er w d u n
theorem Er.below {w w' : World} (hb : Below w.heap.size w w') : ∀ {d : Nat} {v : Value} {n : Int}, Er w d v n → Er w' d v n
  | 0, _, _, h => h
  | _ + 1, _, _, ⟨b, u, h1, h2, h3⟩ => ⟨b, u, h1, by rw [hb.cell (p := ⟨b, 1, none⟩) (cell_lt h2)]; exact h2, Er.below hb h3⟩
theorem Er.iface {w : World} : ∀ {d : Nat} {v : Value} {n : Int}, Er w d v n → ∃ t x, v = .iface t x
  | 0, _, _, h => ⟨_, _, h⟩
  | _ + 1, _, _, ⟨_, _, h, _⟩ => ⟨_, _, h⟩
theorem eqEm (n m : Int) (w : World) : (binOp .eql 37 (.iface 84 (.int .i64 n)) (.iface 84 (.int .i64 m))).run Tryz.prog w = .ok (.bool (n == m)) w := by kernel_rfl
set_option maxHeartbeats 4000000 in
theorem er_is0 (n m : Int) (w : World)  : Calls Tryz.prog 136 #[.iface 84 (.int .i64 n), .iface 84 (.int .i64 m), .bool true] w fun e w' => e = .returned (.bool (n == m)) ∧ w' = w := by
  have nI := noIsE
  have q1 := eqEm
  have q2 := eqF
  have nU := noUnwrapE
  have nV := noUnwrapsE
  have nF := noIsF
  have hU := hasUnwrapF
  have mU := methodUnwrap
  by_cases h : n = m
  · subst h
    have hb : (n == n) = true := by simp
    go_enter Tryz.func136, Tryz.ntmps136
    go_wp2
    refine wp_loop_rounds 1 ?_
    rw [rounds_succ]
    go_wp2
    go_ret
    exact ⟨ret_bool hb.symm, rfl⟩
  · have hb : (n == m) = false := beq_eq_false_iff_ne.2 h
    go_enter Tryz.func136, Tryz.ntmps136
    go_wp2
    refine wp_loop_rounds 1 ?_
    rw [rounds_succ]
    go_wp2
    go_ret
    exact ⟨ret_bool hb.symm, rfl⟩
set_option maxHeartbeats 4000000 in
theorem er_is1 (b0 : Nat) (n m : Int) (w : World) (h0 : w.cell? ⟨b0, 1, none⟩ = some (.iface 84 (.int .i64 n))) : Calls Tryz.prog 136 #[.iface 149 (.pointer (some ⟨b0, 0, none⟩)), .iface 84 (.int .i64 m), .bool true] w fun e w' => e = .returned (.bool (n == m)) ∧ w' = w := by
  have nI := noIsE
  have q1 := eqEm
  have q2 := eqF
  have nU := noUnwrapE
  have nV := noUnwrapsE
  have nF := noIsF
  have hU := hasUnwrapF
  have mU := methodUnwrap
  by_cases h : n = m
  · subst h
    have hb : (n == n) = true := by simp
    go_enter Tryz.func136, Tryz.ntmps136
    go_wp2
    refine wp_loop_rounds 2 ?_
    rw [rounds_succ]
    go_wp2_with (go_at_call 242; refine (unwrap_any _ _ _ h0).mono ?_; rintro e w' ⟨rfl, rfl⟩)
    rw [rounds_succ]
    go_wp2
    go_ret
    exact ⟨ret_bool hb.symm, rfl⟩
  · have hb : (n == m) = false := beq_eq_false_iff_ne.2 h
    go_enter Tryz.func136, Tryz.ntmps136
    go_wp2
    refine wp_loop_rounds 2 ?_
    rw [rounds_succ]
    go_wp2_with (go_at_call 242; refine (unwrap_any _ _ _ h0).mono ?_; rintro e w' ⟨rfl, rfl⟩)
    rw [rounds_succ]
    go_wp2
    go_ret
    exact ⟨ret_bool hb.symm, rfl⟩
set_option maxHeartbeats 4000000 in
theorem er_is2 (b0 b1 : Nat) (n m : Int) (w : World) (h0 : w.cell? ⟨b0, 1, none⟩ = some (.iface 149 (.pointer (some ⟨b1, 0, none⟩)))) (h1 : w.cell? ⟨b1, 1, none⟩ = some (.iface 84 (.int .i64 n))) : Calls Tryz.prog 136 #[.iface 149 (.pointer (some ⟨b0, 0, none⟩)), .iface 84 (.int .i64 m), .bool true] w fun e w' => e = .returned (.bool (n == m)) ∧ w' = w := by
  have nI := noIsE
  have q1 := eqEm
  have q2 := eqF
  have nU := noUnwrapE
  have nV := noUnwrapsE
  have nF := noIsF
  have hU := hasUnwrapF
  have mU := methodUnwrap
  by_cases h : n = m
  · subst h
    have hb : (n == n) = true := by simp
    go_enter Tryz.func136, Tryz.ntmps136
    go_wp2
    refine wp_loop_rounds 3 ?_
    rw [rounds_succ]
    go_wp2_with (go_at_call 242; refine (unwrap_any _ _ _ h0).mono ?_; rintro e w' ⟨rfl, rfl⟩)
    rw [rounds_succ]
    go_wp2_with (go_at_call 242; refine (unwrap_any _ _ _ h1).mono ?_; rintro e w' ⟨rfl, rfl⟩)
    rw [rounds_succ]
    go_wp2
    go_ret
    exact ⟨ret_bool hb.symm, rfl⟩
  · have hb : (n == m) = false := beq_eq_false_iff_ne.2 h
    go_enter Tryz.func136, Tryz.ntmps136
    go_wp2
    refine wp_loop_rounds 3 ?_
    rw [rounds_succ]
    go_wp2_with (go_at_call 242; refine (unwrap_any _ _ _ h0).mono ?_; rintro e w' ⟨rfl, rfl⟩)
    rw [rounds_succ]
    go_wp2_with (go_at_call 242; refine (unwrap_any _ _ _ h1).mono ?_; rintro e w' ⟨rfl, rfl⟩)
    rw [rounds_succ]
    go_wp2
    go_ret
    exact ⟨ret_bool hb.symm, rfl⟩
set_option maxHeartbeats 4000000 in
theorem er_is3 (b0 b1 b2 : Nat) (n m : Int) (w : World) (h0 : w.cell? ⟨b0, 1, none⟩ = some (.iface 149 (.pointer (some ⟨b1, 0, none⟩)))) (h1 : w.cell? ⟨b1, 1, none⟩ = some (.iface 149 (.pointer (some ⟨b2, 0, none⟩)))) (h2 : w.cell? ⟨b2, 1, none⟩ = some (.iface 84 (.int .i64 n))) : Calls Tryz.prog 136 #[.iface 149 (.pointer (some ⟨b0, 0, none⟩)), .iface 84 (.int .i64 m), .bool true] w fun e w' => e = .returned (.bool (n == m)) ∧ w' = w := by
  have nI := noIsE
  have q1 := eqEm
  have q2 := eqF
  have nU := noUnwrapE
  have nV := noUnwrapsE
  have nF := noIsF
  have hU := hasUnwrapF
  have mU := methodUnwrap
  by_cases h : n = m
  · subst h
    have hb : (n == n) = true := by simp
    go_enter Tryz.func136, Tryz.ntmps136
    go_wp2
    refine wp_loop_rounds 4 ?_
    rw [rounds_succ]
    go_wp2_with (go_at_call 242; refine (unwrap_any _ _ _ h0).mono ?_; rintro e w' ⟨rfl, rfl⟩)
    rw [rounds_succ]
    go_wp2_with (go_at_call 242; refine (unwrap_any _ _ _ h1).mono ?_; rintro e w' ⟨rfl, rfl⟩)
    rw [rounds_succ]
    go_wp2_with (go_at_call 242; refine (unwrap_any _ _ _ h2).mono ?_; rintro e w' ⟨rfl, rfl⟩)
    rw [rounds_succ]
    go_wp2
    go_ret
    exact ⟨ret_bool hb.symm, rfl⟩
  · have hb : (n == m) = false := beq_eq_false_iff_ne.2 h
    go_enter Tryz.func136, Tryz.ntmps136
    go_wp2
    refine wp_loop_rounds 4 ?_
    rw [rounds_succ]
    go_wp2_with (go_at_call 242; refine (unwrap_any _ _ _ h0).mono ?_; rintro e w' ⟨rfl, rfl⟩)
    rw [rounds_succ]
    go_wp2_with (go_at_call 242; refine (unwrap_any _ _ _ h1).mono ?_; rintro e w' ⟨rfl, rfl⟩)
    rw [rounds_succ]
    go_wp2_with (go_at_call 242; refine (unwrap_any _ _ _ h2).mono ?_; rintro e w' ⟨rfl, rfl⟩)
    rw [rounds_succ]
    go_wp2
    go_ret
    exact ⟨ret_bool hb.symm, rfl⟩
theorem er_is (d : Nat) (hd : d ≤ 3) (v : Value) (n m : Int) (w : World) (h : Er w d v n) : Calls Tryz.prog 136 #[v, .iface 84 (.int .i64 m), .bool true] w fun e w' => e = .returned (.bool (n == m)) ∧ w' = w := by
  match d, hd, h with
  | 0, _, h => cases h; exact er_is0 n m w
  | 1, _, ⟨b, u, h1, h2, h3⟩ => cases h1; cases h3; exact er_is1 b n m w h2
  | 2, _, ⟨b, u, h1, h2, b', u', h3, h4, h5⟩ => cases h1; cases h3; cases h5; exact er_is2 b b' n m w h2 h4
  | 3, _, ⟨b, u, h1, h2, b', u', h3, h4, b'', u'', h5, h6, h7⟩ => cases h1; cases h3; cases h5; cases h7; exact er_is3 b b' b'' n m w h2 h4 h6
set_option maxHeartbeats 4000000 in
theorem er_Is (d : Nat) (hd : d ≤ 3) (v : Value) (n m : Int) (w : World) (h : Er w d v n) : Calls Tryz.prog 81 #[v, .iface 84 (.int .i64 m)] w fun e w' => e = .returned (.bool (n == m)) ∧ w' = w := by
  obtain ⟨t, x, rfl⟩ := h.iface
  have H := hide h
  clear h
  have hT := @run_callFunc_extern Tryz.prog 135 _ ReflectliteType.typeOf Tryz.func135 (by kernel_rfl) (by kernel_rfl) (by kernel_rfl) (by kernel_rfl)
  have hC := @run_callFunc_extern Tryz.prog 248 _ (ReflectliteType.method fun t => do Rtype.noPackHeld "Comparable" t; pure (.bool (← typeInfo t).comparable)) Tryz.func248 (by kernel_rfl) (by kernel_rfl) (by kernel_rfl) (by kernel_rfl)
  have tO := typeOfE
  have mC := methodComp
  have cE := compE
  go_enter Tryz.func81, Tryz.ntmps81
  go_wp2_with (go_at_call 136; refine (er_is d hd _ n m _ (unhide H)).mono ?_; rintro e w' ⟨rfl, rfl⟩)
  go_ret
  exact ⟨rfl, rfl⟩
end Go.Proofs.YtpoeakillimibaaGreatDoor
/- Proved here: errors.As and dovecotelaw0.Num at an api.Errno with up to three *api.Faults around it. Helper contracts. -/
namespace Go.Proofs.YtpoeakillimibaaGreatDoor
open Go.RowKit Go.Extern.Stop Go.Stop Go.Extern

theorem er_as (d : Nat) (hd : d ≤ 3) (v : Value) (n : Int) (t : Addr) (old : Value) (w : World) (hg : Laid w) (h : Er w d v n) (ht0 : w.cell? t = some old) (hf0 : w.frozen? t = false) :
    Calls Tryz.prog 114 #[v, .iface 141 (.pointer (some t))] w fun ev w' => ev = .returned (.bool true) ∧ w' = ((((w.alloc (.cells #[.pointer (some t)] 141)).alloc (.cells #[.pointer (some ⟨1, 141, none⟩), .pointer (some ⟨w.heap.size, 0, none⟩), .int .u64 150] 178)).alloc (.cells #[.pointer (some ⟨1, 141, none⟩), .pointer (some ⟨w.heap.size, 0, none⟩), .int .u64 150] 178)).alloc (.cells #[.int .i64 n] 84)).setCell t (.int .i64 n) := by
  match d, hd, h with
  | 0, _, h => cases h; exact er_as0 n t old w hg ht0 hf0
  | 1, _, ⟨b, u, h1, h2, h3⟩ => cases h1; cases h3; exact er_as1 b n t old w hg h2 ht0 hf0
  | 2, _, ⟨b, u, h1, h2, b', u', h3, h4, h5⟩ => cases h1; cases h3; cases h5; exact er_as2 b b' n t old w hg h2 h4 ht0 hf0
  | 3, _, ⟨b, u, h1, h2, b', u', h3, h4, b'', u'', h5, h6, h7⟩ => cases h1; cases h3; cases h5; cases h7; exact er_as3 b b' b'' n t old w hg h2 h4 h6 ht0 hf0
set_option maxHeartbeats 1000000 in
theorem er_num (d : Nat) (hd : d ≤ 3) (v : Value) (n : Int) (w : World) (hg : Laid w) (h : Er w d v n) :
    Calls Tryz.prog 63 #[v] w fun e w' => e = .returned (.int .i64 n) ∧ Below w.heap.size w w' := by
  have hB : Below w.heap.size w (w.alloc (.cells #[.int .i64 0] 84)) := (Below.refl _ _).alloc (Nat.le_refl _) _
  have HG := hide (hg.below hB hg.pos)
  have HE := hide (h.below hB)
  obtain ⟨tt, x, rfl⟩ := h.iface
  clear hg h hB
  go_enter Tryz.func63, Tryz.ntmps63
  go_wp2_with fail
  refine (er_as d hd _ n ⟨w.heap.size, 0, none⟩ (.int .i64 0) _ (unhide HG) (unhide HE) (by simp) (by simp)).mono ?_
  rintro e w' ⟨rfl, rfl⟩
  go_wp2
  go_ret
  refine ⟨rfl, ?_⟩
  exact (((((((Below.refl _ _).alloc (Nat.le_refl _) _).alloc (by simp) _).alloc (by simp; omega) _).alloc (by simp; omega) _).alloc (by simp; omega) _))
/-- an error as a call tells it: none (0), or a number with up to three Faults around it -/
def ErrX (w : World) (v : Value) (n : Int) : Prop := (n = 0 ∧ v = .nilIface) ∨ ∃ d, d ≤ 3 ∧ Er w d v n
theorem ErrX.below {w w' : World} {v : Value} {n : Int} (h : ErrX w v n) (hb : Below w.heap.size w w') : ErrX w' v n := by
  rcases h with h | ⟨d, hd, h⟩
  · exact .inl h
  · exact .inr ⟨d, hd, h.below hb⟩
theorem numx (v : Value) (n : Int) (w : World) (hg : Laid w) (hv : ErrX w v n) : Calls Tryz.prog 63 #[v] w fun e w' => e = .returned (.int .i64 n) ∧ Below w.heap.size w w' := by
  rcases hv with ⟨rfl, rfl⟩ | ⟨d, hd, h⟩
  · refine (num_nil w).mono ?_
    rintro e w' ⟨rfl, rfl⟩
    exact ⟨rfl, Below.refl _ _⟩
  · exact er_num d hd v n w hg h
end Go.Proofs.YtpoeakillimibaaGreatDoor
/- Proved here: packet's wrap, fault, broken. Helper contracts. -/
namespace Go.Proofs.YtpoeakillimibaaGreatDoor.K
open Go.RowKit Go.Extern.Stop Go.Stop Go.Extern
set_option maxRecDepth 100000

abbrev pwrapW (v : Value) (w : World) : World := w.alloc (.cells #[.string ⟨#[112, 97, 99, 107, 101, 116]⟩, v] 151)
theorem pwrap_any (t : TypeId) (x : Value) (w : World) : Calls Tryz.prog 86 #[.iface t x] w fun e w' => e = .returned (.iface 149 (.pointer (some ⟨w.heap.size, 0, none⟩))) ∧ w' = pwrapW (.iface t x) w := by
  go_enter Tryz.func86, Tryz.ntmps86
  go_wp2
  go_ret
  exact ⟨rfl, rfl⟩
theorem pfault_any (n : Int) (w : World) : Calls Tryz.prog 55 #[.int .i64 n] w fun e w' => e = .returned (.iface 149 (.pointer (some ⟨w.heap.size, 0, none⟩))) ∧ w' = pwrapW (.iface 84 (.int .i64 n)) w := by
  go_enter Tryz.func55, Tryz.ntmps55
  go_wp2_with (go_at_call 86; refine (pwrap_any _ _ _).mono ?_; rintro e w' ⟨rfl, rfl⟩)
  go_ret
  exact ⟨rfl, rfl⟩
theorem pwrap_er (d : Nat) (n : Int) (v : Value) (w : World) (h : Er w d v n) : Er (pwrapW v w) (d + 1) (.iface 149 (.pointer (some ⟨w.heap.size, 0, none⟩))) n :=
  ⟨w.heap.size, v, rfl, by simp, h.below ((Below.refl _ _).alloc (Nat.le_refl _) _)⟩
theorem pwrap_below (v : Value) (w : World) : Below w.heap.size w (pwrapW v w) := (Below.refl _ _).alloc (Nat.le_refl _) _
/-- an error of packet's: a Fault with the number n within -/
def ErP (w : World) (E : Value) (n : Int) : Prop := ∃ x d, E = .iface 149 x ∧ d ≤ 3 ∧ Er w d E n
theorem pf_use (n : Int) (w : World) : Calls Tryz.prog 55 #[.int .i64 n] w fun e w' => ∃ x, e = .returned (.iface 149 x) ∧ Hid (ErP w' (.iface 149 x) n) ∧ Below w.heap.size w w' := by
  refine (pfault_any n w).mono ?_
  rintro e w' ⟨rfl, rfl⟩
  exact ⟨_, rfl, ⟨_, 1, rfl, by omega, pwrap_er 0 n _ w rfl⟩, pwrap_below _ _⟩
theorem pw_use (d : Nat) (hd : d ≤ 2) (v : Value) (n : Int) (w : World) (h : Er w d v n) : Calls Tryz.prog 86 #[v] w fun e w' => ∃ x, e = .returned (.iface 149 x) ∧ Hid (ErP w' (.iface 149 x) n) ∧ Below w.heap.size w w' := by
  obtain ⟨t, x, rfl⟩ := h.iface
  refine (pwrap_any t x w).mono ?_
  rintro e w' ⟨rfl, rfl⟩
  exact ⟨_, rfl, ⟨_, d + 1, rfl, by omega, pwrap_er d n _ w h⟩, pwrap_below _ _⟩
theorem pbroken (d : Nat) (hd : d ≤ 2) (v : Value) (n : Int) (w : World) (h : Er w d v n) : Calls Tryz.prog 57 #[v] w fun e w' => ∃ x, e = .returned (.iface 149 x) ∧ Hid (ErP w' (.iface 149 x) 1) ∧ Below w.heap.size w w' := by
  obtain ⟨t, x, rfl⟩ := h.iface
  have H := hide h
  clear h
  by_cases h : n = 1
  · subst h
    go_enter Tryz.func57, Tryz.ntmps57
    go_wp2_with (first | (go_at_call 81; refine (er_Is d (by omega) _ 1 1 _ (unhide H)).mono ?_; rintro e w' ⟨rfl, rfl⟩) | (go_at_call 86; refine (pw_use d hd _ 1 _ (unhide H)).mono ?_; rintro e w' ⟨E, rfl, hE, hb⟩))
    go_ret
    exact ⟨_, rfl, hE, hb⟩
  · have hb : (n == 1) = false := beq_eq_false_iff_ne.2 h
    go_enter Tryz.func57, Tryz.ntmps57
    go_wp2_with (first | (go_at_call 81; refine (er_Is d (by omega) _ n 1 _ (unhide H)).mono ?_; rintro e w' ⟨rfl, rfl⟩) | (go_at_call 55; refine (pf_use 1 _).mono ?_; rintro e w' ⟨E, rfl, hE, hb'⟩))
    go_ret
    exact ⟨_, rfl, hE, hb'⟩
end Go.Proofs.YtpoeakillimibaaGreatDoor.K
