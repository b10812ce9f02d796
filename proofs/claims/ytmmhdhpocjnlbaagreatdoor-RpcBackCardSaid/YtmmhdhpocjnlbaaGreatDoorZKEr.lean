/- Proved here: errors.Is at an api.Errno and at up to three *api.Faults around one. Helper contracts. -/
import Derived.Test.YtmmhdhpocjnlbaaGreatDoorZPErr
namespace Go.Proofs.YtmmhdhpocjnlbaaGreatDoor
open Go.RowKit Go.Extern.Stop Go.Stop Go.Extern
set_option maxRecDepth 100000

/-- an error that is the number n, with d Faults around it -/
def Er (w : World) : Nat → Value → Int → Prop
  | 0, v, n => v = .iface 61 (.int .i64 n)
  | d + 1, v, n => ∃ b u, v = .iface 64 (.pointer (some ⟨b, 0, none⟩)) ∧ w.cell? ⟨b, 1, none⟩ = some u ∧ Er w d u n
theorem Er.below {w w' : World} (hb : Below w.heap.size w w') : ∀ {d : Nat} {v : Value} {n : Int}, Er w d v n → Er w' d v n
  | 0, _, _, h => h
  | _ + 1, _, _, ⟨b, u, h1, h2, h3⟩ => ⟨b, u, h1, by rw [hb.cell (p := ⟨b, 1, none⟩) (cell_lt h2)]; exact h2, Er.below hb h3⟩
theorem Er.iface {w : World} : ∀ {d : Nat} {v : Value} {n : Int}, Er w d v n → ∃ t x, v = .iface t x
  | 0, _, _, h => ⟨_, _, h⟩
  | _ + 1, _, _, ⟨_, _, h, _⟩ => ⟨_, _, h⟩
theorem eqEm (n m : Int) (w : World) : (binOp .eql 31 (.iface 61 (.int .i64 n)) (.iface 61 (.int .i64 m))).run Tryz.prog w = .ok (.bool (n == m)) w := by kernel_rfl
set_option maxHeartbeats 4000000 in
theorem er_is0 (n m : Int) (w : World)  : Calls Tryz.prog 82 #[.iface 61 (.int .i64 n), .iface 61 (.int .i64 m), .bool true] w fun e w' => e = .returned (.bool (n == m)) ∧ w' = w := by
  have nI := noIsE
  have q1 := eqEm
  have q2 := eqF
  have nU := noUnwrapE
  have nV := noUnwrapsE
  have nF := noIsF
  have hU := hasUnwrapF
  have mU := methodUnwrap
  by_cases h : n = m
  · subst h
    have hb : (n == n) = true := by simp
    go_enter Tryz.func82, Tryz.ntmps82
    go_wp2
    refine wp_loop_rounds 1 ?_
    rw [rounds_succ]
    go_wp2
    go_ret
    exact ⟨ret_bool hb.symm, rfl⟩
  · have hb : (n == m) = false := beq_eq_false_iff_ne.2 h
    go_enter Tryz.func82, Tryz.ntmps82
    go_wp2
    refine wp_loop_rounds 1 ?_
    rw [rounds_succ]
    go_wp2
    go_ret
    exact ⟨ret_bool hb.symm, rfl⟩
set_option maxHeartbeats 4000000 in
theorem er_is1 (b0 : Nat) (n m : Int) (w : World) (h0 : w.cell? ⟨b0, 1, none⟩ = some (.iface 61 (.int .i64 n))) : Calls Tryz.prog 82 #[.iface 64 (.pointer (some ⟨b0, 0, none⟩)), .iface 61 (.int .i64 m), .bool true] w fun e w' => e = .returned (.bool (n == m)) ∧ w' = w := by
  have nI := noIsE
  have q1 := eqEm
  have q2 := eqF
  have nU := noUnwrapE
  have nV := noUnwrapsE
  have nF := noIsF
  have hU := hasUnwrapF
  have mU := methodUnwrap
  by_cases h : n = m
  · subst h
    have hb : (n == n) = true := by simp
    go_enter Tryz.func82, Tryz.ntmps82
    go_wp2
    refine wp_loop_rounds 2 ?_
    rw [rounds_succ]
    go_wp2_with (go_at_call 105; refine (unwrap_any _ _ _ h0).mono ?_; rintro e w' ⟨rfl, rfl⟩)
    rw [rounds_succ]
    go_wp2
    go_ret
    exact ⟨ret_bool hb.symm, rfl⟩
  · have hb : (n == m) = false := beq_eq_false_iff_ne.2 h
    go_enter Tryz.func82, Tryz.ntmps82
    go_wp2
    refine wp_loop_rounds 2 ?_
    rw [rounds_succ]
    go_wp2_with (go_at_call 105; refine (unwrap_any _ _ _ h0).mono ?_; rintro e w' ⟨rfl, rfl⟩)
    rw [rounds_succ]
    go_wp2
    go_ret
    exact ⟨ret_bool hb.symm, rfl⟩
set_option maxHeartbeats 4000000 in
theorem er_is2 (b0 b1 : Nat) (n m : Int) (w : World) (h0 : w.cell? ⟨b0, 1, none⟩ = some (.iface 64 (.pointer (some ⟨b1, 0, none⟩)))) (h1 : w.cell? ⟨b1, 1, none⟩ = some (.iface 61 (.int .i64 n))) : Calls Tryz.prog 82 #[.iface 64 (.pointer (some ⟨b0, 0, none⟩)), .iface 61 (.int .i64 m), .bool true] w fun e w' => e = .returned (.bool (n == m)) ∧ w' = w := by
  have nI := noIsE
  have q1 := eqEm
  have q2 := eqF
  have nU := noUnwrapE
  have nV := noUnwrapsE
  have nF := noIsF
  have hU := hasUnwrapF
  have mU := methodUnwrap
  by_cases h : n = m
  · subst h
    have hb : (n == n) = true := by simp
    go_enter Tryz.func82, Tryz.ntmps82
    go_wp2
    refine wp_loop_rounds 3 ?_
    rw [rounds_succ]
    go_wp2_with (go_at_call 105; refine (unwrap_any _ _ _ h0).mono ?_; rintro e w' ⟨rfl, rfl⟩)
    rw [rounds_succ]
    go_wp2_with (go_at_call 105; refine (unwrap_any _ _ _ h1).mono ?_; rintro e w' ⟨rfl, rfl⟩)
    rw [rounds_succ]
    go_wp2
    go_ret
    exact ⟨ret_bool hb.symm, rfl⟩
  · have hb : (n == m) = false := beq_eq_false_iff_ne.2 h
    go_enter Tryz.func82, Tryz.ntmps82
    go_wp2
    refine wp_loop_rounds 3 ?_
    rw [rounds_succ]
    go_wp2_with (go_at_call 105; refine (unwrap_any _ _ _ h0).mono ?_; rintro e w' ⟨rfl, rfl⟩)
    rw [rounds_succ]
    go_wp2_with (go_at_call 105; refine (unwrap_any _ _ _ h1).mono ?_; rintro e w' ⟨rfl, rfl⟩)
    rw [rounds_succ]
    go_wp2
    go_ret
    exact ⟨ret_bool hb.symm, rfl⟩
set_option maxHeartbeats 4000000 in
theorem er_is3 (b0 b1 b2 : Nat) (n m : Int) (w : World) (h0 : w.cell? ⟨b0, 1, none⟩ = some (.iface 64 (.pointer (some ⟨b1, 0, none⟩)))) (h1 : w.cell? ⟨b1, 1, none⟩ = some (.iface 64 (.pointer (some ⟨b2, 0, none⟩)))) (h2 : w.cell? ⟨b2, 1, none⟩ = some (.iface 61 (.int .i64 n))) : Calls Tryz.prog 82 #[.iface 64 (.pointer (some ⟨b0, 0, none⟩)), .iface 61 (.int .i64 m), .bool true] w fun e w' => e = .returned (.bool (n == m)) ∧ w' = w := by
  have nI := noIsE
  have q1 := eqEm
  have q2 := eqF
  have nU := noUnwrapE
  have nV := noUnwrapsE
  have nF := noIsF
  have hU := hasUnwrapF
  have mU := methodUnwrap
  by_cases h : n = m
  · subst h
    have hb : (n == n) = true := by simp
    go_enter Tryz.func82, Tryz.ntmps82
    go_wp2
    refine wp_loop_rounds 4 ?_
    rw [rounds_succ]
    go_wp2_with (go_at_call 105; refine (unwrap_any _ _ _ h0).mono ?_; rintro e w' ⟨rfl, rfl⟩)
    rw [rounds_succ]
    go_wp2_with (go_at_call 105; refine (unwrap_any _ _ _ h1).mono ?_; rintro e w' ⟨rfl, rfl⟩)
    rw [rounds_succ]
    go_wp2_with (go_at_call 105; refine (unwrap_any _ _ _ h2).mono ?_; rintro e w' ⟨rfl, rfl⟩)
    rw [rounds_succ]
    go_wp2
    go_ret
    exact ⟨ret_bool hb.symm, rfl⟩
  · have hb : (n == m) = false := beq_eq_false_iff_ne.2 h
    go_enter Tryz.func82, Tryz.ntmps82
    go_wp2
    refine wp_loop_rounds 4 ?_
    rw [rounds_succ]
    go_wp2_with (go_at_call 105; refine (unwrap_any _ _ _ h0).mono ?_; rintro e w' ⟨rfl, rfl⟩)
    rw [rounds_succ]
    go_wp2_with (go_at_call 105; refine (unwrap_any _ _ _ h1).mono ?_; rintro e w' ⟨rfl, rfl⟩)
    rw [rounds_succ]
    go_wp2_with (go_at_call 105; refine (unwrap_any _ _ _ h2).mono ?_; rintro e w' ⟨rfl, rfl⟩)
    rw [rounds_succ]
    go_wp2
    go_ret
    exact ⟨ret_bool hb.symm, rfl⟩
theorem er_is (d : Nat) (hd : d ≤ 3) (v : Value) (n m : Int) (w : World) (h : Er w d v n) : Calls Tryz.prog 82 #[v, .iface 61 (.int .i64 m), .bool true] w fun e w' => e = .returned (.bool (n == m)) ∧ w' = w := by
  match d, hd, h with
  | 0, _, h => cases h; exact er_is0 n m w
  | 1, _, ⟨b, u, h1, h2, h3⟩ => cases h1; cases h3; exact er_is1 b n m w h2
  | 2, _, ⟨b, u, h1, h2, b', u', h3, h4, h5⟩ => cases h1; cases h3; cases h5; exact er_is2 b b' n m w h2 h4
  | 3, _, ⟨b, u, h1, h2, b', u', h3, h4, b'', u'', h5, h6, h7⟩ => cases h1; cases h3; cases h5; cases h7; exact er_is3 b b' b'' n m w h2 h4 h6
set_option maxHeartbeats 4000000 in
theorem er_Is (d : Nat) (hd : d ≤ 3) (v : Value) (n m : Int) (w : World) (h : Er w d v n) : Calls Tryz.prog 76 #[v, .iface 61 (.int .i64 m)] w fun e w' => e = .returned (.bool (n == m)) ∧ w' = w := by
  obtain ⟨t, x, rfl⟩ := h.iface
  have H := hide h
  clear h
  have hT := @run_callFunc_extern Tryz.prog 57 _ ReflectliteType.typeOf Tryz.func57 (by kernel_rfl) (by kernel_rfl) (by kernel_rfl) (by kernel_rfl)
  have hC := @run_callFunc_extern Tryz.prog 111 _ (ReflectliteType.method fun t => do Rtype.noPackHeld "Comparable" t; pure (.bool (← typeInfo t).comparable)) Tryz.func111 (by kernel_rfl) (by kernel_rfl) (by kernel_rfl) (by kernel_rfl)
  have tO := typeOfE
  have mC := methodComp
  have cE := compE
  go_enter Tryz.func76, Tryz.ntmps76
  go_wp2_with (go_at_call 82; refine (er_is d hd _ n m _ (unhide H)).mono ?_; rintro e w' ⟨rfl, rfl⟩)
  go_ret
  exact ⟨rfl, rfl⟩
end Go.Proofs.YtmmhdhpocjnlbaaGreatDoor
