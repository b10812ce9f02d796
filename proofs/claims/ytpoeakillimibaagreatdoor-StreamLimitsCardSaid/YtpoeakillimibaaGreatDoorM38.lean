/- Proved here: helpers, one text behind the other. -/
import Derived.Test.YtpoeakillimibaaGreatDoorZKEqP
import Derived.Test.YtpoeakillimibaaGreatDoorM37
import Derived.Handy
import Derived.Test.YtpoeakillimibaaGreatDoorM26
import Derived.Test.YtpoeakillimibaaGreatDoorZTCopy
/- Proved here: dovecoteref0.EqWill tells whether two wills are one. Helper contract. -/
namespace Go.Proofs.YtpoeakillimibaaGreatDoor.K
open Go.RowKit
set_option maxRecDepth 100000

set_option maxHeartbeats 4000000 in
theorem eqw_any (t t' p p' : ByteArray) (q q' : Int) (r r' : Bool) (ao ao' : Option Addr) (n n' cap cap' : Nat) (l l' : List Pr) (w : World) (ha : Prp w (.slice ao n cap) l) (hb : Prp w (.slice ao' n' cap') l') (hmx : l.length ≤ 1000000000) :
    Calls Tryz.prog 115 #[.agg #[.string t, .string p, .int .i64 q, .bool r, .slice ao n cap], .agg #[.string t', .string p', .int .i64 q', .bool r', .slice ao' n' cap']] w fun e w' => (∃ b, e = .returned (.bool b) ∧ (b = true ↔ (t = t' ∧ p = p' ∧ q = q' ∧ r = r' ∧ l = l'))) ∧ Below w.heap.size w w' := by
  have HA := hide ha
  have HB := hide hb
  clear ha hb
  by_cases h0 : t = t'
  · have k0 : (t.toList == t'.toList) = true := by rw [h0]; exact beq_self_eq_true _
    have H0 := hide h0
    clear h0
    by_cases h1 : p = p'
    · have k1 : (p.toList == p'.toList) = true := by rw [h1]; exact beq_self_eq_true _
      have H1 := hide h1
      clear h1
      by_cases h2 : q = q'
      · have k2 : (q == q') = true := by rw [h2]; exact beq_self_eq_true _
        have H2 := hide h2
        clear h2
        by_cases h3 : r = r'
        · have k3 : (r == r') = true := by rw [h3]; exact beq_self_eq_true _
          have H3 := hide h3
          clear h3
          go_enter Tryz.func115, Tryz.ntmps115
          go_wp2_with fail
          refine (eqp_any _ _ l l' _ ((unhide HA).below (by go_grown)) ((unhide HB).below (by go_grown)) hmx).mono ?_
          rintro e w1 ⟨⟨b, rfl, hbb⟩, k, rfl⟩
          have HBB := hide hbb
          clear hbb
          cases b
          · go_wp2
            go_ret
            exact ⟨⟨false, rfl, by constructor; (intro h; cases h); (intro h; exact (unhide HBB).2 h.2.2.2.2)⟩, below_drewN (by go_grown) k⟩
          · go_wp2
            go_ret
            exact ⟨⟨true, rfl, fun _ => ⟨unhide H0, unhide H1, unhide H2, unhide H3, (unhide HBB).1 trivial⟩, fun _ => rfl⟩, below_drewN (by go_grown) k⟩
        · have k3 : (r == r') = false := beq_eq_false_iff_ne.2 (h3)
          have H3 := hide h3
          clear h3
          go_enter Tryz.func115, Tryz.ntmps115
          go_wp2
          go_ret
          exact ⟨⟨false, rfl, by constructor; (intro h; cases h); (intro h; exact absurd h.2.2.2.1 (unhide H3))⟩, by go_grown⟩
      · have k2 : (q == q') = false := beq_eq_false_iff_ne.2 (h2)
        have H2 := hide h2
        clear h2
        go_enter Tryz.func115, Tryz.ntmps115
        go_wp2
        go_ret
        exact ⟨⟨false, rfl, by constructor; (intro h; cases h); (intro h; exact absurd h.2.2.1 (unhide H2))⟩, by go_grown⟩
    · have k1 : (p.toList == p'.toList) = false := beq_eq_false_iff_ne.2 (fun e => h1 (text_ext e))
      have H1 := hide h1
      clear h1
      go_enter Tryz.func115, Tryz.ntmps115
      go_wp2
      go_ret
      exact ⟨⟨false, rfl, by constructor; (intro h; cases h); (intro h; exact absurd h.2.1 (unhide H1))⟩, by go_grown⟩
  · have k0 : (t.toList == t'.toList) = false := beq_eq_false_iff_ne.2 (fun e => h0 (text_ext e))
    have H0 := hide h0
    clear h0
    go_enter Tryz.func115, Tryz.ntmps115
    go_wp2
    go_ret
    exact ⟨⟨false, rfl, by constructor; (intro h; cases h); (intro h; exact absurd h.1 (unhide H0))⟩, by go_grown⟩
end Go.Proofs.YtpoeakillimibaaGreatDoor.K
/- Proved here: append(two bytes, make([]byte, n)...) at n = 0, 1, 2. Helpers. -/
namespace Go.Proofs.YtpoeakillimibaaGreatDoor.K
open Go.RowKit
set_option maxRecDepth 100000

theorem wpList_append_run (w : World) {ops : Array Oper} {rest : List Oper} {o : Oper} {a : Act} {Q : Exit → Act → World → Prop} {Z : Value → World → Prop} (hgd : o.guard = none) (s x : Operand) (t u : TypeId)
    (ho : o.op = .call { callee := .builtin .append, args := #[s, x], argTypes := #[t, u] }) (v vx : Value) (hs : a.eval s = v) (hx : a.eval x = vx)
    (hr : ∃ v' w', (Builtin.append_ #[t, u] o.type #[v, vx]).run Tryz.prog w = .ok v' w' ∧ Z v' w')
    (h : ∀ v' w', Z v' w' → wpList Tryz.prog ops Q rest (a.put o.dst v') w') : wpList Tryz.prog ops Q (o :: rest) a w := by
  refine wpList_plain hgd fun K hK => ?_
  obtain ⟨v', w', hr, h2⟩ := hr
  unfold Oper.wp execOp
  simp only [ho, resolve, invoke, builtin, Sem.run_bind, Sem.run_pure, Result.andThen_ok, List.map_toArray, List.map_cons, List.map_nil, hs, hx, hr]
  exact hK _ _ (h v' w' h2)
theorem app0 (B : Nat) (W : World) : (Builtin.append_ #[31, 3] 31 #[.slice (some ⟨B, 0, none⟩) 2 2, .int .i64 0]).run Tryz.prog W = .ok (.slice (some ⟨B, 0, none⟩) 2 2) W := by kernel_rfl
theorem app_grow (n : Nat) (hn : n = 1 ∨ n = 2) (B : Nat) (x y : Value) (W : World) (h0 : W.cell? ⟨B, 0, none⟩ = some x) (h1 : W.cell? ⟨B, 1, none⟩ = some y) :
    (Builtin.append_ #[31, 3] 31 #[.slice (some ⟨B, 0, none⟩) 2 2, .int .i64 n]).run Tryz.prog W =
      .ok (.slice (some ⟨W.heap.size, 0, none⟩) (2 + n) (grownCap W (2 + n) 2 5)) (W.drew.alloc (.cells (#[x, y] ++ Builtin.zeroCells #[.int .u8 0] n ++ Builtin.zeroCells #[.int .u8 0] (grownCap W (2 + n) 2 5 - (2 + n))) 5)) := by
  obtain ⟨i0, hi, hz0, hz1, hz2⟩ := info_parts Tryz.infoU8
  have hf := run_firstCells_some (P := Tryz.prog) W.drew 1 2 ⟨B, 0, none⟩ 2 2 [x, y] rfl (by
    intro j v hj
    match j, hj with
    | 0, hj => simp at hj; subst hj; simpa [Addr.add] using h0
    | 1, hj => simp at hj; subst hj; simpa [Addr.add] using h1)
  have ha1 : ∀ W' : World, (asInt (.int .i64 1)).run Tryz.prog W' = .ok 1 W' := fun W' => by kernel_rfl
  have ha2 : ∀ W' : World, (asInt (.int .i64 2)).run Tryz.prog W' = .ok 2 W' := fun W' => by kernel_rfl
  have hw1 : IntKind.i64.wrap 1 = 1 := by kernel_rfl
  have hw2 : IntKind.i64.wrap 2 = 2 := by kernel_rfl
  rcases hn with rfl | rfl
  · simp [Builtin.append_, run_underlying Tryz.underlying31, run_underlying Tryz.underlying3, sizeOf, typeInfo, zeroValue, hi, hz0, hz1, hz2, Builtin.lenOf, Question.forced, hf, newRow, grownCap, Value.cells, Builtin.nextslicecap, ha1, hw1]
    intro h
    exact absurd h (by decide)
  · simp [Builtin.append_, run_underlying Tryz.underlying31, run_underlying Tryz.underlying3, sizeOf, typeInfo, zeroValue, hi, hz0, hz1, hz2, Builtin.lenOf, Question.forced, hf, newRow, grownCap, Value.cells, Builtin.nextslicecap, ha2, hw2]
    intro h
    exact absurd h (by decide)
theorem zero_cells (n : Nat) : (Builtin.zeroCells #[.int .u8 0] n).toList = (List.replicate n (0 : Int)).map (Value.int .u8) := by
  simp [Builtin.zeroCells, Nat.mod_one, List.map_const']
/-- two bytes with n zeros behind, n at most 2: as the walk appends them -/
theorem app_zeros (n : Nat) (hn : n ≤ 2) (x y : Int) (W : World) (hx : 0 ≤ x ∧ x ≤ 255) (hy : 0 ≤ y ∧ y ≤ 255) :
    ∃ v w', (Builtin.append_ #[31, 3] 31 #[.slice (some ⟨W.heap.size, 0, none⟩) 2 2, .int .i64 n]).run Tryz.prog (W.alloc (.cells #[.int .u8 x, .int .u8 y] 5)) = .ok v w' ∧ (Byt w' v (x :: y :: List.replicate n 0) ∧ Below W.heap.size W w') := by
  have c0 : (W.alloc (.cells #[.int .u8 x, .int .u8 y] 5)).cell? ⟨W.heap.size, 0, none⟩ = some (.int .u8 x) := by simp
  have c1 : (W.alloc (.cells #[.int .u8 x, .int .u8 y] 5)).cell? ⟨W.heap.size, 1, none⟩ = some (.int .u8 y) := by simp
  have hrange : ∀ j, 0 ≤ (x :: y :: List.replicate n (0 : Int)).getD j 0 ∧ (x :: y :: List.replicate n (0 : Int)).getD j 0 ≤ 255 := by
    intro j
    match j with
    | 0 => simpa using hx
    | 1 => simpa using hy
    | j + 2 =>
      simp only [List.getD_cons_succ]
      rw [List.getD_eq_getElem?_getD, List.getElem?_replicate]
      split <;> simp
  by_cases h0 : n = 0
  · subst h0
    refine ⟨_, _, app0 _ _, ⟨_, 2, rfl, ⟨by simp, by unfold maxLen; simp⟩, hrange, .inr ⟨W.heap.size, 0, rfl, fun j hj => ?_⟩⟩, (Below.refl _ _).alloc (Nat.le_refl _) _⟩
    match j, hj with
    | 0, _ => exact c0
    | 1, _ => exact c1
  · have hge := grownCap_ge (W.alloc (.cells #[.int .u8 x, .int .u8 y] 5)) (2 + n) 2 5
    have hle := grownCap_le_maxLen (W.alloc (.cells #[.int .u8 x, .int .u8 y] 5)) (2 + n) 2 5 (by unfold maxLen; omega)
    have hb1 : Below W.heap.size W (W.alloc (.cells #[.int .u8 x, .int .u8 y] 5)).drew := ((Below.refl _ _).alloc (Nat.le_refl _) _).drew
    refine ⟨_, _, app_grow n (by omega) _ _ _ _ c0 c1, ?_, hb1.alloc hb1.size _⟩
    generalize grownCap (W.alloc (.cells #[.int .u8 x, .int .u8 y] 5)) (2 + n) 2 5 = g at hge hle
    refine byt_of_owns (B := 0) (n := 2 + n) ⟨by simp; omega, .inr ⟨_, g, _, rfl, Nat.zero_le _, heap_alloc_new _ _, hge, hle, ?_, ?_⟩⟩ hrange
    · simp [Builtin.zeroCells]
      omega
    · simp only [Array.toList_append, zero_cells, List.append_assoc]
      rw [show ([.int .u8 x, .int .u8 y] : List Value) ++ ((List.replicate n (0 : Int)).map (Value.int .u8) ++ (List.replicate (g - (2 + n)) (0 : Int)).map (Value.int .u8)) = ((x :: y :: List.replicate n (0 : Int)).map (Value.int .u8)) ++ (List.replicate (g - (2 + n)) (0 : Int)).map (Value.int .u8) from by simp]
      exact List.take_left' (by simp; omega)
end Go.Proofs.YtpoeakillimibaaGreatDoor.K
