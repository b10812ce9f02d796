/- Proved here: helpers, one text behind the other. -/
import Derived.Test.YtemedclhglkfjaaGreatDoorZErrNum
import Derived.Test.YtemedclhglkfjaaGreatDoorM8
import Derived.Handy
import Derived.Test.YtemedclhglkfjaaGreatDoorM2b
set_option maxHeartbeats 20000000
namespace Go.Proofs.YtemedclhglkfjaaGreatDoor
open Go.RowKit Go.Extern.Stop Go.Stop Go.Extern
set_option maxRecDepth 100000
abbrev wrapW (v : Value) (w : World) : World := w.alloc (.cells #[.string ⟨#[112,114,111,112]⟩,v] 114)
theorem wrap_any (t : TypeId) (x : Value) (w : World) : Calls Tryz.prog 120 #[.iface t x] w fun e w' => e = .returned (.iface 112 (.pointer (some ⟨w.heap.size,0,none⟩))) /\ w' = wrapW (.iface t x) w := by
 go_enter Tryz.func120,Tryz.ntmps120
 go_wp2
 go_ret
 exact ⟨rfl,rfl⟩
theorem pfault_any (n : Int) (w : World) : Calls Tryz.prog 135 #[.int .i64 n] w fun e w' => e = .returned (.iface 112 (.pointer (some ⟨w.heap.size,0,none⟩))) /\ w' = wrapW (.iface 63 (.int .i64 n)) w := by
 go_enter Tryz.func135,Tryz.ntmps135
 go_wp2_with (go_at_call 120; refine (wrap_any _ _ _).mono ?_; rintro e w' ⟨rfl,rfl⟩)
 go_ret
 exact ⟨rfl,rfl⟩
def ErrP (w : World) (v : Value) (n : Int) : Prop :=
 ErrIs w v n \/ ∃ b c,v = .iface 112 (.pointer (some ⟨b,0,none⟩)) /\ w.cell? ⟨b,1,none⟩ = some (.iface 112 (.pointer (some ⟨c,0,none⟩))) /\ w.cell? ⟨c,1,none⟩ = some (.iface 63 (.int .i64 n))
def Inn (w : World) (v : Value) (n : Int) : Prop := v = .iface 63 (.int .i64 n) \/ ∃ b,v = .iface 112 (.pointer (some ⟨b,0,none⟩)) /\ w.cell? ⟨b,1,none⟩ = some (.iface 63 (.int .i64 n))
theorem ErrP.below {w w' : World} {v : Value} {n : Int} (h : ErrP w v n) (hb : Below w.heap.size w w') : ErrP w' v n := by
 rcases h with h | ⟨b,c,h1,h2,h3⟩
 ·exact .inl (h.below hb)
 ·exact .inr ⟨b,c,h1,by rw [hb.cell (p := ⟨b,1,none⟩) (cell_lt h2)]; exact h2,by rw [hb.cell (p := ⟨c,1,none⟩) (cell_lt h3)]; exact h3⟩
theorem ErrP.nil (w : World) : ErrP w .nilIface 0 := .inl (.inl ⟨rfl,rfl⟩)
theorem Inn.below {w w' : World} {v : Value} {n : Int} (h : Inn w v n) (hb : Below w.heap.size w w') : Inn w' v n := by
 rcases h with h | ⟨b,h1,h2⟩
 ·exact .inl h
 ·exact .inr ⟨b,h1,by rw [hb.cell (p := ⟨b,1,none⟩) (cell_lt h2)]; exact h2⟩
theorem wrap_is (n : Int) (v : Value) (w : World) (h : Inn w v n) : ErrP (wrapW v w) (.iface 112 (.pointer (some ⟨w.heap.size,0,none⟩))) n := by
 rcases h with rfl | ⟨b,rfl,hc⟩
 ·exact .inl (.inr ⟨_,rfl,by simp⟩)
 ·exact .inr ⟨_,b,rfl,by simp,by rw [World.cell?_alloc_lt _ _ ⟨b,1,none⟩ (cell_lt hc)]; exact hc⟩
theorem wrap_below (v : Value) (w : World) : Below w.heap.size w (wrapW v w) := bal _ _
theorem pfault_use (n : Int) (w : World) : Calls Tryz.prog 135 #[.int .i64 n] w fun e w' => ∃ E,e = .returned (.iface 112 E) /\ Hid (ErrP w' (.iface 112 E) n) /\ Below w.heap.size w w' := by
 refine (pfault_any n w).mono ?_
 rintro e w' ⟨rfl,rfl⟩
 exact ⟨_,rfl,wrap_is n _ w (.inl rfl),wrap_below _ _⟩
theorem wrap_use (v : Value) (n : Int) (w : World) (h : Inn w v n) : Calls Tryz.prog 120 #[v] w fun e w' => ∃ E,e = .returned (.iface 112 E) /\ Hid (ErrP w' (.iface 112 E) n) /\ Below w.heap.size w w' := by
 obtain ⟨t,x,rfl⟩ : ∃ t x,v = .iface t x := by rcases h with rfl | ⟨b,rfl,_⟩ <;> exact ⟨_,_,rfl⟩
 refine (wrap_any t x w).mono ?_
 rintro e w' ⟨rfl,rfl⟩
 exact ⟨_,rfl,wrap_is n _ w h,wrap_below _ _⟩
theorem few_ok (n : Int) (w : World) (h : n <= 32) : Calls Tryz.prog 121 #[.int .i64 n] w fun e w' => e = .returned .nilIface /\ w' = w := by
 go_enter Tryz.func121,Tryz.ntmps121
 go_wp2
 go_ret
 exact ⟨rfl,rfl⟩
theorem few_bad (n : Int) (w : World) (h : 32 < n) : Calls Tryz.prog 121 #[.int .i64 n] w fun e w' => ∃ E,e = .returned (.iface 112 E) /\ Hid (ErrP w' (.iface 112 E) 2) /\ Below w.heap.size w w' := by
 go_enter Tryz.func121,Tryz.ntmps121
 go_wp2_with (go_at_call 135; refine (pfault_use 2 _).mono ?_; rintro e w' ⟨E,rfl,hE,hb⟩)
 go_ret
 exact ⟨_,rfl,hE,hb⟩
theorem methodComp (h : Value) (w : World) : (Go.method 339 161 (.agg #[h]) "Comparable").run Tryz.prog w = .ok (188,.agg #[h]) w := by kernel_rfl
theorem compE (w : World) : ((ReflectliteType.method fun t => do Rtype.noPackHeld "Comparable" t; (fun a => Value.bool a.comparable) <$> typeInfo t) #[.agg #[.pointer (some ⟨1,63,none⟩)]]).run Tryz.prog w = .ok (.bool true) w := by kernel_rfl
theorem noIsF (v : Value) (xT : TypeId) (w : World) : (Instr.typeAssert (.iface 112 v) xT 163 true).run Tryz.prog w = .ok (.tuple #[.nilIface,.bool false]) w := run_typeAssert_lacksB Tryz.underlying163 (by kernel_rfl) (by kernel_rfl) v xT w
theorem noIsE (v : Value) (xT : TypeId) (w : World) : (Instr.typeAssert (.iface 63 v) xT 163 true).run Tryz.prog w = .ok (.tuple #[.nilIface,.bool false]) w := run_typeAssert_lacksB Tryz.underlying163 (by kernel_rfl) (by kernel_rfl) v xT w
theorem noUnwrapE (v : Value) (xT : TypeId) (w : World) : (Instr.typeAssert (.iface 63 v) xT 166 true).run Tryz.prog w = .ok (.tuple #[.nilIface,.bool false]) w := run_typeAssert_lacksB Tryz.underlying166 (by kernel_rfl) (by kernel_rfl) v xT w
theorem noUnwrapsE (v : Value) (xT : TypeId) (w : World) : (Instr.typeAssert (.iface 63 v) xT 168 true).run Tryz.prog w = .ok (.tuple #[.nilIface,.bool false]) w := run_typeAssert_lacksB Tryz.underlying168 (by kernel_rfl) (by kernel_rfl) v xT w
theorem eqE (n : Int) (w : World) : (binOp .eql 37 (.iface 63 (.int .i64 n)) (.iface 63 (.int .i64 1))).run Tryz.prog w = .ok (.bool (n == 1)) w := by kernel_rfl
theorem eqF (v u : Value) (w : World) : (binOp .eql 37 (.iface 112 v) (.iface 63 u)).run Tryz.prog w = .ok (.bool false) w := by kernel_rfl
theorem is_errno (n : Int) (w : World) : Calls Tryz.prog 99 #[.iface 63 (.int .i64 n),.iface 63 (.int .i64 1),.bool true] w fun e w' => e = .returned (.bool (n == 1)) /\ w' = w := by
 have nI := noIsE
 have q1 := eqE
 have q2 := eqF
 have nU := noUnwrapE
 have nV := noUnwrapsE
 by_cases h : n = 1
 ·subst h
  go_enter Tryz.func99,Tryz.ntmps99
  go_wp2
  refine wp_loop_rounds 1 ?_
  rw [rounds_succ]
  go_wp2
  go_ret
  exact ⟨rfl,rfl⟩
 ·have hb : (n == 1) = false := beq_eq_false_iff_ne.2 h
  go_enter Tryz.func99,Tryz.ntmps99
  go_wp2
  refine wp_loop_rounds 1 ?_
  rw [rounds_succ]
  go_wp2
  go_ret
  exact ⟨ret_bool hb.symm,rfl⟩
theorem is_fault (b : Nat) (n : Int) (w : World) (hc : w.cell? ⟨b,1,none⟩ = some (.iface 63 (.int .i64 n))) : Calls Tryz.prog 99 #[.iface 112 (.pointer (some ⟨b,0,none⟩)),.iface 63 (.int .i64 1),.bool true] w fun e w' => e = .returned (.bool (n == 1)) /\ w' = w := by
 have nI := noIsE
 have q1 := eqE
 have q2 := eqF
 have nU := noUnwrapE
 have nV := noUnwrapsE
 have nF := noIsF
 have hU := hasUnwrapF
 have mU := methodUnwrap
 by_cases h : n = 1
 ·subst h
  go_enter Tryz.func99,Tryz.ntmps99
  go_wp2
  refine wp_loop_rounds 2 ?_
  rw [rounds_succ]
  go_wp2_with (go_at_call 182; refine (unwrap_any _ _ _ hc).mono ?_; rintro e w' ⟨rfl,rfl⟩)
  rw [rounds_succ]
  go_wp2
  go_ret
  exact ⟨rfl,rfl⟩
 ·have hb : (n == 1) = false := beq_eq_false_iff_ne.2 h
  go_enter Tryz.func99,Tryz.ntmps99
  go_wp2
  refine wp_loop_rounds 2 ?_
  rw [rounds_succ]
  go_wp2_with (go_at_call 182; refine (unwrap_any _ _ _ hc).mono ?_; rintro e w' ⟨rfl,rfl⟩)
  rw [rounds_succ]
  go_wp2
  go_ret
  exact ⟨ret_bool hb.symm,rfl⟩
theorem is_inn (v : Value) (n : Int) (w : World) (h : Inn w v n) : Calls Tryz.prog 99 #[v,.iface 63 (.int .i64 1),.bool true] w fun e w' => e = .returned (.bool (n == 1)) /\ w' = w := by
 rcases h with rfl | ⟨b,rfl,hc⟩
 ·exact is_errno n w
 ·exact is_fault b n w hc
theorem Is_inn (t : TypeId) (x : Value) (n : Int) (w : World) (h : Inn w (.iface t x) n) : Calls Tryz.prog 56 #[.iface t x,.iface 63 (.int .i64 1)] w fun e w' => e = .returned (.bool (n == 1)) /\ w' = w := by
 have H := zh h
 clear h
 have hT := @run_callFunc_extern Tryz.prog 98 _ ReflectliteType.typeOf Tryz.func98 (by kernel_rfl) (by kernel_rfl) (by kernel_rfl) (by kernel_rfl)
 have hC := @run_callFunc_extern Tryz.prog 188 _ (ReflectliteType.method fun t => do Rtype.noPackHeld "Comparable" t; pure (.bool (<- typeInfo t).comparable)) Tryz.func188 (by kernel_rfl) (by kernel_rfl) (by kernel_rfl) (by kernel_rfl)
 have tO := typeOfE
 have mC := methodComp
 have cE := compE
 go_enter Tryz.func56,Tryz.ntmps56
 go_wp2_with (go_at_call 99; refine (is_inn _ n _ (uh H)).mono ?_; rintro e w' ⟨rfl,rfl⟩)
 go_ret
 exact ⟨rfl,rfl⟩
theorem broken_use (v : Value) (n : Int) (w : World) (h : Inn w v n) : Calls Tryz.prog 142 #[v] w fun e w' => ∃ E,e = .returned (.iface 112 E) /\ Hid (ErrP w' (.iface 112 E) 1) /\ Below w.heap.size w w' := by
 obtain ⟨t,x,rfl⟩ : ∃ t x,v = .iface t x := by rcases h with rfl | ⟨b,rfl,_⟩ <;> exact ⟨_,_,rfl⟩
 have H := zh h
 clear h
 by_cases h : n = 1
 ·subst h
  go_enter Tryz.func142,Tryz.ntmps142
  go_wp2_with (first | (go_at_call 56; refine (Is_inn t x 1 _ (uh H)).mono ?_; rintro e w' ⟨rfl,rfl⟩) | (go_at_call 120; refine (wrap_use _ 1 _ (uh H)).mono ?_; rintro e w' ⟨E,rfl,hE,hb⟩))
  go_ret
  exact ⟨_,rfl,hE,hb⟩
 ·have hb : (n == 1) = false := beq_eq_false_iff_ne.2 h
  go_enter Tryz.func142,Tryz.ntmps142
  go_wp2_with (first | (go_at_call 56; refine (Is_inn t x n _ (uh H)).mono ?_; rintro e w' ⟨rfl,rfl⟩) | (go_at_call 135; refine (pfault_use 1 _).mono ?_; rintro e w' ⟨E,rfl,hE,hb'⟩))
  go_ret
  exact ⟨_,rfl,hE,hb'⟩
def Er (w : World) : Nat -> Value -> Int -> Prop
 | 0,v,n => v = .iface 63 (.int .i64 n)
 | d + 1,v,n => ∃ b u,v = .iface 112 (.pointer (some ⟨b,0,none⟩)) /\ w.cell? ⟨b,1,none⟩ = some u /\ Er w d u n
theorem Er.below {w w' : World} (hb : Below w.heap.size w w') : ∀ {d : Nat} {v : Value} {n : Int},Er w d v n -> Er w' d v n
 | 0,_,_,h => h
 | _ + 1,_,_,⟨b,u,h1,h2,h3⟩ => ⟨b,u,h1,by rw [hb.cell (p := ⟨b,1,none⟩) (cell_lt h2)]; exact h2,Er.below hb h3⟩
theorem Er.iface {w : World} : ∀ {d : Nat} {v : Value} {n : Int},Er w d v n -> ∃ t x,v = .iface t x
 | 0,_,_,h => ⟨_,_,h⟩
 | _ + 1,_,_,⟨_,_,h,_⟩ => ⟨_,_,h⟩
theorem eqEm (n m : Int) (w : World) : (binOp .eql 37 (.iface 63 (.int .i64 n)) (.iface 63 (.int .i64 m))).run Tryz.prog w = .ok (.bool (n == m)) w := by kernel_rfl
theorem er_is0 (n m : Int) (w : World)  : Calls Tryz.prog 99 #[.iface 63 (.int .i64 n),.iface 63 (.int .i64 m),.bool true] w fun e w' => e = .returned (.bool (n == m)) /\ w' = w := by
 have nI := noIsE
 have q1 := eqEm
 have q2 := eqF
 have nU := noUnwrapE
 have nV := noUnwrapsE
 have nF := noIsF
 have hU := hasUnwrapF
 have mU := methodUnwrap
 by_cases h : n = m
 ·subst h
  have hb : (n == n) = true := by simp
  go_enter Tryz.func99,Tryz.ntmps99
  go_wp2
  refine wp_loop_rounds 1 ?_
  rw [rounds_succ]
  go_wp2
  go_ret
  exact ⟨ret_bool hb.symm,rfl⟩
 ·have hb : (n == m) = false := beq_eq_false_iff_ne.2 h
  go_enter Tryz.func99,Tryz.ntmps99
  go_wp2
  refine wp_loop_rounds 1 ?_
  rw [rounds_succ]
  go_wp2
  go_ret
  exact ⟨ret_bool hb.symm,rfl⟩
theorem er_is1 (b0 : Nat) (n m : Int) (w : World) (h0 : w.cell? ⟨b0,1,none⟩ = some (.iface 63 (.int .i64 n))) : Calls Tryz.prog 99 #[.iface 112 (.pointer (some ⟨b0,0,none⟩)),.iface 63 (.int .i64 m),.bool true] w fun e w' => e = .returned (.bool (n == m)) /\ w' = w := by
 have nI := noIsE
 have q1 := eqEm
 have q2 := eqF
 have nU := noUnwrapE
 have nV := noUnwrapsE
 have nF := noIsF
 have hU := hasUnwrapF
 have mU := methodUnwrap
 by_cases h : n = m
 ·subst h
  have hb : (n == n) = true := by simp
  go_enter Tryz.func99,Tryz.ntmps99
  go_wp2
  refine wp_loop_rounds 2 ?_
  rw [rounds_succ]
  go_wp2_with (go_at_call 182; refine (unwrap_any _ _ _ h0).mono ?_; rintro e w' ⟨rfl,rfl⟩)
  rw [rounds_succ]
  go_wp2
  go_ret
  exact ⟨ret_bool hb.symm,rfl⟩
 ·have hb : (n == m) = false := beq_eq_false_iff_ne.2 h
  go_enter Tryz.func99,Tryz.ntmps99
  go_wp2
  refine wp_loop_rounds 2 ?_
  rw [rounds_succ]
  go_wp2_with (go_at_call 182; refine (unwrap_any _ _ _ h0).mono ?_; rintro e w' ⟨rfl,rfl⟩)
  rw [rounds_succ]
  go_wp2
  go_ret
  exact ⟨ret_bool hb.symm,rfl⟩
theorem er_is2 (b0 b1 : Nat) (n m : Int) (w : World) (h0 : w.cell? ⟨b0,1,none⟩ = some (.iface 112 (.pointer (some ⟨b1,0,none⟩)))) (h1 : w.cell? ⟨b1,1,none⟩ = some (.iface 63 (.int .i64 n))) : Calls Tryz.prog 99 #[.iface 112 (.pointer (some ⟨b0,0,none⟩)),.iface 63 (.int .i64 m),.bool true] w fun e w' => e = .returned (.bool (n == m)) /\ w' = w := by
 have nI := noIsE
 have q1 := eqEm
 have q2 := eqF
 have nU := noUnwrapE
 have nV := noUnwrapsE
 have nF := noIsF
 have hU := hasUnwrapF
 have mU := methodUnwrap
 by_cases h : n = m
 ·subst h
  have hb : (n == n) = true := by simp
  go_enter Tryz.func99,Tryz.ntmps99
  go_wp2
  refine wp_loop_rounds 3 ?_
  rw [rounds_succ]
  go_wp2_with (go_at_call 182; refine (unwrap_any _ _ _ h0).mono ?_; rintro e w' ⟨rfl,rfl⟩)
  rw [rounds_succ]
  go_wp2_with (go_at_call 182; refine (unwrap_any _ _ _ h1).mono ?_; rintro e w' ⟨rfl,rfl⟩)
  rw [rounds_succ]
  go_wp2
  go_ret
  exact ⟨ret_bool hb.symm,rfl⟩
 ·have hb : (n == m) = false := beq_eq_false_iff_ne.2 h
  go_enter Tryz.func99,Tryz.ntmps99
  go_wp2
  refine wp_loop_rounds 3 ?_
  rw [rounds_succ]
  go_wp2_with (go_at_call 182; refine (unwrap_any _ _ _ h0).mono ?_; rintro e w' ⟨rfl,rfl⟩)
  rw [rounds_succ]
  go_wp2_with (go_at_call 182; refine (unwrap_any _ _ _ h1).mono ?_; rintro e w' ⟨rfl,rfl⟩)
  rw [rounds_succ]
  go_wp2
  go_ret
  exact ⟨ret_bool hb.symm,rfl⟩
theorem er_is3 (b0 b1 b2 : Nat) (n m : Int) (w : World) (h0 : w.cell? ⟨b0,1,none⟩ = some (.iface 112 (.pointer (some ⟨b1,0,none⟩)))) (h1 : w.cell? ⟨b1,1,none⟩ = some (.iface 112 (.pointer (some ⟨b2,0,none⟩)))) (h2 : w.cell? ⟨b2,1,none⟩ = some (.iface 63 (.int .i64 n))) : Calls Tryz.prog 99 #[.iface 112 (.pointer (some ⟨b0,0,none⟩)),.iface 63 (.int .i64 m),.bool true] w fun e w' => e = .returned (.bool (n == m)) /\ w' = w := by
 have nI := noIsE
 have q1 := eqEm
 have q2 := eqF
 have nU := noUnwrapE
 have nV := noUnwrapsE
 have nF := noIsF
 have hU := hasUnwrapF
 have mU := methodUnwrap
 by_cases h : n = m
 ·subst h
  have hb : (n == n) = true := by simp
  go_enter Tryz.func99,Tryz.ntmps99
  go_wp2
  refine wp_loop_rounds 4 ?_
  rw [rounds_succ]
  go_wp2_with (go_at_call 182; refine (unwrap_any _ _ _ h0).mono ?_; rintro e w' ⟨rfl,rfl⟩)
  rw [rounds_succ]
  go_wp2_with (go_at_call 182; refine (unwrap_any _ _ _ h1).mono ?_; rintro e w' ⟨rfl,rfl⟩)
  rw [rounds_succ]
  go_wp2_with (go_at_call 182; refine (unwrap_any _ _ _ h2).mono ?_; rintro e w' ⟨rfl,rfl⟩)
  rw [rounds_succ]
  go_wp2
  go_ret
  exact ⟨ret_bool hb.symm,rfl⟩
 ·have hb : (n == m) = false := beq_eq_false_iff_ne.2 h
  go_enter Tryz.func99,Tryz.ntmps99
  go_wp2
  refine wp_loop_rounds 4 ?_
  rw [rounds_succ]
  go_wp2_with (go_at_call 182; refine (unwrap_any _ _ _ h0).mono ?_; rintro e w' ⟨rfl,rfl⟩)
  rw [rounds_succ]
  go_wp2_with (go_at_call 182; refine (unwrap_any _ _ _ h1).mono ?_; rintro e w' ⟨rfl,rfl⟩)
  rw [rounds_succ]
  go_wp2_with (go_at_call 182; refine (unwrap_any _ _ _ h2).mono ?_; rintro e w' ⟨rfl,rfl⟩)
  rw [rounds_succ]
  go_wp2
  go_ret
  exact ⟨ret_bool hb.symm,rfl⟩
theorem er_is (d : Nat) (hd : d <= 3) (v : Value) (n m : Int) (w : World) (h : Er w d v n) : Calls Tryz.prog 99 #[v,.iface 63 (.int .i64 m),.bool true] w fun e w' => e = .returned (.bool (n == m)) /\ w' = w := by
 match d,hd,h with
 | 0,_,h => cases h; exact er_is0 n m w
 | 1,_,⟨b,u,h1,h2,h3⟩ => cases h1; cases h3; exact er_is1 b n m w h2
 | 2,_,⟨b,u,h1,h2,b',u',h3,h4,h5⟩ => cases h1; cases h3; cases h5; exact er_is2 b b' n m w h2 h4
 | 3,_,⟨b,u,h1,h2,b',u',h3,h4,b'',u'',h5,h6,h7⟩ => cases h1; cases h3; cases h5; cases h7; exact er_is3 b b' b'' n m w h2 h4 h6
theorem er_Is (d : Nat) (hd : d <= 3) (v : Value) (n m : Int) (w : World) (h : Er w d v n) : Calls Tryz.prog 56 #[v,.iface 63 (.int .i64 m)] w fun e w' => e = .returned (.bool (n == m)) /\ w' = w := by
 obtain ⟨t,x,rfl⟩ := h.iface
 have H := zh h
 clear h
 have hT := @run_callFunc_extern Tryz.prog 98 _ ReflectliteType.typeOf Tryz.func98 (by kernel_rfl) (by kernel_rfl) (by kernel_rfl) (by kernel_rfl)
 have hC := @run_callFunc_extern Tryz.prog 188 _ (ReflectliteType.method fun t => do Rtype.noPackHeld "Comparable" t; pure (.bool (<- typeInfo t).comparable)) Tryz.func188 (by kernel_rfl) (by kernel_rfl) (by kernel_rfl) (by kernel_rfl)
 have tO := typeOfE
 have mC := methodComp
 have cE := compE
 go_enter Tryz.func56,Tryz.ntmps56
 go_wp2_with (go_at_call 99; refine (er_is d hd _ n m _ (uh H)).mono ?_; rintro e w' ⟨rfl,rfl⟩)
 go_ret
 exact ⟨rfl,rfl⟩
theorem er_as (d : Nat) (hd : d <= 3) (v : Value) (n : Int) (t : Addr) (old : Value) (w : World) (hg : Laid w) (h : Er w d v n) (ht0 : w.cell? t = some old) (hf0 : w.frozen? t = false) :
  Calls Tryz.prog 72 #[v,.iface 107 (.pointer (some t))] w fun ev w' => ev = .returned (.bool true) /\ w' = ((((w.alloc (.cells #[.pointer (some t)] 107)).alloc (.cells #[.pointer (some ⟨1,107,none⟩),.pointer (some ⟨w.heap.size,0,none⟩),.int .u64 150] 141)).alloc (.cells #[.pointer (some ⟨1,107,none⟩),.pointer (some ⟨w.heap.size,0,none⟩),.int .u64 150] 141)).alloc (.cells #[.int .i64 n] 63)).setCell t (.int .i64 n) := by
 match d,hd,h with
 | 0,_,h => cases h; exact er_as0 n t old w hg ht0 hf0
 | 1,_,⟨b,u,h1,h2,h3⟩ => cases h1; cases h3; exact er_as1 b n t old w hg h2 ht0 hf0
 | 2,_,⟨b,u,h1,h2,b',u',h3,h4,h5⟩ => cases h1; cases h3; cases h5; exact er_as2 b b' n t old w hg h2 h4 ht0 hf0
 | 3,_,⟨b,u,h1,h2,b',u',h3,h4,b'',u'',h5,h6,h7⟩ => cases h1; cases h3; cases h5; cases h7; exact er_as3 b b' b'' n t old w hg h2 h4 h6 ht0 hf0
theorem er_num (d : Nat) (hd : d <= 3) (v : Value) (n : Int) (w : World) (hg : Laid w) (h : Er w d v n) :
  Calls Tryz.prog 31 #[v] w fun e w' => e = .returned (.int .i64 n) /\ Below w.heap.size w w' := by
 have hB : Below w.heap.size w (w.alloc (.cells #[.int .i64 0] 63)) := bal _ _
 have HG := zh (hg.below hB hg.pos)
 have HE := zh (h.below hB)
 obtain ⟨tt,x,rfl⟩ := h.iface
 clear hg h hB
 go_enter Tryz.func31,Tryz.ntmps31
 go_wp2_with fail
 refine (er_as d hd _ n ⟨w.heap.size,0,none⟩ (.int .i64 0) _ (uh HG) (uh HE) (by simp) (by simp)).mono ?_
 rintro e w' ⟨rfl,rfl⟩
 go_wp2
 go_ret
 refine ⟨rfl,?_⟩
 exact ((((((bal _ _).alloc (by simp) _).alloc (by simp; omega) _).alloc (by simp; omega) _).alloc (by simp; omega) _))
def ErrX (w : World) (v : Value) (n : Int) : Prop := (n = 0 /\ v = .nilIface) \/ ∃ d,d <= 3 /\ Er w d v n
theorem ErrX.below {w w' : World} {v : Value} {n : Int} (h : ErrX w v n) (hb : Below w.heap.size w w') : ErrX w' v n := by
 rcases h with h | ⟨d,hd,h⟩
 ·exact .inl h
 ·exact .inr ⟨d,hd,h.below hb⟩
theorem numx (v : Value) (n : Int) (w : World) (hg : Laid w) (hv : ErrX w v n) : Calls Tryz.prog 31 #[v] w fun e w' => e = .returned (.int .i64 n) /\ Below w.heap.size w w' := by
 rcases hv with ⟨rfl,rfl⟩ | ⟨d,hd,h⟩
 ·refine (num_nil w).mono ?_
  rintro e w' ⟨rfl,rfl⟩
  exact ⟨rfl,Below.refl _ _⟩
 ·exact er_num d hd v n w hg h
end Go.Proofs.YtemedclhglkfjaaGreatDoor
namespace Go.Proofs.YtemedclhglkfjaaGreatDoor.K
open Go.RowKit Go.Extern.Stop Go.Stop Go.Extern
set_option maxRecDepth 100000
abbrev pwrapW (v : Value) (w : World) : World := w.alloc (.cells #[.string ⟨#[112,97,99,107,101,116]⟩,v] 114)
theorem pwrap_any (t : TypeId) (x : Value) (w : World) : Calls Tryz.prog 43 #[.iface t x] w fun e w' => e = .returned (.iface 112 (.pointer (some ⟨w.heap.size,0,none⟩))) /\ w' = pwrapW (.iface t x) w := by
 go_enter Tryz.func43,Tryz.ntmps43
 go_wp2
 go_ret
 exact ⟨rfl,rfl⟩
theorem pfault_any (n : Int) (w : World) : Calls Tryz.prog 23 #[.int .i64 n] w fun e w' => e = .returned (.iface 112 (.pointer (some ⟨w.heap.size,0,none⟩))) /\ w' = pwrapW (.iface 63 (.int .i64 n)) w := by
 go_enter Tryz.func23,Tryz.ntmps23
 go_wp2_with (go_at_call 43; refine (pwrap_any _ _ _).mono ?_; rintro e w' ⟨rfl,rfl⟩)
 go_ret
 exact ⟨rfl,rfl⟩
theorem pwrap_er (d : Nat) (n : Int) (v : Value) (w : World) (h : Er w d v n) : Er (pwrapW v w) (d + 1) (.iface 112 (.pointer (some ⟨w.heap.size,0,none⟩))) n :=
 ⟨w.heap.size,v,rfl,by simp,h.below (bal _ _)⟩
theorem pwrap_below (v : Value) (w : World) : Below w.heap.size w (pwrapW v w) := bal _ _
def ErP (w : World) (E : Value) (n : Int) : Prop := ∃ x d,E = .iface 112 x /\ d <= 3 /\ Er w d E n
theorem pf_use (n : Int) (w : World) : Calls Tryz.prog 23 #[.int .i64 n] w fun e w' => ∃ x,e = .returned (.iface 112 x) /\ Hid (ErP w' (.iface 112 x) n) /\ Below w.heap.size w w' := by
 refine (pfault_any n w).mono ?_
 rintro e w' ⟨rfl,rfl⟩
 exact ⟨_,rfl,⟨_,1,rfl,by omega,pwrap_er 0 n _ w rfl⟩,pwrap_below _ _⟩
theorem pw_use (d : Nat) (hd : d <= 2) (v : Value) (n : Int) (w : World) (h : Er w d v n) : Calls Tryz.prog 43 #[v] w fun e w' => ∃ x,e = .returned (.iface 112 x) /\ Hid (ErP w' (.iface 112 x) n) /\ Below w.heap.size w w' := by
 obtain ⟨t,x,rfl⟩ := h.iface
 refine (pwrap_any t x w).mono ?_
 rintro e w' ⟨rfl,rfl⟩
 exact ⟨_,rfl,⟨_,d + 1,rfl,by omega,pwrap_er d n _ w h⟩,pwrap_below _ _⟩
theorem pbroken (d : Nat) (hd : d <= 2) (v : Value) (n : Int) (w : World) (h : Er w d v n) : Calls Tryz.prog 25 #[v] w fun e w' => ∃ x,e = .returned (.iface 112 x) /\ Hid (ErP w' (.iface 112 x) 1) /\ Below w.heap.size w w' := by
 obtain ⟨t,x,rfl⟩ := h.iface
 have H := zh h
 clear h
 by_cases h : n = 1
 ·subst h
  go_enter Tryz.func25,Tryz.ntmps25
  go_wp2_with (first | (go_at_call 56; refine (er_Is d (by omega) _ 1 1 _ (uh H)).mono ?_; rintro e w' ⟨rfl,rfl⟩) | (go_at_call 43; refine (pw_use d hd _ 1 _ (uh H)).mono ?_; rintro e w' ⟨E,rfl,hE,hb⟩))
  go_ret
  exact ⟨_,rfl,hE,hb⟩
 ·have hb : (n == 1) = false := beq_eq_false_iff_ne.2 h
  go_enter Tryz.func25,Tryz.ntmps25
  go_wp2_with (first | (go_at_call 56; refine (er_Is d (by omega) _ n 1 _ (uh H)).mono ?_; rintro e w' ⟨rfl,rfl⟩) | (go_at_call 23; refine (pf_use 1 _).mono ?_; rintro e w' ⟨E,rfl,hE,hb'⟩))
  go_ret
  exact ⟨_,rfl,hE,hb'⟩
end Go.Proofs.YtemedclhglkfjaaGreatDoor.K
