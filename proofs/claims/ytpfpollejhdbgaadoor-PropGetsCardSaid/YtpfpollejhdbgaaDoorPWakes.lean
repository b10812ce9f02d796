/- Proved here: dovecotelaw3.wakes tells true; properties that are written out in memory. Helper contracts. -/
import Derived.Test.YtpfpollejhdbgaaDoorPPut
import Derived.Test.YtpfpollejhdbgaaDoorPNum
import Derived.Test.YtpfpollejhdbgaaDoorEq
namespace Go.Proofs.YtpfpollejhdbgaaDoor
open Go.RowKit
set_option maxRecDepth 100000

theorem prp_lit1 (w : World) (id n : Int) (s t : ByteArray) (cap : Nat) (ty : TypeId) : Prp (w.alloc (.cells #[.int .i64 id, .int .i64 n, .string s, .string t] ty)) (.slice (some ⟨w.heap.size, 0, none⟩) 1 cap) [(id, n, s, t)] := by
  refine ⟨_, _, rfl, .inr ⟨_, _, rfl, fun k hk => ?_⟩⟩
  obtain rfl : k = 0 := by simp at hk; exact hk
  refine ⟨?_, ?_, ?_, ?_⟩ <;> simp [at0]
theorem prp_lit2 (w : World) (id n : Int) (s t : ByteArray) (cap : Nat) (ty : TypeId) : Prp (w.alloc (.cells #[.int .i64 id, .int .i64 n, .string s, .string t, .int .i64 id, .int .i64 n, .string s, .string t] ty)) (.slice (some ⟨w.heap.size, 0, none⟩) 2 cap) [(id, n, s, t), (id, n, s, t)] := by
  refine ⟨_, _, rfl, .inr ⟨_, _, rfl, fun k hk => ?_⟩⟩
  simp at hk
  rcases k with _ | _ | k
  · refine ⟨?_, ?_, ?_, ?_⟩ <;> simp [at0]
  · refine ⟨?_, ?_, ?_, ?_⟩ <;> simp [at0]
  · omega
theorem small_lit1 (id n : Int) (s t : ByteArray) (hs : s.size ≤ 70000) (ht : t.size ≤ 70000) : Small [(id, n, s, t)] := fun k hk => by
  obtain rfl : k = 0 := by simp at hk; exact hk
  simp only [at0, List.getD_cons_zero]
  omega
theorem small_lit2 (id n : Int) (s t : ByteArray) (hs : s.size ≤ 70000) (ht : t.size ≤ 70000) : Small [(id, n, s, t), (id, n, s, t)] := fun k hk => by
  simp at hk
  rcases k with _ | _ | k
  · simp only [at0, List.getD_cons_zero]; omega
  · simp only [at0, List.getD_cons_succ, List.getD_cons_zero]; omega
  · omega
theorem es_small : es.size ≤ 70000 := by decide
theorem emp_es : emp es = true := by decide +kernel
theorem wake_chk : chkP 3 [(35, 5, es, es)] = 0 := by decide +kernel
theorem wake_pbz : pbz 3 [(35, 5, es, es)] = [3, 35, 0, 5] := by decide +kernel
theorem four_byt3 (w : World) : Byt (w.alloc (.cells #[.int .u8 3, .int .u8 35, .int .u8 0, .int .u8 5] 5)) (.slice (some ⟨w.heap.size, 0, none⟩) 4 4) [3, 35, 0, 5] := by
  refine ⟨_, _, rfl, ⟨by simp, by unfold maxLen; simp⟩, ?_, .inr ⟨_, _, rfl, ?_⟩⟩
  · intro j; rcases j with _ | _ | _ | _ | j <;> simp
  · intro j hj; rcases j with _ | _ | _ | _ | j
    · simp
    · simp
    · simp
    · simp
    · simp at hj; omega
theorem wakes_any (w : World) (hg : Laid w) : Calls Tryd.prog 19 #[] w fun e w' => e = .returned (.bool true) ∧ Below w.heap.size w w' := by
  have HG := hide hg
  clear hg
  go_enter Tryd.func19, Tryd.ntmps19
  go_wp2_with fail
  refine (put_any _ [(35, 5, es, es)] 3 _ (prp_lit1 _ _ _ _ _ _ _) (by simp) (small_lit1 _ _ _ _ es_small es_small)).mono ?_
  rintro e w1 ⟨v, E, rfl, hy, hE, hb1⟩
  rw [wake_chk] at hE
  rw [wake_pbz] at hy
  have HB1 : Hid (Below w.heap.size w w1) := ((Below.refl _ _).alloc (Nat.le_refl _) _).trans (hb1.mono (by simp))
  have HG1 : Hid (Laid w1) := (unhide HG).below (unhide HB1) (unhide HG).pos
  clear hb1
  go_wp2_with fail
  refine (numlp _ 0 _ (unhide HG1) (unhide hE)).mono ?_
  rintro e w2 ⟨rfl, hb2⟩
  have HB2 : Hid (Below w.heap.size w w2) := (unhide HB1).trans (hb2.mono (unhide HB1).size)
  have ha : Hid (Byt (w2.alloc (.cells #[.int .u8 3, .int .u8 35, .int .u8 0, .int .u8 5] 5)) v [3, 35, 0, 5]) := ((unhide hy).below hb2).below ((Below.refl _ _).alloc (Nat.le_refl _) _)
  have hbb := hide (four_byt3 w2)
  clear hb2 HB1 hE hy
  go_wp2_with (go_at_call 17; refine (eq_any _ _ [3, 35, 0, 5] [3, 35, 0, 5] _ (unhide ha) (unhide hbb)).mono ?_; rintro e w' ⟨rfl, q, rfl⟩)
  go_ret
  exact ⟨rfl, below_drewN ((unhide HB2).alloc (unhide HB2).size _) _⟩
end Go.Proofs.YtpfpollejhdbgaaDoor
