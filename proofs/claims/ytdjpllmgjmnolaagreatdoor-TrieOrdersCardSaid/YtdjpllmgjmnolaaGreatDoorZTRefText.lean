/- Proved here: dovecoteref1.Check and Bin tell what text.Check and PutBin tell. Helper contracts. -/
import Derived.Test.YtdjpllmgjmnolaaGreatDoorM4
import Derived.Test.YtdjpllmgjmnolaaGreatDoorZTCopy
import Derived.Laws.IdiomStrings
namespace Go.Proofs.YtdjpllmgjmnolaaGreatDoor
open Go.RowKit

/-- a text turned into bytes -/
theorem conv_str (s : ByteArray) (hs : s.size ≤ maxLen) (w : World) : ∃ v w1, (convert 9 85 (.string s)).run Tryz.prog w = .ok v w1 ∧ Byt w1 v (sb s) ∧ Below w.heap.size w w1 := by
  refine ⟨_, _, run_bytes_of_string w 9 85 5 s Tryz.underlying9 Tryz.underlying85 Tryz.underlying5, ?_, ?_⟩
  · refine ⟨_, _, by rw [sb_length], ⟨by rw [sb_length]; exact grownCap_ge _ _ _ _, grownCap_le_maxLen _ _ _ _ hs⟩, sb_range s, .inr ⟨_, _, rfl, fun j hj => ?_⟩⟩
    rw [sb_length] at hj
    have h1 := World.cell?_alloc_mark w.drew (bytesRow s (grownCap w s.size 0 5)) 5 ((bytesRow s (grownCap w s.size 0 5)).size, (bytesRow s (grownCap w s.size 0 5)).size + 1) j
    rw [Nat.zero_add]
    refine h1.trans ?_
    rw [bytesRow_at s _ j hj, ← sb_get s j hj]
    rfl
  · exact (below_drewN (Below.refl _ _) 1).alloc (Nat.le_refl _) _
set_option maxRecDepth 100000 in
theorem rcheck_any (s : ByteArray) (w : World) (hs : s.size ≤ 4611686018427387904) : Calls Tryz.prog 24 #[.string s] w fun e w' => e = .returned (.int .i64 (chk (sb s))) ∧ Below w.heap.size w w' := by
  obtain ⟨v, w1, hrun, hby, hb⟩ := conv_str s (by unfold maxLen; omega) w
  have HBY := hide hby
  have HB := hide hb
  have HL := hide (sb_length s)
  clear hby hb
  by_cases hu : utf (sb s) = true
  · by_cases hm : s.size ≤ 65535
    · have hc : Hid (chk (sb s) = 0) := by show _ = _; unfold chk; rw [if_pos hu, if_pos (by rw [unhide HL]; exact hm)]
      go_enter Tryz.func24, Tryz.ntmps24
      go_wp2_with (go_at_call 45; refine (rutf_any v (sb s) _ (unhide HBY)).mono ?_; rintro e w' ⟨rfl, rfl⟩)
      go_ret
      exact ⟨ret_int (unhide hc).symm, unhide HB⟩
    · have hc : Hid (chk (sb s) = 2) := by show _ = _; unfold chk; rw [if_pos hu, if_neg (by rw [unhide HL]; exact hm)]
      go_enter Tryz.func24, Tryz.ntmps24
      go_wp2_with (go_at_call 45; refine (rutf_any v (sb s) _ (unhide HBY)).mono ?_; rintro e w' ⟨rfl, rfl⟩)
      go_ret
      exact ⟨ret_int (unhide hc).symm, unhide HB⟩
  · have hc : Hid (chk (sb s) = 1) := by show _ = _; unfold chk; rw [if_neg hu]
    have hu' : utf (sb s) = false := by simpa using hu
    go_enter Tryz.func24, Tryz.ntmps24
    go_wp2_with (go_at_call 45; refine (rutf_any v (sb s) _ (unhide HBY)).mono ?_; rintro e w' ⟨rfl, rfl⟩)
    go_ret
    exact ⟨ret_int (unhide hc).symm, unhide HB⟩

/-- append of any bytes to bytes of the caller's own, at an operation of a walk -/
theorem wpList_append_byt (w : World) {ops : Array Oper} {rest : List Oper} {o : Oper} {a : Act} {Q : Exit → Act → World → Prop} (hgd : o.guard = none) (s x : Operand)
    (ho : o.op = .call { callee := .builtin .append, args := #[s, x], argTypes := #[85, 85] })
    (base : Nat) (v : Value) (n : Nat) (xs : List Int) (hs : a.eval s = v) (hown : w.ownsRow base 5 1 v n (xs.map (Value.int .u8))) (vx : Value) (ys : List Int) (hx : a.eval x = vx) (hy : Byt w vx ys)
    (hbytes : n + ys.length ≤ 140737488355328) (hbase : base ≤ w.heap.size)
    (h : ∀ v' w', w'.ownsRow base 5 1 v' (n + ys.length) ((xs ++ ys).map (Value.int .u8)) → w.grownBy w' v.ownBlock → wpList Tryz.prog ops Q rest (a.put o.dst v') w') : wpList Tryz.prog ops Q (o :: rest) a w := by
  refine wpList_plain hgd fun K hK => ?_
  obtain ⟨v', w', hr, h2, h3⟩ := run_append_byt w base o.type v n xs hown vx ys hy hbytes hbase
  unfold Oper.wp execOp
  simp only [ho, resolve, invoke, builtin, Sem.run_bind, Sem.run_pure, Result.andThen_ok, List.map_toArray, List.map_cons, List.map_nil, hs, hx, hr]
  exact hK _ _ (h v' w' h2 h3)

end Go.Proofs.YtdjpllmgjmnolaaGreatDoor
