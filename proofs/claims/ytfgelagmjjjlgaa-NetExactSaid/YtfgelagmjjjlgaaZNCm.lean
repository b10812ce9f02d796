/- Proved here: contracts of cmp.Compare at numbers, of net's hasCome and byTime. Helper contracts. -/
import Derived.Test.YtfgelagmjjjlgaaZNSt
import Derived.Test.YtfgelagmjjjlgaaZNSq
namespace Go.Proofs.Ytfgelagmjjjlgaa.Nt
open Go.Shelf Go.RowKit Go.Lib Go.Sort
set_option maxRecDepth 100000

def ci (a b : Int) : Int := if a < b then -1 else if b < a then 1 else 0
theorem ci_neg (a b : Int) : ci a b < 0 ↔ a < b := by
  unfold ci
  by_cases h : a < b
  · rw [if_pos h]; exact ⟨fun _ => h, fun _ => by omega⟩
  · rw [if_neg h]
    by_cases h2 : b < a
    · rw [if_pos h2]; exact ⟨fun h => by omega, fun h' => absurd h' h⟩
    · rw [if_neg h2]; exact ⟨fun h => by omega, fun h' => absurd h' h⟩
theorem nan_any (a : Int) (w : World) : Calls Try.prog 41 #[.int .i64 a] w fun e w' => e = .returned (.bool false) ∧ w' = w := by
  go_enter Try.func41, Try.ntmps41
  go_wp2
  go_ret
  exact ⟨rfl, rfl⟩
set_option maxHeartbeats 1000000 in
theorem cmp_any (a b : Int) (w : World) : Calls Try.prog 35 #[.int .i64 a, .int .i64 b] w fun e w' => e = .returned (.int .i64 (ci a b)) ∧ w' = w := by
  have HN := hide (fun (x : Int) (w : World) => nan_any x w)
  have HC : Hid (ci a b = if a < b then -1 else if b < a then 1 else 0) := rfl
  generalize ci a b = c at HC ⊢
  by_cases h1 : a < b
  · rw [if_pos h1] at HC
    go_enter Try.func35, Try.ntmps35
    go_wp2_with (go_at_call 41; refine ((unhide HN) _ _).mono ?_; rintro e w2 ⟨rfl, hw⟩; obtain rfl := hw.symm; clear hw)
    go_ret
    exact ⟨by rw [unhide HC]; rfl, rfl⟩
  · rw [if_neg h1] at HC
    by_cases h2 : b < a
    · rw [if_pos h2] at HC
      have h3 : decide (a > b) = true := decide_eq_true h2
      go_enter Try.func35, Try.ntmps35
      go_wp2_with (go_at_call 41; refine ((unhide HN) _ _).mono ?_; rintro e w2 ⟨rfl, hw⟩; obtain rfl := hw.symm; clear hw)
      go_ret
      exact ⟨by rw [unhide HC]; rfl, rfl⟩
    · rw [if_neg h2] at HC
      have h3 : decide (a > b) = false := decide_eq_false h2
      go_enter Try.func35, Try.ntmps35
      go_wp2_with (go_at_call 41; refine ((unhide HN) _ _).mono ?_; rintro e w2 ⟨rfl, hw⟩; obtain rfl := hw.symm; clear hw)
      go_ret
      exact ⟨by rw [unhide HC]; rfl, rfl⟩
/-- times that do not pass a number's limits -/
def Pok (p : Pc) : Prop := 0 ≤ p.put ∧ p.put ≤ 1099511627776 ∧ 1 ≤ p.delay ∧ p.delay ≤ 9
abbrev tm (p : Pc) : Int := wrap64 (p.put + p.delay)
theorem tm_ok {p : Pc} (h : Pok p) : tm p = p.put + p.delay := by
  obtain ⟨h1, h2, h3, h4⟩ := h
  unfold tm wrap64
  omega
set_option maxHeartbeats 2000000 in
theorem hc_any (p : Pc) (now : Int) (w : World) (hp : Pok p) (h0 : 0 ≤ now) (h1 : now ≤ 2199023255552) : Calls Try.prog 24 #[.agg (pcs p).toArray, .int .i64 now] w fun e w' => e = .returned (.bool (decide (p.put + p.delay ≤ now))) ∧ Below w.heap.size w w' := by
  obtain ⟨p1, p2, p3, p4⟩ := hp
  have hbx := Bx.new w (pcs p) 53 _ rfl
  have HB : Hid (Below w.heap.size w (w.alloc (.cells (pcs p).toArray 53))) := (Below.refl _ _).alloc (Nat.le_refl _) _
  have c11 := hbx.cell 11 (.int .i64 p.put) rfl
  have c12 := hbx.cell 12 (.int .i64 p.delay) rfl
  clear hbx
  have HD : Hid (decide (p.put + p.delay ≤ now) = decide (p.put + p.delay ≤ now)) := rfl
  generalize hb : decide (p.put + p.delay ≤ now) = b
  have HBB : Hid (b = decide (p.put + p.delay ≤ now)) := hb.symm
  clear hb HD
  generalize p.put = t at p1 p2 c11 HBB
  generalize p.delay = d at p3 p4 c12 HBB
  have u1 : IntKind.u64.wrap now = now := by rw [IntKind.wrap_u64]; omega
  have u2 : IntKind.u64.wrap t = t := by rw [IntKind.wrap_u64]; omega
  have u3 : IntKind.u64.wrap d = d := by rw [IntKind.wrap_u64]; omega
  go_enter Try.func24, Try.ntmps24
  by_cases ht : t < now
  · have u4 : IntKind.u64.wrap (now - t) = now - t := by rw [IntKind.wrap_u64]; omega
    by_cases hd : d ≤ now - t
    · have hge : decide (now - t ≥ d) = true := decide_eq_true hd
      go_wp2
      go_ret
      exact ⟨by rw [unhide HBB, decide_eq_true (show t + d ≤ now by omega)]; rfl, unhide HB⟩
    · have hge : decide (now - t ≥ d) = false := decide_eq_false hd
      go_wp2
      go_ret
      exact ⟨by rw [unhide HBB, decide_eq_false (show ¬ t + d ≤ now by omega)]; rfl, unhide HB⟩
  · have htd : decide (t < now) = false := decide_eq_false ht
    go_wp2
    go_ret
    exact ⟨by rw [unhide HBB, decide_eq_false (show ¬ t + d ≤ now by omega)]; rfl, unhide HB⟩
set_option maxHeartbeats 2000000 in
theorem bt_any (p q : Pc) (w : World) : Calls Try.prog 26 #[.agg (pcs p).toArray, .agg (pcs q).toArray] w fun e w' => e = .returned (.int .i64 (ci (tm p) (tm q))) ∧ ∃ n os', w' = grow (w.drewN n) os' := by
  obtain ⟨w1, hw1⟩ : ∃ w1, w1 = (w.alloc (.cells (pcs p).toArray 53)).alloc (.cells (pcs q).toArray 53) := ⟨_, rfl⟩
  have hbx : Bx w1 w.heap.size (pcs p) 53 := by rw [hw1]; exact (Bx.new w (pcs p) 53 _ rfl).below ((Below.refl _ _).alloc (Nat.le_refl _) _)
  have hby : Bx w1 (w.heap.size + 1) (pcs q) 53 := by rw [hw1]; exact Bx.new _ (pcs q) 53 _ (by simp)
  have c11 := hbx.cell 11 (.int .i64 p.put) rfl
  have c12 := hbx.cell 12 (.int .i64 p.delay) rfl
  have d11 := hby.cell 11 (.int .i64 q.put) rfl
  have d12 := hby.cell 12 (.int .i64 q.delay) rfl
  have HC := hide (cmp_any (tm p) (tm q) w1)
  have HW : Hid (w1 = grow (w.drewN 0) #[.cells (pcs p).toArray 53, .cells (pcs q).toArray 53]) := by
    show _ = _
    rw [hw1, alloc_eq_grow, alloc_eq_grow, grow_grow]
    rfl
  clear hbx hby
  go_enter Try.func26, Try.ntmps26
  go_upto_region 1 with fail
  change Code.wp _ _ _ _ ((w.alloc (.cells (pcs p).toArray 53)).alloc (.cells (pcs q).toArray 53))
  rw [← hw1]
  clear hw1
  go_wp2_with (go_at_call 35; refine (unhide HC).mono ?_; rintro e w2 ⟨rfl, hw⟩; obtain rfl := hw.symm; clear hw)
  go_ret
  exact ⟨rfl, 0, _, unhide HW⟩
end Go.Proofs.Ytfgelagmjjjlgaa.Nt
