/- Proved here: entries.has: whether a log that may be has an entry, or its base, of an index and a term. Helper contracts. -/
import Derived.Test.YtcffbkgkdoaplaaDoorZEAp
namespace Go.Proofs.YtcffbkgkdoaplaaDoor.Et
open Go.RowKit Nt
set_option maxRecDepth 100000

theorem eqNil8 (m : Int) (w : World) : (binOp .eql 43 .nilIface (.iface 71 (.int .i64 m))).run Tryd.prog w = .ok (.bool false) w := by kernel_rfl
theorem isnil8 (m : Int) (w : World) : Calls Tryd.prog 55 #[.nilIface, .iface 71 (.int .i64 m)] w fun e w' => e = .returned (.bool false) ∧ w' = w := by
  have q := eqNil8
  go_enter Tryd.func55, Tryd.ntmps55
  go_wp2
  go_ret
  exact ⟨rfl, rfl⟩
theorem is8 (w : World) : Calls Tryd.prog 55 #[.iface 71 (.int .i64 8), .iface 71 (.int .i64 8)] w fun e w' => e = .returned (.bool true) ∧ w' = w := by
  refine (er_Is 0 (by omega) (.iface 71 (.int .i64 8)) 8 8 w rfl).mono ?_
  rintro e w' ⟨rfl, rfl⟩
  exact ⟨rfl, rfl⟩
set_option maxHeartbeats 4000000 in
theorem has_any (b t : Int) (ao : Option Addr) (n cap : Nat) (l : List En) (i u : Int) (w : World) (h : Es w ao n cap l) (hm : May ⟨b, t, l⟩) :
    Calls Tryd.prog 48 #[.agg #[.int .i64 b, .int .i64 t, .slice ao n cap], .int .i64 i, .int .i64 u] w fun e w' => e = .returned (.bool (decide (termAt ⟨b, t, l⟩ i = some u))) ∧ Below w.heap.size w w' := by
  have HB0 : Hid (Below w.heap.size w (w.alloc (.cells #[.int .i64 b, .int .i64 t, .slice ao n cap] 25))) := (Below.refl _ _).alloc (Nat.le_refl _) _
  have HE := hide (h.below (unhide HB0))
  have HM := hide hm
  obtain ⟨d, hd⟩ : ∃ d, d = termAt ⟨b, t, l⟩ i := ⟨_, rfl⟩
  have HD := hide hd
  rw [← hd]
  clear hd hm h
  rcases d with _ | y
  · go_enter Tryd.func48, Tryd.ntmps48
    go_wp2_with fail
    refine (termAt_any b t ao n cap l i _ (unhide HE) (unhide HM)).mono ?_
    rw [← unhide HD]
    rintro e w2 ⟨rfl, hb⟩
    have HB : Hid (Below w.heap.size w w2) := bnx (unhide HB0) hb
    clear hb
    unfold tmRes
    go_wp2_with fail
    refine (is8 w2).mono ?_
    rintro e w3 ⟨rfl, hw⟩
    obtain rfl := hw.symm
    go_wp2
    go_ret
    exact ⟨ret_bool (decide_eq_false (by simp)).symm, unhide HB⟩
  · by_cases hy : y = u
    · subst hy
      go_enter Tryd.func48, Tryd.ntmps48
      go_wp2_with fail
      refine (termAt_any b t ao n cap l i _ (unhide HE) (unhide HM)).mono ?_
      rw [← unhide HD]
      rintro e w2 ⟨rfl, hb⟩
      have HB : Hid (Below w.heap.size w w2) := bnx (unhide HB0) hb
      clear hb
      unfold tmRes
      go_wp2_with fail
      refine (isnil8 8 w2).mono ?_
      rintro e w3 ⟨rfl, hw⟩
      obtain rfl := hw.symm
      go_wp2
      go_ret
      exact ⟨ret_bool (by simp), unhide HB⟩
    · have hyd : (y == u) = false := beq_eq_false_iff_ne.2 hy
      have HF : Hid (false = decide (some y = some u)) := (decide_eq_false (fun e => hy (Option.some.inj e))).symm
      go_enter Tryd.func48, Tryd.ntmps48
      go_wp2_with fail
      refine (termAt_any b t ao n cap l i _ (unhide HE) (unhide HM)).mono ?_
      rw [← unhide HD]
      rintro e w2 ⟨rfl, hb⟩
      have HB : Hid (Below w.heap.size w w2) := bnx (unhide HB0) hb
      clear hb
      unfold tmRes
      go_wp2_with fail
      refine (isnil8 8 w2).mono ?_
      rintro e w3 ⟨rfl, hw⟩
      obtain rfl := hw.symm
      go_wp2
      go_ret
      exact ⟨ret_bool (unhide HF), unhide HB⟩
end Go.Proofs.YtcffbkgkdoaplaaDoor.Et
