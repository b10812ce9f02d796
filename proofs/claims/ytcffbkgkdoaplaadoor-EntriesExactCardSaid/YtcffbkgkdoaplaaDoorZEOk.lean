/- Proved here: dovecotelaw15.ok: what it lets pass; wakes. Helper contracts. -/
import Derived.Test.YtcffbkgkdoaplaaDoorZEEq
namespace Go.Proofs.YtcffbkgkdoaplaaDoor.Et
open Go.RowKit Nt
set_option maxRecDepth 100000

/-- what passes 'ok' -/
def OkR (b t : Int) (l : List En) (n1 n2 : Nat) (e : Ending) : Prop := ∃ d, e = .returned (.bool d) ∧ (d = true → May ⟨b, t, l⟩ ∧ n1 < 200 ∧ n2 ≤ 600)
theorem may_lo0 : May lo0 := ⟨⟨by decide, by decide, by decide, by decide⟩, by decide, fun k hk => absurd hk (Nat.not_lt_zero k)⟩
abbrev e1 : En := (1, 1, 0, ⟨#[]⟩)
theorem ap_lo0 : chkR ⟨0, 0, []⟩ (apR ⟨0, 0, []⟩ [e1]) = (0, ⟨0, 0, [e1]⟩) := by
  rw [chkR_ok (L := ⟨0, 0, []⟩) may_lo0]
  unfold apR
  rw [if_pos, if_neg (by decide)]
  · rfl
  · intro k hk
    obtain rfl : k = 0 := by simpa using hk
    exact ⟨rfl, by decide, by decide, by decide, ⟨by decide, by decide⟩, by decide, by decide, by decide⟩
theorem es_one (w : World) : Es (w.alloc (.cells #[.int .i64 1, .int .i64 1, .int .i64 0, .string ⟨#[]⟩] 68)) (some ⟨w.heap.size, 0, none⟩) 1 1 [e1] := by
  refine ⟨rfl, Nat.le_refl _, ⟨by decide, fun e => by cases e⟩, by decide, .inr ⟨w.heap.size, 0, rfl, fun k hk => ?_⟩⟩
  obtain rfl : k = 0 := by simpa using hk
  exact ⟨by simp [en0, e1], by simp [en0, e1], by simp [en0, e1], by simp [en0, e1]⟩
set_option maxHeartbeats 4000000 in
theorem wakes_any (w : World) (hg : Laid w) : Calls Tryd.prog 28 #[] w fun e w' => e = .returned (.bool true) ∧ Below w.heap.size w w' := by
  have HG := hide hg
  clear hg
  have HB0 : Hid (Below w.heap.size w (w.alloc (.cells #[.int .i64 1, .int .i64 1, .int .i64 0, .string ⟨#[]⟩] 68))) := (Below.refl _ _).alloc (Nat.le_refl _) _
  have H1 := hide (es_one w)
  have H0 : Hid (Es (w.alloc (.cells #[.int .i64 1, .int .i64 1, .int .i64 0, .string ⟨#[]⟩] 68)) none 0 0 []) := ⟨rfl, Nat.le_refl _, ⟨by decide, fun _ => rfl⟩, by decide, .inl rfl⟩
  go_enter Tryd.func28, Tryd.ntmps28
  go_wp2_with fail
  refine (appE_any 0 0 none 0 0 [] _ 1 1 [e1] _ (unhide H0) (unhide H1)).mono ?_
  rw [ap_lo0]
  rintro e w2 ⟨⟨E, ao, n, c, rfl, HO, HE⟩, HB2⟩
  have hn : n = 1 := (unhide HO).2.1.symm
  subst hn
  have HB : Hid (Below w.heap.size w w2) := bnx (unhide HB0) (unhide HB2)
  have HBs := (unhide HB).size
  clear HB2
  have hal : Below w2.heap.size w2 (w2.alloc (.cells #[.int .i64 0, .int .i64 0, .slice ao 1 c] 25)) := (Below.refl _ _).alloc (Nat.le_refl _) _
  have HB3 : Hid (Below w.heap.size w (w2.alloc (.cells #[.int .i64 0, .int .i64 0, .slice ao 1 c] 25))) := bnx (unhide HB) hal
  have HE3 := hide ((unhide HE).below hal)
  have HO3 := hide ((unhide HO).below hal)
  have HG3 := hide ((unhide HG).below (unhide HB3) (unhide HG).pos)
  clear hal
  go_wp2_with fail
  refine (num_err E 0 _ (unhide HG3) (unhide HE3).errX).mono ?_
  rintro e w4 ⟨rfl, hb⟩
  have HB4 : Hid (Below w.heap.size w w4) := bnx (unhide HB3) hb
  have HO4 := hide ((unhide HO3).below hb)
  have hw2 : w2.heap.size < w4.heap.size := by have := hb.size; simp at this; omega
  have c0 : w4.cell? ⟨w2.heap.size, 0, none⟩ = some (.int .i64 0) := (hb.cell (by simp)).trans (by simp)
  have c1 : w4.cell? ⟨w2.heap.size, 1, none⟩ = some (.int .i64 0) := (hb.cell (by simp)).trans (by simp)
  have c2 : w4.cell? ⟨w2.heap.size, 2, none⟩ = some (.slice ao 1 c) := (hb.cell (by simp)).trans (by simp)
  have HB5 : Hid (Below w4.heap.size w4 (w4.alloc (.cells #[.int .i64 1, .int .i64 1, .int .i64 0, .string ⟨#[]⟩] 68))) := (Below.refl _ _).alloc (Nat.le_refl _) _
  have H5 := hide (es_one w4)
  clear hb
  go_wp2_with fail
  refine (eqL_same 0 0 _ _ 1 _ _ [e1] _ ((unhide HO4).below (unhide HB5)).es (unhide H5)).mono ?_
  rintro e w6 ⟨rfl, hb⟩
  have HB6 : Hid (Below w.heap.size w w6) := bnx (unhide HB4) (bnx (unhide HB5) hb)
  clear hb
  go_wp2
  go_ret
  exact ⟨rfl, unhide HB6⟩
end Go.Proofs.YtcffbkgkdoaplaaDoor.Et
