/- Proved here: the contract of net's Put. Helper contract. -/
import Derived.Test.YtfgelagmjjjlgaaZNSd
namespace Go.Proofs.Ytfgelagmjjjlgaa.Nt
open Go.RowKit
set_option maxRecDepth 100000

/-- what is on its way behind a Put -/
def putI (I : List It) (r : Rp) (now pick : Int) : List It :=
  if dr pick 4 = 0 then addI I (r, now + 1) else if dr pick 4 = 2 then addI I (r, now + (2 + dr (dq pick 4) 8)) else if dr pick 4 = 3 then addI (addI I (r, now + 1)) (r, now + (2 + dr (dq pick 4) 8)) else I
set_option maxHeartbeats 8000000 in
theorem put_any (w : World) (B n : Nat) (v : Value) (ps : List Pc) (q : Mq) (now pick : Int) (h : NS w B n v ps) (hq : ∀ w', Fr (fun k => k ∈ fp n v ps) w w' → Rok w' q) (hz : Szs q.r) (h0 : 0 ≤ now) (h1 : now ≤ 1099511627776) :
    Calls Try.prog 15 #[.pointer (some ⟨n, 0, none⟩), .agg (mcs q).toArray, .int .i64 now, .int .i64 pick] w fun e w' => e = .returned (.tuple #[]) ∧ SendIs w B n v ps (putI (ps.map it) q.r now pick) w' := by
  have HR := hide hq
  have HZ := hide hz
  have HS := hide h
  clear hq hz h
  obtain ⟨b, hb⟩ : ∃ b, b = w.heap.size := ⟨_, rfl⟩
  obtain ⟨w1, hw1⟩ : ∃ w1, w1 = w.alloc (.cells (mcs q).toArray 33) := ⟨_, rfl⟩
  have HB1 : Hid (Below w.heap.size w w1) := by show Below _ _ _; rw [hw1]; exact (Below.refl _ _).alloc (Nat.le_refl _) _
  have HX1 : Hid (Bx w1 b (mcs q) 33) := by show Bx _ _ _ _; rw [hw1]; exact Bx.new w (mcs q) 33 b hb
  have hb1 : w.heap.size ≤ b := by omega
  have HRR : Hid (0 ≤ dr pick 4 ∧ dr pick 4 < 4) := dr_range (by decide)
  have HRL : Hid (0 ≤ dr (dq pick 4) 8 ∧ dr (dq pick 4) 8 < 8) := dr_range (by decide)
  have HP : Hid (putI (ps.map it) q.r now pick = if dr pick 4 = 0 then addI (ps.map it) (q.r, now + 1) else if dr pick 4 = 2 then addI (ps.map it) (q.r, now + (2 + dr (dq pick 4) 8)) else if dr pick 4 = 3 then addI (addI (ps.map it) (q.r, now + 1)) (q.r, now + (2 + dr (dq pick 4) 8)) else ps.map it) := rfl
  have HD1 := hide (fun (W : World) => dv_any pick 4 W (by decide) (by decide))
  have HD2 := hide (fun (W : World) => dv_any (dq pick 4) 8 W (by decide) (by decide))
  generalize putI (ps.map it) q.r now pick = I' at HP ⊢
  generalize dr (dq pick 4) 8 = l at HRL HP HD2
  generalize dr pick 4 = f at HRR HP HD1
  generalize dq pick 4 = t at HD1 HD2
  generalize dq t 8 = t2 at HD2
  obtain ⟨hf0, hf4⟩ := unhide HRR
  obtain ⟨hl0, hl8⟩ := unhide HRL
  go_enter Try.func15, Try.ntmps15
  go_upto_region 1 with fail
  change Code.wp _ _ _ _ (w.alloc (.cells (mcs q).toArray 33))
  rw [← hw1, ← hb]
  clear hw1 hb
  go_wp2_with fail
  refine ((unhide HD1) _).mono ?_
  rintro e w2 ⟨rfl, k1, hw2⟩
  have HB2 : Hid (Below w.heap.size w w2) := by show Below _ _ _; rw [hw2]; exact below_drewN (unhide HB1) k1
  have HX2 : Hid (Bx w2 b (mcs q) 33) := by show Bx _ _ _ _; rw [hw2]; exact unhide HX1
  clear hw2 HD1 HB1 HX1
  go_wp2_with fail
  refine ((unhide HD2) _).mono ?_
  rintro e w3 ⟨rfl, k2, hw3⟩
  have HB3 : Hid (Below w.heap.size w w3) := by show Below _ _ _; rw [hw3]; exact below_drewN (unhide HB2) k2
  have HX3 : Hid (Bx w3 b (mcs q) 33) := by show Bx _ _ _ _; rw [hw3]; exact unhide HX2
  clear hw3 HD2 HB2 HX2
  have HS3 := hide ((unhide HS).below (unhide HB3))
  have HR3 := hide ((unhide HR) _ (Fr.of_below (unhide HB3)))
  have HLB : Hid (∀ g ∈ fp n v ps, g < b) := fun g hg => by have := ((unhide HS).lt g hg).2; omega
  have hwl : IntKind.i64.wrap (2 + l) = 2 + l := by rw [IntKind.wrap_i64]; omega
  have hcase : f = 0 ∨ f = 1 ∨ f = 2 ∨ f = 3 := by omega
  rcases hcase with hf | hf | hf | hf
  · subst hf
    rw [if_pos rfl] at HP
    have HC := hide (send_any w3 B n v ps q now 1 (unhide HS3) (unhide HR3) (unhide HZ) h0 h1 (by decide) (by decide))
    go_upto_region 7 with fail
    iterate 4 go_step
    refine wpList_load_mid rfl 33 _ rfl b 0 rfl (mcs q) _ (unhide HX3).range Try.underlying33 rfl rpc_size ?_
    simp only [Act.put, List.setIfInBounds_toArray, List.set_cons_zero, List.set_cons_succ]
    go_wp2_with fail
    refine (unhide HC).mono ?_
    rintro e w4 ⟨rfl, hs⟩
    have HF : Hid (SendIs w B n v ps I' w4) := by rw [unhide HP]; exact SendIs.pre (unhide HB3) hs
    clear hs HC
    go_wp2
    go_end0
    exact ⟨rfl, unhide HF⟩
  · subst hf
    rw [if_neg (by decide), if_neg (by decide), if_neg (by decide)] at HP
    go_wp2
    go_end0
    refine ⟨rfl, v, ps, unhide HS3, Fr.of_below (unhide HB3), fun g hg => .inl hg, (unhide HP).symm⟩
  · subst hf
    rw [if_neg (by decide), if_pos rfl] at HP
    have HC := hide (send_any w3 B n v ps q now (2 + l) (unhide HS3) (unhide HR3) (unhide HZ) h0 h1 (by omega) (by omega))
    go_upto_region 9 with fail
    iterate 4 go_step
    refine wpList_load_mid rfl 33 _ rfl b 0 rfl (mcs q) _ (unhide HX3).range Try.underlying33 rfl rpc_size ?_
    simp only [Act.put, List.setIfInBounds_toArray, List.set_cons_zero, List.set_cons_succ]
    go_wp2_with fail
    refine (unhide HC).mono ?_
    rintro e w4 ⟨rfl, hs⟩
    have HF : Hid (SendIs w B n v ps I' w4) := by rw [unhide HP]; exact SendIs.pre (unhide HB3) hs
    clear hs HC
    go_wp2
    go_end0
    exact ⟨rfl, unhide HF⟩
  · subst hf
    rw [if_neg (by decide), if_neg (by decide), if_pos rfl] at HP
    have HC := hide (send_any w3 B n v ps q now 1 (unhide HS3) (unhide HR3) (unhide HZ) h0 h1 (by decide) (by decide))
    go_upto_region 8 with fail
    iterate 4 go_step
    refine wpList_load_mid rfl 33 _ rfl b 0 rfl (mcs q) _ (unhide HX3).range Try.underlying33 rfl rpc_size ?_
    simp only [Act.put, List.setIfInBounds_toArray, List.set_cons_zero, List.set_cons_succ]
    go_wp2_with fail
    refine (unhide HC).mono ?_
    rintro e w4 ⟨rfl, v1, ps1, hs1, hfr, hex, hit⟩
    have HS4 := hide hs1
    have HX4 : Hid (Bx w4 b (mcs q) 33) := (unhide HX3).fr hfr (fun h => by have := (unhide HLB) b h; omega)
    have HR4 : Hid (Rok w4 q) := (unhide HR) _ ((Fr.of_below (unhide HB3)).trans hfr)
    have HFR := hide hfr
    have HEX := hide hex
    have HIT := hide hit
    clear hs1 hfr hex hit HC
    have HC := hide (send_any w4 B n v1 ps1 q now (2 + l) (unhide HS4) (unhide HR4) (unhide HZ) h0 h1 (by omega) (by omega))
    go_upto_region 9 with fail
    iterate 4 go_step
    refine wpList_load_mid rfl 33 _ rfl b 0 rfl (mcs q) _ (unhide HX4).range Try.underlying33 rfl rpc_size ?_
    simp only [Act.put, List.setIfInBounds_toArray, List.set_cons_zero, List.set_cons_succ]
    go_wp2_with fail
    refine (unhide HC).mono ?_
    rintro e w5 ⟨rfl, hs⟩
    have HF : Hid (SendIs w B n v ps I' w5) := by
      rw [unhide HP, ← unhide HIT]
      exact SendIs.pre (unhide HB3) (SendIs.trans (unhide HFR) (unhide HEX) hs)
    clear hs HC
    go_wp2
    go_end0
    exact ⟨rfl, unhide HF⟩
end Go.Proofs.Ytfgelagmjjjlgaa.Nt
