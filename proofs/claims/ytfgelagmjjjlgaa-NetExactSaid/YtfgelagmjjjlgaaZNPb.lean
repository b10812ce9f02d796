/- Proved here: the contract of the page's Put. Helper contract. -/
import Derived.Test.YtfgelagmjjjlgaaZNPa
namespace Go.Proofs.Ytfgelagmjjjlgaa.Nt
open Go.RowKit
set_option maxRecDepth 100000

set_option maxHeartbeats 8000000 in
theorem rput_any (w : World) (B r : Nat) (vl va : Value) (qs : List Mq) (ats : List Int) (q : Mq) (now pick : Int) (h : PSx w B r vl va qs ats) (hln : qs.length = ats.length) (hq : ∀ w', Fr (fun k => k ∈ gp r vl va qs) w w' → Rok w' q) (hz : Szs q.r) (h0 : 0 ≤ now) (h1 : now ≤ 1099511627776) :
    Calls Try.prog 18 #[.pointer (some ⟨r, 0, none⟩), .agg (mcs q).toArray, .int .i64 now, .int .i64 pick] w fun e w' => e = .returned (.tuple #[]) ∧ AddIs w B r vl va qs (putI ((qs.map (·.r)).zip ats) q.r now pick) w' := by
  have HR := hide hq
  have HZ := hide hz
  have HS := hide h
  clear hq hz h
  obtain ⟨b, hb⟩ : ∃ b, b = w.heap.size := ⟨_, rfl⟩
  obtain ⟨w1, hw1⟩ : ∃ w1, w1 = w.alloc (.cells (mcs q).toArray 33) := ⟨_, rfl⟩
  have HB1 : Hid (Below w.heap.size w w1) := by show Below _ _ _; rw [hw1]; exact (Below.refl _ _).alloc (Nat.le_refl _) _
  have HX1 : Hid (Bx w1 b (mcs q) 33) := by show Bx _ _ _ _; rw [hw1]; exact Bx.new w (mcs q) 33 b hb
  have hb1 : w.heap.size ≤ b := by omega
  have HRR : Hid (0 ≤ dr pick 4 ∧ dr pick 4 < 4) := dr_range (by decide)
  have HRL : Hid (0 ≤ dr (dq pick 4) 8 ∧ dr (dq pick 4) 8 < 8) := dr_range (by decide)
  generalize hI : (qs.map (·.r)).zip ats = I
  have HI := hide hI
  have HP : Hid (putI I q.r now pick = if dr pick 4 = 0 then addI I (q.r, now + 1) else if dr pick 4 = 2 then addI I (q.r, now + (2 + dr (dq pick 4) 8)) else if dr pick 4 = 3 then addI (addI I (q.r, now + 1)) (q.r, now + (2 + dr (dq pick 4) 8)) else I) := rfl
  have HD1 := hide (fun (W : World) => div_any pick 4 W (by decide) (by decide))
  have HD2 := hide (fun (W : World) => mod_any (dq pick 4) 8 W (by decide) (by decide))
  have HD3 := hide (fun (W : World) => mod_any pick 4 W (by decide) (by decide))
  generalize putI I q.r now pick = I' at HP ⊢
  generalize dr (dq pick 4) 8 = l at HRL HP HD2
  generalize dr pick 4 = f at HRR HP HD3
  generalize dq pick 4 = t at HD1 HD2
  obtain ⟨hf0, hf4⟩ := unhide HRR
  obtain ⟨hl0, hl8⟩ := unhide HRL
  clear hI
  have hwn : IntKind.i64.wrap (now + 1) = now + 1 := by rw [IntKind.wrap_i64]; omega
  have hwl : IntKind.i64.wrap (2 + l) = 2 + l := by rw [IntKind.wrap_i64]; omega
  have hwm : IntKind.i64.wrap (now + (2 + l)) = now + (2 + l) := by rw [IntKind.wrap_i64]; omega
  go_enter Try.func18, Try.ntmps18
  go_upto_region 1 with fail
  change Code.wp _ _ _ _ (w.alloc (.cells (mcs q).toArray 33))
  rw [← hw1, ← hb]
  clear hw1 hb
  go_wp2_with fail
  refine ((unhide HD1) _).mono ?_
  rintro e w2 ⟨rfl, k1, hw2⟩
  have HB2 : Hid (Below w.heap.size w w2) := by show Below _ _ _; rw [hw2]; exact below_drewN (unhide HB1) k1
  have HX2 : Hid (Bx w2 b (mcs q) 33) := by show Bx _ _ _ _; rw [hw2]; exact unhide HX1
  clear hw2 HD1 HB1 HX1
  go_wp2_with fail
  refine ((unhide HD2) _).mono ?_
  rintro e w2b ⟨rfl, k1b, hw2b⟩
  have HB2b : Hid (Below w.heap.size w w2b) := by show Below _ _ _; rw [hw2b]; exact below_drewN (unhide HB2) k1b
  have HX2b : Hid (Bx w2b b (mcs q) 33) := by show Bx _ _ _ _; rw [hw2b]; exact unhide HX2
  clear hw2b HD2 HB2 HX2
  go_wp2_with fail
  refine ((unhide HD3) _).mono ?_
  rintro e w3 ⟨rfl, k2, hw3⟩
  have HB3 : Hid (Below w.heap.size w w3) := by show Below _ _ _; rw [hw3]; exact below_drewN (unhide HB2b) k2
  have HX3 : Hid (Bx w3 b (mcs q) 33) := by show Bx _ _ _ _; rw [hw3]; exact unhide HX2b
  clear hw3 HD3 HB2b HX2b
  have HS3 := hide ((unhide HS).below (unhide HB3))
  have HR3 : Hid (∀ w', Fr (fun k => k ∈ gp r vl va qs) w3 w' → Rok w' q) := fun w' hf => (unhide HR) _ ((Fr.of_below (unhide HB3)).trans hf)
  have HLB : Hid (∀ g ∈ gp r vl va qs, g < b) := fun g hg => by have := ((unhide HS).lt g hg).2; omega
  have hcase : f = 0 ∨ f = 1 ∨ f = 2 ∨ f = 3 := by omega
  rcases hcase with hf | hf | hf | hf
  · subst hf
    rw [if_pos rfl] at HP
    have HC := hide (add_any w3 B r vl va qs ats q (now + 1) (unhide HS3) hln (unhide HR3) (unhide HZ))
    go_upto_region 4 with fail
    iterate 4 go_step
    refine wpList_load_mid rfl 33 _ rfl b 0 rfl (mcs q) _ (unhide HX3).range Try.underlying33 rfl rpc_size ?_
    simp only [Act.put, List.setIfInBounds_toArray, List.set_cons_zero, List.set_cons_succ]
    go_wp2_with fail
    refine (unhide HC).mono ?_
    rintro e w4 ⟨rfl, hs⟩
    rw [unhide HI] at hs
    have HF : Hid (AddIs w B r vl va qs I' w4) := by rw [unhide HP]; exact AddIs.pre (unhide HB3) hs
    clear hs HC
    go_wp2
    go_end0
    exact ⟨rfl, unhide HF⟩
  · subst hf
    rw [if_neg (by decide), if_neg (by decide), if_neg (by decide)] at HP
    go_wp2
    go_end0
    refine ⟨rfl, vl, va, qs, ats, unhide HS3, hln, Fr.of_below (unhide HB3), fun g hg => .inl hg, ?_⟩
    rw [unhide HI, unhide HP]
  · subst hf
    rw [if_neg (by decide), if_pos rfl] at HP
    have HC := hide (add_any w3 B r vl va qs ats q (now + (2 + l)) (unhide HS3) hln (unhide HR3) (unhide HZ))
    go_upto_region 6 with fail
    iterate 4 go_step
    refine wpList_load_mid rfl 33 _ rfl b 0 rfl (mcs q) _ (unhide HX3).range Try.underlying33 rfl rpc_size ?_
    simp only [Act.put, List.setIfInBounds_toArray, List.set_cons_zero, List.set_cons_succ]
    go_wp2_with fail
    refine (unhide HC).mono ?_
    rintro e w4 ⟨rfl, hs⟩
    rw [unhide HI] at hs
    have HF : Hid (AddIs w B r vl va qs I' w4) := by rw [unhide HP]; exact AddIs.pre (unhide HB3) hs
    clear hs HC
    go_wp2
    go_end0
    exact ⟨rfl, unhide HF⟩
  · subst hf
    rw [if_neg (by decide), if_neg (by decide), if_pos rfl] at HP
    have HC := hide (add_any w3 B r vl va qs ats q (now + 1) (unhide HS3) hln (unhide HR3) (unhide HZ))
    go_upto_region 8 with fail
    iterate 4 go_step
    refine wpList_load_mid rfl 33 _ rfl b 0 rfl (mcs q) _ (unhide HX3).range Try.underlying33 rfl rpc_size ?_
    simp only [Act.put, List.setIfInBounds_toArray, List.set_cons_zero, List.set_cons_succ]
    go_wp2_with fail
    refine (unhide HC).mono ?_
    rintro e w4 ⟨rfl, vl1, va1, qs1, ats1, hs1, hl1, hfr, hex, hit⟩
    rw [unhide HI] at hit
    have HS4 := hide hs1
    have HX4 : Hid (Bx w4 b (mcs q) 33) := (unhide HX3).fr hfr (fun h => by have := (unhide HLB) b h; omega)
    have HR4 : Hid (∀ w', Fr (fun k => k ∈ gp r vl1 va1 qs1) w4 w' → Rok w' q) := fun w' hf => (unhide HR3) _ (hfr.trans' hf (fun i hi hg => by
      rcases hex i hg with e | e
      · exact e
      · omega))
    have HFR := hide hfr
    have HEX := hide hex
    have HIT := hide hit
    clear hs1 hfr hex hit HC
    have HC := hide (add_any w4 B r vl1 va1 qs1 ats1 q (now + (2 + l)) (unhide HS4) hl1 (unhide HR4) (unhide HZ))
    go_upto_region 9 with fail
    iterate 4 go_step
    refine wpList_load_mid rfl 33 _ rfl b 0 rfl (mcs q) _ (unhide HX4).range Try.underlying33 rfl rpc_size ?_
    simp only [Act.put, List.setIfInBounds_toArray, List.set_cons_zero, List.set_cons_succ]
    go_wp2_with fail
    refine (unhide HC).mono ?_
    rintro e w5 ⟨rfl, hs⟩
    have HF : Hid (AddIs w B r vl va qs I' w5) := by
      rw [unhide HP, ← unhide HIT]
      exact AddIs.pre (unhide HB3) (AddIs.trans (unhide HFR) (unhide HEX) hs)
    clear hs HC
    go_wp2
    go_end0
    exact ⟨rfl, unhide HF⟩
end Go.Proofs.Ytfgelagmjjjlgaa.Nt
