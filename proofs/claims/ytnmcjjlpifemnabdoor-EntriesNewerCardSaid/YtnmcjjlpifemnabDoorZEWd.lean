/- Proved here: the walk of dovecotelaw15.EntriesNewer: whatever logs it is handed, it returns true. Helper contract. -/
import Derived.Test.YtnmcjjlpifemnabDoorZEOk
import Derived.Test.YtnmcjjlpifemnabDoorZEPu
namespace Go.Proofs.YtnmcjjlpifemnabDoor.Et
open Go.RowKit Nt
set_option maxRecDepth 100000

set_option maxHeartbeats 8000000 in
theorem newer15_walk (g off len cap : Nat) (f : Nat → Ak) (w : World) (hg : Laid w) (ha : AksIn w g off f len) :
    Calls Tryd.prog 6 #[.slice (some ⟨g, off, none⟩) len cap] w fun e w' => e = .returned (.bool true) ∧ Below w.heap.size w w' := by
  have HA := hide ha
  have HG := hide hg
  clear ha hg
  go_enter Tryd.func6, Tryd.ntmps6
  go_wp2
  go_loopw [3] (fun ii wr => ∃ k : Nat, k ≤ 8 ∧ ii = .int .i64 k ∧ Hid (Below w.heap.size w wr)) (fun ii _ => len - (intOf ii).toNat)
  case atStart => exact ⟨0, Nat.zero_le _, rfl, Below.refl _ _⟩
  case round =>
    obtain ⟨k, hk, rfl, HB⟩ := hrel
    by_cases h8 : k + 1 < len ∧ k < 8
    · obtain ⟨hlt, h8⟩ := h8
      obtain ⟨⟨q0, q1, q2, q3, q4, q5, q6⟩, hl1, hl2⟩ := (unhide HA) k (by omega)
      generalize f k = ak at q0 q1 q2 q3 q4 q5 q6 hl1 hl2
      obtain ⟨b, t, ⟨a1, n1, p1⟩, l1, i, tt, ⟨a2, n2, p2⟩, l2, kk⟩ := ak
      dsimp only at q0 q1 q2 q3 q4 q5 q6 hl1 hl2
      have HC : Hid (∀ W, Below w.heap.size w W → W.cell? ⟨g, off + k * 7, none⟩ = some (.int .i64 b) ∧ W.cell? ⟨g, off + k * 7 + 1, none⟩ = some (.int .i64 t) ∧ W.cell? ⟨g, off + k * 7 + 2, none⟩ = some (.slice a1 n1 p1) ∧ W.cell? ⟨g, off + k * 7 + 3, none⟩ = some (.int .i64 i) ∧ W.cell? ⟨g, off + k * 7 + 4, none⟩ = some (.int .i64 tt) ∧ W.cell? ⟨g, off + k * 7 + 5, none⟩ = some (.slice a2 n2 p2) ∧ W.cell? ⟨g, off + k * 7 + 6, none⟩ = some (.int .i64 kk)) := fun W hW =>
        ⟨(hW.cell (p := ⟨g, off + k * 7, none⟩) (cell_lt q0)).trans q0, (hW.cell (p := ⟨g, off + k * 7 + 1, none⟩) (cell_lt q1)).trans q1, (hW.cell (p := ⟨g, off + k * 7 + 2, none⟩) (cell_lt q2)).trans q2, (hW.cell (p := ⟨g, off + k * 7 + 3, none⟩) (cell_lt q3)).trans q3, (hW.cell (p := ⟨g, off + k * 7 + 4, none⟩) (cell_lt q4)).trans q4, (hW.cell (p := ⟨g, off + k * 7 + 5, none⟩) (cell_lt q5)).trans q5, (hW.cell (p := ⟨g, off + k * 7 + 6, none⟩) (cell_lt q6)).trans q6⟩
      have H1 := hide hl1
      have H2 := hide hl2
      have hn1 := hl1.2.2.2.1
      clear q0 q1 q2 q3 q4 q5 q6 hl1 hl2
      obtain ⟨⟨q0, q1, q2, q3, q4, q5, q6⟩, hl1, hl2⟩ := (unhide HA) (k + 1) hlt
      generalize f (k + 1) = ak at q0 q1 q2 q3 q4 q5 q6 hl1 hl2
      obtain ⟨b2, t2, ⟨a3, n3, p3⟩, l3, i2, tt2, ⟨a4, n4, p4⟩, l4, kk2⟩ := ak
      dsimp only at q0 q1 q2 q3 q4 q5 q6 hl1 hl2
      have HC2 : Hid (∀ W, Below w.heap.size w W → W.cell? ⟨g, off + (k + 1) * 7, none⟩ = some (.int .i64 b2) ∧ W.cell? ⟨g, off + (k + 1) * 7 + 1, none⟩ = some (.int .i64 t2) ∧ W.cell? ⟨g, off + (k + 1) * 7 + 2, none⟩ = some (.slice a3 n3 p3) ∧ W.cell? ⟨g, off + (k + 1) * 7 + 3, none⟩ = some (.int .i64 i2) ∧ W.cell? ⟨g, off + (k + 1) * 7 + 4, none⟩ = some (.int .i64 tt2) ∧ W.cell? ⟨g, off + (k + 1) * 7 + 5, none⟩ = some (.slice a4 n4 p4) ∧ W.cell? ⟨g, off + (k + 1) * 7 + 6, none⟩ = some (.int .i64 kk2)) := fun W hW =>
        ⟨(hW.cell (p := ⟨g, off + (k + 1) * 7, none⟩) (cell_lt q0)).trans q0, (hW.cell (p := ⟨g, off + (k + 1) * 7 + 1, none⟩) (cell_lt q1)).trans q1, (hW.cell (p := ⟨g, off + (k + 1) * 7 + 2, none⟩) (cell_lt q2)).trans q2, (hW.cell (p := ⟨g, off + (k + 1) * 7 + 3, none⟩) (cell_lt q3)).trans q3, (hW.cell (p := ⟨g, off + (k + 1) * 7 + 4, none⟩) (cell_lt q4)).trans q4, (hW.cell (p := ⟨g, off + (k + 1) * 7 + 5, none⟩) (cell_lt q5)).trans q5, (hW.cell (p := ⟨g, off + (k + 1) * 7 + 6, none⟩) (cell_lt q6)).trans q6⟩
      have H3 := hide hl1
      have H4 := hide hl2
      have hn3 := hl1.2.2.2.1
      clear q0 q1 q2 q3 q4 q5 q6 hl1 hl2
      have hwk : IntKind.i64.wrap ((k : Int) + 1) = (k : Int) + 1 := by rw [IntKind.wrap_i64]; omega
      obtain ⟨q0, q1, q2, q3, q4, q5, q6⟩ := (unhide HC) _ (unhide HB)
      go_wp2_with fail
      refine (ok_any b t i tt kk a1 a2 n1 p1 n2 p2 l1 l2 _ ((unhide H1).below (unhide HB)) ((unhide H2).below (unhide HB))).mono ?_
      rintro e w1 ⟨⟨d, rfl, hd⟩, hb⟩
      have HB1 : Hid (Below w.heap.size w w1) := bnx (unhide HB) hb
      clear hb q0 q1 q2 q3 q4 q5 q6
      cases d
      · clear hd
        go_wp2
        go_roundw
        case rel => exact ⟨k + 1, by omega, by go_num, HB1⟩
        case measure => simp [intOf]; omega
      · obtain ⟨hm, hn2, _⟩ := hd rfl
        clear hd
        have HM := hide hm
        clear hm
        obtain ⟨q0, q1, q2, q3, q4, q5, q6⟩ := (unhide HC) _ (unhide HB1)
        obtain ⟨r0, r1, r2, r3, r4, r5, r6⟩ := (unhide HC2) _ (unhide HB1)
        go_wp2_with fail
        refine (ok_any b2 t2 i2 tt2 kk2 a3 a4 n3 p3 n4 p4 l3 l4 _ ((unhide H3).below (unhide HB1)) ((unhide H4).below (unhide HB1))).mono ?_
        rintro e w2 ⟨⟨d, rfl, hd⟩, hb⟩
        have HB2 : Hid (Below w.heap.size w w2) := bnx (unhide HB1) hb
        clear hb q0 q1 q2 q3 q4 q5 q6 r0 r1 r2 r3 r4 r5 r6
        cases d
        · clear hd
          go_wp2
          go_roundw
          case rel => exact ⟨k + 1, by omega, by go_num, HB2⟩
          case measure => simp [intOf]; omega
        · obtain ⟨hm, hn4, _⟩ := hd rfl
          clear hd
          have HM2 := hide hm
          clear hm
          obtain ⟨I1, hI1⟩ : ∃ z, z = lastI ⟨b, t, l1⟩ := ⟨_, rfl⟩
          obtain ⟨T1, hT1⟩ : ∃ z, z = lastT ⟨b, t, l1⟩ := ⟨_, rfl⟩
          obtain ⟨I2, hI2⟩ : ∃ z, z = lastI ⟨b2, t2, l3⟩ := ⟨_, rfl⟩
          obtain ⟨T2, hT2⟩ : ∃ z, z = lastT ⟨b2, t2, l3⟩ := ⟨_, rfl⟩
          have HR1 : Hid (lastR ⟨b, t, l1⟩ = (0, I1, T1)) := by rw [hI1, hT1]; exact lastR_ok (unhide HM)
          have HR2 : Hid (lastR ⟨b2, t2, l3⟩ = (0, I2, T2)) := by rw [hI2, hT2]; exact lastR_ok (unhide HM2)
          have HN1 : Hid (∀ x : Bool, (T1 < T2 ∧ x = true ∨ ¬ T1 < T2 ∧ T2 = T1 ∧ x = decide (I1 ≤ I2) ∨ ¬ T1 < T2 ∧ ¬ T2 = T1 ∧ x = false) → newR ⟨b, t, l1⟩ I2 T2 = (0, x)) := fun x hx => by
            rw [newR_ok (unhide HM), newB_eq (d := x) (by rw [← hI1, ← hT1]; exact hx)]
          have HN2 : Hid (∀ x : Bool, (T2 < T1 ∧ x = true ∨ ¬ T2 < T1 ∧ T1 = T2 ∧ x = decide (I2 ≤ I1) ∨ ¬ T2 < T1 ∧ ¬ T1 = T2 ∧ x = false) → newR ⟨b2, t2, l3⟩ I1 T1 = (0, x)) := fun x hx => by
            rw [newR_ok (unhide HM2), newB_eq (d := x) (by rw [← hI2, ← hT2]; exact hx)]
          clear hI1 hT1 hI2 hT2
          by_cases h1 : T1 < T2
          · have HX : Hid (newR ⟨b, t, l1⟩ I2 T2 = (0, true)) := unhide HN1 _ (.inl ⟨h1, rfl⟩)
            have HY : Hid (newR ⟨b2, t2, l3⟩ I1 T1 = (0, false)) := unhide HN2 _ (.inr (.inr ⟨by omega, by omega, rfl⟩))
            clear HN1 HN2
            have e1 : decide (T2 > T1) = true := decide_eq_true h1
            clear h1
            obtain ⟨q0, q1, q2, q3, q4, q5, q6⟩ := (unhide HC) _ (unhide HB2)
            obtain ⟨r0, r1, r2, r3, r4, r5, r6⟩ := (unhide HC2) _ (unhide HB2)
            go_wp2_with fail
            refine (lastE_any b t a1 n1 p1 l1 _ ((unhide H1).below (unhide HB2))).mono ?_
            rw [unhide HR1]
            rintro e w3 ⟨E1, rfl, HE1, HBa⟩
            have HB3 : Hid (Below w.heap.size w w3) := bnx (unhide HB2) (unhide HBa)
            clear HBa q0 q1 q2 q3 q4 q5 q6 r0 r1 r2 r3 r4 r5 r6
            obtain ⟨q0, q1, q2, q3, q4, q5, q6⟩ := (unhide HC) _ (unhide HB3)
            obtain ⟨r0, r1, r2, r3, r4, r5, r6⟩ := (unhide HC2) _ (unhide HB3)
            go_wp2_with fail
            refine (lastE_any b2 t2 a3 n3 p3 l3 _ ((unhide H3).below (unhide HB3))).mono ?_
            rw [unhide HR2]
            rintro e w4 ⟨E2, rfl, HE2, HBa⟩
            have HB4 : Hid (Below w.heap.size w w4) := bnx (unhide HB3) (unhide HBa)
            have HE14 := hide ((unhide HE1).below (unhide HBa))
            clear HBa HE1 q0 q1 q2 q3 q4 q5 q6 r0 r1 r2 r3 r4 r5 r6
            obtain ⟨q0, q1, q2, q3, q4, q5, q6⟩ := (unhide HC) _ (unhide HB4)
            obtain ⟨r0, r1, r2, r3, r4, r5, r6⟩ := (unhide HC2) _ (unhide HB4)
            go_wp2_with fail
            refine (newE_any b t a1 n1 p1 l1 _ _ _ ((unhide H1).below (unhide HB4))).mono ?_
            rw [unhide HX]
            rintro e w5 ⟨E3, rfl, HE3, HBa⟩
            have HB5 : Hid (Below w.heap.size w w5) := bnx (unhide HB4) (unhide HBa)
            have HE15 := hide ((unhide HE14).below (unhide HBa))
            have HE25 := hide ((unhide HE2).below (unhide HBa))
            clear HBa HE14 HE2 q0 q1 q2 q3 q4 q5 q6 r0 r1 r2 r3 r4 r5 r6
            obtain ⟨q0, q1, q2, q3, q4, q5, q6⟩ := (unhide HC) _ (unhide HB5)
            obtain ⟨r0, r1, r2, r3, r4, r5, r6⟩ := (unhide HC2) _ (unhide HB5)
            go_wp2_with fail
            refine (newE_any b2 t2 a3 n3 p3 l3 _ _ _ ((unhide H3).below (unhide HB5))).mono ?_
            rw [unhide HY]
            rintro e w6 ⟨E4, rfl, HE4, HBa⟩
            have HB6 : Hid (Below w.heap.size w w6) := bnx (unhide HB5) (unhide HBa)
            have HE16 := hide ((unhide HE15).below (unhide HBa))
            have HE26 := hide ((unhide HE25).below (unhide HBa))
            have HE36 := hide ((unhide HE3).below (unhide HBa))
            clear HBa HE15 HE25 HE3 q0 q1 q2 q3 q4 q5 q6 r0 r1 r2 r3 r4 r5 r6
            go_wp2_with fail
            refine (num_err E1 0 _ ((unhide HG).below (unhide HB6) (unhide HG).pos) (unhide HE16)).mono ?_
            rintro e w7 ⟨rfl, hb⟩
            have HB7 : Hid (Below w.heap.size w w7) := bnx (unhide HB6) hb
            have HE27 := hide ((unhide HE26).below hb)
            have HE37 := hide ((unhide HE36).below hb)
            have HE47 := hide ((unhide HE4).below hb)
            clear hb HE16 HE26 HE36 HE4
            go_wp2_with fail
            refine (num_err E2 0 _ ((unhide HG).below (unhide HB7) (unhide HG).pos) (unhide HE27)).mono ?_
            rintro e w8 ⟨rfl, hb⟩
            have HB8 : Hid (Below w.heap.size w w8) := bnx (unhide HB7) hb
            have HE38 := hide ((unhide HE37).below hb)
            have HE48 := hide ((unhide HE47).below hb)
            clear hb HE27 HE37 HE47
            go_wp2_with fail
            refine (num_err E3 0 _ ((unhide HG).below (unhide HB8) (unhide HG).pos) (unhide HE38)).mono ?_
            rintro e w9 ⟨rfl, hb⟩
            have HB9 : Hid (Below w.heap.size w w9) := bnx (unhide HB8) hb
            have HE49 := hide ((unhide HE48).below hb)
            clear hb HE38 HE48
            go_wp2_with fail
            refine (num_err E4 0 _ ((unhide HG).below (unhide HB9) (unhide HG).pos) (unhide HE49)).mono ?_
            rintro e wa ⟨rfl, hb⟩
            have HBa : Hid (Below w.heap.size w wa) := bnx (unhide HB9) hb
            clear hb HE49
            go_wp2
            go_roundw
            case rel => exact ⟨k + 1, by omega, by go_num, HBa⟩
            case measure => simp [intOf]; omega
          · by_cases h2 : T2 = T1
            · by_cases h3 : I1 ≤ I2
              · by_cases h4 : I2 ≤ I1
                · have HX : Hid (newR ⟨b, t, l1⟩ I2 T2 = (0, true)) := unhide HN1 _ (.inr (.inl ⟨h1, h2, (decide_eq_true h3).symm⟩))
                  have HY : Hid (newR ⟨b2, t2, l3⟩ I1 T1 = (0, true)) := unhide HN2 _ (.inr (.inl ⟨by omega, h2.symm, (decide_eq_true h4).symm⟩))
                  clear HN1 HN2
                  have h5 : I2 = I1 := by omega
                  subst h2 h5
                  clear h1 h3 h4
                  obtain ⟨q0, q1, q2, q3, q4, q5, q6⟩ := (unhide HC) _ (unhide HB2)
                  obtain ⟨r0, r1, r2, r3, r4, r5, r6⟩ := (unhide HC2) _ (unhide HB2)
                  go_wp2_with fail
                  refine (lastE_any b t a1 n1 p1 l1 _ ((unhide H1).below (unhide HB2))).mono ?_
                  rw [unhide HR1]
                  rintro e w3 ⟨E1, rfl, HE1, HBa⟩
                  have HB3 : Hid (Below w.heap.size w w3) := bnx (unhide HB2) (unhide HBa)
                  clear HBa q0 q1 q2 q3 q4 q5 q6 r0 r1 r2 r3 r4 r5 r6
                  obtain ⟨q0, q1, q2, q3, q4, q5, q6⟩ := (unhide HC) _ (unhide HB3)
                  obtain ⟨r0, r1, r2, r3, r4, r5, r6⟩ := (unhide HC2) _ (unhide HB3)
                  go_wp2_with fail
                  refine (lastE_any b2 t2 a3 n3 p3 l3 _ ((unhide H3).below (unhide HB3))).mono ?_
                  rw [unhide HR2]
                  rintro e w4 ⟨E2, rfl, HE2, HBa⟩
                  have HB4 : Hid (Below w.heap.size w w4) := bnx (unhide HB3) (unhide HBa)
                  have HE14 := hide ((unhide HE1).below (unhide HBa))
                  clear HBa HE1 q0 q1 q2 q3 q4 q5 q6 r0 r1 r2 r3 r4 r5 r6
                  obtain ⟨q0, q1, q2, q3, q4, q5, q6⟩ := (unhide HC) _ (unhide HB4)
                  obtain ⟨r0, r1, r2, r3, r4, r5, r6⟩ := (unhide HC2) _ (unhide HB4)
                  go_wp2_with fail
                  refine (newE_any b t a1 n1 p1 l1 _ _ _ ((unhide H1).below (unhide HB4))).mono ?_
                  rw [unhide HX]
                  rintro e w5 ⟨E3, rfl, HE3, HBa⟩
                  have HB5 : Hid (Below w.heap.size w w5) := bnx (unhide HB4) (unhide HBa)
                  have HE15 := hide ((unhide HE14).below (unhide HBa))
                  have HE25 := hide ((unhide HE2).below (unhide HBa))
                  clear HBa HE14 HE2 q0 q1 q2 q3 q4 q5 q6 r0 r1 r2 r3 r4 r5 r6
                  obtain ⟨q0, q1, q2, q3, q4, q5, q6⟩ := (unhide HC) _ (unhide HB5)
                  obtain ⟨r0, r1, r2, r3, r4, r5, r6⟩ := (unhide HC2) _ (unhide HB5)
                  go_wp2_with fail
                  refine (newE_any b2 t2 a3 n3 p3 l3 _ _ _ ((unhide H3).below (unhide HB5))).mono ?_
                  rw [unhide HY]
                  rintro e w6 ⟨E4, rfl, HE4, HBa⟩
                  have HB6 : Hid (Below w.heap.size w w6) := bnx (unhide HB5) (unhide HBa)
                  have HE16 := hide ((unhide HE15).below (unhide HBa))
                  have HE26 := hide ((unhide HE25).below (unhide HBa))
                  have HE36 := hide ((unhide HE3).below (unhide HBa))
                  clear HBa HE15 HE25 HE3 q0 q1 q2 q3 q4 q5 q6 r0 r1 r2 r3 r4 r5 r6
                  go_wp2_with fail
                  refine (num_err E1 0 _ ((unhide HG).below (unhide HB6) (unhide HG).pos) (unhide HE16)).mono ?_
                  rintro e w7 ⟨rfl, hb⟩
                  have HB7 : Hid (Below w.heap.size w w7) := bnx (unhide HB6) hb
                  have HE27 := hide ((unhide HE26).below hb)
                  have HE37 := hide ((unhide HE36).below hb)
                  have HE47 := hide ((unhide HE4).below hb)
                  clear hb HE16 HE26 HE36 HE4
                  go_wp2_with fail
                  refine (num_err E2 0 _ ((unhide HG).below (unhide HB7) (unhide HG).pos) (unhide HE27)).mono ?_
                  rintro e w8 ⟨rfl, hb⟩
                  have HB8 : Hid (Below w.heap.size w w8) := bnx (unhide HB7) hb
                  have HE38 := hide ((unhide HE37).below hb)
                  have HE48 := hide ((unhide HE47).below hb)
                  clear hb HE27 HE37 HE47
                  go_wp2_with fail
                  refine (num_err E3 0 _ ((unhide HG).below (unhide HB8) (unhide HG).pos) (unhide HE38)).mono ?_
                  rintro e w9 ⟨rfl, hb⟩
                  have HB9 : Hid (Below w.heap.size w w9) := bnx (unhide HB8) hb
                  have HE49 := hide ((unhide HE48).below hb)
                  clear hb HE38 HE48
                  go_wp2_with fail
                  refine (num_err E4 0 _ ((unhide HG).below (unhide HB9) (unhide HG).pos) (unhide HE49)).mono ?_
                  rintro e wa ⟨rfl, hb⟩
                  have HBa : Hid (Below w.heap.size w wa) := bnx (unhide HB9) hb
                  clear hb HE49
                  go_wp2
                  go_roundw
                  case rel => exact ⟨k + 1, by omega, by go_num, HBa⟩
                  case measure => simp [intOf]; omega
                · have HX : Hid (newR ⟨b, t, l1⟩ I2 T2 = (0, true)) := unhide HN1 _ (.inr (.inl ⟨h1, h2, (decide_eq_true h3).symm⟩))
                  have HY : Hid (newR ⟨b2, t2, l3⟩ I1 T1 = (0, false)) := unhide HN2 _ (.inr (.inl ⟨by omega, h2.symm, (decide_eq_false h4).symm⟩))
                  clear HN1 HN2
                  subst h2
                  clear h1
                  have e3 : decide (I2 ≥ I1) = true := decide_eq_true h3
                  obtain ⟨q0, q1, q2, q3, q4, q5, q6⟩ := (unhide HC) _ (unhide HB2)
                  obtain ⟨r0, r1, r2, r3, r4, r5, r6⟩ := (unhide HC2) _ (unhide HB2)
                  go_wp2_with fail
                  refine (lastE_any b t a1 n1 p1 l1 _ ((unhide H1).below (unhide HB2))).mono ?_
                  rw [unhide HR1]
                  rintro e w3 ⟨E1, rfl, HE1, HBa⟩
                  have HB3 : Hid (Below w.heap.size w w3) := bnx (unhide HB2) (unhide HBa)
                  clear HBa q0 q1 q2 q3 q4 q5 q6 r0 r1 r2 r3 r4 r5 r6
                  obtain ⟨q0, q1, q2, q3, q4, q5, q6⟩ := (unhide HC) _ (unhide HB3)
                  obtain ⟨r0, r1, r2, r3, r4, r5, r6⟩ := (unhide HC2) _ (unhide HB3)
                  go_wp2_with fail
                  refine (lastE_any b2 t2 a3 n3 p3 l3 _ ((unhide H3).below (unhide HB3))).mono ?_
                  rw [unhide HR2]
                  rintro e w4 ⟨E2, rfl, HE2, HBa⟩
                  have HB4 : Hid (Below w.heap.size w w4) := bnx (unhide HB3) (unhide HBa)
                  have HE14 := hide ((unhide HE1).below (unhide HBa))
                  clear HBa HE1 q0 q1 q2 q3 q4 q5 q6 r0 r1 r2 r3 r4 r5 r6
                  obtain ⟨q0, q1, q2, q3, q4, q5, q6⟩ := (unhide HC) _ (unhide HB4)
                  obtain ⟨r0, r1, r2, r3, r4, r5, r6⟩ := (unhide HC2) _ (unhide HB4)
                  go_wp2_with fail
                  refine (newE_any b t a1 n1 p1 l1 _ _ _ ((unhide H1).below (unhide HB4))).mono ?_
                  rw [unhide HX]
                  rintro e w5 ⟨E3, rfl, HE3, HBa⟩
                  have HB5 : Hid (Below w.heap.size w w5) := bnx (unhide HB4) (unhide HBa)
                  have HE15 := hide ((unhide HE14).below (unhide HBa))
                  have HE25 := hide ((unhide HE2).below (unhide HBa))
                  clear HBa HE14 HE2 q0 q1 q2 q3 q4 q5 q6 r0 r1 r2 r3 r4 r5 r6
                  obtain ⟨q0, q1, q2, q3, q4, q5, q6⟩ := (unhide HC) _ (unhide HB5)
                  obtain ⟨r0, r1, r2, r3, r4, r5, r6⟩ := (unhide HC2) _ (unhide HB5)
                  go_wp2_with fail
                  refine (newE_any b2 t2 a3 n3 p3 l3 _ _ _ ((unhide H3).below (unhide HB5))).mono ?_
                  rw [unhide HY]
                  rintro e w6 ⟨E4, rfl, HE4, HBa⟩
                  have HB6 : Hid (Below w.heap.size w w6) := bnx (unhide HB5) (unhide HBa)
                  have HE16 := hide ((unhide HE15).below (unhide HBa))
                  have HE26 := hide ((unhide HE25).below (unhide HBa))
                  have HE36 := hide ((unhide HE3).below (unhide HBa))
                  clear HBa HE15 HE25 HE3 q0 q1 q2 q3 q4 q5 q6 r0 r1 r2 r3 r4 r5 r6
                  go_wp2_with fail
                  refine (num_err E1 0 _ ((unhide HG).below (unhide HB6) (unhide HG).pos) (unhide HE16)).mono ?_
                  rintro e w7 ⟨rfl, hb⟩
                  have HB7 : Hid (Below w.heap.size w w7) := bnx (unhide HB6) hb
                  have HE27 := hide ((unhide HE26).below hb)
                  have HE37 := hide ((unhide HE36).below hb)
                  have HE47 := hide ((unhide HE4).below hb)
                  clear hb HE16 HE26 HE36 HE4
                  go_wp2_with fail
                  refine (num_err E2 0 _ ((unhide HG).below (unhide HB7) (unhide HG).pos) (unhide HE27)).mono ?_
                  rintro e w8 ⟨rfl, hb⟩
                  have HB8 : Hid (Below w.heap.size w w8) := bnx (unhide HB7) hb
                  have HE38 := hide ((unhide HE37).below hb)
                  have HE48 := hide ((unhide HE47).below hb)
                  clear hb HE27 HE37 HE47
                  go_wp2_with fail
                  refine (num_err E3 0 _ ((unhide HG).below (unhide HB8) (unhide HG).pos) (unhide HE38)).mono ?_
                  rintro e w9 ⟨rfl, hb⟩
                  have HB9 : Hid (Below w.heap.size w w9) := bnx (unhide HB8) hb
                  have HE49 := hide ((unhide HE48).below hb)
                  clear hb HE38 HE48
                  go_wp2_with fail
                  refine (num_err E4 0 _ ((unhide HG).below (unhide HB9) (unhide HG).pos) (unhide HE49)).mono ?_
                  rintro e wa ⟨rfl, hb⟩
                  have HBa : Hid (Below w.heap.size w wa) := bnx (unhide HB9) hb
                  clear hb HE49
                  go_wp2
                  go_roundw
                  case rel => exact ⟨k + 1, by omega, by go_num, HBa⟩
                  case measure => simp [intOf]; omega
              · have HX : Hid (newR ⟨b, t, l1⟩ I2 T2 = (0, false)) := unhide HN1 _ (.inr (.inl ⟨h1, h2, (decide_eq_false h3).symm⟩))
                have HY : Hid (newR ⟨b2, t2, l3⟩ I1 T1 = (0, true)) := unhide HN2 _ (.inr (.inl ⟨by omega, h2.symm, (decide_eq_true (by omega)).symm⟩))
                clear HN1 HN2
                subst h2
                clear h1
                have e3 : decide (I2 ≥ I1) = false := decide_eq_false h3
                obtain ⟨q0, q1, q2, q3, q4, q5, q6⟩ := (unhide HC) _ (unhide HB2)
                obtain ⟨r0, r1, r2, r3, r4, r5, r6⟩ := (unhide HC2) _ (unhide HB2)
                go_wp2_with fail
                refine (lastE_any b t a1 n1 p1 l1 _ ((unhide H1).below (unhide HB2))).mono ?_
                rw [unhide HR1]
                rintro e w3 ⟨E1, rfl, HE1, HBa⟩
                have HB3 : Hid (Below w.heap.size w w3) := bnx (unhide HB2) (unhide HBa)
                clear HBa q0 q1 q2 q3 q4 q5 q6 r0 r1 r2 r3 r4 r5 r6
                obtain ⟨q0, q1, q2, q3, q4, q5, q6⟩ := (unhide HC) _ (unhide HB3)
                obtain ⟨r0, r1, r2, r3, r4, r5, r6⟩ := (unhide HC2) _ (unhide HB3)
                go_wp2_with fail
                refine (lastE_any b2 t2 a3 n3 p3 l3 _ ((unhide H3).below (unhide HB3))).mono ?_
                rw [unhide HR2]
                rintro e w4 ⟨E2, rfl, HE2, HBa⟩
                have HB4 : Hid (Below w.heap.size w w4) := bnx (unhide HB3) (unhide HBa)
                have HE14 := hide ((unhide HE1).below (unhide HBa))
                clear HBa HE1 q0 q1 q2 q3 q4 q5 q6 r0 r1 r2 r3 r4 r5 r6
                obtain ⟨q0, q1, q2, q3, q4, q5, q6⟩ := (unhide HC) _ (unhide HB4)
                obtain ⟨r0, r1, r2, r3, r4, r5, r6⟩ := (unhide HC2) _ (unhide HB4)
                go_wp2_with fail
                refine (newE_any b t a1 n1 p1 l1 _ _ _ ((unhide H1).below (unhide HB4))).mono ?_
                rw [unhide HX]
                rintro e w5 ⟨E3, rfl, HE3, HBa⟩
                have HB5 : Hid (Below w.heap.size w w5) := bnx (unhide HB4) (unhide HBa)
                have HE15 := hide ((unhide HE14).below (unhide HBa))
                have HE25 := hide ((unhide HE2).below (unhide HBa))
                clear HBa HE14 HE2 q0 q1 q2 q3 q4 q5 q6 r0 r1 r2 r3 r4 r5 r6
                obtain ⟨q0, q1, q2, q3, q4, q5, q6⟩ := (unhide HC) _ (unhide HB5)
                obtain ⟨r0, r1, r2, r3, r4, r5, r6⟩ := (unhide HC2) _ (unhide HB5)
                go_wp2_with fail
                refine (newE_any b2 t2 a3 n3 p3 l3 _ _ _ ((unhide H3).below (unhide HB5))).mono ?_
                rw [unhide HY]
                rintro e w6 ⟨E4, rfl, HE4, HBa⟩
                have HB6 : Hid (Below w.heap.size w w6) := bnx (unhide HB5) (unhide HBa)
                have HE16 := hide ((unhide HE15).below (unhide HBa))
                have HE26 := hide ((unhide HE25).below (unhide HBa))
                have HE36 := hide ((unhide HE3).below (unhide HBa))
                clear HBa HE15 HE25 HE3 q0 q1 q2 q3 q4 q5 q6 r0 r1 r2 r3 r4 r5 r6
                go_wp2_with fail
                refine (num_err E1 0 _ ((unhide HG).below (unhide HB6) (unhide HG).pos) (unhide HE16)).mono ?_
                rintro e w7 ⟨rfl, hb⟩
                have HB7 : Hid (Below w.heap.size w w7) := bnx (unhide HB6) hb
                have HE27 := hide ((unhide HE26).below hb)
                have HE37 := hide ((unhide HE36).below hb)
                have HE47 := hide ((unhide HE4).below hb)
                clear hb HE16 HE26 HE36 HE4
                go_wp2_with fail
                refine (num_err E2 0 _ ((unhide HG).below (unhide HB7) (unhide HG).pos) (unhide HE27)).mono ?_
                rintro e w8 ⟨rfl, hb⟩
                have HB8 : Hid (Below w.heap.size w w8) := bnx (unhide HB7) hb
                have HE38 := hide ((unhide HE37).below hb)
                have HE48 := hide ((unhide HE47).below hb)
                clear hb HE27 HE37 HE47
                go_wp2_with fail
                refine (num_err E3 0 _ ((unhide HG).below (unhide HB8) (unhide HG).pos) (unhide HE38)).mono ?_
                rintro e w9 ⟨rfl, hb⟩
                have HB9 : Hid (Below w.heap.size w w9) := bnx (unhide HB8) hb
                have HE49 := hide ((unhide HE48).below hb)
                clear hb HE38 HE48
                go_wp2_with fail
                refine (num_err E4 0 _ ((unhide HG).below (unhide HB9) (unhide HG).pos) (unhide HE49)).mono ?_
                rintro e wa ⟨rfl, hb⟩
                have HBa : Hid (Below w.heap.size w wa) := bnx (unhide HB9) hb
                clear hb HE49
                go_wp2
                go_roundw
                case rel => exact ⟨k + 1, by omega, by go_num, HBa⟩
                case measure => simp [intOf]; omega
            · have HX : Hid (newR ⟨b, t, l1⟩ I2 T2 = (0, false)) := unhide HN1 _ (.inr (.inr ⟨h1, h2, rfl⟩))
              have HY : Hid (newR ⟨b2, t2, l3⟩ I1 T1 = (0, true)) := unhide HN2 _ (.inl ⟨by omega, rfl⟩)
              clear HN1 HN2
              have e1 : decide (T2 > T1) = false := decide_eq_false h1
              have e2 : (T2 == T1) = false := beq_eq_false_iff_ne.2 h2
              obtain ⟨q0, q1, q2, q3, q4, q5, q6⟩ := (unhide HC) _ (unhide HB2)
              obtain ⟨r0, r1, r2, r3, r4, r5, r6⟩ := (unhide HC2) _ (unhide HB2)
              go_wp2_with fail
              refine (lastE_any b t a1 n1 p1 l1 _ ((unhide H1).below (unhide HB2))).mono ?_
              rw [unhide HR1]
              rintro e w3 ⟨E1, rfl, HE1, HBa⟩
              have HB3 : Hid (Below w.heap.size w w3) := bnx (unhide HB2) (unhide HBa)
              clear HBa q0 q1 q2 q3 q4 q5 q6 r0 r1 r2 r3 r4 r5 r6
              obtain ⟨q0, q1, q2, q3, q4, q5, q6⟩ := (unhide HC) _ (unhide HB3)
              obtain ⟨r0, r1, r2, r3, r4, r5, r6⟩ := (unhide HC2) _ (unhide HB3)
              go_wp2_with fail
              refine (lastE_any b2 t2 a3 n3 p3 l3 _ ((unhide H3).below (unhide HB3))).mono ?_
              rw [unhide HR2]
              rintro e w4 ⟨E2, rfl, HE2, HBa⟩
              have HB4 : Hid (Below w.heap.size w w4) := bnx (unhide HB3) (unhide HBa)
              have HE14 := hide ((unhide HE1).below (unhide HBa))
              clear HBa HE1 q0 q1 q2 q3 q4 q5 q6 r0 r1 r2 r3 r4 r5 r6
              obtain ⟨q0, q1, q2, q3, q4, q5, q6⟩ := (unhide HC) _ (unhide HB4)
              obtain ⟨r0, r1, r2, r3, r4, r5, r6⟩ := (unhide HC2) _ (unhide HB4)
              go_wp2_with fail
              refine (newE_any b t a1 n1 p1 l1 _ _ _ ((unhide H1).below (unhide HB4))).mono ?_
              rw [unhide HX]
              rintro e w5 ⟨E3, rfl, HE3, HBa⟩
              have HB5 : Hid (Below w.heap.size w w5) := bnx (unhide HB4) (unhide HBa)
              have HE15 := hide ((unhide HE14).below (unhide HBa))
              have HE25 := hide ((unhide HE2).below (unhide HBa))
              clear HBa HE14 HE2 q0 q1 q2 q3 q4 q5 q6 r0 r1 r2 r3 r4 r5 r6
              obtain ⟨q0, q1, q2, q3, q4, q5, q6⟩ := (unhide HC) _ (unhide HB5)
              obtain ⟨r0, r1, r2, r3, r4, r5, r6⟩ := (unhide HC2) _ (unhide HB5)
              go_wp2_with fail
              refine (newE_any b2 t2 a3 n3 p3 l3 _ _ _ ((unhide H3).below (unhide HB5))).mono ?_
              rw [unhide HY]
              rintro e w6 ⟨E4, rfl, HE4, HBa⟩
              have HB6 : Hid (Below w.heap.size w w6) := bnx (unhide HB5) (unhide HBa)
              have HE16 := hide ((unhide HE15).below (unhide HBa))
              have HE26 := hide ((unhide HE25).below (unhide HBa))
              have HE36 := hide ((unhide HE3).below (unhide HBa))
              clear HBa HE15 HE25 HE3 q0 q1 q2 q3 q4 q5 q6 r0 r1 r2 r3 r4 r5 r6
              go_wp2_with fail
              refine (num_err E1 0 _ ((unhide HG).below (unhide HB6) (unhide HG).pos) (unhide HE16)).mono ?_
              rintro e w7 ⟨rfl, hb⟩
              have HB7 : Hid (Below w.heap.size w w7) := bnx (unhide HB6) hb
              have HE27 := hide ((unhide HE26).below hb)
              have HE37 := hide ((unhide HE36).below hb)
              have HE47 := hide ((unhide HE4).below hb)
              clear hb HE16 HE26 HE36 HE4
              go_wp2_with fail
              refine (num_err E2 0 _ ((unhide HG).below (unhide HB7) (unhide HG).pos) (unhide HE27)).mono ?_
              rintro e w8 ⟨rfl, hb⟩
              have HB8 : Hid (Below w.heap.size w w8) := bnx (unhide HB7) hb
              have HE38 := hide ((unhide HE37).below hb)
              have HE48 := hide ((unhide HE47).below hb)
              clear hb HE27 HE37 HE47
              go_wp2_with fail
              refine (num_err E3 0 _ ((unhide HG).below (unhide HB8) (unhide HG).pos) (unhide HE38)).mono ?_
              rintro e w9 ⟨rfl, hb⟩
              have HB9 : Hid (Below w.heap.size w w9) := bnx (unhide HB8) hb
              have HE49 := hide ((unhide HE48).below hb)
              clear hb HE38 HE48
              go_wp2_with fail
              refine (num_err E4 0 _ ((unhide HG).below (unhide HB9) (unhide HG).pos) (unhide HE49)).mono ?_
              rintro e wa ⟨rfl, hb⟩
              have HBa : Hid (Below w.heap.size w wa) := bnx (unhide HB9) hb
              clear hb HE49
              go_wp2
              go_roundw
              case rel => exact ⟨k + 1, by omega, by go_num, HBa⟩
              case measure => simp [intOf]; omega
    · by_cases h9 : (k : Int) + 1 < (len : Int)
      · have h9b : ¬ (k : Int) < 8 := by omega
        have hwk : IntKind.i64.wrap ((k : Int) + 1) = (k : Int) + 1 := by rw [IntKind.wrap_i64]; omega
        go_wp2_with fail
        refine (wakes_any _ ((unhide HG).below (unhide HB) (unhide HG).pos)).mono ?_
        rintro e w9 ⟨rfl, hb9⟩
        have HB9 : Hid (Below w.heap.size w w9) := bnx (unhide HB) hb9
        clear hb9
        go_wp2
        go_ret
        exact ⟨rfl, unhide HB9⟩
      · have hwk : IntKind.i64.wrap ((k : Int) + 1) = (k : Int) + 1 := by rw [IntKind.wrap_i64]; omega
        go_wp2_with fail
        refine (wakes_any _ ((unhide HG).below (unhide HB) (unhide HG).pos)).mono ?_
        rintro e w9 ⟨rfl, hb9⟩
        have HB9 : Hid (Below w.heap.size w w9) := bnx (unhide HB) hb9
        clear hb9
        go_wp2
        go_ret
        exact ⟨rfl, unhide HB9⟩
theorem newer15_walk0 (ao : Option Addr) (cap : Nat) (w : World) (hg : Laid w) :
    Calls Tryd.prog 6 #[.slice ao 0 cap] w fun e w' => e = .returned (.bool true) ∧ Below w.heap.size w w' := by
  have HG := hide hg
  have HB : Hid (Below w.heap.size w w) := Below.refl _ _
  clear hg
  go_enter Tryd.func6, Tryd.ntmps6
  go_wp2
  refine wp_loop_rounds 1 ?_
  rw [rounds_succ]
  go_wp2_with fail
  refine (wakes_any _ ((unhide HG).below (unhide HB) (unhide HG).pos)).mono ?_
  rintro e w9 ⟨rfl, hb9⟩
  have HB9 : Hid (Below w.heap.size w w9) := bnx (unhide HB) hb9
  clear hb9
  go_wp2
  go_ret
  exact ⟨rfl, unhide HB9⟩
end Go.Proofs.YtnmcjjlpifemnabDoor.Et
