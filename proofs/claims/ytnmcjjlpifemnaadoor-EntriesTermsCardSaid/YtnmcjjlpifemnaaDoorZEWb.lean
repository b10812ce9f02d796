/- Proved here: the walk of dovecotelaw15.EntriesTerms: whatever logs it is handed, it returns true. Helper contract. -/
import Derived.Test.YtnmcjjlpifemnaaDoorZEOk
import Derived.Test.YtnmcjjlpifemnaaDoorZEPu
import Derived.Test.YtnmcjjlpifemnaaDoorZETm
namespace Go.Proofs.YtnmcjjlpifemnaaDoor.Et
open Go.RowKit Nt
set_option maxRecDepth 100000

set_option maxHeartbeats 8000000 in
theorem terms15_walk (g off len cap : Nat) (f : Nat → Ak) (w : World) (hg : Laid w) (ha : AksIn w g off f len) :
    Calls Tryd.prog 7 #[.slice (some ⟨g, off, none⟩) len cap] w fun e w' => e = .returned (.bool true) ∧ Below w.heap.size w w' := by
  have HA := hide ha
  have HG := hide hg
  clear ha hg
  go_enter Tryd.func7, Tryd.ntmps7
  go_wp2
  go_loopw [3] (fun ii wr => ∃ k : Nat, k ≤ len ∧ ii = .int .i64 k ∧ Hid (Below w.heap.size w wr)) (fun ii _ => len - (intOf ii).toNat)
  case atStart => exact ⟨0, Nat.zero_le _, rfl, Below.refl _ _⟩
  case round =>
    obtain ⟨k, hk, rfl, HB⟩ := hrel
    by_cases h8 : k < len ∧ k < 8
    · obtain ⟨hlt, h8⟩ := h8
      obtain ⟨⟨q0, q1, q2, q3, q4, q5, q6⟩, hl1, hl2⟩ := (unhide HA) k hlt
      generalize f k = ak at q0 q1 q2 q3 q4 q5 q6 hl1 hl2
      obtain ⟨b, t, ⟨a1, n1, p1⟩, l1, i, tt, ⟨a2, n2, p2⟩, l2, kk⟩ := ak
      dsimp only at q0 q1 q2 q3 q4 q5 q6 hl1 hl2
      have HC : Hid (∀ W, Below w.heap.size w W → W.cell? ⟨g, off + k * 7, none⟩ = some (.int .i64 b) ∧ W.cell? ⟨g, off + k * 7 + 1, none⟩ = some (.int .i64 t) ∧ W.cell? ⟨g, off + k * 7 + 2, none⟩ = some (.slice a1 n1 p1) ∧ W.cell? ⟨g, off + k * 7 + 3, none⟩ = some (.int .i64 i) ∧ W.cell? ⟨g, off + k * 7 + 4, none⟩ = some (.int .i64 tt) ∧ W.cell? ⟨g, off + k * 7 + 5, none⟩ = some (.slice a2 n2 p2) ∧ W.cell? ⟨g, off + k * 7 + 6, none⟩ = some (.int .i64 kk)) := fun W hW =>
        ⟨(hW.cell (p := ⟨g, off + k * 7, none⟩) (cell_lt q0)).trans q0, (hW.cell (p := ⟨g, off + k * 7 + 1, none⟩) (cell_lt q1)).trans q1, (hW.cell (p := ⟨g, off + k * 7 + 2, none⟩) (cell_lt q2)).trans q2, (hW.cell (p := ⟨g, off + k * 7 + 3, none⟩) (cell_lt q3)).trans q3, (hW.cell (p := ⟨g, off + k * 7 + 4, none⟩) (cell_lt q4)).trans q4, (hW.cell (p := ⟨g, off + k * 7 + 5, none⟩) (cell_lt q5)).trans q5, (hW.cell (p := ⟨g, off + k * 7 + 6, none⟩) (cell_lt q6)).trans q6⟩
      have H1 := hide hl1
      have H2 := hide hl2
      have hn1 := hl1.2.2.2.1
      clear q0 q1 q2 q3 q4 q5 q6 hl1 hl2
      obtain ⟨q0, q1, q2, q3, q4, q5, q6⟩ := (unhide HC) _ (unhide HB)
      go_wp2_with fail
      refine (ok_any b t i tt kk a1 a2 n1 p1 n2 p2 l1 l2 _ ((unhide H1).below (unhide HB)) ((unhide H2).below (unhide HB))).mono ?_
      rintro e w1 ⟨⟨d, rfl, hd⟩, hb⟩
      have HB1 : Hid (Below w.heap.size w w1) := bnx (unhide HB) hb
      clear hb q0 q1 q2 q3 q4 q5 q6
      cases d
      · clear hd
        go_wp2
        go_roundw
        case rel => exact ⟨k + 1, by omega, by go_num, HB1⟩
        case measure => simp [intOf]; omega
      · obtain ⟨hm, hn2, _⟩ := hd rfl
        clear hd
        have HM := hide hm
        have hb1 : 0 ≤ b := hm.1.1
        have hb2 : b ≤ 1099511625728 := hm.1.2.1
        obtain ⟨wo, hwo⟩ : ∃ wo, wo = wr := ⟨_, rfl⟩
        clear hm
        subst hwo
        obtain ⟨q0, q1, q2, q3, q4, q5, q6⟩ := (unhide HC) _ (unhide HB1)
        have hwb : IntKind.i64.wrap (b - 2) = b - 2 := by rw [IntKind.wrap_i64]; omega
        go_wp2
        clear q0 q1 q2 q3 q4 q5 q6
        go_loopw [4] (fun jj wr => ∃ j : Nat, j ≤ n1 + 5 ∧ jj = .int .i64 (b - 2 + (j : Int)) ∧ Hid (Below w.heap.size w wr)) (fun jj _ => (b + (n1 : Int) + 3 - intOf jj).toNat)
        case atStart => exact ⟨0, by omega, by simp, HB1⟩
        case round =>
          obtain ⟨j, hj, rfl, HB2⟩ := hrel
          obtain ⟨q0, q1, q2, q3, q4, q5, q6⟩ := (unhide HC) _ (unhide HB2)
          have hw1 : IntKind.i64.wrap (b + (n1 : Int)) = b + (n1 : Int) := by rw [IntKind.wrap_i64]; omega
          have hw2 : IntKind.i64.wrap (b + (n1 : Int) + 3) = b + (n1 : Int) + 3 := by rw [IntKind.wrap_i64]; omega
          by_cases hjl : j < n1 + 5
          · go_wp2
            go_quiet (fail)
            have HBd : Hid (Below w.heap.size w (wr.drewN nq)) := below_drewN (unhide HB2) nq
            obtain ⟨d, hd⟩ : ∃ d, d = termAt ⟨b, t, l1⟩ (b - 2 + (j : Int)) := ⟨_, rfl⟩
            have HD : Hid (termAt ⟨b, t, l1⟩ (b - 2 + (j : Int)) = d) := hd.symm
            clear hd q0 q1 q2 q3 q4 q5 q6
            obtain ⟨q0, q1, q2, q3, q4, q5, q6⟩ := (unhide HC) _ (unhide HBd)
            go_wp2_with fail
            refine (termE_any b t a1 n1 p1 l1 _ _ ((unhide H1).below (unhide HBd))).mono ?_
            rcases d with _ | u
            · rw [termR_ok (unhide HM), unhide HD]
              rintro e w2 ⟨E, rfl, HE, HB2⟩
              have HB3 : Hid (Below w.heap.size w w2) := bnx (unhide HBd) (unhide HB2)
              clear q0 q1 q2 q3 q4 q5 q6 HB2
              obtain ⟨q0, q1, q2, q3, q4, q5, q6⟩ := (unhide HC) _ (unhide HB3)
              go_wp2_with fail
              refine (termP_any b t a1 n1 p1 l1 _ _ ((unhide H1).below (unhide HB3)) (unhide HM)).mono ?_
              rw [unhide HD]
              rintro e w4 ⟨rfl, hb⟩
              have HB4 : Hid (Below w.heap.size w w4) := bnx (unhide HB3) hb
              have HE4 := hide ((unhide HE).below hb)
              clear hb q0 q1 q2 q3 q4 q5 q6
              unfold tmRes2
              go_wp2_with fail
              refine (num_err E 8 _ ((unhide HG).below (unhide HB4) (unhide HG).pos) (unhide HE4)).mono ?_
              rintro e w5 ⟨rfl, hb⟩
              have HB5 : Hid (Below w.heap.size w w5) := bnx (unhide HB4) hb
              have HE5 := hide ((unhide HE4).below hb)
              clear hb
              go_wp2_with fail
              refine (num_err E 8 _ ((unhide HG).below (unhide HB5) (unhide HG).pos) (unhide HE5)).mono ?_
              rintro e w6 ⟨rfl, hb⟩
              have HB6 : Hid (Below w.heap.size w w6) := bnx (unhide HB5) hb
              clear hb
              clear HE5
              go_wp2
              go_roundw
              case rel => exact ⟨j + 1, by omega, by go_num, HB6⟩
              case measure => simp [intOf]; omega
            · rw [termR_ok (unhide HM), unhide HD]
              rintro e w2 ⟨E, rfl, HE, HB2⟩
              have HB3 : Hid (Below w.heap.size w w2) := bnx (unhide HBd) (unhide HB2)
              clear q0 q1 q2 q3 q4 q5 q6 HB2
              obtain ⟨q0, q1, q2, q3, q4, q5, q6⟩ := (unhide HC) _ (unhide HB3)
              go_wp2_with fail
              refine (termP_any b t a1 n1 p1 l1 _ _ ((unhide H1).below (unhide HB3)) (unhide HM)).mono ?_
              rw [unhide HD]
              rintro e w4 ⟨rfl, hb⟩
              have HB4 : Hid (Below w.heap.size w w4) := bnx (unhide HB3) hb
              have HE4 := hide ((unhide HE).below hb)
              clear hb q0 q1 q2 q3 q4 q5 q6
              unfold tmRes2
              go_wp2_with fail
              refine (num_err E 0 _ ((unhide HG).below (unhide HB4) (unhide HG).pos) (unhide HE4)).mono ?_
              rintro e w5 ⟨rfl, hb⟩
              have HB5 : Hid (Below w.heap.size w w5) := bnx (unhide HB4) hb
              have HE5 := hide ((unhide HE4).below hb)
              clear hb
              clear HE5
              go_wp2
              go_roundw
              case rel => exact ⟨j + 1, by omega, by go_num, HB5⟩
              case measure => simp [intOf]; omega
          · go_wp2
            go_quiet (fail)
            have HBd : Hid (Below w.heap.size w (wr.drewN nq)) := below_drewN (unhide HB2) nq
            clear q0 q1 q2 q3 q4 q5 q6
            go_wp2
            go_roundw
            case rel => exact ⟨k + 1, by omega, by go_num, HBd⟩
            case measure => simp [intOf]; omega
    · have hend : ¬ (k : Int) < (len : Int) ∨ ¬ (k : Int) < 8 := by omega
      by_cases h9 : (k : Int) < (len : Int)
      · have h9b : ¬ (k : Int) < 8 := by omega
        go_wp2_with fail
        refine (wakes_any _ ((unhide HG).below (unhide HB) (unhide HG).pos)).mono ?_
        rintro e w9 ⟨rfl, hb9⟩
        have HB9 : Hid (Below w.heap.size w w9) := bnx (unhide HB) hb9
        clear hb9
        go_wp2
        go_ret
        exact ⟨rfl, unhide HB9⟩
      · go_wp2_with fail
        refine (wakes_any _ ((unhide HG).below (unhide HB) (unhide HG).pos)).mono ?_
        rintro e w9 ⟨rfl, hb9⟩
        have HB9 : Hid (Below w.heap.size w w9) := bnx (unhide HB) hb9
        clear hb9
        go_wp2
        go_ret
        exact ⟨rfl, unhide HB9⟩
theorem terms15_walk0 (ao : Option Addr) (cap : Nat) (w : World) (hg : Laid w) :
    Calls Tryd.prog 7 #[.slice ao 0 cap] w fun e w' => e = .returned (.bool true) ∧ Below w.heap.size w w' := by
  have HG := hide hg
  have HB : Hid (Below w.heap.size w w) := Below.refl _ _
  clear hg
  go_enter Tryd.func7, Tryd.ntmps7
  go_wp2
  refine wp_loop_rounds 1 ?_
  rw [rounds_succ]
  go_wp2_with fail
  refine (wakes_any _ ((unhide HG).below (unhide HB) (unhide HG).pos)).mono ?_
  rintro e w9 ⟨rfl, hb9⟩
  have HB9 : Hid (Below w.heap.size w w9) := bnx (unhide HB) hb9
  clear hb9
  go_wp2
  go_ret
  exact ⟨rfl, unhide HB9⟩
end Go.Proofs.YtnmcjjlpifemnaaDoor.Et
