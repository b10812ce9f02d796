/- Proved here: entries.Append: what it tells of any log and any entries. Helper contracts. -/
import Derived.Test.YtcffbkgkdoaplaaDoorZESl
namespace Go.Proofs.YtcffbkgkdoaplaaDoor.Et
open Go.RowKit Nt
set_option maxRecDepth 100000

theorem chkR_bad {L : Lo} (h : ¬ May L) (r : Int × Lo) : chkR L r = (1, lo0) := if_neg h
theorem chkR_ok {L : Lo} (h : May L) (r : Int × Lo) : chkR L r = r := if_pos h
theorem splR_z (L : Lo) (k : Nat) (es : List En) : (splR L k es).1 ≠ 0 → (splR L k es).2 = lo0 := by
  unfold splR
  split
  · intro _; rfl
  · split
    · intro h; exact absurd rfl h
    · intro _; rfl
theorem apR_no {L : Lo} {es : List En} (h : ¬ GoOn (lastI L) (lastT L) es) : apR L es = (1, lo0) := if_neg h
theorem apR_spl {L : Lo} {es : List En} (hm : May L) (h : GoOn (lastI L) (lastT L) es) : splR L L.es.length es = apR L es := by
  unfold apR splR
  rw [if_pos h]
  by_cases h2 : 512 < L.es.length + es.length
  · rw [if_pos h2, if_pos h2]
  · rw [if_neg h2, if_neg h2, List.take_of_length_le (Nat.le_refl _), if_pos (hm.app es (by omega) h)]
set_option maxHeartbeats 8000000 in
theorem appE_any (b t : Int) (ao : Option Addr) (n cap : Nat) (l : List En) (ao2 : Option Addr) (m cap2 : Nat) (es : List En) (w : World) (h : Es w ao n cap l) (h2 : Es w ao2 m cap2 es) :
    Calls Tryd.prog 21 #[.agg #[.int .i64 b, .int .i64 t, .slice ao n cap], .slice ao2 m cap2] w fun e w' => TelX w.heap.size (chkR ⟨b, t, l⟩ (apR ⟨b, t, l⟩ es)) e w' ∧ Hid (Below w.heap.size w w') := by
  have HB0 : Hid (Below w.heap.size w ((w.alloc (.cells #[.int .i64 b, .int .i64 t, .slice ao n cap] 25)).alloc (.cells #[.int .i64 0, .int .i64 0, .slice none 0 0] 25))) := ((Below.refl _ _).alloc (Nat.le_refl _) _).alloc (by simp) _
  have HX0 : Hid (Bx ((w.alloc (.cells #[.int .i64 b, .int .i64 t, .slice ao n cap] 25)).alloc (.cells #[.int .i64 0, .int .i64 0, .slice none 0 0] 25)) w.heap.size [.int .i64 b, .int .i64 t, .slice ao n cap] 25) := (Bx.new w _ _ _ rfl).below ((Below.refl _ _).alloc (Nat.le_refl _) _)
  have HY0 : Hid (Bx ((w.alloc (.cells #[.int .i64 b, .int .i64 t, .slice ao n cap] 25)).alloc (.cells #[.int .i64 0, .int .i64 0, .slice none 0 0] 25)) (w.heap.size + 1) [.int .i64 0, .int .i64 0, .slice none 0 0] 25) := Bx.new _ _ _ _ (by simp)
  have hs0 : ((w.alloc (.cells #[.int .i64 b, .int .i64 t, .slice ao n cap] 25)).alloc (.cells #[.int .i64 0, .int .i64 0, .slice none 0 0] 25)).heap.size = w.heap.size + 2 := by simp
  have HE := hide h
  have HE2 := hide h2
  clear h2
  by_cases hm : May ⟨b, t, l⟩
  · rw [chkR_ok hm]
    have HM := hide hm
    have hnc := h.2.1
    have hnx := h.2.2.2.1
    have hb1 : 0 ≤ b := hm.1.1
    have hb2 : b ≤ 1099511625728 := hm.1.2.1
    have hn5 : n ≤ 512 := by have := hm.2.1; rw [h.1] at this; exact this
    have HI : Hid (lastI ⟨b, t, l⟩ = b + (n : Int)) := by
      show _ = _
      unfold lastI
      rw [h.1]
    obtain ⟨T, hT⟩ : ∃ T, T = lastT ⟨b, t, l⟩ := ⟨_, rfl⟩
    have HT := hide hT
    clear hT
    by_cases hg : GoOn (b + (n : Int)) T es
    · have HG := hide (decide_eq_true hg)
      obtain ⟨⟨x, L2⟩, hr⟩ : ∃ r, r = apR ⟨b, t, l⟩ es := ⟨_, rfl⟩
      have HR : Hid (splR ⟨b, t, l⟩ n es = (x, L2)) := by
        show _ = _
        have e := apR_spl hm (es := es) (by rw [unhide HI, ← unhide HT]; exact hg)
        rw [← hr] at e
        rw [← h.1]; exact e
      have hz := splR_z ⟨b, t, l⟩ n es
      rw [unhide HR] at hz
      have HZ := hide hz
      rw [← hr]
      clear hg hm h hr hz
      go_enter Tryd.func21, Tryd.ntmps21
      go_wp2_with fail
      refine (check_ok b t ao n cap l _ ((unhide HE).below (unhide HB0)) (unhide HM)).mono ?_
      rintro e w2 ⟨rfl, hb⟩
      have HB : Hid (Below w.heap.size w w2) := bnx (unhide HB0) hb
      have HX := hide ((unhide HX0).below hb)
      have HY := hide ((unhide HY0).below hb)
      have hs2 : w.heap.size + 2 ≤ w2.heap.size := by rw [← hs0]; exact hb.size
      obtain ⟨⟨c0, c1, c2⟩, f0, f1, f2⟩ := bx_slot (unhide HX)
      clear hb HX0 HY0 hs0 HB0
      go_wp2_with fail
      refine (last_any b t ao n cap l _ ((unhide HE).below (unhide HB)) (unhide HM)).mono ?_
      rw [unhide HI, ← unhide HT]
      rintro e w3 ⟨rfl, hb⟩
      have HB3 : Hid (Below w.heap.size w w3) := bnx (unhide HB) hb
      have HX3 := hide ((unhide HX).below hb)
      have HY3 := hide ((unhide HY).below hb)
      have hs3 : w.heap.size + 2 ≤ w3.heap.size := by have := hb.size; omega
      clear hb c0 c1 c2 f0 f1 f2 HX HY HB hs2
      obtain ⟨⟨c0, c1, c2⟩, f0, f1, f2⟩ := bx_slot (unhide HX3)
      clear HX3
      go_wp2_with fail
      refine (goOn_any (b + (n : Int)) T ao2 m cap2 es w3 ((unhide HE2).below (unhide HB3)) (by omega) (by omega)).mono ?_
      rw [unhide HG]
      rintro e w4 ⟨rfl, hb⟩
      have HB4 : Hid (Below w.heap.size w w4) := bnx (unhide HB3) hb
      have HY4 := hide ((unhide HY3).below hb)
      have hs4 : w.heap.size + 2 ≤ w4.heap.size := by have := hb.size; omega
      replace c0 := (hb.cell (cell_lt c0)).trans c0
      replace c1 := (hb.cell (cell_lt c1)).trans c1
      replace c2 := (hb.cell (cell_lt c2)).trans c2
      clear hb f0 f1 f2 HY3
      go_wp2_with fail
      refine (spliced_any b t ao n cap n l ao2 m cap2 es w4 ((unhide HE).below (unhide HB4)) ((unhide HE2).below (unhide HB4)) (Nat.le_refl _)).mono ?_
      rw [unhide HR]
      rintro e w5 ⟨⟨E, a5, n5, c5, rfl, HO5, HE5⟩, HB5⟩
      have HBw5 : Hid (Below w.heap.size w w5) := bnx (unhide HB4) (unhide HB5)
      have HY5 := hide ((unhide HY4).below (unhide HB5))
      have hs5 : w.heap.size + 2 ≤ w5.heap.size := by have := (unhide HB5).size; omega
      have hs45 : w4.heap.size ≤ w5.heap.size := (unhide HB5).size
      go_wp2_with fail
      refine (told_any w4.heap.size L2 a5 n5 c5 E x w5 hs45 (unhide HO5) (unhide HE5) (unhide HZ)).mono ?_
      rintro e w6 ⟨⟨E6, a6, n6, c6, rfl, HO6, HE6⟩, HB6⟩
      have HBw6 : Hid (Below w.heap.size w w6) := bnx (unhide HBw5) (unhide HB6)
      have HY6 := hide ((unhide HY5).below (unhide HB6))
      clear c0 c1 c2
      obtain ⟨⟨c0, c1, c2⟩, f0, f1, f2⟩ := bx_slot (unhide HY6)
      go_wp2
      refine bodyPost_ret (res_le (B := w.heap.size + 1) rfl rfl (put3_bx (unhide HY6) _ _ _)) rfl ?_
      exact ⟨⟨_, _, _, _, rfl, ((unhide HO6).put3 (by omega)).mono (by omega), ((unhide HE6).put3 (by omega)).mono (by omega)⟩, put3_below (unhide HBw6) (by omega)⟩
    · have HG := hide (decide_eq_false hg)
      rw [apR_no (by rw [unhide HI, ← unhide HT]; exact hg)]
      clear hg hm h
      go_enter Tryd.func21, Tryd.ntmps21
      go_wp2_with fail
      refine (check_ok b t ao n cap l _ ((unhide HE).below (unhide HB0)) (unhide HM)).mono ?_
      rintro e w2 ⟨rfl, hb⟩
      have HB : Hid (Below w.heap.size w w2) := bnx (unhide HB0) hb
      have HX := hide ((unhide HX0).below hb)
      have HY := hide ((unhide HY0).below hb)
      have hs2 : w.heap.size + 2 ≤ w2.heap.size := by rw [← hs0]; exact hb.size
      obtain ⟨⟨c0, c1, c2⟩, f0, f1, f2⟩ := bx_slot (unhide HX)
      clear hb HX0 HY0 hs0 HB0
      go_wp2_with fail
      refine (last_any b t ao n cap l _ ((unhide HE).below (unhide HB)) (unhide HM)).mono ?_
      rw [unhide HI, ← unhide HT]
      rintro e w3 ⟨rfl, hb⟩
      have HB3 : Hid (Below w.heap.size w w3) := bnx (unhide HB) hb
      have HX3 := hide ((unhide HX).below hb)
      have HY3 := hide ((unhide HY).below hb)
      have hs3 : w.heap.size + 2 ≤ w3.heap.size := by have := hb.size; omega
      clear hb c0 c1 c2 f0 f1 f2 HX HY HB hs2
      obtain ⟨⟨c0, c1, c2⟩, f0, f1, f2⟩ := bx_slot (unhide HX3)
      go_wp2_with fail
      refine (goOn_any (b + (n : Int)) T ao2 m cap2 es w3 ((unhide HE2).below (unhide HB3)) (by omega) (by omega)).mono ?_
      rw [unhide HG]
      rintro e w4 ⟨rfl, hb⟩
      have HB4 : Hid (Below w.heap.size w w4) := bnx (unhide HB3) hb
      have HY4 := hide ((unhide HY3).below hb)
      have hs4 : w.heap.size + 2 ≤ w4.heap.size := by have := hb.size; omega
      clear hb
      go_wp2_with fail
      refine (fault_n 1 w4).mono ?_
      rintro e w9 ⟨x, rfl, HER, HB9⟩
      have HY9 := hide ((unhide HY4).below (unhide HB9))
      have HBz := hide (bnx (unhide HB4) (unhide HB9))
      clear c0 c1 c2 f0 f1 f2
      obtain ⟨⟨c0, c1, c2⟩, f0, f1, f2⟩ := bx_slot (unhide HY9)
      go_wp2
      refine bodyPost_ret (res_le (B := w.heap.size + 1) rfl rfl (put3_bx (unhide HY9) _ _ _)) rfl ?_
      exact ⟨⟨_, _, _, _, rfl, OwnL.nil _ _, .inr (((unhide HER).put3 (by omega)).mono (by omega))⟩, put3_below (unhide HBz) (by omega)⟩
  · rw [chkR_bad hm]
    have HM := hide hm
    clear hm h
    go_enter Tryd.func21, Tryd.ntmps21
    go_wp2_with fail
    refine (check_bad b t ao n cap l _ ((unhide HE).below (unhide HB0)) (unhide HM)).mono ?_
    rintro e w2 ⟨x, rfl, HER, HB2⟩
    have HY := hide ((unhide HY0).below (unhide HB2))
    have HB := hide (bnx (unhide HB0) (unhide HB2))
    obtain ⟨⟨c0, c1, c2⟩, f0, f1, f2⟩ := bx_slot (unhide HY)
    have HER2 := hide ((unhide HER).mono (B' := w.heap.size + 2) (by rw [hs0]; exact Nat.le_refl _))
    clear HB2 HY0 HX0 HER hs0
    go_wp2
    refine bodyPost_ret (res_le (B := w.heap.size + 1) rfl rfl (put3_bx (unhide HY) _ _ _)) rfl ?_
    exact ⟨⟨_, _, _, _, rfl, OwnL.nil _ _, .inr (((unhide HER2).put3 (by omega)).mono (by omega))⟩, put3_below (unhide HB) (by omega)⟩
end Go.Proofs.YtcffbkgkdoaplaaDoor.Et
