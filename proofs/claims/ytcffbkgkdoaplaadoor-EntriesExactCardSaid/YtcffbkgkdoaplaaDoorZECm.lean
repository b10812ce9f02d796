/- Proved here: entries.Compact: what it tells of any log. Helper contracts. -/
import Derived.Test.YtcffbkgkdoaplaaDoorZECt
namespace Go.Proofs.YtcffbkgkdoaplaaDoor.Et
open Go.RowKit Nt
set_option maxRecDepth 100000

theorem comR_no {L : Lo} {i : Int} (h : ¬ (L.b < i ∧ i ≤ lastI L ∧ i ≤ 1099511625728)) : comR L i = (1, lo0) := if_neg h
theorem comR_yes {L : Lo} {i : Int} (h : L.b < i ∧ i ≤ lastI L ∧ i ≤ 1099511625728) : comR L i = (0, comL L i) := if_pos h
set_option maxHeartbeats 8000000 in
theorem comE_any (b t : Int) (ao : Option Addr) (n cap : Nat) (l : List En) (i : Int) (w : World) (h : Es w ao n cap l) :
    Calls Tryd.prog 24 #[.agg #[.int .i64 b, .int .i64 t, .slice ao n cap], .int .i64 i] w fun e w' => TelX w.heap.size (chkR ⟨b, t, l⟩ (comR ⟨b, t, l⟩ i)) e w' ∧ Hid (Below w.heap.size w w') := by
  have HB0 : Hid (Below w.heap.size w ((w.alloc (.cells #[.int .i64 b, .int .i64 t, .slice ao n cap] 25)).alloc (.cells #[.int .i64 0, .int .i64 0, .slice none 0 0] 25))) := ((Below.refl _ _).alloc (Nat.le_refl _) _).alloc (by simp) _
  have HX0 : Hid (Bx ((w.alloc (.cells #[.int .i64 b, .int .i64 t, .slice ao n cap] 25)).alloc (.cells #[.int .i64 0, .int .i64 0, .slice none 0 0] 25)) w.heap.size [.int .i64 b, .int .i64 t, .slice ao n cap] 25) := (Bx.new w _ _ _ rfl).below ((Below.refl _ _).alloc (Nat.le_refl _) _)
  have HY0 : Hid (Bx ((w.alloc (.cells #[.int .i64 b, .int .i64 t, .slice ao n cap] 25)).alloc (.cells #[.int .i64 0, .int .i64 0, .slice none 0 0] 25)) (w.heap.size + 1) [.int .i64 0, .int .i64 0, .slice none 0 0] 25) := Bx.new _ _ _ _ (by simp)
  have hs0 : ((w.alloc (.cells #[.int .i64 b, .int .i64 t, .slice ao n cap] 25)).alloc (.cells #[.int .i64 0, .int .i64 0, .slice none 0 0] 25)).heap.size = w.heap.size + 2 := by simp
  have HE := hide h
  by_cases hm : May ⟨b, t, l⟩
  · rw [chkR_ok hm]
    have HM := hide hm
    have hnc := h.2.1
    have hnx := h.2.2.2.1
    have hb1 : 0 ≤ b := hm.1.1
    have hb2 : b ≤ 1099511625728 := hm.1.2.1
    have hn5 : n ≤ 512 := by have := hm.2.1; rw [h.1] at this; exact this
    have HI : Hid (lastI ⟨b, t, l⟩ = b + (n : Int)) := by
      show _ = _
      unfold lastI
      rw [h.1]
    obtain ⟨T, hT⟩ : ∃ T, T = lastT ⟨b, t, l⟩ := ⟨_, rfl⟩
    have HT := hide hT
    clear hT
    clear HT
    by_cases h1 : i < b ∨ b + (n : Int) < i
    · have HTA : Hid (termAt ⟨b, t, l⟩ i = none) := termAt_none (by rw [unhide HI]; exact h1)
      rw [comR_no (L := ⟨b, t, l⟩) (by rw [unhide HI]; show ¬ (b < i ∧ _ ∧ _); omega)]
      clear hm h h1
      go_enter Tryd.func24, Tryd.ntmps24
      go_wp2_with fail
      refine (check_ok b t ao n cap l _ ((unhide HE).below (unhide HB0)) (unhide HM)).mono ?_
      rintro e w2 ⟨rfl, hb⟩
      have HB : Hid (Below w.heap.size w w2) := bnx (unhide HB0) hb
      have HX := hide ((unhide HX0).below hb)
      have HY := hide ((unhide HY0).below hb)
      have hs2 : w.heap.size + 2 ≤ w2.heap.size := by rw [← hs0]; exact hb.size
      obtain ⟨⟨c0, c1, c2⟩, f0, f1, f2⟩ := bx_slot (unhide HX)
      clear hb HX0 HY0 hs0 HB0
      go_wp2_with fail
      refine (termAt_any b t ao n cap l i _ ((unhide HE).below (unhide HB)) (unhide HM)).mono ?_
      rw [unhide HTA]
      rintro e w3 ⟨rfl, hb⟩
      have HB3 : Hid (Below w.heap.size w w3) := bnx (unhide HB) hb
      have HX3 := hide ((unhide HX).below hb)
      have HY3 := hide ((unhide HY).below hb)
      have hs3 : w.heap.size + 2 ≤ w3.heap.size := by have := hb.size; omega
      clear hb c0 c1 c2 f0 f1 f2 HX HY HB hs2
      obtain ⟨⟨c0, c1, c2⟩, f0, f1, f2⟩ := bx_slot (unhide HX3)
      unfold tmRes
      clear HX3
      go_wp2_with fail
      refine (fault_n 1 w3).mono ?_
      rintro e w9 ⟨x, rfl, HER, HB9⟩
      have HY9 := hide ((unhide HY3).below (unhide HB9))
      have HBz := hide (bnx (unhide HB3) (unhide HB9))
      clear c0 c1 c2 f0 f1 f2
      obtain ⟨⟨c0, c1, c2⟩, f0, f1, f2⟩ := bx_slot (unhide HY9)
      go_wp2
      refine bodyPost_ret (res_le (B := w.heap.size + 1) rfl rfl (put3_bx (unhide HY9) _ _ _)) rfl ?_
      exact ⟨⟨_, _, _, _, rfl, OwnL.nil _ _, .inr (((unhide HER).put3 (by omega)).mono (by omega))⟩, put3_below (unhide HBz) (by omega)⟩
    · obtain ⟨k, hk⟩ : ∃ k : Nat, i = b + (k : Int) := ⟨(i - b).toNat, by omega⟩
      have hkn : k ≤ n := by omega
      have HTA : Hid (termAt ⟨b, t, l⟩ i = some (tmB t l k)) := by
        show _ = _
        rw [termAt_some (L := ⟨b, t, l⟩) (by show b ≤ i; omega) (by rw [unhide HI]; omega)]
        show some (tmB t l (i - b).toNat) = _
        rw [show (i - b).toNat = k by omega]
      have hterm : IsTerm (tmB t l k) := hm.term k (by show k ≤ l.length; rw [h.1]; exact hkn)
      obtain ⟨u, hu⟩ : ∃ u, u = tmB t l k := ⟨_, rfl⟩
      rw [← hu] at hterm HTA
      have HU := hide hu
      have HTT := hide hterm
      clear hu hterm
      by_cases h3 : i = b
      · rw [comR_no (L := ⟨b, t, l⟩) (by show ¬ (b < i ∧ _ ∧ _); omega)]
        have h3d : (i == b) = true := beq_iff_eq.2 h3
        clear hm h h1 hk h3
        go_enter Tryd.func24, Tryd.ntmps24
        go_wp2_with fail
        refine (check_ok b t ao n cap l _ ((unhide HE).below (unhide HB0)) (unhide HM)).mono ?_
        rintro e w2 ⟨rfl, hb⟩
        have HB : Hid (Below w.heap.size w w2) := bnx (unhide HB0) hb
        have HX := hide ((unhide HX0).below hb)
        have HY := hide ((unhide HY0).below hb)
        have hs2 : w.heap.size + 2 ≤ w2.heap.size := by rw [← hs0]; exact hb.size
        obtain ⟨⟨c0, c1, c2⟩, f0, f1, f2⟩ := bx_slot (unhide HX)
        clear hb HX0 HY0 hs0 HB0
        go_wp2_with fail
        refine (termAt_any b t ao n cap l i _ ((unhide HE).below (unhide HB)) (unhide HM)).mono ?_
        rw [unhide HTA]
        rintro e w3 ⟨rfl, hb⟩
        have HB3 : Hid (Below w.heap.size w w3) := bnx (unhide HB) hb
        have HX3 := hide ((unhide HX).below hb)
        have HY3 := hide ((unhide HY).below hb)
        have hs3 : w.heap.size + 2 ≤ w3.heap.size := by have := hb.size; omega
        clear hb c0 c1 c2 f0 f1 f2 HX HY HB hs2
        obtain ⟨⟨c0, c1, c2⟩, f0, f1, f2⟩ := bx_slot (unhide HX3)
        unfold tmRes
        clear HX3
        go_wp2_with fail
        refine (fault_n 1 w3).mono ?_
        rintro e w9 ⟨x, rfl, HER, HB9⟩
        have HY9 := hide ((unhide HY3).below (unhide HB9))
        have HBz := hide (bnx (unhide HB3) (unhide HB9))
        clear c0 c1 c2 f0 f1 f2
        obtain ⟨⟨c0, c1, c2⟩, f0, f1, f2⟩ := bx_slot (unhide HY9)
        go_wp2
        refine bodyPost_ret (res_le (B := w.heap.size + 1) rfl rfl (put3_bx (unhide HY9) _ _ _)) rfl ?_
        exact ⟨⟨_, _, _, _, rfl, OwnL.nil _ _, .inr (((unhide HER).put3 (by omega)).mono (by omega))⟩, put3_below (unhide HBz) (by omega)⟩
      · have h3d : (i == b) = false := beq_eq_false_iff_ne.2 h3
        by_cases h4 : i ≤ 1099511625728
        · have HIB : Hid (decide (IsBase i u) = true) := decide_eq_true ⟨by omega, h4, unhide HTT⟩
          have HR : Hid (comR ⟨b, t, l⟩ i = (0, ⟨i, u, l.drop k⟩)) := by
            show _ = _
            rw [comR_yes (L := ⟨b, t, l⟩) (by rw [unhide HI]; exact ⟨by show b < i; omega, by omega, h4⟩)]
            unfold comL
            show ((0 : Int), Lo.mk i (tmB t l (i - b).toNat) (l.drop (i - b).toNat)) = _
            rw [show (i - b).toNat = k by omega, ← unhide HU]
          rw [unhide HR]
          have HL : Hid ((l.drop k).length = n - k) := by
            show _ = _
            rw [List.length_drop, h.1]
          have HKI := hide hk
          clear hm h HR h1 h3 hk
          go_enter Tryd.func24, Tryd.ntmps24
          go_wp2_with fail
          refine (check_ok b t ao n cap l _ ((unhide HE).below (unhide HB0)) (unhide HM)).mono ?_
          rintro e w2 ⟨rfl, hb⟩
          have HB : Hid (Below w.heap.size w w2) := bnx (unhide HB0) hb
          have HX := hide ((unhide HX0).below hb)
          have HY := hide ((unhide HY0).below hb)
          have hs2 : w.heap.size + 2 ≤ w2.heap.size := by rw [← hs0]; exact hb.size
          obtain ⟨⟨c0, c1, c2⟩, f0, f1, f2⟩ := bx_slot (unhide HX)
          clear hb HX0 HY0 hs0 HB0
          go_wp2_with fail
          refine (termAt_any b t ao n cap l i _ ((unhide HE).below (unhide HB)) (unhide HM)).mono ?_
          rw [unhide HTA]
          rintro e w3 ⟨rfl, hb⟩
          have HB3 : Hid (Below w.heap.size w w3) := bnx (unhide HB) hb
          have HX3 := hide ((unhide HX).below hb)
          have HY3 := hide ((unhide HY).below hb)
          have hs3 : w.heap.size + 2 ≤ w3.heap.size := by have := hb.size; omega
          clear hb c0 c1 c2 f0 f1 f2 HX HY HB hs2
          obtain ⟨⟨c0, c1, c2⟩, f0, f1, f2⟩ := bx_slot (unhide HX3)
          unfold tmRes
          clear HX3
          go_wp2_with fail
          refine (isBase_any i u w3).mono ?_
          rintro e w' ⟨rfl, hw⟩
          obtain rfl := hw.symm
          rw [unhide HIB]
          go_wp2_with fail
          rw [unhide HKI]
          refine (above_any b t ao n cap k _ hkn hnc hnx).mono ?_
          rw [← unhide HKI]
          rintro e w4 ⟨rfl, hb⟩
          have HB4 : Hid (Below w.heap.size w w4) := bnx (unhide HB3) hb
          have HY4 := hide ((unhide HY3).below hb)
          have hs4 : w.heap.size + 2 ≤ w4.heap.size := by have := hb.size; omega
          clear hb c0 c1 c2 f0 f1 f2 HY3
          obtain ⟨ha, hha⟩ : ∃ ha, ha = hiA ao 4 cap k := ⟨_, rfl⟩
          have HHA := hide hha
          rw [← hha]
          clear hha
          go_wp2_with fail
          have hal : Below w4.heap.size w4 (w4.alloc (.cells #[.slice ha (n - k) (cap - k)] 23)) := (Below.refl _ _).alloc (Nat.le_refl _) _
          have HB5 : Hid (Below w.heap.size w (w4.alloc (.cells #[.slice ha (n - k) (cap - k)] 23))) := bnx (unhide HB4) hal
          have HEH : Hid (Es (w4.alloc (.cells #[.slice ha (n - k) (cap - k)] 23)) ha (n - k) (cap - k) (l.drop k)) := by
            have := ((unhide HE).below (unhide HB5)).hi k hkn
            rw [← unhide HHA] at this
            exact this
          have HRW := hide (rows1 (w := w4.alloc (.cells #[.slice ha (n - k) (cap - k)] 23)) (g := w4.heap.size) (by simp) (unhide HEH))
          have HY5 := hide ((unhide HY4).below hal)
          refine (made_any i u w4.heap.size 1 1 _ _ (l.drop k) (n - k) _ (by omega) (by simp) (unhide HL) (by omega) (unhide HRW)).mono ?_
          rintro e w6 ⟨ao6, c6, rfl, HO6, HB6⟩
          have HBw : Hid (Below w.heap.size w w6) := bnx (unhide HB5) (unhide HB6)
          have HY6 := hide ((unhide HY5).below (unhide HB6))
          have HO : Hid (OwnL w6 (w.heap.size + 2) ⟨i, u, l.drop k⟩ ao6 (n - k) c6) := ⟨owns_mono (unhide HO6) (by simp; omega), unhide HL, by omega⟩
          obtain ⟨⟨c0, c1, c2⟩, f0, f1, f2⟩ := bx_slot (unhide HY6)
          clear HO6 HB6 hal
          go_wp2
          refine bodyPost_ret (res_le (B := w.heap.size + 1) rfl rfl (put3_bx (unhide HY6) _ _ _)) rfl ?_
          exact ⟨⟨_, _, _, _, rfl, ((unhide HO).put3 (by omega)).mono (by omega), .inl ⟨rfl, rfl⟩⟩, put3_below (unhide HBw) (by omega)⟩
        · have HIB : Hid (decide (IsBase i u) = false) := decide_eq_false (fun hh => h4 hh.2.1)
          rw [comR_no (L := ⟨b, t, l⟩) (fun hh => h4 hh.2.2)]
          clear hm h h1 h3 hk
          go_enter Tryd.func24, Tryd.ntmps24
          go_wp2_with fail
          refine (check_ok b t ao n cap l _ ((unhide HE).below (unhide HB0)) (unhide HM)).mono ?_
          rintro e w2 ⟨rfl, hb⟩
          have HB : Hid (Below w.heap.size w w2) := bnx (unhide HB0) hb
          have HX := hide ((unhide HX0).below hb)
          have HY := hide ((unhide HY0).below hb)
          have hs2 : w.heap.size + 2 ≤ w2.heap.size := by rw [← hs0]; exact hb.size
          obtain ⟨⟨c0, c1, c2⟩, f0, f1, f2⟩ := bx_slot (unhide HX)
          clear hb HX0 HY0 hs0 HB0
          go_wp2_with fail
          refine (termAt_any b t ao n cap l i _ ((unhide HE).below (unhide HB)) (unhide HM)).mono ?_
          rw [unhide HTA]
          rintro e w3 ⟨rfl, hb⟩
          have HB3 : Hid (Below w.heap.size w w3) := bnx (unhide HB) hb
          have HX3 := hide ((unhide HX).below hb)
          have HY3 := hide ((unhide HY).below hb)
          have hs3 : w.heap.size + 2 ≤ w3.heap.size := by have := hb.size; omega
          clear hb c0 c1 c2 f0 f1 f2 HX HY HB hs2
          obtain ⟨⟨c0, c1, c2⟩, f0, f1, f2⟩ := bx_slot (unhide HX3)
          unfold tmRes
          clear HX3
          go_wp2_with fail
          refine (isBase_any i u w3).mono ?_
          rintro e w' ⟨rfl, hw⟩
          obtain rfl := hw.symm
          rw [unhide HIB]
          go_wp2_with fail
          refine (fault_n 1 w3).mono ?_
          rintro e w9 ⟨x, rfl, HER, HB9⟩
          have HY9 := hide ((unhide HY3).below (unhide HB9))
          have HBz := hide (bnx (unhide HB3) (unhide HB9))
          clear c0 c1 c2 f0 f1 f2
          obtain ⟨⟨c0, c1, c2⟩, f0, f1, f2⟩ := bx_slot (unhide HY9)
          go_wp2
          refine bodyPost_ret (res_le (B := w.heap.size + 1) rfl rfl (put3_bx (unhide HY9) _ _ _)) rfl ?_
          exact ⟨⟨_, _, _, _, rfl, OwnL.nil _ _, .inr (((unhide HER).put3 (by omega)).mono (by omega))⟩, put3_below (unhide HBz) (by omega)⟩
  · rw [chkR_bad hm]
    have HM := hide hm
    clear hm h
    go_enter Tryd.func24, Tryd.ntmps24
    go_wp2_with fail
    refine (check_bad b t ao n cap l _ ((unhide HE).below (unhide HB0)) (unhide HM)).mono ?_
    rintro e w2 ⟨x, rfl, HER, HB2⟩
    have HY := hide ((unhide HY0).below (unhide HB2))
    have HB := hide (bnx (unhide HB0) (unhide HB2))
    obtain ⟨⟨c0, c1, c2⟩, f0, f1, f2⟩ := bx_slot (unhide HY)
    have HER2 := hide ((unhide HER).mono (B' := w.heap.size + 2) (by rw [hs0]; exact Nat.le_refl _))
    clear HB2 HY0 HX0 HER hs0
    go_wp2
    refine bodyPost_ret (res_le (B := w.heap.size + 1) rfl rfl (put3_bx (unhide HY) _ _ _)) rfl ?_
    exact ⟨⟨_, _, _, _, rfl, OwnL.nil _ _, .inr (((unhide HER2).put3 (by omega)).mono (by omega))⟩, put3_below (unhide HB) (by omega)⟩
end Go.Proofs.YtcffbkgkdoaplaaDoor.Et
