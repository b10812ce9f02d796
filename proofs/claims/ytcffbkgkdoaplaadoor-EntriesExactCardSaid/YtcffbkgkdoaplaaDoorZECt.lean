/- Proved here: entries.Cut: what it tells of any log. Helper contracts. -/
import Derived.Test.YtcffbkgkdoaplaaDoorZEAp
import Derived.Test.YtcffbkgkdoaplaaDoorZKTk
namespace Go.Proofs.YtcffbkgkdoaplaaDoor.Et
open Go.RowKit Nt
set_option maxRecDepth 100000

theorem rows1 {w : World} {g : Nat} {a1 : Option Addr} {n1 c1 : Nat} {l1 : List En} (h0 : w.cell? ⟨g, 0, none⟩ = some (.slice a1 n1 c1)) (e1 : Es w a1 n1 c1 l1) : RowsE w g 1 (fun _ => ⟨a1, n1, c1⟩) [l1] := ⟨rfl, fun i hi => by
  obtain rfl : i = 0 := by omega
  exact ⟨h0, e1⟩⟩
theorem cutR_no {L : Lo} {i : Int} (h : i < L.b ∨ lastI L < i) : cutR L i = (1, lo0) := if_neg (by omega)
theorem cutR_yes {L : Lo} {i : Int} (h : L.b ≤ i) (h2 : i ≤ lastI L) : cutR L i = (0, cutL L i) := if_pos ⟨h, h2⟩
set_option maxHeartbeats 8000000 in
theorem cutE_any (b t : Int) (ao : Option Addr) (n cap : Nat) (l : List En) (i : Int) (w : World) (h : Es w ao n cap l) :
    Calls Tryd.prog 22 #[.agg #[.int .i64 b, .int .i64 t, .slice ao n cap], .int .i64 i] w fun e w' => TelX w.heap.size (chkR ⟨b, t, l⟩ (cutR ⟨b, t, l⟩ i)) e w' ∧ Hid (Below w.heap.size w w') := by
  have HB0 : Hid (Below w.heap.size w ((w.alloc (.cells #[.int .i64 b, .int .i64 t, .slice ao n cap] 25)).alloc (.cells #[.int .i64 0, .int .i64 0, .slice none 0 0] 25))) := ((Below.refl _ _).alloc (Nat.le_refl _) _).alloc (by simp) _
  have HX0 : Hid (Bx ((w.alloc (.cells #[.int .i64 b, .int .i64 t, .slice ao n cap] 25)).alloc (.cells #[.int .i64 0, .int .i64 0, .slice none 0 0] 25)) w.heap.size [.int .i64 b, .int .i64 t, .slice ao n cap] 25) := (Bx.new w _ _ _ rfl).below ((Below.refl _ _).alloc (Nat.le_refl _) _)
  have HY0 : Hid (Bx ((w.alloc (.cells #[.int .i64 b, .int .i64 t, .slice ao n cap] 25)).alloc (.cells #[.int .i64 0, .int .i64 0, .slice none 0 0] 25)) (w.heap.size + 1) [.int .i64 0, .int .i64 0, .slice none 0 0] 25) := Bx.new _ _ _ _ (by simp)
  have hs0 : ((w.alloc (.cells #[.int .i64 b, .int .i64 t, .slice ao n cap] 25)).alloc (.cells #[.int .i64 0, .int .i64 0, .slice none 0 0] 25)).heap.size = w.heap.size + 2 := by simp
  have HE := hide h
  by_cases hm : May ⟨b, t, l⟩
  · rw [chkR_ok hm]
    have HM := hide hm
    have hnc := h.2.1
    have hnx := h.2.2.2.1
    have hb1 : 0 ≤ b := hm.1.1
    have hb2 : b ≤ 1099511625728 := hm.1.2.1
    have hn5 : n ≤ 512 := by have := hm.2.1; rw [h.1] at this; exact this
    have HI : Hid (lastI ⟨b, t, l⟩ = b + (n : Int)) := by
      show _ = _
      unfold lastI
      rw [h.1]
    obtain ⟨T, hT⟩ : ∃ T, T = lastT ⟨b, t, l⟩ := ⟨_, rfl⟩
    have HT := hide hT
    clear hT
    by_cases h1 : i < b
    · rw [cutR_no (.inl h1)]
      clear hm h
      go_enter Tryd.func22, Tryd.ntmps22
      go_wp2_with fail
      refine (check_ok b t ao n cap l _ ((unhide HE).below (unhide HB0)) (unhide HM)).mono ?_
      rintro e w2 ⟨rfl, hb⟩
      have HB : Hid (Below w.heap.size w w2) := bnx (unhide HB0) hb
      have HX := hide ((unhide HX0).below hb)
      have HY := hide ((unhide HY0).below hb)
      have hs2 : w.heap.size + 2 ≤ w2.heap.size := by rw [← hs0]; exact hb.size
      obtain ⟨⟨c0, c1, c2⟩, f0, f1, f2⟩ := bx_slot (unhide HX)
      clear hb HX0 HY0 hs0 HB0
      go_wp2_with fail
      refine (last_any b t ao n cap l _ ((unhide HE).below (unhide HB)) (unhide HM)).mono ?_
      rw [unhide HI, ← unhide HT]
      rintro e w3 ⟨rfl, hb⟩
      have HB3 : Hid (Below w.heap.size w w3) := bnx (unhide HB) hb
      have HX3 := hide ((unhide HX).below hb)
      have HY3 := hide ((unhide HY).below hb)
      have hs3 : w.heap.size + 2 ≤ w3.heap.size := by have := hb.size; omega
      clear hb c0 c1 c2 f0 f1 f2 HX HY HB hs2
      obtain ⟨⟨c0, c1, c2⟩, f0, f1, f2⟩ := bx_slot (unhide HX3)
      clear HX3
      go_wp2_with fail
      refine (fault_n 1 w3).mono ?_
      rintro e w9 ⟨x, rfl, HER, HB9⟩
      have HY9 := hide ((unhide HY3).below (unhide HB9))
      have HBz := hide (bnx (unhide HB3) (unhide HB9))
      clear c0 c1 c2 f0 f1 f2
      obtain ⟨⟨c0, c1, c2⟩, f0, f1, f2⟩ := bx_slot (unhide HY9)
      go_wp2
      refine bodyPost_ret (res_le (B := w.heap.size + 1) rfl rfl (put3_bx (unhide HY9) _ _ _)) rfl ?_
      exact ⟨⟨_, _, _, _, rfl, OwnL.nil _ _, .inr (((unhide HER).put3 (by omega)).mono (by omega))⟩, put3_below (unhide HBz) (by omega)⟩
    · by_cases h2 : b + (n : Int) < i
      · rw [cutR_no (.inr (by rw [unhide HI]; exact h2))]
        clear hm h
        go_enter Tryd.func22, Tryd.ntmps22
        go_wp2_with fail
        refine (check_ok b t ao n cap l _ ((unhide HE).below (unhide HB0)) (unhide HM)).mono ?_
        rintro e w2 ⟨rfl, hb⟩
        have HB : Hid (Below w.heap.size w w2) := bnx (unhide HB0) hb
        have HX := hide ((unhide HX0).below hb)
        have HY := hide ((unhide HY0).below hb)
        have hs2 : w.heap.size + 2 ≤ w2.heap.size := by rw [← hs0]; exact hb.size
        obtain ⟨⟨c0, c1, c2⟩, f0, f1, f2⟩ := bx_slot (unhide HX)
        clear hb HX0 HY0 hs0 HB0
        go_wp2_with fail
        refine (last_any b t ao n cap l _ ((unhide HE).below (unhide HB)) (unhide HM)).mono ?_
        rw [unhide HI, ← unhide HT]
        rintro e w3 ⟨rfl, hb⟩
        have HB3 : Hid (Below w.heap.size w w3) := bnx (unhide HB) hb
        have HX3 := hide ((unhide HX).below hb)
        have HY3 := hide ((unhide HY).below hb)
        have hs3 : w.heap.size + 2 ≤ w3.heap.size := by have := hb.size; omega
        clear hb c0 c1 c2 f0 f1 f2 HX HY HB hs2
        obtain ⟨⟨c0, c1, c2⟩, f0, f1, f2⟩ := bx_slot (unhide HX3)
        clear HX3
        go_wp2_with fail
        refine (fault_n 1 w3).mono ?_
        rintro e w9 ⟨x, rfl, HER, HB9⟩
        have HY9 := hide ((unhide HY3).below (unhide HB9))
        have HBz := hide (bnx (unhide HB3) (unhide HB9))
        clear c0 c1 c2 f0 f1 f2
        obtain ⟨⟨c0, c1, c2⟩, f0, f1, f2⟩ := bx_slot (unhide HY9)
        go_wp2
        refine bodyPost_ret (res_le (B := w.heap.size + 1) rfl rfl (put3_bx (unhide HY9) _ _ _)) rfl ?_
        exact ⟨⟨_, _, _, _, rfl, OwnL.nil _ _, .inr (((unhide HER).put3 (by omega)).mono (by omega))⟩, put3_below (unhide HBz) (by omega)⟩
      · obtain ⟨k, hk⟩ : ∃ k : Nat, i = b + (k : Int) := ⟨(i - b).toNat, by omega⟩
        have hkn : k ≤ n := by omega
        have HR : Hid (cutR ⟨b, t, l⟩ i = (0, ⟨b, t, l.take k⟩)) := by
          show _ = _
          rw [cutR_yes (L := ⟨b, t, l⟩) (by show b ≤ i; omega) (by rw [unhide HI]; omega)]
          unfold cutL
          show ((0 : Int), Lo.mk b t (l.take (i - b).toNat)) = _
          rw [show (i - b).toNat = k by omega]
        rw [unhide HR]
        have HL : Hid ((l.take k).length = k) := by
          show _ = _
          rw [List.length_take, h.1]; omega
        subst hk
        clear hm h HR
        go_enter Tryd.func22, Tryd.ntmps22
        go_wp2_with fail
        refine (check_ok b t ao n cap l _ ((unhide HE).below (unhide HB0)) (unhide HM)).mono ?_
        rintro e w2 ⟨rfl, hb⟩
        have HB : Hid (Below w.heap.size w w2) := bnx (unhide HB0) hb
        have HX := hide ((unhide HX0).below hb)
        have HY := hide ((unhide HY0).below hb)
        have hs2 : w.heap.size + 2 ≤ w2.heap.size := by rw [← hs0]; exact hb.size
        obtain ⟨⟨c0, c1, c2⟩, f0, f1, f2⟩ := bx_slot (unhide HX)
        clear hb HX0 HY0 hs0 HB0
        go_wp2_with fail
        refine (last_any b t ao n cap l _ ((unhide HE).below (unhide HB)) (unhide HM)).mono ?_
        rw [unhide HI, ← unhide HT]
        rintro e w3 ⟨rfl, hb⟩
        have HB3 : Hid (Below w.heap.size w w3) := bnx (unhide HB) hb
        have HX3 := hide ((unhide HX).below hb)
        have HY3 := hide ((unhide HY).below hb)
        have hs3 : w.heap.size + 2 ≤ w3.heap.size := by have := hb.size; omega
        clear hb c0 c1 c2 f0 f1 f2 HX HY HB hs2
        obtain ⟨⟨c0, c1, c2⟩, f0, f1, f2⟩ := bx_slot (unhide HX3)
        have HX3' := HX3
        clear HX3
        go_wp2_with fail
        refine wp_region_noPanic ?_
        refine wp_region_held_drew (S := fun W => W.cell? ⟨w.heap.size, 0, none⟩ = some (.int .i64 b) ∧ W.cell? ⟨w.heap.size, 1, none⟩ = some (.int .i64 t) ∧ W.cell? ⟨w.heap.size, 2, none⟩ = some (.slice ao n cap)) (by kernel_rfl) ⟨c0, c1, c2⟩ (fun hHeld => ?_)
        refine rtk 0 (h := ?_)
        refine rtk 1 (h := ?_)
        refine rtk 2 (h := ?_)
        refine rtk 3 (h := ?_)
        refine rtk 4 (h := ?_)
        refine rtk 5 (h := ?_)
        have HBd : Hid (Below w3.heap.size w3 w3.drew) := below_drewN (Below.refl _ _) 1
        refine rcl 6 (h := fun K hK => ?_)
        go_simp
        refine (upTo_any b t ao n cap k _ hkn hnc hnx).mono ?_
        rintro e w4 ⟨rfl, hb0⟩
        have hb : Below w3.heap.size w3 w4 := bnx (unhide HBd) hb0
        have HB4 : Hid (Below w.heap.size w w4) := bnx (unhide HB3) hb
        have HX4 := hide ((unhide HX3').below hb)
        have HY4 := hide ((unhide HY3).below hb)
        have hs4 : w.heap.size + 2 ≤ w4.heap.size := by have := hb.size; omega
        clear hb hb0 HBd hHeld c0 c1 c2 f0 f1 f2 HY3 HX3'
        refine hK.out _ _ (bx_slot (unhide HX4)).1 (fun hHeld => ?_)
        clear hK K
        have hal : Below w4.heap.size w4 (w4.alloc (.cells #[.slice ao k cap] 23)) := (Below.refl _ _).alloc (Nat.le_refl _) _
        have HB5 : Hid (Below w.heap.size w (w4.alloc (.cells #[.slice ao k cap] 23))) := bnx (unhide HB4) hal
        have HRW := hide (rows1 (w := w4.alloc (.cells #[.slice ao k cap] 23)) (g := w4.heap.size) (by simp) (((unhide HE).below (unhide HB5)).lo k hkn))
        have HY5 := hide ((unhide HY4).below hal)
        have HX5 := hide ((unhide HX4).below hal)
        clear hal
        refine rcl 7 (h := fun K hK => ?_)
        go_simp
        refine hK.out _ _ (bx_slot (unhide HX5)).1 (fun hHeld5 => ?_)
        clear hK K hHeld
        refine rcl 8 (h := fun K hK => ?_)
        go_simp
        refine (made_any b t w4.heap.size 1 1 _ _ (l.take k) k _ (by omega) (by simp) (unhide HL) (by omega) (unhide HRW)).mono ?_
        rintro e w6 ⟨ao6, c6, rfl, HO6, HB6⟩
        have HBw : Hid (Below w.heap.size w w6) := bnx (unhide HB5) (unhide HB6)
        have HY6 := hide ((unhide HY5).below (unhide HB6))
        have HX6 := hide ((unhide HX5).below (unhide HB6))
        have HO : Hid (OwnL w6 (w.heap.size + 2) ⟨b, t, l.take k⟩ ao6 k c6) := ⟨owns_mono (unhide HO6) (by simp; omega), unhide HL, by omega⟩
        refine hK.out _ _ (bx_slot (unhide HX6)).1 (fun hHeld => ?_)
        clear hK K HO6 HB6 hHeld5
        obtain ⟨⟨c0, c1, c2⟩, f0, f1, f2⟩ := bx_slot (unhide HY6)
        refine rcl 9 (h := fun K hK => ?_)
        go_simp
        refine hK.out _ _ (bx_slot ((unhide HX6).fr (put3_fr w6 (w.heap.size + 1) (.int .i64 b) (.int .i64 t) (.slice ao6 k c6)) (by omega))).1 (fun hHeld7 => ?_)
        clear hK K
        refine rcl 10 (h := fun K hK => ?_)
        go_simp
        refine hK.out _ _ hHeld7 (fun hHeld8 => ?_)
        clear hK K
        refine wpAnyH_done (by kernel_rfl) ?_ _
        refine NoPanic.normal ?_
        go_wp2
        refine bodyPost_ret (res_le (B := w.heap.size + 1) rfl rfl (put3_bx (unhide HY6) _ _ _)) rfl ?_
        exact ⟨⟨_, _, _, _, rfl, ((unhide HO).put3 (by omega)).mono (by omega), .inl ⟨rfl, rfl⟩⟩, put3_below (unhide HBw) (by omega)⟩
  · rw [chkR_bad hm]
    have HM := hide hm
    clear hm h
    go_enter Tryd.func22, Tryd.ntmps22
    go_wp2_with fail
    refine (check_bad b t ao n cap l _ ((unhide HE).below (unhide HB0)) (unhide HM)).mono ?_
    rintro e w2 ⟨x, rfl, HER, HB2⟩
    have HY := hide ((unhide HY0).below (unhide HB2))
    have HB := hide (bnx (unhide HB0) (unhide HB2))
    obtain ⟨⟨c0, c1, c2⟩, f0, f1, f2⟩ := bx_slot (unhide HY)
    have HER2 := hide ((unhide HER).mono (B' := w.heap.size + 2) (by rw [hs0]; exact Nat.le_refl _))
    clear HB2 HY0 HX0 HER hs0
    go_wp2
    refine bodyPost_ret (res_le (B := w.heap.size + 1) rfl rfl (put3_bx (unhide HY) _ _ _)) rfl ?_
    exact ⟨⟨_, _, _, _, rfl, OwnL.nil _ _, .inr (((unhide HER2).put3 (by omega)).mono (by omega))⟩, put3_below (unhide HB) (by omega)⟩
end Go.Proofs.YtcffbkgkdoaplaaDoor.Et
