/- Proved here: entries.Slice: what it tells of any log. Helper contracts. -/
import Derived.Test.YtcffbkgkdoaplaaDoorZECm
namespace Go.Proofs.YtcffbkgkdoaplaaDoor.Et
open Go.RowKit Nt
set_option maxRecDepth 100000

/-- what a call tells of a list: in memory of its own, an error with its number -/
def TelS (B : Nat) (r : Int × List En) (e : Ending) (w' : World) : Prop := ∃ E a k c, e = .returned (.tuple #[.slice a k c, E]) ∧ Hid (OwnL w' B ⟨0, 0, r.2⟩ a k c) ∧ Hid (ErrB w' B E r.1)
def chkS (L : Lo) (r : Int × List En) : Int × List En := if May L then r else (1, [])
theorem chkS_bad {L : Lo} (h : ¬ May L) (r : Int × List En) : chkS L r = (1, []) := if_neg h
theorem chkS_ok {L : Lo} (h : May L) (r : Int × List En) : chkS L r = r := if_pos h
theorem partR_none {L : Lo} {i N : Int} (h : ¬ (L.b < i ∧ i ≤ lastI L + 1)) : partR L i N = (8, []) := if_neg h
theorem partR_neg {L : Lo} {i N : Int} (h : L.b < i ∧ i ≤ lastI L + 1) (h2 : N < 0) : partR L i N = (1, []) := by unfold partR; rw [if_pos h, if_pos h2]
theorem partR_yes {L : Lo} {i N : Int} (h : L.b < i ∧ i ≤ lastI L + 1) (h2 : ¬ N < 0) : partR L i N = (0, partL L i N) := by unfold partR; rw [if_pos h, if_neg h2]
theorem OwnL.nil2 (w : World) (B : Nat) : OwnL w B ⟨0, 0, []⟩ none 0 0 := ⟨World.ownsRow_nil _ _ _ _, rfl, by omega⟩
set_option maxHeartbeats 8000000 in
theorem sliE_any (b t : Int) (ao : Option Addr) (n cap : Nat) (l : List En) (i N : Int) (w : World) (h : Es w ao n cap l) :
    Calls Tryd.prog 23 #[.agg #[.int .i64 b, .int .i64 t, .slice ao n cap], .int .i64 i, .int .i64 N] w fun e w' => TelS w.heap.size (chkS ⟨b, t, l⟩ (partR ⟨b, t, l⟩ i N)) e w' ∧ Hid (Below w.heap.size w w') := by
  have HB0 : Hid (Below w.heap.size w (w.alloc (.cells #[.int .i64 b, .int .i64 t, .slice ao n cap] 25))) := (Below.refl _ _).alloc (Nat.le_refl _) _
  have HX0 : Hid (Bx (w.alloc (.cells #[.int .i64 b, .int .i64 t, .slice ao n cap] 25)) w.heap.size [.int .i64 b, .int .i64 t, .slice ao n cap] 25) := Bx.new w _ _ _ rfl
  have hs0 : (w.alloc (.cells #[.int .i64 b, .int .i64 t, .slice ao n cap] 25)).heap.size = w.heap.size + 1 := by simp
  have HE := hide h
  by_cases hm : May ⟨b, t, l⟩
  · rw [chkS_ok hm]
    have HM := hide hm
    have hnc := h.2.1
    have hnx := h.2.2.2.1
    have hb1 : 0 ≤ b := hm.1.1
    have hb2 : b ≤ 1099511625728 := hm.1.2.1
    have hn5 : n ≤ 512 := by have := hm.2.1; rw [h.1] at this; exact this
    have HI : Hid (lastI ⟨b, t, l⟩ = b + (n : Int)) := by
      show _ = _
      unfold lastI
      rw [h.1]
    obtain ⟨T, hT⟩ : ∃ T, T = lastT ⟨b, t, l⟩ := ⟨_, rfl⟩
    have HT := hide hT
    clear hT
    have hwi : IntKind.i64.wrap (b + (n : Int) + 1) = b + (n : Int) + 1 := by rw [IntKind.wrap_i64]; omega
    by_cases h1 : i ≤ b
    · rw [partR_none (L := ⟨b, t, l⟩) (by show ¬ (b < i ∧ _); omega)]
      clear hm h
      go_enter Tryd.func23, Tryd.ntmps23
      go_wp2_with fail
      refine (check_ok b t ao n cap l _ ((unhide HE).below (unhide HB0)) (unhide HM)).mono ?_
      rintro e w2 ⟨rfl, hb⟩
      have HB : Hid (Below w.heap.size w w2) := bnx (unhide HB0) hb
      have HX := hide ((unhide HX0).below hb)
      have hs2 : w.heap.size + 1 ≤ w2.heap.size := by rw [← hs0]; exact hb.size
      obtain ⟨⟨c0, c1, c2⟩, f0, f1, f2⟩ := bx_slot (unhide HX)
      clear hb HX0 hs0 HB0
      go_wp2_with fail
      refine (last_any b t ao n cap l _ ((unhide HE).below (unhide HB)) (unhide HM)).mono ?_
      rw [unhide HI, ← unhide HT]
      rintro e w3 ⟨rfl, hb⟩
      have HB3 : Hid (Below w.heap.size w w3) := bnx (unhide HB) hb
      have HX3 := hide ((unhide HX).below hb)
      have hs3 : w.heap.size + 1 ≤ w3.heap.size := by have := hb.size; omega
      clear hb c0 c1 c2 f0 f1 f2 HX HB hs2
      obtain ⟨⟨c0, c1, c2⟩, f0, f1, f2⟩ := bx_slot (unhide HX3)
      clear HX3
      go_wp2_with fail
      refine (fault_n 8 w3).mono ?_
      rintro e w9 ⟨x, rfl, HER, HB9⟩
      go_wp2
      go_ret2
      exact ⟨⟨_, _, _, _, rfl, OwnL.nil2 _ _, .inr ((unhide HER).mono (by omega))⟩, bnx (unhide HB3) (unhide HB9)⟩
    · by_cases h2 : b + (n : Int) + 1 < i
      · rw [partR_none (L := ⟨b, t, l⟩) (by rw [unhide HI]; show ¬ (b < i ∧ _); omega)]
        clear hm h
        go_enter Tryd.func23, Tryd.ntmps23
        go_wp2_with fail
        refine (check_ok b t ao n cap l _ ((unhide HE).below (unhide HB0)) (unhide HM)).mono ?_
        rintro e w2 ⟨rfl, hb⟩
        have HB : Hid (Below w.heap.size w w2) := bnx (unhide HB0) hb
        have HX := hide ((unhide HX0).below hb)
        have hs2 : w.heap.size + 1 ≤ w2.heap.size := by rw [← hs0]; exact hb.size
        obtain ⟨⟨c0, c1, c2⟩, f0, f1, f2⟩ := bx_slot (unhide HX)
        clear hb HX0 hs0 HB0
        go_wp2_with fail
        refine (last_any b t ao n cap l _ ((unhide HE).below (unhide HB)) (unhide HM)).mono ?_
        rw [unhide HI, ← unhide HT]
        rintro e w3 ⟨rfl, hb⟩
        have HB3 : Hid (Below w.heap.size w w3) := bnx (unhide HB) hb
        have HX3 := hide ((unhide HX).below hb)
        have hs3 : w.heap.size + 1 ≤ w3.heap.size := by have := hb.size; omega
        clear hb c0 c1 c2 f0 f1 f2 HX HB hs2
        obtain ⟨⟨c0, c1, c2⟩, f0, f1, f2⟩ := bx_slot (unhide HX3)
        clear HX3
        go_wp2_with fail
        refine (fault_n 8 w3).mono ?_
        rintro e w9 ⟨x, rfl, HER, HB9⟩
        go_wp2
        go_ret2
        exact ⟨⟨_, _, _, _, rfl, OwnL.nil2 _ _, .inr ((unhide HER).mono (by omega))⟩, bnx (unhide HB3) (unhide HB9)⟩
      · have hin : b < i ∧ i ≤ lastI ⟨b, t, l⟩ + 1 := by rw [unhide HI]; omega
        by_cases h3 : N < 0
        · rw [partR_neg (L := ⟨b, t, l⟩) hin h3]
          clear hm h hin
          go_enter Tryd.func23, Tryd.ntmps23
          go_wp2_with fail
          refine (check_ok b t ao n cap l _ ((unhide HE).below (unhide HB0)) (unhide HM)).mono ?_
          rintro e w2 ⟨rfl, hb⟩
          have HB : Hid (Below w.heap.size w w2) := bnx (unhide HB0) hb
          have HX := hide ((unhide HX0).below hb)
          have hs2 : w.heap.size + 1 ≤ w2.heap.size := by rw [← hs0]; exact hb.size
          obtain ⟨⟨c0, c1, c2⟩, f0, f1, f2⟩ := bx_slot (unhide HX)
          clear hb HX0 hs0 HB0
          go_wp2_with fail
          refine (last_any b t ao n cap l _ ((unhide HE).below (unhide HB)) (unhide HM)).mono ?_
          rw [unhide HI, ← unhide HT]
          rintro e w3 ⟨rfl, hb⟩
          have HB3 : Hid (Below w.heap.size w w3) := bnx (unhide HB) hb
          have HX3 := hide ((unhide HX).below hb)
          have hs3 : w.heap.size + 1 ≤ w3.heap.size := by have := hb.size; omega
          clear hb c0 c1 c2 f0 f1 f2 HX HB hs2
          obtain ⟨⟨c0, c1, c2⟩, f0, f1, f2⟩ := bx_slot (unhide HX3)
          clear HX3
          go_wp2_with fail
          refine (fault_n 1 w3).mono ?_
          rintro e w9 ⟨x, rfl, HER, HB9⟩
          go_wp2
          go_ret2
          exact ⟨⟨_, _, _, _, rfl, OwnL.nil2 _ _, .inr ((unhide HER).mono (by omega))⟩, bnx (unhide HB3) (unhide HB9)⟩
        · obtain ⟨k, hk⟩ : ∃ k : Nat, i = b + 1 + (k : Int) := ⟨(i - b - 1).toNat, by omega⟩
          obtain ⟨q, hq⟩ : ∃ q : Nat, N = (q : Int) := ⟨N.toNat, by omega⟩
          have hkn : k ≤ n := by omega
          by_cases hqq : q ≤ n - k
          · have hl1 := h.1
            have hmk : q ≤ n - k := by omega
            have HR : Hid (partR ⟨b, t, l⟩ i N = (0, (l.drop k).take q)) := by
              show _ = _
              rw [partR_yes (L := ⟨b, t, l⟩) hin h3]
              unfold partL
              show ((0 : Int), (l.drop (i - b - 1).toNat).take N.toNat) = _
              rw [show (i - b - 1).toNat = k by omega, hq, Int.toNat_natCast]
            rw [unhide HR]
            have HL : Hid (((l.drop k).take q).length = q) := by
              show _ = _
              rw [List.length_take, List.length_drop]; omega
            have hnk : ((n - k : Nat) : Int) = (n : Int) - (k : Int) := by omega
            have hi1 : b + 1 + (k : Int) - 1 = b + (k : Int) := by omega
            have hi2 : wrap64 (b + 1 + (k : Int) - 1) = b + (k : Int) := by unfold wrap64; omega
            have hmc : q ≤ cap - k := by omega
            subst hk hq
            clear hm h HR hin hl1
            go_enter Tryd.func23, Tryd.ntmps23
            go_wp2_with fail
            refine (check_ok b t ao n cap l _ ((unhide HE).below (unhide HB0)) (unhide HM)).mono ?_
            rintro e w2 ⟨rfl, hb⟩
            have HB : Hid (Below w.heap.size w w2) := bnx (unhide HB0) hb
            have HX := hide ((unhide HX0).below hb)
            have hs2 : w.heap.size + 1 ≤ w2.heap.size := by rw [← hs0]; exact hb.size
            obtain ⟨⟨c0, c1, c2⟩, f0, f1, f2⟩ := bx_slot (unhide HX)
            clear hb HX0 hs0 HB0
            go_wp2_with fail
            refine (last_any b t ao n cap l _ ((unhide HE).below (unhide HB)) (unhide HM)).mono ?_
            rw [unhide HI, ← unhide HT]
            rintro e w3 ⟨rfl, hb⟩
            have HB3 : Hid (Below w.heap.size w w3) := bnx (unhide HB) hb
            have HX3 := hide ((unhide HX).below hb)
            have hs3 : w.heap.size + 1 ≤ w3.heap.size := by have := hb.size; omega
            clear hb c0 c1 c2 f0 f1 f2 HX HB hs2
            obtain ⟨⟨c0, c1, c2⟩, f0, f1, f2⟩ := bx_slot (unhide HX3)
            clear HX3
            go_wp2_with fail
            refine (above_any b t ao n cap k _ hkn hnc hnx).mono ?_
            rintro e w4 ⟨rfl, hb⟩
            have HB4 : Hid (Below w.heap.size w w4) := bnx (unhide HB3) hb
            have hs4 : w.heap.size + 1 ≤ w4.heap.size := by have := hb.size; omega
            clear hb c0 c1 c2 f0 f1 f2
            obtain ⟨ha, hha⟩ : ∃ ha, ha = hiA ao 4 cap k := ⟨_, rfl⟩
            have HHA := hide hha
            rw [← hha]
            clear hha
            go_wp2_with fail
            have hal : Below w4.heap.size w4 (w4.alloc (.cells #[.slice ha q (cap - k)] 23)) := (Below.refl _ _).alloc (Nat.le_refl _) _
            have HB5 : Hid (Below w.heap.size w (w4.alloc (.cells #[.slice ha q (cap - k)] 23))) := bnx (unhide HB4) hal
            have HEH : Hid (Es (w4.alloc (.cells #[.slice ha q (cap - k)] 23)) ha q (cap - k) ((l.drop k).take q)) := by
              have := (((unhide HE).below (unhide HB5)).hi k hkn).lo q hmk
              rw [← unhide HHA] at this
              exact this
            have HRW := hide (rows1 (w := w4.alloc (.cells #[.slice ha q (cap - k)] 23)) (g := w4.heap.size) (by simp) (unhide HEH))
            have HLL : Hid ([(l.drop k).take q].flatten = (l.drop k).take q) := by simp [Hid]
            refine (concat_any w4.heap.size 1 1 _ _ _ (by omega) (by rw [unhide HLL, unhide HL]; omega) (unhide HRW)).mono ?_
            rw [unhide HLL, unhide HL]
            rintro e w6 ⟨v6, rfl, HO6, HB6⟩
            obtain ⟨a6, c6, rfl⟩ := owns_slice (unhide HO6)
            have HO : Hid (OwnL w6 (w.heap.size + 1) ⟨0, 0, (l.drop k).take q⟩ a6 q c6) := ⟨owns_mono (unhide HO6) (by simp; omega), unhide HL, by omega⟩
            have HBw : Hid (Below w.heap.size w w6) := bnx (unhide HB5) (unhide HB6)
            clear HO6 HB6 hal
            go_wp2
            go_ret2
            exact ⟨⟨_, _, _, _, rfl, (unhide HO).mono (by omega), .inl ⟨rfl, rfl⟩⟩, HBw⟩
          · have hl1 := h.1
            have hmk : (n - k) ≤ n - k := by omega
            have HR : Hid (partR ⟨b, t, l⟩ i N = (0, (l.drop k).take (n - k))) := by
              show _ = _
              rw [partR_yes (L := ⟨b, t, l⟩) hin h3]
              unfold partL
              show ((0 : Int), (l.drop (i - b - 1).toNat).take N.toNat) = _
              rw [show (i - b - 1).toNat = k by omega, hq, Int.toNat_natCast]
              rw [List.take_of_length_le (i := q) (by rw [List.length_drop]; omega), List.take_of_length_le (i := n - k) (by rw [List.length_drop]; omega)]
            rw [unhide HR]
            have HL : Hid (((l.drop k).take (n - k)).length = (n - k)) := by
              show _ = _
              rw [List.length_take, List.length_drop]; omega
            have hnk : ((n - k : Nat) : Int) = (n : Int) - (k : Int) := by omega
            have hi1 : b + 1 + (k : Int) - 1 = b + (k : Int) := by omega
            have hi2 : wrap64 (b + 1 + (k : Int) - 1) = b + (k : Int) := by unfold wrap64; omega
            have hmc : (n - k) ≤ cap - k := by omega
            subst hk hq
            clear hm h HR hin hl1
            go_enter Tryd.func23, Tryd.ntmps23
            go_wp2_with fail
            refine (check_ok b t ao n cap l _ ((unhide HE).below (unhide HB0)) (unhide HM)).mono ?_
            rintro e w2 ⟨rfl, hb⟩
            have HB : Hid (Below w.heap.size w w2) := bnx (unhide HB0) hb
            have HX := hide ((unhide HX0).below hb)
            have hs2 : w.heap.size + 1 ≤ w2.heap.size := by rw [← hs0]; exact hb.size
            obtain ⟨⟨c0, c1, c2⟩, f0, f1, f2⟩ := bx_slot (unhide HX)
            clear hb HX0 hs0 HB0
            go_wp2_with fail
            refine (last_any b t ao n cap l _ ((unhide HE).below (unhide HB)) (unhide HM)).mono ?_
            rw [unhide HI, ← unhide HT]
            rintro e w3 ⟨rfl, hb⟩
            have HB3 : Hid (Below w.heap.size w w3) := bnx (unhide HB) hb
            have HX3 := hide ((unhide HX).below hb)
            have hs3 : w.heap.size + 1 ≤ w3.heap.size := by have := hb.size; omega
            clear hb c0 c1 c2 f0 f1 f2 HX HB hs2
            obtain ⟨⟨c0, c1, c2⟩, f0, f1, f2⟩ := bx_slot (unhide HX3)
            clear HX3
            go_wp2_with fail
            refine (above_any b t ao n cap k _ hkn hnc hnx).mono ?_
            rintro e w4 ⟨rfl, hb⟩
            have HB4 : Hid (Below w.heap.size w w4) := bnx (unhide HB3) hb
            have hs4 : w.heap.size + 1 ≤ w4.heap.size := by have := hb.size; omega
            clear hb c0 c1 c2 f0 f1 f2
            obtain ⟨ha, hha⟩ : ∃ ha, ha = hiA ao 4 cap k := ⟨_, rfl⟩
            have HHA := hide hha
            rw [← hha]
            clear hha
            go_wp2_with fail
            have hal : Below w4.heap.size w4 (w4.alloc (.cells #[.slice ha (n - k) (cap - k)] 23)) := (Below.refl _ _).alloc (Nat.le_refl _) _
            have HB5 : Hid (Below w.heap.size w (w4.alloc (.cells #[.slice ha (n - k) (cap - k)] 23))) := bnx (unhide HB4) hal
            have HEH : Hid (Es (w4.alloc (.cells #[.slice ha (n - k) (cap - k)] 23)) ha (n - k) (cap - k) ((l.drop k).take (n - k))) := by
              have := (((unhide HE).below (unhide HB5)).hi k hkn).lo (n - k) hmk
              rw [← unhide HHA] at this
              exact this
            have HRW := hide (rows1 (w := w4.alloc (.cells #[.slice ha (n - k) (cap - k)] 23)) (g := w4.heap.size) (by simp) (unhide HEH))
            have HLL : Hid ([(l.drop k).take (n - k)].flatten = (l.drop k).take (n - k)) := by simp [Hid]
            refine (concat_any w4.heap.size 1 1 _ _ _ (by omega) (by rw [unhide HLL, unhide HL]; omega) (unhide HRW)).mono ?_
            rw [unhide HLL, unhide HL]
            rintro e w6 ⟨v6, rfl, HO6, HB6⟩
            obtain ⟨a6, c6, rfl⟩ := owns_slice (unhide HO6)
            have HO : Hid (OwnL w6 (w.heap.size + 1) ⟨0, 0, (l.drop k).take (n - k)⟩ a6 (n - k) c6) := ⟨owns_mono (unhide HO6) (by simp; omega), unhide HL, by omega⟩
            have HBw : Hid (Below w.heap.size w w6) := bnx (unhide HB5) (unhide HB6)
            clear HO6 HB6 hal
            go_wp2
            go_ret2
            exact ⟨⟨_, _, _, _, rfl, (unhide HO).mono (by omega), .inl ⟨rfl, rfl⟩⟩, HBw⟩
  · rw [chkS_bad hm]
    have HM := hide hm
    clear hm h
    go_enter Tryd.func23, Tryd.ntmps23
    go_wp2_with fail
    refine (check_bad b t ao n cap l _ ((unhide HE).below (unhide HB0)) (unhide HM)).mono ?_
    rintro e w2 ⟨x, rfl, HER, HB2⟩
    go_wp2
    go_ret2
    exact ⟨⟨_, _, _, _, rfl, OwnL.nil2 _ _, .inr ((unhide HER).mono (by omega))⟩, bnx (unhide HB0) (unhide HB2)⟩
end Go.Proofs.YtcffbkgkdoaplaaDoor.Et
