/- Proved here: dovecoteref15.Slice and Compact of a log that may be. Helper contracts. -/
import Derived.Test.YtcffbkgkdoaplaaDoorZEPc
namespace Go.Proofs.YtcffbkgkdoaplaaDoor.Et
open Go.RowKit Nt
set_option maxRecDepth 100000

/-- a list that the page tells, as it reads -/
def RdS (B : Nat) (w' : World) (l : List En) (e : Ending) : Prop := ∃ ao n c, e = .returned (.slice ao n c) ∧ Hid (OwnL w' B ⟨0, 0, l⟩ ao n c)
set_option maxHeartbeats 8000000 in
theorem sliP_any (b t : Int) (ao : Option Addr) (n cap q N m : Nat) (l : List En) (w : World) (h : Es w ao n cap l) (hq : q ≤ n) (hn5 : n ≤ 512) (hm : m = min N (n - q)) :
    Calls Tryd.prog 12 #[.agg #[.int .i64 b, .int .i64 t, .slice ao n cap], .int .i64 (b + 1 + (q : Int)), .int .i64 (N : Int)] w fun e w' => RdS w.heap.size w' ((l.drop q).take m) e ∧ Hid (Below w.heap.size w w') := by
  have HB0 : Hid (Below w.heap.size w (w.alloc (.cells #[.int .i64 b, .int .i64 t, .slice ao n cap] 25))) := (Below.refl _ _).alloc (Nat.le_refl _) _
  have hE := (h.hi q hq).lo m (by omega)
  have HEM := hide (hE.below (unhide HB0))
  have HL := hide hE.1
  have hnc := h.2.1
  have hi1 : b + 1 + (q : Int) - b = 1 + (q : Int) := by omega
  have hi2 : wrap64 (b + 1 + (q : Int) - b) = 1 + (q : Int) := by unfold wrap64; omega
  have hi3 : (1 : Int) + (q : Int) - 1 = (q : Int) := by omega
  have hi4 : wrap64 ((1 : Int) + (q : Int) - 1) = (q : Int) := by unfold wrap64; omega
  obtain ⟨d, hd⟩ : ∃ d, d = n - q := ⟨_, rfl⟩
  have hdn : n = q + d := by omega
  have hi5 : (n : Int) - (q : Int) = (d : Int) := by omega
  have hi6 : wrap64 ((n : Int) - (q : Int)) = (d : Int) := by unfold wrap64; omega
  have hwi1 : IntKind.i64.wrap (b + 1 + (q : Int) - b) = 1 + (q : Int) := by rw [IntKind.wrap_i64]; omega
  have hwi2 : IntKind.i64.wrap ((1 : Int) + (q : Int) - 1) = (q : Int) := by rw [IntKind.wrap_i64]; omega
  have hwi3 : IntKind.i64.wrap ((n : Int) - (q : Int)) = (d : Int) := by rw [IntKind.wrap_i64]; omega
  clear h hE
  unfold hiA at HEM
  by_cases hc : cap = q
  · obtain rfl : m = 0 := by omega
    obtain rfl : q = n := by omega
    obtain rfl : q = cap := by omega
    rw [if_pos rfl, Nat.sub_self] at HEM
    clear hi5 hi6 hwi3 hm hd hdn d
    by_cases hN : N = 0
    · subst hN
      go_enter Tryd.func12, Tryd.ntmps12
      go_wp2_with fail
      refine (cope_own _ ((l.drop q).take 0) _ (unhide HEM).ens (by rw [unhide HL]; omega)).mono ?_
      rw [unhide HL]
      rintro e w2 ⟨v, rfl, HO, hb⟩
      obtain ⟨a2, c2, rfl, HE2⟩ := Es.own (unhide HO) (unhide HL) (by omega)
      have HOW : Hid (OwnL w2 (w.heap.size + 1) ⟨0, 0, (l.drop q).take 0⟩ a2 0 c2) := ⟨by have := unhide HO; simpa using this, unhide HL, by omega⟩
      have HB2 : Hid (Below w.heap.size w w2) := bnx (unhide HB0) hb
      clear hb HO HE2
      go_wp2
      go_ret
      exact ⟨⟨_, _, _, rfl, (unhide HOW).mono (by omega)⟩, HB2⟩
    · have hN2 : 0 < N := by omega
      go_enter Tryd.func12, Tryd.ntmps12
      go_wp2_with fail
      refine (cope_own _ ((l.drop q).take 0) _ (unhide HEM).ens (by rw [unhide HL]; omega)).mono ?_
      rw [unhide HL]
      rintro e w2 ⟨v, rfl, HO, hb⟩
      obtain ⟨a2, c2, rfl, HE2⟩ := Es.own (unhide HO) (unhide HL) (by omega)
      have HOW : Hid (OwnL w2 (w.heap.size + 1) ⟨0, 0, (l.drop q).take 0⟩ a2 0 c2) := ⟨by have := unhide HO; simpa using this, unhide HL, by omega⟩
      have HB2 : Hid (Below w.heap.size w w2) := bnx (unhide HB0) hb
      clear hb HO HE2
      go_wp2
      go_ret
      exact ⟨⟨_, _, _, rfl, (unhide HOW).mono (by omega)⟩, HB2⟩
  · rw [if_neg hc] at HEM
    by_cases hN : N ≤ d
    · obtain rfl : N = m := by omega
      have hqc : q + N ≤ cap := by omega
      clear hm hd hdn
      go_enter Tryd.func12, Tryd.ntmps12
      go_wp2_with fail
      refine (cope_own _ ((l.drop q).take N) _ (unhide HEM).ens (by rw [unhide HL]; omega)).mono ?_
      rw [unhide HL]
      rintro e w2 ⟨v, rfl, HO, hb⟩
      obtain ⟨a2, c2, rfl, HE2⟩ := Es.own (unhide HO) (unhide HL) (by omega)
      have HOW : Hid (OwnL w2 (w.heap.size + 1) ⟨0, 0, (l.drop q).take N⟩ a2 N c2) := ⟨by have := unhide HO; simpa using this, unhide HL, by omega⟩
      have HB2 : Hid (Below w.heap.size w w2) := bnx (unhide HB0) hb
      clear hb HO HE2
      go_wp2
      go_ret
      exact ⟨⟨_, _, _, rfl, (unhide HOW).mono (by omega)⟩, HB2⟩
    · obtain rfl : d = m := by omega
      have hqc : q + d ≤ cap := by omega
      clear hm hd hdn
      go_enter Tryd.func12, Tryd.ntmps12
      go_wp2_with fail
      refine (cope_own _ ((l.drop q).take d) _ (unhide HEM).ens (by rw [unhide HL]; omega)).mono ?_
      rw [unhide HL]
      rintro e w2 ⟨v, rfl, HO, hb⟩
      obtain ⟨a2, c2, rfl, HE2⟩ := Es.own (unhide HO) (unhide HL) (by omega)
      have HOW : Hid (OwnL w2 (w.heap.size + 1) ⟨0, 0, (l.drop q).take d⟩ a2 d c2) := ⟨by have := unhide HO; simpa using this, unhide HL, by omega⟩
      have HB2 : Hid (Below w.heap.size w w2) := bnx (unhide HB0) hb
      clear hb HO HE2
      go_wp2
      go_ret
      exact ⟨⟨_, _, _, rfl, (unhide HOW).mono (by omega)⟩, HB2⟩
set_option maxHeartbeats 8000000 in
theorem comP_any (b t : Int) (ao : Option Addr) (n cap k : Nat) (l : List En) (w : World) (h : Es w ao n cap l) (hm : May ⟨b, t, l⟩) (hk : k ≤ n) (hn5 : n ≤ 512) :
    Calls Tryd.prog 13 #[.agg #[.int .i64 b, .int .i64 t, .slice ao n cap], .int .i64 (b + (k : Int))] w fun e w' => RdP w.heap.size w' (b + (k : Int)) (tmB t l k) (l.drop k) e ∧ Hid (Below w.heap.size w w') := by
  have HB0 : Hid (Below w.heap.size w ((w.alloc (.cells #[.int .i64 b, .int .i64 t, .slice ao n cap] 25)).alloc (.cells #[.int .i64 0, .int .i64 0, .slice none 0 0] 25))) := ((Below.refl _ _).alloc (Nat.le_refl _) _).alloc (by simp) _
  have HX0 : Hid (Bx ((w.alloc (.cells #[.int .i64 b, .int .i64 t, .slice ao n cap] 25)).alloc (.cells #[.int .i64 0, .int .i64 0, .slice none 0 0] 25)) w.heap.size [.int .i64 b, .int .i64 t, .slice ao n cap] 25) := (Bx.new w _ _ _ rfl).below ((Below.refl _ _).alloc (Nat.le_refl _) _)
  have HY0 : Hid (Bx ((w.alloc (.cells #[.int .i64 b, .int .i64 t, .slice ao n cap] 25)).alloc (.cells #[.int .i64 0, .int .i64 0, .slice none 0 0] 25)) (w.heap.size + 1) [.int .i64 0, .int .i64 0, .slice none 0 0] 25) := Bx.new _ _ _ _ (by simp)
  have hs0 : ((w.alloc (.cells #[.int .i64 b, .int .i64 t, .slice ao n cap] 25)).alloc (.cells #[.int .i64 0, .int .i64 0, .slice none 0 0] 25)).heap.size = w.heap.size + 2 := by simp
  have HE := hide h
  have hb1 : 0 ≤ b := hm.1.1
  have hb2 : b ≤ 1099511625728 := hm.1.2.1
  have hnc := h.2.1
  have hi0 : wrap64 (b + (k : Int) - b) = (k : Int) := by unfold wrap64; omega
  have hi1 : b + (k : Int) - b = (k : Int) := by omega
  have HTA : Hid (termAt ⟨b, t, l⟩ (b + (k : Int)) = some (tmB t l k)) := by
    show _ = _
    rw [termAt_some (L := ⟨b, t, l⟩) (by show b ≤ _; omega) (by unfold lastI; show _ ≤ b + (l.length : Int); rw [h.1]; omega)]
    show some (tmB t l (b + (k : Int) - b).toNat) = _
    rw [hi1, Int.toNat_natCast]
  have HM := hide hm
  obtain ⟨u, hu⟩ : ∃ u, u = tmB t l k := ⟨_, rfl⟩
  rw [← hu] at HTA ⊢
  clear hu hm
  have hE := h.hi k hk
  have HL := hide hE.1
  have HEM : Hid (∀ W, Below w.heap.size w W → Es W (if cap = k then ao else ao.map (·.add (k * 4))) (n - k) (cap - k) (l.drop k)) := fun W hW => hE.below hW
  clear h hE
  by_cases hc : cap = k
  · obtain rfl : cap = n := by omega
    obtain rfl : k = cap := hc.symm
    have HEM' : Hid (∀ W, Below w.heap.size w W → Es W ao 0 0 (l.drop k)) := fun W hW => by
      have := unhide HEM W hW
      rw [if_pos rfl, Nat.sub_self] at this
      exact this
    clear HEM
    have HEM := HEM'
    clear HEM'
    rw [Nat.sub_self] at HL
    clear hc hk
    go_enter Tryd.func13, Tryd.ntmps13
    go_wp2_with fail
    refine (termP_any b t ao k k l _ _ ((unhide HE).below (unhide HB0)) (unhide HM)).mono ?_
    rw [unhide HTA]
    rintro e w1 ⟨rfl, hb⟩
    have HB1 : Hid (Below w.heap.size w w1) := bnx (unhide HB0) hb
    have HX1 := hide ((unhide HX0).below hb)
    have HY1 := hide ((unhide HY0).below hb)
    have hs1 : w.heap.size + 2 ≤ w1.heap.size := by rw [← hs0]; exact hb.size
    have HE1 := hide (unhide HEM _ (unhide HB1))
    clear hb HX0 HY0 hs0 HB0 HEM
    unfold tmRes2
    obtain ⟨⟨x0, x1, x2⟩, _⟩ := bx_slot (unhide HX1)
    go_wp2_with fail
    refine (cope_own _ (l.drop k) _ (unhide HE1).ens (by rw [unhide HL]; omega)).mono ?_
    rw [unhide HL]
    rintro e w2 ⟨v, rfl, HO, hb⟩
    obtain ⟨a2, c2, rfl, HE2⟩ := Es.own (unhide HO) (unhide HL) (by omega)
    have HOW : Hid (OwnL w2 w1.heap.size ⟨b + (k : Int), u, l.drop k⟩ a2 0 c2) := ⟨unhide HO, unhide HL, by omega⟩
    have HB2 : Hid (Below w.heap.size w w2) := bnx (unhide HB1) hb
    have HY2 := hide ((unhide HY1).below hb)
    obtain ⟨⟨c0, c1, c2'⟩, f0, f1, f2⟩ := bx_slot (unhide HY2)
    clear hb HO HE2 x0 x1 x2
    go_wp2
    refine bodyPost_ret (res_l (B := w.heap.size + 1) rfl rfl (put3_bx (unhide HY2) _ _ _)) rfl ?_
    exact ⟨⟨_, _, _, rfl, ((unhide HOW).put3 (by omega)).mono (by omega)⟩, put3_below (unhide HB2) (by omega)⟩
  · have HEM' : Hid (∀ W, Below w.heap.size w W → Es W (ao.map (·.add (k * 4))) (n - k) (cap - k) (l.drop k)) := fun W hW => by
      have := unhide HEM W hW
      rw [if_neg hc] at this
      exact this
    clear HEM
    have HEM := HEM'
    clear HEM'
    go_enter Tryd.func13, Tryd.ntmps13
    go_wp2_with fail
    refine (termP_any b t ao n cap l _ _ ((unhide HE).below (unhide HB0)) (unhide HM)).mono ?_
    rw [unhide HTA]
    rintro e w1 ⟨rfl, hb⟩
    have HB1 : Hid (Below w.heap.size w w1) := bnx (unhide HB0) hb
    have HX1 := hide ((unhide HX0).below hb)
    have HY1 := hide ((unhide HY0).below hb)
    have hs1 : w.heap.size + 2 ≤ w1.heap.size := by rw [← hs0]; exact hb.size
    have HE1 := hide (unhide HEM _ (unhide HB1))
    clear hb HX0 HY0 hs0 HB0 HEM
    unfold tmRes2
    obtain ⟨⟨x0, x1, x2⟩, _⟩ := bx_slot (unhide HX1)
    go_wp2_with fail
    refine (cope_own _ (l.drop k) _ (unhide HE1).ens (by rw [unhide HL]; omega)).mono ?_
    rw [unhide HL]
    rintro e w2 ⟨v, rfl, HO, hb⟩
    obtain ⟨a2, c2, rfl, HE2⟩ := Es.own (unhide HO) (unhide HL) (by omega)
    have HOW : Hid (OwnL w2 w1.heap.size ⟨b + (k : Int), u, l.drop k⟩ a2 (n - k) c2) := ⟨unhide HO, unhide HL, by omega⟩
    have HB2 : Hid (Below w.heap.size w w2) := bnx (unhide HB1) hb
    have HY2 := hide ((unhide HY1).below hb)
    obtain ⟨⟨c0, c1, c2'⟩, f0, f1, f2⟩ := bx_slot (unhide HY2)
    clear hb HO HE2 x0 x1 x2
    go_wp2
    refine bodyPost_ret (res_l (B := w.heap.size + 1) rfl rfl (put3_bx (unhide HY2) _ _ _)) rfl ?_
    exact ⟨⟨_, _, _, rfl, ((unhide HOW).put3 (by omega)).mono (by omega)⟩, put3_below (unhide HB2) (by omega)⟩
end Go.Proofs.YtcffbkgkdoaplaaDoor.Et
