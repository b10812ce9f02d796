/- Proved here: entries.Merge: what it tells of any log and any entries. Helper contracts. -/
import Derived.Test.YtmmhdhpocjnlbaaGreatDoorZEMg
import Derived.Test.YtmmhdhpocjnlbaaGreatDoorZJEs
import Derived.Deep.Cut
namespace Go.Proofs.YtmmhdhpocjnlbaaGreatDoor.Et
open Go.RowKit Nt
set_option maxRecDepth 100000

def MayMg (p u : Int) (es : List En) : Prop := 0 ≤ p ∧ p ≤ 1099511627776 ∧ IsTerm u ∧ GoOn p u es
instance (p u : Int) (es : List En) : Decidable (MayMg p u es) := by unfold MayMg; infer_instance
/-- where a leader's entries begin that a log looks at, and which they are -/
def mP (L : Lo) (p : Int) : Int := if p < L.b then L.b else p
def mU (L : Lo) (p u : Int) : Int := if p < L.b then L.t else u
def mE (L : Lo) (p : Int) (es : List En) : List En := if p < L.b then es.drop (min (L.b - p).toNat es.length) else es
/-- what Merge tells: a number, whether it misses, a log -/
def mrgR (L : Lo) (p u : Int) (es : List En) : Int × Bool × Lo :=
  if May L ∧ MayMg p u es then (if termAt L (mP L p) = some (mU L p u) then ((mgdR L (mE L p es)).1, false, (mgdR L (mE L p es)).2) else (0, true, L)) else (1, false, lo0)
theorem mrgR_bad {L : Lo} {p u : Int} {es : List En} (h : ¬ (May L ∧ MayMg p u es)) : mrgR L p u es = (1, false, lo0) := if_neg h
theorem mrgR_miss {L : Lo} {p u : Int} {es : List En} (h : May L ∧ MayMg p u es) (h2 : ¬ termAt L (mP L p) = some (mU L p u)) : mrgR L p u es = (0, true, L) := by unfold mrgR; rw [if_pos h, if_neg h2]
theorem mrgR_has {L : Lo} {p u : Int} {es : List En} (h : May L ∧ MayMg p u es) (h2 : termAt L (mP L p) = some (mU L p u)) : mrgR L p u es = ((mgdR L (mE L p es)).1, false, (mgdR L (mE L p es)).2) := by unfold mrgR; rw [if_pos h, if_pos h2]
theorem mgdR_z (L : Lo) (es : List En) : (mgdR L es).1 ≠ 0 → (mgdR L es).2 = lo0 := by
  unfold mgdR
  split
  · intro h; exact absurd rfl h
  · exact splR_z _ _ _
def TelM (B : Nat) (r : Int × Bool × Lo) (e : Ending) (w' : World) : Prop := ∃ E ao n c, e = .returned (.tuple #[.agg #[.int .i64 r.2.2.b, .int .i64 r.2.2.t, .slice ao n c], .bool r.2.1, E]) ∧ Hid (OwnL w' B r.2.2 ao n c) ∧ Hid (ErS w' B E r.1)
set_option maxHeartbeats 8000000 in
theorem mrgE_any (b t p u : Int) (ao : Option Addr) (n cap : Nat) (l : List En) (ao2 : Option Addr) (m cap2 : Nat) (es : List En) (w : World) (h : Es w ao n cap l) (h2 : Es w ao2 m cap2 es) :
    Calls Tryz.prog 51 #[.agg #[.int .i64 b, .int .i64 t, .slice ao n cap], .int .i64 p, .int .i64 u, .slice ao2 m cap2] w fun e w' => TelM w.heap.size (mrgR ⟨b, t, l⟩ p u es) e w' ∧ Hid (Below w.heap.size w w') := by
  have HB0 : Hid (Below w.heap.size w ((w.alloc (.cells #[.int .i64 b, .int .i64 t, .slice ao n cap] 85)).alloc (.cells #[.int .i64 0, .int .i64 0, .slice none 0 0] 85))) := ((Below.refl _ _).alloc (Nat.le_refl _) _).alloc (by simp) _
  have HX0 : Hid (Bx ((w.alloc (.cells #[.int .i64 b, .int .i64 t, .slice ao n cap] 85)).alloc (.cells #[.int .i64 0, .int .i64 0, .slice none 0 0] 85)) w.heap.size [.int .i64 b, .int .i64 t, .slice ao n cap] 85) := (Bx.new w _ _ _ rfl).below ((Below.refl _ _).alloc (Nat.le_refl _) _)
  have HY0 : Hid (Bx ((w.alloc (.cells #[.int .i64 b, .int .i64 t, .slice ao n cap] 85)).alloc (.cells #[.int .i64 0, .int .i64 0, .slice none 0 0] 85)) (w.heap.size + 1) [.int .i64 0, .int .i64 0, .slice none 0 0] 85) := Bx.new _ _ _ _ (by simp)
  have hs0 : ((w.alloc (.cells #[.int .i64 b, .int .i64 t, .slice ao n cap] 85)).alloc (.cells #[.int .i64 0, .int .i64 0, .slice none 0 0] 85)).heap.size = w.heap.size + 2 := by simp
  have HE := hide h
  have HE2 := hide h2
  have hmx2 := h2.2.2.2.1
  have hmc2 := h2.2.1
  have HL2 := hide h2.1
  clear h2
  by_cases hm : May ⟨b, t, l⟩
  · have HM := hide hm
    have hnc := h.2.1
    have hnx := h.2.2.2.1
    have hb1 : 0 ≤ b := hm.1.1
    have hb2 : b ≤ 1099511625728 := hm.1.2.1
    have hn5 : n ≤ 512 := by have := hm.2.1; rw [h.1] at this; exact this
    have HI : Hid (lastI ⟨b, t, l⟩ = b + (n : Int)) := by
      show _ = _
      unfold lastI
      rw [h.1]
    by_cases hp0 : p < 0
    · rw [mrgR_bad (fun hh => by have := hh.2.1; omega)]
      clear hm h
      go_enter Tryz.func51, Tryz.ntmps51
      go_wp2_with fail
      refine (check_ok b t ao n cap l _ ((unhide HE).below (unhide HB0)) (unhide HM)).mono ?_
      rintro e w2 ⟨rfl, hb⟩
      have HB : Hid (Below w.heap.size w w2) := bnx (unhide HB0) hb
      have HX := hide ((unhide HX0).below hb)
      have HY := hide ((unhide HY0).below hb)
      have hs2 : w.heap.size + 2 ≤ w2.heap.size := by rw [← hs0]; exact hb.size
      obtain ⟨⟨c0, c1, c2⟩, f0, f1, f2⟩ := bx_slot (unhide HX)
      clear hb HX0 HY0 hs0 HB0
      go_wp2_with fail
      refine (fault_n 1 w2).mono ?_
      rintro e w9 ⟨x, rfl, HER, HB9⟩
      have HY9 := hide ((unhide HY).below (unhide HB9))
      have HBz := hide (bnx (unhide HB) (unhide HB9))
      clear c0 c1 c2 f0 f1 f2
      obtain ⟨⟨c0, c1, c2⟩, f0, f1, f2⟩ := bx_slot (unhide HY9)
      go_wp2
      refine bodyPost_ret (res_lme (B := w.heap.size + 1) rfl rfl (put3_bx (unhide HY9) _ _ _)) rfl ?_
      exact ⟨⟨_, _, _, _, rfl, OwnL.nil _ _, .inr ⟨by decide, ((unhide HER).put3 (by omega)).mono (by omega)⟩⟩, put3_below (unhide HBz) (by omega)⟩
    · by_cases hp1 : p > 1099511627776
      · rw [mrgR_bad (fun hh => by have := hh.2.2.1; omega)]
        clear hm h
        go_enter Tryz.func51, Tryz.ntmps51
        go_wp2_with fail
        refine (check_ok b t ao n cap l _ ((unhide HE).below (unhide HB0)) (unhide HM)).mono ?_
        rintro e w2 ⟨rfl, hb⟩
        have HB : Hid (Below w.heap.size w w2) := bnx (unhide HB0) hb
        have HX := hide ((unhide HX0).below hb)
        have HY := hide ((unhide HY0).below hb)
        have hs2 : w.heap.size + 2 ≤ w2.heap.size := by rw [← hs0]; exact hb.size
        obtain ⟨⟨c0, c1, c2⟩, f0, f1, f2⟩ := bx_slot (unhide HX)
        clear hb HX0 HY0 hs0 HB0
        go_wp2_with fail
        refine (fault_n 1 w2).mono ?_
        rintro e w9 ⟨x, rfl, HER, HB9⟩
        have HY9 := hide ((unhide HY).below (unhide HB9))
        have HBz := hide (bnx (unhide HB) (unhide HB9))
        clear c0 c1 c2 f0 f1 f2
        obtain ⟨⟨c0, c1, c2⟩, f0, f1, f2⟩ := bx_slot (unhide HY9)
        go_wp2
        refine bodyPost_ret (res_lme (B := w.heap.size + 1) rfl rfl (put3_bx (unhide HY9) _ _ _)) rfl ?_
        exact ⟨⟨_, _, _, _, rfl, OwnL.nil _ _, .inr ⟨by decide, ((unhide HER).put3 (by omega)).mono (by omega)⟩⟩, put3_below (unhide HBz) (by omega)⟩
      · by_cases hu : IsTerm u
        · have HU := hide (decide_eq_true hu)
          by_cases hg : GoOn p u es
          · by_cases hpb : p < b
            · have hmP : mP ⟨b, t, l⟩ p = b := if_pos hpb
              have hmU : mU ⟨b, t, l⟩ p u = t := if_pos hpb
              have htb : termAt ⟨b, t, l⟩ b = some t := by
                rw [termAt_some (L := ⟨b, t, l⟩) (Int.le_refl _) (by rw [unhide HI]; show b ≤ b + (n : Int); omega)]
                show some (tmB t l (b - b).toNat) = _
                rw [Int.sub_self]; rfl
              obtain ⟨q, hq⟩ : ∃ q : Nat, b - p = (q : Int) := ⟨(b - p).toNat, by omega⟩
              obtain ⟨m0, hm0⟩ : ∃ m0, m0 = min q m := ⟨_, rfl⟩
              have hmE : mE ⟨b, t, l⟩ p es = es.drop m0 := by
                unfold mE
                rw [if_pos (show p < (⟨b, t, l⟩ : Lo).b from hpb)]
                show es.drop (min (b - p).toNat es.length) = _
                rw [unhide HL2, hq, Int.toNat_natCast, hm0]
              have HIX : Hid (∀ k, k < m - m0 → (en0 (es.drop m0) k).1 = b + 1 + (k : Nat)) := fun k hk => by
                rw [en0_drop, (hg (m0 + k) (by rw [unhide HL2]; omega)).1]
                omega
              have HHA := hide (decide_eq_true htb)
              obtain ⟨⟨x, L2⟩, hr⟩ : ∃ r, r = mgdR ⟨b, t, l⟩ (es.drop m0) := ⟨_, rfl⟩
              have HMG : Hid (mgdR ⟨b, t, l⟩ (es.drop m0) = (x, L2)) := hr.symm
              have hz := mgdR_z ⟨b, t, l⟩ (es.drop m0)
              rw [unhide HMG] at hz
              have HZ := hide hz
              have HMR : Hid (mrgR ⟨b, t, l⟩ p u es = (x, false, L2)) := by
                show _ = _
                rw [mrgR_has ⟨hm, by omega, by omega, hu, hg⟩ (by rw [hmP, hmU]; exact htb), hmE, unhide HMG]
              rw [unhide HMR]
              clear hr hz HMR
              have hq2 : wrap64 (b - p) = (q : Int) := by unfold wrap64; omega
              have hq3 : IntKind.i64.wrap (b - p) = (q : Int) := by rw [IntKind.wrap_i64]; omega
              have hm0m : m0 ≤ m := by omega
              have HHI := hide ((unhide HE2).hi m0 hm0m)
              have HG := hide (decide_eq_true hg)
              clear hm h hu hg hmP hmU htb hmE hq
              unfold hiA at HHI
              by_cases hcq : q ≤ m
              · obtain rfl : q = m0 := by omega
                by_cases hcc : cap2 = q
                · obtain rfl : q = cap2 := hcc.symm
                  obtain rfl : q = m := by omega
                  rw [if_pos rfl, Nat.sub_self] at HHI
                  rw [Nat.sub_self] at HIX
                  clear hcc hm0 hm0m
                  go_enter Tryz.func51, Tryz.ntmps51
                  go_wp2_with fail
                  refine (check_ok b t ao n cap l _ ((unhide HE).below (unhide HB0)) (unhide HM)).mono ?_
                  rintro e w2 ⟨rfl, hb⟩
                  have HB : Hid (Below w.heap.size w w2) := bnx (unhide HB0) hb
                  have HX := hide ((unhide HX0).below hb)
                  have HY := hide ((unhide HY0).below hb)
                  have hs2 : w.heap.size + 2 ≤ w2.heap.size := by rw [← hs0]; exact hb.size
                  obtain ⟨⟨c0, c1, c2⟩, f0, f1, f2⟩ := bx_slot (unhide HX)
                  clear hb HX0 HY0 hs0 HB0
                  go_wp2_with fail
                  refine (isTerm_any u w2).mono ?_
                  rintro e w' ⟨rfl, hw⟩
                  obtain rfl := hw.symm
                  rw [unhide HU]
                  go_wp2_with fail
                  refine (goOn_any p u ao2 q q es w2 ((unhide HE2).below (unhide HB)) (by omega) (by omega)).mono ?_
                  rw [unhide HG]
                  rintro e w3 ⟨rfl, hb⟩
                  have HB3 : Hid (Below w.heap.size w w3) := bnx (unhide HB) hb
                  have HX3 := hide ((unhide HX).below hb)
                  have HY3 := hide ((unhide HY).below hb)
                  have hs3 : w.heap.size + 2 ≤ w3.heap.size := by have := hb.size; omega
                  clear hb c0 c1 c2 f0 f1 f2 HX HY HB hs2
                  obtain ⟨⟨c0, c1, c2⟩, f0, f1, f2⟩ := bx_slot (unhide HX3)
                  go_wp2
                  go_quiet (fail)
                  have HB3q : Hid (Below w.heap.size w (w3.drewN nq)) := below_drewN (unhide HB3) nq
                  have HX3q : Hid (Bx (w3.drewN nq) w.heap.size [.int .i64 b, .int .i64 t, .slice ao n cap] 85) := unhide HX3
                  have HY3q : Hid (Bx (w3.drewN nq) (w.heap.size + 1) [.int .i64 0, .int .i64 0, .slice none 0 0] 85) := unhide HY3
                  clear c0 c1 c2 f0 f1 f2 HX3 HY3 HB3
                  obtain ⟨⟨c0, c1, c2⟩, f0, f1, f2⟩ := bx_slot (unhide HX3q)
                  go_wp2_with fail
                  refine (has_any b t ao n cap l _ _ _ ((unhide HE).below (unhide HB3q)) (unhide HM)).mono ?_
                  rw [unhide HHA]
                  rintro e w4 ⟨rfl, hb⟩
                  have HB4 : Hid (Below w.heap.size w w4) := bnx (unhide HB3q) hb
                  have HX4 := hide ((unhide HX3q).below hb)
                  have HY4 := hide ((unhide HY3q).below hb)
                  have hs34 : w3.heap.size ≤ w4.heap.size := hb.size
                  have hs4 : w.heap.size + 2 ≤ w4.heap.size := by omega
                  clear hb c0 c1 c2 f0 f1 f2
                  obtain ⟨⟨c0, c1, c2⟩, f0, f1, f2⟩ := bx_slot (unhide HX4)
                  go_wp2_with fail
                  refine (merged_any b t b ao n cap l _ _ _ (es.drop q) w4 ((unhide HE).below (unhide HB4)) ((unhide HHI).below (unhide HB4)) (unhide HM) (by omega) (by omega) (unhide HIX)).mono ?_
                  rw [unhide HMG]
                  rintro e w5 ⟨⟨E, a5, n5, c5, rfl, HO5, HE5⟩, HB5⟩
                  have HBw5 : Hid (Below w.heap.size w w5) := bnx (unhide HB4) (unhide HB5)
                  have HY5 := hide ((unhide HY4).below (unhide HB5))
                  have hs45 : w4.heap.size ≤ w5.heap.size := (unhide HB5).size
                  go_wp2_with fail
                  refine (told_s w4.heap.size L2 a5 n5 c5 E x w5 hs45 (unhide HO5) (unhide HE5) (unhide HZ)).mono ?_
                  rintro e w6 ⟨⟨E6, a6, n6, c6, rfl, HO6, HE6⟩, HB6⟩
                  have HBw6 : Hid (Below w.heap.size w w6) := bnx (unhide HBw5) (unhide HB6)
                  have HY6 := hide ((unhide HY5).below (unhide HB6))
                  clear c0 c1 c2 f0 f1 f2
                  obtain ⟨⟨c0, c1, c2⟩, f0, f1, f2⟩ := bx_slot (unhide HY6)
                  go_upto_region 12 with fail
                  obtain ⟨w7, hw7⟩ : ∃ w7, w7 = put3 w6 (w.heap.size + 1) (.int .i64 L2.b) (.int .i64 L2.t) (.slice a6 n6 c6) := ⟨_, rfl⟩
                  change Code.wp _ _ _ _ (put3 w6 (w.heap.size + 1) (.int .i64 L2.b) (.int .i64 L2.t) (.slice a6 n6 c6))
                  have HY7 : Hid (Bx w7 (w.heap.size + 1) [.int .i64 L2.b, .int .i64 L2.t, .slice a6 n6 c6] 85) := by
                    show Bx _ _ _ _
                    rw [hw7]; exact put3_bx (unhide HY6) _ _ _
                  have HB7 : Hid (Below w.heap.size w w7) := by
                    show Below _ _ _
                    rw [hw7]; exact put3_below (unhide HBw6) (by omega)
                  have HO7 : Hid (OwnL w7 w4.heap.size L2 a6 n6 c6) := by
                    show OwnL _ _ _ _ _ _
                    rw [hw7]; exact (unhide HO6).put3 (by omega)
                  have HE7 : Hid (ErS w7 w4.heap.size E6 x) := by
                    show ErS _ _ _ _
                    rw [hw7]; exact (unhide HE6).put3 (by omega)
                  rw [← hw7]
                  clear hw7 c0 c1 c2 f0 f1 f2
                  obtain ⟨⟨c0, c1, c2⟩, f0, f1, f2⟩ := bx_slot (unhide HY7)
                  go_wp2
                  refine bodyPost_ret (res_lme (B := w.heap.size + 1) rfl rfl (put3_bx (unhide HY7) _ _ _)) rfl ?_
                  exact ⟨⟨_, _, _, _, rfl, ((unhide HO7).put3 (by omega)).mono (by omega), ((unhide HE7).put3 (by omega)).mono (by omega)⟩, put3_below (unhide HB7) (by omega)⟩
                · rw [if_neg hcc] at HHI
                  clear hm0 hm0m
                  go_enter Tryz.func51, Tryz.ntmps51
                  go_wp2_with fail
                  refine (check_ok b t ao n cap l _ ((unhide HE).below (unhide HB0)) (unhide HM)).mono ?_
                  rintro e w2 ⟨rfl, hb⟩
                  have HB : Hid (Below w.heap.size w w2) := bnx (unhide HB0) hb
                  have HX := hide ((unhide HX0).below hb)
                  have HY := hide ((unhide HY0).below hb)
                  have hs2 : w.heap.size + 2 ≤ w2.heap.size := by rw [← hs0]; exact hb.size
                  obtain ⟨⟨c0, c1, c2⟩, f0, f1, f2⟩ := bx_slot (unhide HX)
                  clear hb HX0 HY0 hs0 HB0
                  go_wp2_with fail
                  refine (isTerm_any u w2).mono ?_
                  rintro e w' ⟨rfl, hw⟩
                  obtain rfl := hw.symm
                  rw [unhide HU]
                  go_wp2_with fail
                  refine (goOn_any p u ao2 m cap2 es w2 ((unhide HE2).below (unhide HB)) (by omega) (by omega)).mono ?_
                  rw [unhide HG]
                  rintro e w3 ⟨rfl, hb⟩
                  have HB3 : Hid (Below w.heap.size w w3) := bnx (unhide HB) hb
                  have HX3 := hide ((unhide HX).below hb)
                  have HY3 := hide ((unhide HY).below hb)
                  have hs3 : w.heap.size + 2 ≤ w3.heap.size := by have := hb.size; omega
                  clear hb c0 c1 c2 f0 f1 f2 HX HY HB hs2
                  obtain ⟨⟨c0, c1, c2⟩, f0, f1, f2⟩ := bx_slot (unhide HX3)
                  go_wp2
                  go_quiet (fail)
                  have HB3q : Hid (Below w.heap.size w (w3.drewN nq)) := below_drewN (unhide HB3) nq
                  have HX3q : Hid (Bx (w3.drewN nq) w.heap.size [.int .i64 b, .int .i64 t, .slice ao n cap] 85) := unhide HX3
                  have HY3q : Hid (Bx (w3.drewN nq) (w.heap.size + 1) [.int .i64 0, .int .i64 0, .slice none 0 0] 85) := unhide HY3
                  clear c0 c1 c2 f0 f1 f2 HX3 HY3 HB3
                  obtain ⟨⟨c0, c1, c2⟩, f0, f1, f2⟩ := bx_slot (unhide HX3q)
                  go_wp2_with fail
                  refine (has_any b t ao n cap l _ _ _ ((unhide HE).below (unhide HB3q)) (unhide HM)).mono ?_
                  rw [unhide HHA]
                  rintro e w4 ⟨rfl, hb⟩
                  have HB4 : Hid (Below w.heap.size w w4) := bnx (unhide HB3q) hb
                  have HX4 := hide ((unhide HX3q).below hb)
                  have HY4 := hide ((unhide HY3q).below hb)
                  have hs34 : w3.heap.size ≤ w4.heap.size := hb.size
                  have hs4 : w.heap.size + 2 ≤ w4.heap.size := by omega
                  clear hb c0 c1 c2 f0 f1 f2
                  obtain ⟨⟨c0, c1, c2⟩, f0, f1, f2⟩ := bx_slot (unhide HX4)
                  go_wp2_with fail
                  refine (merged_any b t b ao n cap l _ _ _ (es.drop q) w4 ((unhide HE).below (unhide HB4)) ((unhide HHI).below (unhide HB4)) (unhide HM) (by omega) (by omega) (unhide HIX)).mono ?_
                  rw [unhide HMG]
                  rintro e w5 ⟨⟨E, a5, n5, c5, rfl, HO5, HE5⟩, HB5⟩
                  have HBw5 : Hid (Below w.heap.size w w5) := bnx (unhide HB4) (unhide HB5)
                  have HY5 := hide ((unhide HY4).below (unhide HB5))
                  have hs45 : w4.heap.size ≤ w5.heap.size := (unhide HB5).size
                  go_wp2_with fail
                  refine (told_s w4.heap.size L2 a5 n5 c5 E x w5 hs45 (unhide HO5) (unhide HE5) (unhide HZ)).mono ?_
                  rintro e w6 ⟨⟨E6, a6, n6, c6, rfl, HO6, HE6⟩, HB6⟩
                  have HBw6 : Hid (Below w.heap.size w w6) := bnx (unhide HBw5) (unhide HB6)
                  have HY6 := hide ((unhide HY5).below (unhide HB6))
                  clear c0 c1 c2 f0 f1 f2
                  obtain ⟨⟨c0, c1, c2⟩, f0, f1, f2⟩ := bx_slot (unhide HY6)
                  go_upto_region 12 with fail
                  obtain ⟨w7, hw7⟩ : ∃ w7, w7 = put3 w6 (w.heap.size + 1) (.int .i64 L2.b) (.int .i64 L2.t) (.slice a6 n6 c6) := ⟨_, rfl⟩
                  change Code.wp _ _ _ _ (put3 w6 (w.heap.size + 1) (.int .i64 L2.b) (.int .i64 L2.t) (.slice a6 n6 c6))
                  have HY7 : Hid (Bx w7 (w.heap.size + 1) [.int .i64 L2.b, .int .i64 L2.t, .slice a6 n6 c6] 85) := by
                    show Bx _ _ _ _
                    rw [hw7]; exact put3_bx (unhide HY6) _ _ _
                  have HB7 : Hid (Below w.heap.size w w7) := by
                    show Below _ _ _
                    rw [hw7]; exact put3_below (unhide HBw6) (by omega)
                  have HO7 : Hid (OwnL w7 w4.heap.size L2 a6 n6 c6) := by
                    show OwnL _ _ _ _ _ _
                    rw [hw7]; exact (unhide HO6).put3 (by omega)
                  have HE7 : Hid (ErS w7 w4.heap.size E6 x) := by
                    show ErS _ _ _ _
                    rw [hw7]; exact (unhide HE6).put3 (by omega)
                  rw [← hw7]
                  clear hw7 c0 c1 c2 f0 f1 f2
                  obtain ⟨⟨c0, c1, c2⟩, f0, f1, f2⟩ := bx_slot (unhide HY7)
                  go_wp2
                  refine bodyPost_ret (res_lme (B := w.heap.size + 1) rfl rfl (put3_bx (unhide HY7) _ _ _)) rfl ?_
                  exact ⟨⟨_, _, _, _, rfl, ((unhide HO7).put3 (by omega)).mono (by omega), ((unhide HE7).put3 (by omega)).mono (by omega)⟩, put3_below (unhide HB7) (by omega)⟩
              · obtain rfl : m = m0 := by omega
                by_cases hcc : cap2 = m
                · obtain rfl : m = cap2 := hcc.symm
                  rw [if_pos rfl, Nat.sub_self] at HHI
                  rw [Nat.sub_self] at HIX
                  clear hcc hm0 hm0m
                  go_enter Tryz.func51, Tryz.ntmps51
                  go_wp2_with fail
                  refine (check_ok b t ao n cap l _ ((unhide HE).below (unhide HB0)) (unhide HM)).mono ?_
                  rintro e w2 ⟨rfl, hb⟩
                  have HB : Hid (Below w.heap.size w w2) := bnx (unhide HB0) hb
                  have HX := hide ((unhide HX0).below hb)
                  have HY := hide ((unhide HY0).below hb)
                  have hs2 : w.heap.size + 2 ≤ w2.heap.size := by rw [← hs0]; exact hb.size
                  obtain ⟨⟨c0, c1, c2⟩, f0, f1, f2⟩ := bx_slot (unhide HX)
                  clear hb HX0 HY0 hs0 HB0
                  go_wp2_with fail
                  refine (isTerm_any u w2).mono ?_
                  rintro e w' ⟨rfl, hw⟩
                  obtain rfl := hw.symm
                  rw [unhide HU]
                  go_wp2_with fail
                  refine (goOn_any p u ao2 m m es w2 ((unhide HE2).below (unhide HB)) (by omega) (by omega)).mono ?_
                  rw [unhide HG]
                  rintro e w3 ⟨rfl, hb⟩
                  have HB3 : Hid (Below w.heap.size w w3) := bnx (unhide HB) hb
                  have HX3 := hide ((unhide HX).below hb)
                  have HY3 := hide ((unhide HY).below hb)
                  have hs3 : w.heap.size + 2 ≤ w3.heap.size := by have := hb.size; omega
                  clear hb c0 c1 c2 f0 f1 f2 HX HY HB hs2
                  obtain ⟨⟨c0, c1, c2⟩, f0, f1, f2⟩ := bx_slot (unhide HX3)
                  go_wp2
                  go_quiet (fail)
                  have HB3q : Hid (Below w.heap.size w (w3.drewN nq)) := below_drewN (unhide HB3) nq
                  have HX3q : Hid (Bx (w3.drewN nq) w.heap.size [.int .i64 b, .int .i64 t, .slice ao n cap] 85) := unhide HX3
                  have HY3q : Hid (Bx (w3.drewN nq) (w.heap.size + 1) [.int .i64 0, .int .i64 0, .slice none 0 0] 85) := unhide HY3
                  clear c0 c1 c2 f0 f1 f2 HX3 HY3 HB3
                  obtain ⟨⟨c0, c1, c2⟩, f0, f1, f2⟩ := bx_slot (unhide HX3q)
                  go_wp2_with fail
                  refine (has_any b t ao n cap l _ _ _ ((unhide HE).below (unhide HB3q)) (unhide HM)).mono ?_
                  rw [unhide HHA]
                  rintro e w4 ⟨rfl, hb⟩
                  have HB4 : Hid (Below w.heap.size w w4) := bnx (unhide HB3q) hb
                  have HX4 := hide ((unhide HX3q).below hb)
                  have HY4 := hide ((unhide HY3q).below hb)
                  have hs34 : w3.heap.size ≤ w4.heap.size := hb.size
                  have hs4 : w.heap.size + 2 ≤ w4.heap.size := by omega
                  clear hb c0 c1 c2 f0 f1 f2
                  obtain ⟨⟨c0, c1, c2⟩, f0, f1, f2⟩ := bx_slot (unhide HX4)
                  go_wp2_with fail
                  refine (merged_any b t b ao n cap l _ _ _ (es.drop m) w4 ((unhide HE).below (unhide HB4)) ((unhide HHI).below (unhide HB4)) (unhide HM) (by omega) (by omega) (unhide HIX)).mono ?_
                  rw [unhide HMG]
                  rintro e w5 ⟨⟨E, a5, n5, c5, rfl, HO5, HE5⟩, HB5⟩
                  have HBw5 : Hid (Below w.heap.size w w5) := bnx (unhide HB4) (unhide HB5)
                  have HY5 := hide ((unhide HY4).below (unhide HB5))
                  have hs45 : w4.heap.size ≤ w5.heap.size := (unhide HB5).size
                  go_wp2_with fail
                  refine (told_s w4.heap.size L2 a5 n5 c5 E x w5 hs45 (unhide HO5) (unhide HE5) (unhide HZ)).mono ?_
                  rintro e w6 ⟨⟨E6, a6, n6, c6, rfl, HO6, HE6⟩, HB6⟩
                  have HBw6 : Hid (Below w.heap.size w w6) := bnx (unhide HBw5) (unhide HB6)
                  have HY6 := hide ((unhide HY5).below (unhide HB6))
                  clear c0 c1 c2 f0 f1 f2
                  obtain ⟨⟨c0, c1, c2⟩, f0, f1, f2⟩ := bx_slot (unhide HY6)
                  go_upto_region 12 with fail
                  obtain ⟨w7, hw7⟩ : ∃ w7, w7 = put3 w6 (w.heap.size + 1) (.int .i64 L2.b) (.int .i64 L2.t) (.slice a6 n6 c6) := ⟨_, rfl⟩
                  change Code.wp _ _ _ _ (put3 w6 (w.heap.size + 1) (.int .i64 L2.b) (.int .i64 L2.t) (.slice a6 n6 c6))
                  have HY7 : Hid (Bx w7 (w.heap.size + 1) [.int .i64 L2.b, .int .i64 L2.t, .slice a6 n6 c6] 85) := by
                    show Bx _ _ _ _
                    rw [hw7]; exact put3_bx (unhide HY6) _ _ _
                  have HB7 : Hid (Below w.heap.size w w7) := by
                    show Below _ _ _
                    rw [hw7]; exact put3_below (unhide HBw6) (by omega)
                  have HO7 : Hid (OwnL w7 w4.heap.size L2 a6 n6 c6) := by
                    show OwnL _ _ _ _ _ _
                    rw [hw7]; exact (unhide HO6).put3 (by omega)
                  have HE7 : Hid (ErS w7 w4.heap.size E6 x) := by
                    show ErS _ _ _ _
                    rw [hw7]; exact (unhide HE6).put3 (by omega)
                  rw [← hw7]
                  clear hw7 c0 c1 c2 f0 f1 f2
                  obtain ⟨⟨c0, c1, c2⟩, f0, f1, f2⟩ := bx_slot (unhide HY7)
                  go_wp2
                  refine bodyPost_ret (res_lme (B := w.heap.size + 1) rfl rfl (put3_bx (unhide HY7) _ _ _)) rfl ?_
                  exact ⟨⟨_, _, _, _, rfl, ((unhide HO7).put3 (by omega)).mono (by omega), ((unhide HE7).put3 (by omega)).mono (by omega)⟩, put3_below (unhide HB7) (by omega)⟩
                · rw [if_neg hcc, Nat.sub_self] at HHI
                  rw [Nat.sub_self] at HIX
                  clear hm0 hm0m
                  go_enter Tryz.func51, Tryz.ntmps51
                  go_wp2_with fail
                  refine (check_ok b t ao n cap l _ ((unhide HE).below (unhide HB0)) (unhide HM)).mono ?_
                  rintro e w2 ⟨rfl, hb⟩
                  have HB : Hid (Below w.heap.size w w2) := bnx (unhide HB0) hb
                  have HX := hide ((unhide HX0).below hb)
                  have HY := hide ((unhide HY0).below hb)
                  have hs2 : w.heap.size + 2 ≤ w2.heap.size := by rw [← hs0]; exact hb.size
                  obtain ⟨⟨c0, c1, c2⟩, f0, f1, f2⟩ := bx_slot (unhide HX)
                  clear hb HX0 HY0 hs0 HB0
                  go_wp2_with fail
                  refine (isTerm_any u w2).mono ?_
                  rintro e w' ⟨rfl, hw⟩
                  obtain rfl := hw.symm
                  rw [unhide HU]
                  go_wp2_with fail
                  refine (goOn_any p u ao2 m cap2 es w2 ((unhide HE2).below (unhide HB)) (by omega) (by omega)).mono ?_
                  rw [unhide HG]
                  rintro e w3 ⟨rfl, hb⟩
                  have HB3 : Hid (Below w.heap.size w w3) := bnx (unhide HB) hb
                  have HX3 := hide ((unhide HX).below hb)
                  have HY3 := hide ((unhide HY).below hb)
                  have hs3 : w.heap.size + 2 ≤ w3.heap.size := by have := hb.size; omega
                  clear hb c0 c1 c2 f0 f1 f2 HX HY HB hs2
                  obtain ⟨⟨c0, c1, c2⟩, f0, f1, f2⟩ := bx_slot (unhide HX3)
                  go_wp2
                  go_quiet (fail)
                  have HB3q : Hid (Below w.heap.size w (w3.drewN nq)) := below_drewN (unhide HB3) nq
                  have HX3q : Hid (Bx (w3.drewN nq) w.heap.size [.int .i64 b, .int .i64 t, .slice ao n cap] 85) := unhide HX3
                  have HY3q : Hid (Bx (w3.drewN nq) (w.heap.size + 1) [.int .i64 0, .int .i64 0, .slice none 0 0] 85) := unhide HY3
                  clear c0 c1 c2 f0 f1 f2 HX3 HY3 HB3
                  obtain ⟨⟨c0, c1, c2⟩, f0, f1, f2⟩ := bx_slot (unhide HX3q)
                  go_wp2_with fail
                  refine (has_any b t ao n cap l _ _ _ ((unhide HE).below (unhide HB3q)) (unhide HM)).mono ?_
                  rw [unhide HHA]
                  rintro e w4 ⟨rfl, hb⟩
                  have HB4 : Hid (Below w.heap.size w w4) := bnx (unhide HB3q) hb
                  have HX4 := hide ((unhide HX3q).below hb)
                  have HY4 := hide ((unhide HY3q).below hb)
                  have hs34 : w3.heap.size ≤ w4.heap.size := hb.size
                  have hs4 : w.heap.size + 2 ≤ w4.heap.size := by omega
                  clear hb c0 c1 c2 f0 f1 f2
                  obtain ⟨⟨c0, c1, c2⟩, f0, f1, f2⟩ := bx_slot (unhide HX4)
                  go_wp2_with fail
                  refine (merged_any b t b ao n cap l _ _ _ (es.drop m) w4 ((unhide HE).below (unhide HB4)) ((unhide HHI).below (unhide HB4)) (unhide HM) (by omega) (by omega) (unhide HIX)).mono ?_
                  rw [unhide HMG]
                  rintro e w5 ⟨⟨E, a5, n5, c5, rfl, HO5, HE5⟩, HB5⟩
                  have HBw5 : Hid (Below w.heap.size w w5) := bnx (unhide HB4) (unhide HB5)
                  have HY5 := hide ((unhide HY4).below (unhide HB5))
                  have hs45 : w4.heap.size ≤ w5.heap.size := (unhide HB5).size
                  go_wp2_with fail
                  refine (told_s w4.heap.size L2 a5 n5 c5 E x w5 hs45 (unhide HO5) (unhide HE5) (unhide HZ)).mono ?_
                  rintro e w6 ⟨⟨E6, a6, n6, c6, rfl, HO6, HE6⟩, HB6⟩
                  have HBw6 : Hid (Below w.heap.size w w6) := bnx (unhide HBw5) (unhide HB6)
                  have HY6 := hide ((unhide HY5).below (unhide HB6))
                  clear c0 c1 c2 f0 f1 f2
                  obtain ⟨⟨c0, c1, c2⟩, f0, f1, f2⟩ := bx_slot (unhide HY6)
                  go_upto_region 12 with fail
                  obtain ⟨w7, hw7⟩ : ∃ w7, w7 = put3 w6 (w.heap.size + 1) (.int .i64 L2.b) (.int .i64 L2.t) (.slice a6 n6 c6) := ⟨_, rfl⟩
                  change Code.wp _ _ _ _ (put3 w6 (w.heap.size + 1) (.int .i64 L2.b) (.int .i64 L2.t) (.slice a6 n6 c6))
                  have HY7 : Hid (Bx w7 (w.heap.size + 1) [.int .i64 L2.b, .int .i64 L2.t, .slice a6 n6 c6] 85) := by
                    show Bx _ _ _ _
                    rw [hw7]; exact put3_bx (unhide HY6) _ _ _
                  have HB7 : Hid (Below w.heap.size w w7) := by
                    show Below _ _ _
                    rw [hw7]; exact put3_below (unhide HBw6) (by omega)
                  have HO7 : Hid (OwnL w7 w4.heap.size L2 a6 n6 c6) := by
                    show OwnL _ _ _ _ _ _
                    rw [hw7]; exact (unhide HO6).put3 (by omega)
                  have HE7 : Hid (ErS w7 w4.heap.size E6 x) := by
                    show ErS _ _ _ _
                    rw [hw7]; exact (unhide HE6).put3 (by omega)
                  rw [← hw7]
                  clear hw7 c0 c1 c2 f0 f1 f2
                  obtain ⟨⟨c0, c1, c2⟩, f0, f1, f2⟩ := bx_slot (unhide HY7)
                  go_wp2
                  refine bodyPost_ret (res_lme (B := w.heap.size + 1) rfl rfl (put3_bx (unhide HY7) _ _ _)) rfl ?_
                  exact ⟨⟨_, _, _, _, rfl, ((unhide HO7).put3 (by omega)).mono (by omega), ((unhide HE7).put3 (by omega)).mono (by omega)⟩, put3_below (unhide HB7) (by omega)⟩
            · have hmP : mP ⟨b, t, l⟩ p = p := if_neg hpb
              have hmU : mU ⟨b, t, l⟩ p u = u := if_neg hpb
              have hmE : mE ⟨b, t, l⟩ p es = es := if_neg hpb
              have HG := hide (decide_eq_true hg)
              by_cases hh : termAt ⟨b, t, l⟩ p = some u
              · have HHA := hide (decide_eq_true hh)
                have hpl : p ≤ b + (n : Int) := by
                  by_cases h5 : lastI ⟨b, t, l⟩ < p
                  · rw [termAt_none (.inr h5)] at hh; cases hh
                  · rw [unhide HI] at h5; omega
                have HIX : Hid (∀ k, k < m → (en0 es k).1 = p + 1 + (k : Nat)) := fun k hk => (hg k (by rw [unhide HL2]; exact hk)).1
                obtain ⟨⟨x, L2⟩, hr⟩ : ∃ r, r = mgdR ⟨b, t, l⟩ es := ⟨_, rfl⟩
                have HMG : Hid (mgdR ⟨b, t, l⟩ es = (x, L2)) := hr.symm
                have hz := mgdR_z ⟨b, t, l⟩ es
                rw [unhide HMG] at hz
                have HZ := hide hz
                have HMR : Hid (mrgR ⟨b, t, l⟩ p u es = (x, false, L2)) := by
                  show _ = _
                  rw [mrgR_has ⟨hm, by omega, by omega, hu, hg⟩ (by rw [hmP, hmU]; exact hh), hmE, unhide HMG]
                rw [unhide HMR]
                clear hr hz HMR
                clear hm h hu hg hmP hmU hmE hh
                go_enter Tryz.func51, Tryz.ntmps51
                go_wp2_with fail
                refine (check_ok b t ao n cap l _ ((unhide HE).below (unhide HB0)) (unhide HM)).mono ?_
                rintro e w2 ⟨rfl, hb⟩
                have HB : Hid (Below w.heap.size w w2) := bnx (unhide HB0) hb
                have HX := hide ((unhide HX0).below hb)
                have HY := hide ((unhide HY0).below hb)
                have hs2 : w.heap.size + 2 ≤ w2.heap.size := by rw [← hs0]; exact hb.size
                obtain ⟨⟨c0, c1, c2⟩, f0, f1, f2⟩ := bx_slot (unhide HX)
                clear hb HX0 HY0 hs0 HB0
                go_wp2_with fail
                refine (isTerm_any u w2).mono ?_
                rintro e w' ⟨rfl, hw⟩
                obtain rfl := hw.symm
                rw [unhide HU]
                go_wp2_with fail
                refine (goOn_any p u ao2 m cap2 es w2 ((unhide HE2).below (unhide HB)) (by omega) (by omega)).mono ?_
                rw [unhide HG]
                rintro e w3 ⟨rfl, hb⟩
                have HB3 : Hid (Below w.heap.size w w3) := bnx (unhide HB) hb
                have HX3 := hide ((unhide HX).below hb)
                have HY3 := hide ((unhide HY).below hb)
                have hs3 : w.heap.size + 2 ≤ w3.heap.size := by have := hb.size; omega
                clear hb c0 c1 c2 f0 f1 f2 HX HY HB hs2
                obtain ⟨⟨c0, c1, c2⟩, f0, f1, f2⟩ := bx_slot (unhide HX3)
                go_wp2_with fail
                refine (has_any b t ao n cap l _ _ _ ((unhide HE).below (unhide HB3)) (unhide HM)).mono ?_
                rw [unhide HHA]
                rintro e w4 ⟨rfl, hb⟩
                have HB4 : Hid (Below w.heap.size w w4) := bnx (unhide HB3) hb
                have HX4 := hide ((unhide HX3).below hb)
                have HY4 := hide ((unhide HY3).below hb)
                have hs34 : w3.heap.size ≤ w4.heap.size := hb.size
                have hs4 : w.heap.size + 2 ≤ w4.heap.size := by omega
                clear hb c0 c1 c2 f0 f1 f2
                obtain ⟨⟨c0, c1, c2⟩, f0, f1, f2⟩ := bx_slot (unhide HX4)
                go_wp2_with fail
                refine (merged_any b t p ao n cap l ao2 m cap2 es w4 ((unhide HE).below (unhide HB4)) ((unhide HE2).below (unhide HB4)) (unhide HM) (by omega) (by omega) (unhide HIX)).mono ?_
                rw [unhide HMG]
                rintro e w5 ⟨⟨E, a5, n5, c5, rfl, HO5, HE5⟩, HB5⟩
                have HBw5 : Hid (Below w.heap.size w w5) := bnx (unhide HB4) (unhide HB5)
                have HY5 := hide ((unhide HY4).below (unhide HB5))
                have hs45 : w4.heap.size ≤ w5.heap.size := (unhide HB5).size
                go_wp2_with fail
                refine (told_s w4.heap.size L2 a5 n5 c5 E x w5 hs45 (unhide HO5) (unhide HE5) (unhide HZ)).mono ?_
                rintro e w6 ⟨⟨E6, a6, n6, c6, rfl, HO6, HE6⟩, HB6⟩
                have HBw6 : Hid (Below w.heap.size w w6) := bnx (unhide HBw5) (unhide HB6)
                have HY6 := hide ((unhide HY5).below (unhide HB6))
                clear c0 c1 c2 f0 f1 f2
                obtain ⟨⟨c0, c1, c2⟩, f0, f1, f2⟩ := bx_slot (unhide HY6)
                go_upto_region 12 with fail
                obtain ⟨w7, hw7⟩ : ∃ w7, w7 = put3 w6 (w.heap.size + 1) (.int .i64 L2.b) (.int .i64 L2.t) (.slice a6 n6 c6) := ⟨_, rfl⟩
                change Code.wp _ _ _ _ (put3 w6 (w.heap.size + 1) (.int .i64 L2.b) (.int .i64 L2.t) (.slice a6 n6 c6))
                have HY7 : Hid (Bx w7 (w.heap.size + 1) [.int .i64 L2.b, .int .i64 L2.t, .slice a6 n6 c6] 85) := by
                  show Bx _ _ _ _
                  rw [hw7]; exact put3_bx (unhide HY6) _ _ _
                have HB7 : Hid (Below w.heap.size w w7) := by
                  show Below _ _ _
                  rw [hw7]; exact put3_below (unhide HBw6) (by omega)
                have HO7 : Hid (OwnL w7 w4.heap.size L2 a6 n6 c6) := by
                  show OwnL _ _ _ _ _ _
                  rw [hw7]; exact (unhide HO6).put3 (by omega)
                have HE7 : Hid (ErS w7 w4.heap.size E6 x) := by
                  show ErS _ _ _ _
                  rw [hw7]; exact (unhide HE6).put3 (by omega)
                rw [← hw7]
                clear hw7 c0 c1 c2 f0 f1 f2
                obtain ⟨⟨c0, c1, c2⟩, f0, f1, f2⟩ := bx_slot (unhide HY7)
                go_wp2
                refine bodyPost_ret (res_lme (B := w.heap.size + 1) rfl rfl (put3_bx (unhide HY7) _ _ _)) rfl ?_
                exact ⟨⟨_, _, _, _, rfl, ((unhide HO7).put3 (by omega)).mono (by omega), ((unhide HE7).put3 (by omega)).mono (by omega)⟩, put3_below (unhide HB7) (by omega)⟩
              · have HHA := hide (decide_eq_false hh)
                rw [mrgR_miss ⟨hm, by omega, by omega, hu, hg⟩ (by rw [hmP, hmU]; exact hh)]
                clear hm h hu hg hmP hmU hmE hh
                go_enter Tryz.func51, Tryz.ntmps51
                go_wp2_with fail
                refine (check_ok b t ao n cap l _ ((unhide HE).below (unhide HB0)) (unhide HM)).mono ?_
                rintro e w2 ⟨rfl, hb⟩
                have HB : Hid (Below w.heap.size w w2) := bnx (unhide HB0) hb
                have HX := hide ((unhide HX0).below hb)
                have HY := hide ((unhide HY0).below hb)
                have hs2 : w.heap.size + 2 ≤ w2.heap.size := by rw [← hs0]; exact hb.size
                obtain ⟨⟨c0, c1, c2⟩, f0, f1, f2⟩ := bx_slot (unhide HX)
                clear hb HX0 HY0 hs0 HB0
                go_wp2_with fail
                refine (isTerm_any u w2).mono ?_
                rintro e w' ⟨rfl, hw⟩
                obtain rfl := hw.symm
                rw [unhide HU]
                go_wp2_with fail
                refine (goOn_any p u ao2 m cap2 es w2 ((unhide HE2).below (unhide HB)) (by omega) (by omega)).mono ?_
                rw [unhide HG]
                rintro e w3 ⟨rfl, hb⟩
                have HB3 : Hid (Below w.heap.size w w3) := bnx (unhide HB) hb
                have HX3 := hide ((unhide HX).below hb)
                have HY3 := hide ((unhide HY).below hb)
                have hs3 : w.heap.size + 2 ≤ w3.heap.size := by have := hb.size; omega
                clear hb c0 c1 c2 f0 f1 f2 HX HY HB hs2
                obtain ⟨⟨c0, c1, c2⟩, f0, f1, f2⟩ := bx_slot (unhide HX3)
                go_wp2_with fail
                refine (has_any b t ao n cap l _ _ _ ((unhide HE).below (unhide HB3)) (unhide HM)).mono ?_
                rw [unhide HHA]
                rintro e w4 ⟨rfl, hb⟩
                have HB4 : Hid (Below w.heap.size w w4) := bnx (unhide HB3) hb
                have HX4 := hide ((unhide HX3).below hb)
                have HY4 := hide ((unhide HY3).below hb)
                have hs34 : w3.heap.size ≤ w4.heap.size := hb.size
                have hs4 : w.heap.size + 2 ≤ w4.heap.size := by omega
                clear hb c0 c1 c2 f0 f1 f2
                obtain ⟨⟨c0, c1, c2⟩, f0, f1, f2⟩ := bx_slot (unhide HX4)
                go_wp2_with fail
                refine (own_any b t ao n cap l w4 ((unhide HE).below (unhide HB4)) (by omega)).mono ?_
                rintro e w5 ⟨a5, c5, rfl, HO5, HB5⟩
                have HBw5 : Hid (Below w.heap.size w w5) := bnx (unhide HB4) (unhide HB5)
                have HY5 := hide ((unhide HY4).below (unhide HB5))
                clear c0 c1 c2 f0 f1 f2
                obtain ⟨⟨c0, c1, c2⟩, f0, f1, f2⟩ := bx_slot (unhide HY5)
                go_wp2
                refine bodyPost_ret (res_lme (B := w.heap.size + 1) rfl rfl (put3_bx (unhide HY5) _ _ _)) rfl ?_
                exact ⟨⟨_, _, _, _, rfl, ((unhide HO5).put3 (by omega)).mono (by omega), .inl ⟨rfl, rfl⟩⟩, put3_below (unhide HBw5) (by omega)⟩
          · have HG := hide (decide_eq_false hg)
            rw [mrgR_bad (fun hh => hg hh.2.2.2.2)]
            clear hm h hg hu
            go_enter Tryz.func51, Tryz.ntmps51
            go_wp2_with fail
            refine (check_ok b t ao n cap l _ ((unhide HE).below (unhide HB0)) (unhide HM)).mono ?_
            rintro e w2 ⟨rfl, hb⟩
            have HB : Hid (Below w.heap.size w w2) := bnx (unhide HB0) hb
            have HX := hide ((unhide HX0).below hb)
            have HY := hide ((unhide HY0).below hb)
            have hs2 : w.heap.size + 2 ≤ w2.heap.size := by rw [← hs0]; exact hb.size
            obtain ⟨⟨c0, c1, c2⟩, f0, f1, f2⟩ := bx_slot (unhide HX)
            clear hb HX0 HY0 hs0 HB0
            go_wp2_with fail
            refine (isTerm_any u w2).mono ?_
            rintro e w' ⟨rfl, hw⟩
            obtain rfl := hw.symm
            rw [unhide HU]
            go_wp2_with fail
            refine (goOn_any p u ao2 m cap2 es w2 ((unhide HE2).below (unhide HB)) (by omega) (by omega)).mono ?_
            rw [unhide HG]
            rintro e w3 ⟨rfl, hb⟩
            have HB3 : Hid (Below w.heap.size w w3) := bnx (unhide HB) hb
            have HX3 := hide ((unhide HX).below hb)
            have HY3 := hide ((unhide HY).below hb)
            have hs3 : w.heap.size + 2 ≤ w3.heap.size := by have := hb.size; omega
            clear hb c0 c1 c2 f0 f1 f2 HX HY HB hs2
            obtain ⟨⟨c0, c1, c2⟩, f0, f1, f2⟩ := bx_slot (unhide HX3)
            go_wp2_with fail
            refine (fault_n 1 w3).mono ?_
            rintro e w9 ⟨x, rfl, HER, HB9⟩
            have HY9 := hide ((unhide HY3).below (unhide HB9))
            have HBz := hide (bnx (unhide HB3) (unhide HB9))
            clear c0 c1 c2 f0 f1 f2
            obtain ⟨⟨c0, c1, c2⟩, f0, f1, f2⟩ := bx_slot (unhide HY9)
            go_wp2
            refine bodyPost_ret (res_lme (B := w.heap.size + 1) rfl rfl (put3_bx (unhide HY9) _ _ _)) rfl ?_
            exact ⟨⟨_, _, _, _, rfl, OwnL.nil _ _, .inr ⟨by decide, ((unhide HER).put3 (by omega)).mono (by omega)⟩⟩, put3_below (unhide HBz) (by omega)⟩
        · have HU := hide (decide_eq_false hu)
          rw [mrgR_bad (fun hh => hu hh.2.2.2.1)]
          clear hm h hu
          go_enter Tryz.func51, Tryz.ntmps51
          go_wp2_with fail
          refine (check_ok b t ao n cap l _ ((unhide HE).below (unhide HB0)) (unhide HM)).mono ?_
          rintro e w2 ⟨rfl, hb⟩
          have HB : Hid (Below w.heap.size w w2) := bnx (unhide HB0) hb
          have HX := hide ((unhide HX0).below hb)
          have HY := hide ((unhide HY0).below hb)
          have hs2 : w.heap.size + 2 ≤ w2.heap.size := by rw [← hs0]; exact hb.size
          obtain ⟨⟨c0, c1, c2⟩, f0, f1, f2⟩ := bx_slot (unhide HX)
          clear hb HX0 HY0 hs0 HB0
          go_wp2_with fail
          refine (isTerm_any u w2).mono ?_
          rintro e w' ⟨rfl, hw⟩
          obtain rfl := hw.symm
          rw [unhide HU]
          go_wp2_with fail
          refine (fault_n 1 w2).mono ?_
          rintro e w9 ⟨x, rfl, HER, HB9⟩
          have HY9 := hide ((unhide HY).below (unhide HB9))
          have HBz := hide (bnx (unhide HB) (unhide HB9))
          clear c0 c1 c2 f0 f1 f2
          obtain ⟨⟨c0, c1, c2⟩, f0, f1, f2⟩ := bx_slot (unhide HY9)
          go_wp2
          refine bodyPost_ret (res_lme (B := w.heap.size + 1) rfl rfl (put3_bx (unhide HY9) _ _ _)) rfl ?_
          exact ⟨⟨_, _, _, _, rfl, OwnL.nil _ _, .inr ⟨by decide, ((unhide HER).put3 (by omega)).mono (by omega)⟩⟩, put3_below (unhide HBz) (by omega)⟩
  · rw [mrgR_bad (fun hh => hm hh.1)]
    have HM := hide hm
    clear hm h
    go_enter Tryz.func51, Tryz.ntmps51
    go_wp2_with fail
    refine (check_bad b t ao n cap l _ ((unhide HE).below (unhide HB0)) (unhide HM)).mono ?_
    rintro e w2 ⟨x, rfl, HER, HB2⟩
    have HY := hide ((unhide HY0).below (unhide HB2))
    have HB := hide (bnx (unhide HB0) (unhide HB2))
    obtain ⟨⟨c0, c1, c2⟩, f0, f1, f2⟩ := bx_slot (unhide HY)
    have HER2 := hide ((unhide HER).mono (B' := w.heap.size + 2) (by rw [hs0]; exact Nat.le_refl _))
    clear HB2 HY0 HX0 HER hs0
    go_wp2
    refine bodyPost_ret (res_lme (B := w.heap.size + 1) rfl rfl (put3_bx (unhide HY) _ _ _)) rfl ?_
    exact ⟨⟨_, _, _, _, rfl, OwnL.nil _ _, .inr ⟨by decide, ((unhide HER2).put3 (by omega)).mono (by omega)⟩⟩, put3_below (unhide HB) (by omega)⟩
end Go.Proofs.YtmmhdhpocjnlbaaGreatDoor.Et
