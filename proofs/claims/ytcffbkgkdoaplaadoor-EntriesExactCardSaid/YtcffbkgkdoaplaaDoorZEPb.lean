/- Proved here: dovecoteref15.Append: a log with entries more. Helper contracts. -/
import Derived.Test.YtcffbkgkdoaplaaDoorZEPa
namespace Go.Proofs.YtcffbkgkdoaplaaDoor.Et
open Go.RowKit Nt
set_option maxRecDepth 100000

/-- what the page tells: a log in memory of its own, a number -/
def TelP (B : Nat) (r : Int × Lo) (e : Ending) (w' : World) : Prop := ∃ ao n c, e = .returned (.tuple #[.agg #[.int .i64 r.2.b, .int .i64 r.2.t, .slice ao n c], .int .i64 r.1]) ∧ Hid (OwnL w' B r.2 ao n c)
theorem apR_full {L : Lo} {es : List En} (h : GoOn (lastI L) (lastT L) es) (h2 : 512 < L.es.length + es.length) : apR L es = (9, lo0) := by unfold apR; rw [if_pos h, if_pos h2]
theorem apR_yes {L : Lo} {es : List En} (h : GoOn (lastI L) (lastT L) es) (h2 : ¬ 512 < L.es.length + es.length) : apR L es = (0, ⟨L.b, L.t, L.es ++ es⟩) := by unfold apR; rw [if_pos h, if_neg h2]
set_option maxHeartbeats 8000000 in
theorem appP_any (b t : Int) (ao : Option Addr) (n cap : Nat) (l : List En) (ao2 : Option Addr) (m cap2 : Nat) (es : List En) (w : World) (h : Es w ao n cap l) (h2 : Es w ao2 m cap2 es) (hm : May ⟨b, t, l⟩) :
    Calls Tryd.prog 10 #[.agg #[.int .i64 b, .int .i64 t, .slice ao n cap], .slice ao2 m cap2] w fun e w' => TelP w.heap.size (apR ⟨b, t, l⟩ es) e w' ∧ Hid (Below w.heap.size w w') := by
  obtain ⟨i0, hi, hz0, hz1, hz2⟩ := info_parts infoEnt
  have HB0 : Hid (Below w.heap.size w ((w.alloc (.cells #[.int .i64 b, .int .i64 t, .slice ao n cap] 25)).alloc (.cells #[.int .i64 0, .int .i64 0, .slice none 0 0] 25))) := ((Below.refl _ _).alloc (Nat.le_refl _) _).alloc (by simp) _
  have HX0 : Hid (Bx ((w.alloc (.cells #[.int .i64 b, .int .i64 t, .slice ao n cap] 25)).alloc (.cells #[.int .i64 0, .int .i64 0, .slice none 0 0] 25)) w.heap.size [.int .i64 b, .int .i64 t, .slice ao n cap] 25) := (Bx.new w _ _ _ rfl).below ((Below.refl _ _).alloc (Nat.le_refl _) _)
  have HY0 : Hid (Bx ((w.alloc (.cells #[.int .i64 b, .int .i64 t, .slice ao n cap] 25)).alloc (.cells #[.int .i64 0, .int .i64 0, .slice none 0 0] 25)) (w.heap.size + 1) [.int .i64 0, .int .i64 0, .slice none 0 0] 25) := Bx.new _ _ _ _ (by simp)
  have hs0 : ((w.alloc (.cells #[.int .i64 b, .int .i64 t, .slice ao n cap] 25)).alloc (.cells #[.int .i64 0, .int .i64 0, .slice none 0 0] 25)).heap.size = w.heap.size + 2 := by simp
  have HE := hide h
  have HE2 := hide h2
  have hmx2 := h2.2.2.2.1
  clear h2
  have HM := hide hm
  have hnc := h.2.1
  have hnx := h.2.2.2.1
  have hb1 : 0 ≤ b := hm.1.1
  have hb2 : b ≤ 1099511625728 := hm.1.2.1
  have hn5 : n ≤ 512 := by have := hm.2.1; rw [h.1] at this; exact this
  have HI : Hid (lastI ⟨b, t, l⟩ = b + (n : Int)) := by
    show _ = _
    unfold lastI
    rw [h.1]
  obtain ⟨T, hT⟩ : ∃ T, T = lastT ⟨b, t, l⟩ := ⟨_, rfl⟩
  have HT := hide hT
  clear hT
  by_cases hg : GoOn (b + (n : Int)) T es
  · have HG := hide (decide_eq_true hg)
    have hg' : GoOn (lastI ⟨b, t, l⟩) (lastT ⟨b, t, l⟩) es := by rw [unhide HI, ← unhide HT]; exact hg
    by_cases hf : 512 < n + m
    · have HR : Hid (apR ⟨b, t, l⟩ es = (9, lo0)) := apR_full hg' (by show 512 < l.length + es.length; rw [h.1, (unhide HE2).1]; exact hf)
      rw [unhide HR]
      clear hg hg' hm h HR
      go_enter Tryd.func10, Tryd.ntmps10
      go_wp2_with fail
      refine (lastP_any b t ao n cap l _ ((unhide HE).below (unhide HB0)) (unhide HM)).mono ?_
      rw [unhide HI, ← unhide HT]
      rintro e w3 ⟨rfl, hb⟩
      have HB3 : Hid (Below w.heap.size w w3) := bnx (unhide HB0) hb
      have HX3 := hide ((unhide HX0).below hb)
      have HY3 := hide ((unhide HY0).below hb)
      have hs3 : w.heap.size + 2 ≤ w3.heap.size := by rw [← hs0]; exact hb.size
      clear hb HX0 HY0 hs0 HB0
      go_wp2_with fail
      refine (runs_any (b + (n : Int)) T ao2 m cap2 es w3 ((unhide HE2).below (unhide HB3)) (by omega) (by omega)).mono ?_
      rw [unhide HG]
      rintro e w4 ⟨rfl, hb⟩
      have HB4 : Hid (Below w.heap.size w w4) := bnx (unhide HB3) hb
      have HX4 := hide ((unhide HX3).below hb)
      have HY4 := hide ((unhide HY3).below hb)
      have hs4 : w.heap.size + 2 ≤ w4.heap.size := by have := hb.size; omega
      clear hb HX3 HY3 HB3 hs3
      obtain ⟨⟨c0, c1, c2⟩, f0, f1, f2⟩ := bx_slot (unhide HX4)
      obtain ⟨⟨y0, y1, y2⟩, g0, g1, g2⟩ := bx_slot (unhide HY4)
      go_wp2
      refine bodyPost_ret (res_le (B := w.heap.size + 1) rfl rfl (put3_bx (unhide HY4) _ _ _)) rfl ?_
      exact ⟨⟨_, _, _, rfl, OwnL.nil _ _⟩, put3_below (unhide HB4) (by omega)⟩
    · have HR : Hid (apR ⟨b, t, l⟩ es = (0, ⟨b, t, l ++ es⟩)) := apR_yes hg' (by show ¬ 512 < l.length + es.length; rw [h.1, (unhide HE2).1]; exact hf)
      have HL : Hid ((l ++ es).length = n + m) := by
        show _ = _
        rw [List.length_append, h.1, (unhide HE2).1]
      rw [unhide HR]
      clear hg hg' hm h HR
      go_enter Tryd.func10, Tryd.ntmps10
      go_wp2_with fail
      refine (lastP_any b t ao n cap l _ ((unhide HE).below (unhide HB0)) (unhide HM)).mono ?_
      rw [unhide HI, ← unhide HT]
      rintro e w3 ⟨rfl, hb⟩
      have HB3 : Hid (Below w.heap.size w w3) := bnx (unhide HB0) hb
      have HX3 := hide ((unhide HX0).below hb)
      have HY3 := hide ((unhide HY0).below hb)
      have hs3 : w.heap.size + 2 ≤ w3.heap.size := by rw [← hs0]; exact hb.size
      clear hb HX0 HY0 hs0 HB0
      go_wp2_with fail
      refine (runs_any (b + (n : Int)) T ao2 m cap2 es w3 ((unhide HE2).below (unhide HB3)) (by omega) (by omega)).mono ?_
      rw [unhide HG]
      rintro e w4 ⟨rfl, hb⟩
      have HB4 : Hid (Below w.heap.size w w4) := bnx (unhide HB3) hb
      have HX4 := hide ((unhide HX3).below hb)
      have HY4 := hide ((unhide HY3).below hb)
      have hs4 : w.heap.size + 2 ≤ w4.heap.size := by have := hb.size; omega
      clear hb HX3 HY3 HB3 hs3
      obtain ⟨⟨c0, c1, c2⟩, f0, f1, f2⟩ := bx_slot (unhide HX4)
      obtain ⟨⟨y0, y1, y2⟩, g0, g1, g2⟩ := bx_slot (unhide HY4)
      go_wp2_with fail
      refine (copyL_any b t ao n cap l w4 ((unhide HE).below (unhide HB4)) (by omega)).mono ?_
      rintro e w5 ⟨a5, c5, rfl, HO5, HB5⟩
      have HBw5 : Hid (Below w.heap.size w w5) := bnx (unhide HB4) (unhide HB5)
      have hal : Below w5.heap.size w5 (w5.alloc (.cells #[.int .i64 b, .int .i64 t, .slice a5 n c5] 25)) := (Below.refl _ _).alloc (Nat.le_refl _) _
      have HB6 : Hid (Below w.heap.size w (w5.alloc (.cells #[.int .i64 b, .int .i64 t, .slice a5 n c5] 25))) := bnx (unhide HBw5) hal
      have HM6 : Hid (Bx (w5.alloc (.cells #[.int .i64 b, .int .i64 t, .slice a5 n c5] 25)) w5.heap.size [.int .i64 b, .int .i64 t, .slice a5 n c5] 25) := Bx.new _ _ _ _ rfl
      have HY6 := hide (((unhide HY4).below (unhide HB5)).below hal)
      have HO6 := hide ((unhide HO5).below hal)
      have hs5 : w.heap.size + 2 ≤ w5.heap.size := by have := (unhide HB5).size; omega
      have hs45 : w4.heap.size ≤ w5.heap.size := (unhide HB5).size
      have HCI := hide ((unhide HE2).below (unhide HB6)).cin
      have hlt6 : w5.heap.size < (w5.alloc (.cells #[.int .i64 b, .int .i64 t, .slice a5 n c5] 25)).heap.size := by simp
      clear hal c0 c1 c2 f0 f1 f2 y0 y1 y2 g0 g1 g2 HX4 HY4 HO5 HB5
      have HBLK : Hid (∀ g, (Value.slice a5 n c5).ownBlock = some g → w4.heap.size ≤ g ∧ g < w5.heap.size) := fun g hg => by
        have h1 := owns_blk (unhide HO6).1 g hg
        refine ⟨h1.1, ?_⟩
        have h2 := h1.2
        simp at h2
        by_cases hgg : g = w5.heap.size
        · exfalso
          have h3 := (unhide HO6).1.2
          rcases h3 with ⟨e3, _⟩ | ⟨g', cp, cur, e3, _, hcell, _⟩
          · rw [e3] at hg; cases hg
          · rw [e3] at hg
            have e4 : g' = g := Option.some.inj hg
            rw [e4, hgg] at hcell
            have h5 := unhide HM6
            unfold Bx at h5
            rw [h5] at hcell
            simp only [Option.some.injEq, Obj.cells.injEq] at hcell
            exact absurd hcell.2.1 (by decide)
        · omega
      go_wp2_with (first
        | (at_builtin; refine wpList_app_c _ rfl _ _ 23 rfl w4.heap.size 68 i0 _ 4 40 Tryd.underlying23 hi hz0 hz1 hz2 rfl (by decide) _ _ n m _ (ecs es) rfl rfl (unhide HO6).1 (unhide HCI) (ecs_one es) (by unfold maxLen; omega) (by omega) (by omega) ?_)
        | go_in)
      intro v7 w7 hown hgrow hat
      obtain ⟨a7, c7, rfl⟩ := owns_slice hown
      have hfr : Fr (fun k => (Value.slice a5 n c5).ownBlock = some k) (w5.alloc (.cells #[.int .i64 b, .int .i64 t, .slice a5 n c5] 25)) w7 := Fr.of_grown hgrow (fun g e => e)
      have HM7 := hide ((unhide HM6).fr hfr (fun e => by have := (unhide HBLK _ e).2; omega))
      have HY7 := hide ((unhide HY6).fr hfr (fun e => by have := (unhide HBLK _ e).1; omega))
      have HB7 : Hid (Below w.heap.size w w7) := (unhide HB6).grown hgrow (unhide HB6).size (fun k hk => by have := (unhide HBLK _ hk).1; omega)
      have HO7 : Hid (w7.ownsRow w4.heap.size 68 4 (.slice a7 (n + m) c7) (n + m) (ecs (l ++ es))) := by
        show World.ownsRow _ _ _ _ _ _ _
        rw [ecs_app]; exact hown
      have HNE : Hid (∀ g, (Value.slice a7 (n + m) c7).ownBlock = some g → g ≠ w5.heap.size) := fun g hg => by
        rcases hat with e | e
        · have := (unhide HBLK g (by rw [← e]; exact hg)).2
          omega
        · rw [e] at hg
          have := Option.some.inj hg
          omega
      clear hown hgrow hat hfr HM6 HY6 HB6 HO6 HCI HBLK
      obtain ⟨⟨m0, m1, m2⟩, f0, f1, f2⟩ := bx_slot (unhide HM7)
      go_upto_region 8 with fail
      have hfr : Fr (fun k => k = w5.heap.size) w7 (w7.setCell ⟨w5.heap.size, 2, none⟩ (.slice a7 (n + m) c7)) := set_fr rfl
      have HM8 : Hid (Bx (w7.setCell ⟨w5.heap.size, 2, none⟩ (.slice a7 (n + m) c7)) w5.heap.size [.int .i64 b, .int .i64 t, .slice a7 (n + m) c7] 25) := (unhide HM7).set 2 _ (by simp)
      have HY8 := hide ((unhide HY7).fr hfr (by omega))
      have HB8 : Hid (Below w.heap.size w (w7.setCell ⟨w5.heap.size, 2, none⟩ (.slice a7 (n + m) c7))) := Fr.bel (unhide HB7) hfr (fun i hi => by omega) (unhide HB7).size
      have HO8 : Hid (OwnL (w7.setCell ⟨w5.heap.size, 2, none⟩ (.slice a7 (n + m) c7)) w4.heap.size ⟨b, t, l ++ es⟩ a7 (n + m) c7) := ⟨owns_fr (unhide HO7) hfr (fun g hg => unhide HNE g hg), unhide HL, by omega⟩
      generalize w7.setCell ⟨w5.heap.size, 2, none⟩ (.slice a7 (n + m) c7) = w8 at hfr HM8 HY8 HB8 HO8 ⊢
      clear m0 m1 m2 f0 f1 f2 hfr HM7 HY7 HB7 HO7
      obtain ⟨⟨m0, m1, m2⟩, mf0, mf1, mf2⟩ := bx_slot (unhide HM8)
      obtain ⟨⟨y0, y1, y2⟩, f0, f1, f2⟩ := bx_slot (unhide HY8)
      go_wp2
      refine bodyPost_ret (res_le (B := w.heap.size + 1) rfl rfl (put3_bx (unhide HY8) _ _ _)) rfl ?_
      exact ⟨⟨_, _, _, rfl, ((unhide HO8).put3 (by omega)).mono (by omega)⟩, put3_below (unhide HB8) (by omega)⟩
  · have HG := hide (decide_eq_false hg)
    rw [apR_no (by rw [unhide HI, ← unhide HT]; exact hg)]
    clear hg hm h
    go_enter Tryd.func10, Tryd.ntmps10
    go_wp2_with fail
    refine (lastP_any b t ao n cap l _ ((unhide HE).below (unhide HB0)) (unhide HM)).mono ?_
    rw [unhide HI, ← unhide HT]
    rintro e w3 ⟨rfl, hb⟩
    have HB3 : Hid (Below w.heap.size w w3) := bnx (unhide HB0) hb
    have HX3 := hide ((unhide HX0).below hb)
    have HY3 := hide ((unhide HY0).below hb)
    have hs3 : w.heap.size + 2 ≤ w3.heap.size := by rw [← hs0]; exact hb.size
    clear hb HX0 HY0 hs0 HB0
    go_wp2_with fail
    refine (runs_any (b + (n : Int)) T ao2 m cap2 es w3 ((unhide HE2).below (unhide HB3)) (by omega) (by omega)).mono ?_
    rw [unhide HG]
    rintro e w4 ⟨rfl, hb⟩
    have HB4 : Hid (Below w.heap.size w w4) := bnx (unhide HB3) hb
    have HX4 := hide ((unhide HX3).below hb)
    have HY4 := hide ((unhide HY3).below hb)
    have hs4 : w.heap.size + 2 ≤ w4.heap.size := by have := hb.size; omega
    clear hb HX3 HY3 HB3 hs3
    obtain ⟨⟨c0, c1, c2⟩, f0, f1, f2⟩ := bx_slot (unhide HX4)
    obtain ⟨⟨y0, y1, y2⟩, g0, g1, g2⟩ := bx_slot (unhide HY4)
    go_wp2
    refine bodyPost_ret (res_le (B := w.heap.size + 1) rfl rfl (put3_bx (unhide HY4) _ _ _)) rfl ?_
    exact ⟨⟨_, _, _, rfl, OwnL.nil _ _⟩, put3_below (unhide HB4) (by omega)⟩
end Go.Proofs.YtcffbkgkdoaplaaDoor.Et
