/- Proved here: helpers, one text behind the other. -/
import Derived.Test.YtdjpllmgjmnolaaGreatDoorZYLx
/- Proved here: dovecotelaw7.heavy: what is not heavy has light acts. Helper contracts. -/
namespace Go.Proofs.YtdjpllmgjmnolaaGreatDoor.Y
open Go.RowKit Go.Maps
set_option maxRecDepth 100000

theorem heavy_nil (ao : Option Addr) (cap : Nat) (az : Nat → Ac) (w : World) : Calls Tryz.prog 5 #[.slice ao 0 cap] w (HvEnd w az 0) := by
  go_enter Tryz.func5, Tryz.ntmps5
  go_wp2
  refine wp_loop_rounds 1 ?_
  rw [rounds_succ]
  go_wp2
  go_ret
  exact ⟨false, rfl, fun _ k hk _ => absurd hk (Nat.not_lt_zero _), Below.refl _ _⟩
set_option maxHeartbeats 4000000 in
theorem heavy_cons (b off len cap : Nat) (az : Nat → Ac) (w : World) (hl : len ≤ 140737488351232) (hz : ∀ k, k < len → (az k).c.size ≤ 140737488351232 ∧ (az k).s.f.size ≤ 140737488351232 ∧ (az k).nm.size ≤ 140737488351232) (h : ∀ k, k < len → AcAt w b (off + k * 8) (az k)) : Calls Tryz.prog 5 #[.slice (some ⟨b, off, none⟩) len cap] w (HvEnd w az len) := by
  have HA : Hid (∀ W k, k < len → Below w.heap.size w W → AcAt W b (off + k * 8) (az k)) := fun W k hk hW => (h k hk).bel hW (cell_lt (h k hk).1)
  have HZ := hide hz
  clear h hz
  go_enter Tryz.func5, Tryz.ntmps5
  go_wp2
  go_loopw [3, 4] (fun s i wr => ∃ k n : Nat, k ≤ len ∧ k ≤ 60 ∧ i = .int .i64 k ∧ s = .int .i64 n ∧ Hid (n = sumW az k) ∧ Hid (Below w.heap.size w wr)) (fun _ i _ => len - (intOf i).toNat)
  case atStart => exact ⟨0, 0, Nat.zero_le _, by decide, rfl, rfl, rfl, Below.refl _ _⟩
  case round =>
    obtain ⟨k, n, hk, hk6, rfl, rfl, HN, HB⟩ := hrel
    have hnb : n ≤ 25332747903221760 := by
      rw [unhide HN]
      have := sumW_big az len (unhide HZ) k hk
      omega
    by_cases hlt : k < len
    · by_cases h60 : k < 60
      · have HK := hide ((unhide HA) wr k hlt (unhide HB))
        obtain ⟨z1, z2, z3⟩ := (unhide HZ) k hlt
        have HN2 : Hid (sumW az (k + 1) = n + (az k).c.size + (az k).s.f.size + (az k).nm.size) := by
          show _ = _
          simp only [sumW, acw]
          rw [← unhide HN]; omega
        have HB2 : Hid (Below w.heap.size w wr.drew) := below_drewN (unhide HB) 1
        generalize az k = a at HK z1 z2 z3 HN2
        have HWR : Hid (Value.int .i64 (IntKind.i64.wrap (IntKind.i64.wrap (IntKind.i64.wrap ((n : Int) + (a.c.size : Int)) + (a.s.f.size : Int)) + (a.nm.size : Int))) = .int .i64 ((n + a.c.size + a.s.f.size + a.nm.size : Nat) : Int)) := by
          show _ = _
          have hw : ∀ x : Int, 0 ≤ x → x ≤ 9223372036854775807 → IntKind.i64.wrap x = x := fun x h1 h2 => by rw [IntKind.wrap_i64]; omega
          rw [hw ((n : Int) + (a.c.size : Int)) (by omega) (by omega), hw ((n : Int) + (a.c.size : Int) + (a.s.f.size : Int)) (by omega) (by omega), hw ((n : Int) + (a.c.size : Int) + (a.s.f.size : Int) + (a.nm.size : Int)) (by omega) (by omega)]
          rfl
        go_wp2_with fail
        refine wp_region_noPanic ?_
        refine wp_region_held_drew (S := fun W => W.cell? ⟨b, off + k * 8 + 1, none⟩ = some (.string a.c) ∧ W.cell? ⟨b, off + k * 8 + 2, none⟩ = some (.string a.s.f) ∧ W.cell? ⟨b, off + k * 8 + 7, none⟩ = some (.string a.nm)) (by kernel_rfl) ⟨(unhide HK).2.1, (unhide HK).2.2.1, (unhide HK).2.2.2.2.2.2.2⟩ (fun hHeld => ?_)
        refine rtk 0 (h := ?_)
        refine rtk 1 (h := ?_)
        refine rtk 2 (h := ?_)
        refine rtk 3 (h := ?_)
        refine rtk 4 (h := ?_)
        refine rtk 5 (h := ?_)
        refine rtk 6 (h := ?_)
        refine rtk 7 (h := ?_)
        refine rtk 8 (h := ?_)
        refine rtk 9 (h := ?_)
        refine rtk 10 (h := ?_)
        refine rtk 11 (h := ?_)
        refine rtk 12 (h := ?_)
        refine rtk 13 (h := ?_)
        refine rtk 14 (h := ?_)
        refine rtk 15 (h := ?_)
        refine rtk 16 (h := ?_)
        refine rtk 17 (h := ?_)
        refine rtk 18 (h := ?_)
        refine rtk 19 (h := ?_)
        refine rtk 20 (h := ?_)
        refine rtk 21 (h := ?_)
        refine rtk 22 (h := ?_)
        refine rtk 23 (h := ?_)
        refine wpAnyH_done (by kernel_rfl) ?_ _
        refine NoPanic.normal ?_
        clear HK
        go_wp2
        go_roundw
        case rel => exact ⟨k + 1, n + a.c.size + a.s.f.size + a.nm.size, by omega, by omega, by go_num, unhide HWR, (unhide HN2).symm, HB2⟩
        case measure => simp [intOf]; omega
      · obtain rfl : k = 60 := by omega
        have HL : Hid (n ≤ 20000 → Light az len) := fun hn j _ hj => by
          have := sumW_le az j 60 hj
          rw [← unhide HN] at this
          omega
        by_cases hn : n ≤ 20000
        · have h2 : ¬ (20000 : Int) < n := by omega
          go_wp2
          go_ret
          exact ⟨_, rfl, fun _ => (unhide HL) hn, unhide HB⟩
        · have h2 : (20000 : Int) < n := by omega
          go_wp2
          go_ret
          exact ⟨_, rfl, (fun e => by first | cases e | (simp at e; omega)), unhide HB⟩
    · obtain rfl : k = len := by omega
      have HL : Hid (n ≤ 20000 → Light az k) := fun hn j hj _ => by
        have := sumW_le az j k hj
        rw [← unhide HN] at this
        omega
      by_cases hn : n ≤ 20000
      · have h2 : ¬ (20000 : Int) < n := by omega
        go_wp2
        go_ret
        exact ⟨_, rfl, fun _ => (unhide HL) hn, unhide HB⟩
      · have h2 : (20000 : Int) < n := by omega
        go_wp2
        go_ret
        exact ⟨_, rfl, (fun e => by first | cases e | (simp at e; omega)), unhide HB⟩
end Go.Proofs.YtdjpllmgjmnolaaGreatDoor.Y
/- Proved here: dovecotelaw7.wakes answers true. Helper contracts. -/
namespace Go.Proofs.YtdjpllmgjmnolaaGreatDoor.Y
open Go.RowKit Go.Maps
set_option maxRecDepth 100000

def Laid2 (w : World) : Prop := Laid w ∧ Len w
theorem Laid2.up {w w' : World} (h : Laid2 w) (hb : Below w.heap.size w w') : Laid2 w' := ⟨h.1.below hb h.1.pos, h.2.up hb⟩
abbrev wkR : Rw := ⟨⟨#[120]⟩, ⟨⟨#[97, 47, 43]⟩, 0, false, false, 0⟩⟩
theorem wk_ok : okF wkR.s.f = true := by decide
theorem wk_hit : hits [97, 47, 43] [97, 47, 98] = true := by decide
theorem wk_nm : isName [97, 47, 98] = true := by decide
theorem insS_none (y : Rw) : insS (fun _ => False) y = fun x => x ∈ [y] := by
  funext x
  unfold insS
  simp
set_option maxHeartbeats 2000000 in
theorem wakes7 (w : World) (hg : Laid2 w) : Calls Tryz.prog 18 #[] w fun e w' => e = .returned (.bool true) ∧ Below w.heap.size w w' := by
  have HG := hide hg
  have hok : RwOk wkR := ⟨by decide, by decide, wk_ok⟩
  have HOK := hide hok
  have HLG := hide (fun w1 (hb : Below w.heap.size w w1) => (unhide HG).up hb)
  clear hg hok HG
  go_enter Tryz.func18, Tryz.ntmps18
  go_wp2_with fail
  refine (new_any w).mono ?_
  rintro e w1 ⟨rfl, HTR, hb1⟩
  have HB1 := hide hb1
  have HADD := hide (add_yes (n := 0) (M := 0) wkR.c wkR.s (unhide HOK) ((unhide HLG) w1 hb1).2 (unhide HTR) ⟨by decide, by decide⟩ (by decide))
  obtain ⟨T, hT⟩ : ∃ T, Hid (T = w.heap.size) := ⟨_, rfl⟩
  rw [← unhide hT] at HADD ⊢
  clear hb1 HTR
  go_wp2_with fail
  refine (unhide HADD).mono ?_
  rintro e w2 ⟨had, rfl, hpost⟩
  obtain ⟨hhad, F', hTR2, hext, hfr⟩ := hpost
  have hf : had = false := by
    cases had with
    | false => rfl
    | true => obtain ⟨x, hx, _⟩ := hhad.1 rfl; exact hx.elim
  subst hf
  rw [if_neg (by decide), insS_none] at hTR2
  have hb2 : Below w.heap.size w w2 := below_fr (unhide HB1) hfr (fun i e => by rw [e, unhide hT]; exact Nat.le_refl _) (by have := (unhide HB1).size; omega)
  have HB2 := hide hb2
  have HMT := hide (match_yes (R := [wkR]) ⟨#[97, 47, 98]⟩ (by decide) ((unhide HLG) w2 hb2).2 hTR2 (fun x => Iff.rfl) (List.pairwise_singleton _ _) (by decide) wk_nm)
  clear hhad hTR2 hext hfr hb2 HADD HB1 HOK
  go_wp2_with fail
  refine (unhide HMT).mono ?_
  rintro e w3 ⟨hv, rfl, HOW, hb3⟩
  have eF : ([wkR].filter fun x => hits x.s.f.data.toList (⟨#[97, 47, 98]⟩ : ByteArray).data.toList) = [wkR] := List.filter_eq_self.2 (fun x hx => by rw [List.mem_singleton.1 hx]; exact wk_hit)
  rw [eF] at HOW
  have HB3 := hide ((unhide HB2).trans (hb3.mono (unhide HB2).size))
  obtain ⟨ao, cap, rfl, hcp, hcase⟩ := rows_in rfl (unhide HOW)
  rcases hcase with ⟨_, h0, _⟩ | ⟨g, off, rfl, hc⟩
  · cases h0
  have hc0 := (hc 0 (by decide)).1
  rw [Nat.zero_mul, Nat.add_zero] at hc0
  have hc1 : w3.cell? ⟨g, off, none⟩ = some (.string ⟨#[120]⟩) := hc0
  have HCL : Hid (∀ W, Below w3.heap.size w3 W → W.cell? ⟨g, off, none⟩ = some (.string ⟨#[120]⟩)) := fun W hW => bel_w hW hc1
  have HN1 := hide (num7 .nilIface 0 w3 ((unhide HLG) w3 (unhide HB3)).1 (.inl ⟨rfl, rfl⟩))
  clear hc hc0 hc1 hb3 HOW HMT eF HB2 hcp
  rw [show [wkR].length = 1 from rfl]
  go_wp2_with fail
  refine (unhide HN1).mono ?_
  rintro e w4 ⟨rfl, hb4⟩
  have HB4 := hide ((unhide HB3).trans (hb4.mono (unhide HB3).size))
  have HB34 := hide hb4
  have HN2 := hide (num7 .nilIface 0 w4 ((unhide HLG) w4 (unhide HB4)).1 (.inl ⟨rfl, rfl⟩))
  clear hb4 HN1 HB3
  go_wp2_with fail
  refine (unhide HN2).mono ?_
  rintro e w5 ⟨rfl, hb5⟩
  have HB5 := hide ((unhide HB4).trans (hb5.mono (unhide HB4).size))
  have hc5 := (unhide HCL) w5 ((unhide HB34).trans (hb5.mono (unhide HB34).size))
  clear hb5 HN2 HB4 HB34 HCL HLG
  go_wp2
  go_ret
  exact ⟨rfl, unhide HB5⟩
end Go.Proofs.YtdjpllmgjmnolaaGreatDoor.Y
