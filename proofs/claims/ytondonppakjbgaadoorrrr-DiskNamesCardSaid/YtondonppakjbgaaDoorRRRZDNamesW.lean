/- Proved here: the walk of dovecotelaw10.DiskNames: at any script it returns true. -/
import Derived.Test.YtondonppakjbgaaDoorRRRZDLaw
namespace Go.Proofs.YtondonppakjbgaaDoorRRR.D
open Go.RowKit Go.Maps
set_option maxRecDepth 100000

theorem ErN.below {w w' : World} {B : Nat} {v : Value} {n : Int} (h : ErN w B v n) (hb : Below w.heap.size w w') : ErN w' B v n := by
  rcases h with h | ⟨h, b, h1, h3, h2⟩
  · exact .inl h
  · exact .inr ⟨h, b, h1, h3, (hb.cell (p := ⟨b, 1, none⟩) (cell_lt h2)).trans h2⟩
theorem Laid.bel {w w' : World} (h : Laid w) (hb : Below w.heap.size w w') : Laid w' := h.below hb h.pos
set_option maxHeartbeats 8000000 in
theorem names10_walk (fo lo : Option Addr) (fl fc len cap : Nat) (w : World) (hg : Laid w) (h : Scr w fo lo fl len) : Calls Tryd.prog 3 #[.agg #[.slice fo fl fc, .slice lo len cap]] w fun e w' => e = .returned (.bool true) ∧ Below w.heap.size w w' := by
  have HS : Hid (Scr (w.alloc (.cells #[.slice fo fl fc, .slice lo len cap] 25)) fo lo fl len) := h.below ((Below.refl _ _).alloc (Nat.le_refl _) _)
  have HB : Hid (Below w.heap.size w (w.alloc (.cells #[.slice fo fl fc, .slice lo len cap] 25))) := (Below.refl _ _).alloc (Nat.le_refl _) _
  have HG : Hid (Laid (w.alloc (.cells #[.slice fo fl fc, .slice lo len cap] 25))) := Laid.bel hg (unhide HB)
  have x0 : (w.alloc (.cells #[.slice fo fl fc, .slice lo len cap] 25)).cell? ⟨w.heap.size, 0, none⟩ = some (.slice fo fl fc) := by simp
  have x1 : (w.alloc (.cells #[.slice fo fl fc, .slice lo len cap] 25)).cell? ⟨w.heap.size, 1, none⟩ = some (.slice lo len cap) := by simp
  have hlen := h.lle
  unfold maxLen at hlen
  clear h hg
  go_enter Tryd.func3, Tryd.ntmps3
  go_wp2_with fail
  generalize w.alloc (.cells #[.slice fo fl fc, .slice lo len cap] 25) = w1 at HS HB HG x0 x1 ⊢
  refine (heavy_any fo lo fl fc len cap w1 (unhide HS)).mono ?_
  rintro e w2 ⟨q, rfl, hb2⟩
  have HS2 : Hid (Scr w2 fo lo fl len) := (unhide HS).below hb2
  have HB2 : Hid (Below w.heap.size w w2) := bnx (unhide HB) hb2
  have HG2 : Hid (Laid w2) := Laid.bel (unhide HG) hb2
  have y1 : w2.cell? ⟨w.heap.size, 1, none⟩ = some (.slice lo len cap) := (hb2.cell (cell_lt x1)).trans x1
  clear HS HB HG x0 x1 hb2
  cases q
  rotate_left
  · go_wp2
    go_ret
    exact ⟨rfl, unhide HB2⟩
  go_wp2
  go_loopw [3] (fun i wr => ∃ k : Nat, k ≤ len ∧ k ≤ 40 ∧ i = .int .i64 k ∧ Hid (Below w2.heap.size w2 wr)) (fun i _ => 40 - (intOf i).toNat)
  case atStart => exact ⟨0, Nat.zero_le _, by omega, rfl, Below.refl _ _⟩
  case round =>
    obtain ⟨k, hk, hk4, rfl, HBEL⟩ := hrel
    have z1 : wr.cell? ⟨w.heap.size, 1, none⟩ = some (.slice lo len cap) := ((unhide HBEL).cell (cell_lt y1)).trans y1
    have HGR : Hid (Laid wr) := Laid.bel (unhide HG2) (unhide HBEL)
    by_cases hlt : k < len ∧ k < 40
    · obtain ⟨hlt, hlt4⟩ := hlt
      obtain ⟨lb, loff, rfl, s, HACT⟩ : ∃ lb loff, lo = some ⟨lb, loff, none⟩ ∧ ∃ s, Act wr lb (loff + k * 6) s := by
        rcases (unhide HS2).ls with h0 | ⟨lb, loff, e, hc⟩
        · omega
        · obtain ⟨s, hs⟩ := hc k hlt
          exact ⟨lb, loff, e, s, hs.below (unhide HBEL)⟩
      obtain ⟨cA, hsz, _⟩ := HACT
      have HSZ := hide hsz
      clear hsz
      go_wp2_with fail
      refine (new_nil' _).mono ?_
      rintro e w3 ⟨rfl, hw3⟩
      have HB3 : Hid (Below w2.heap.size w2 w3) := bnx (unhide HBEL) (unhide hw3).2
      have HD3 := hide (unhide hw3).1
      have HG3 : Hid (Laid w3) := Laid.bel (unhide HGR) (unhide hw3).2
      have hd3 : wr.heap.size < w3.heap.size := (Array.getElem?_eq_some_iff.1 (unhide hw3).1).1
      have HS3 : Hid (w2.heap.size ≤ wr.heap.size) := (unhide HBEL).size
      clear hw3 z1 cA HGR
      cases hn : nmB s
      · have HN : Hid (nmB s = false) := hn
        clear hn
        go_wp2_with fail
        refine (new_bad s w3.heap.size _ (unhide HSZ) (unhide HN) (by simp) (by simp)).mono ?_
        rintro e w4 ⟨x, rfl, hE4, hb4⟩
        have hb4' : Below w3.heap.size w3 w4 := bnx ((Below.refl _ _).alloc (Nat.le_refl _) _) hb4
        have HB4 : Hid (Below w2.heap.size w2 w4) := bnx (unhide HB3) hb4'
        have HG4 : Hid (Laid w4) := Laid.bel (unhide HG3) hb4'
        clear hb4 hb4'
        go_wp2_with fail
        refine (num_0 _).mono ?_
        rintro e w' ⟨rfl, hw⟩
        obtain rfl := hw.symm
        clear hw
        go_wp2_with fail
        refine (rname_any s _ (unhide HSZ)).mono ?_
        rintro e w' ⟨rfl, hw⟩
        obtain rfl := hw.symm
        clear hw
        rw [unhide HN]
        go_wp2_with fail
        refine (num_er _ 1 _ _ (unhide HG4) (unhide hE4)).mono ?_
        rintro e w5 ⟨rfl, hb5⟩
        have HB5 : Hid (Below w2.heap.size w2 w5) := bnx (unhide HB4) hb5
        have HG5 : Hid (Laid w5) := Laid.bel (unhide HG4) hb5
        clear hb5 HB4 HG4
        go_wp2_with fail
        refine (append_bad _ s _ _ _ _ (unhide HSZ) (unhide HN)).mono ?_
        rintro e w6 ⟨x6, rfl, hE6, hb6⟩
        have HB6 : Hid (Below w2.heap.size w2 w6) := bnx (unhide HB5) hb6
        have HG6 : Hid (Laid w6) := Laid.bel (unhide HG5) hb6
        clear hb6 HB5 HG5
        go_wp2_with fail
        refine (num_er _ 1 _ _ (unhide HG6) (unhide hE6)).mono ?_
        rintro e w7 ⟨rfl, hb7⟩
        have HB7 : Hid (Below w2.heap.size w2 w7) := bnx (unhide HB6) hb7
        have HG7 : Hid (Laid w7) := Laid.bel (unhide HG6) hb7
        clear hb7 HB6 HG6
        go_wp2_with fail
        refine (sync_bad _ s _ (unhide HSZ) (unhide HN)).mono ?_
        rintro e w8 ⟨x8, rfl, hE8, hb8⟩
        have HB8 : Hid (Below w2.heap.size w2 w8) := bnx (unhide HB7) hb8
        have HG8 : Hid (Laid w8) := Laid.bel (unhide HG7) hb8
        clear hb8 HB7 HG7
        go_wp2_with fail
        refine (num_er _ 1 _ _ (unhide HG8) (unhide hE8)).mono ?_
        rintro e w9 ⟨rfl, hb9⟩
        have HB9 : Hid (Below w2.heap.size w2 w9) := bnx (unhide HB8) hb9
        clear hb9 HB8 HG8
        go_wp2
        go_roundw
        case rel => exact ⟨k + 1, by omega, by omega, by go_num, HB9⟩
        case measure => simp [intOf]; omega
      · have HN : Hid (nmB s = true) := hn
        clear hn
        go_wp2_with fail
        refine (new_one s w3.heap.size _ (unhide HSZ) (unhide HN) (by simp) (by simp)).mono ?_
        rintro e w4 ⟨x, rfl, hb4⟩
        have hb4' : Below w3.heap.size w3 w4 := bnx ((Below.refl _ _).alloc (Nat.le_refl _) _) hb4
        have HB4 : Hid (Below w2.heap.size w2 w4) := bnx (unhide HB3) hb4'
        have HD4 : Hid (w4.heap[wr.heap.size]? = some (dkO (.map none) 0)) := (hb4'.block _ hd3).trans (unhide HD3)
        clear hb4 hb4'
        go_wp2_with fail
        refine (num_0 _).mono ?_
        rintro e w' ⟨rfl, hw⟩
        obtain rfl := hw.symm
        clear hw
        go_wp2_with fail
        refine (rname_any s _ (unhide HSZ)).mono ?_
        rintro e w' ⟨rfl, hw⟩
        obtain rfl := hw.symm
        clear hw
        rw [unhide HN]
        go_wp2_with fail
        refine (num_0 _).mono ?_
        rintro e w' ⟨rfl, hw⟩
        obtain rfl := hw.symm
        clear hw
        go_wp2_with fail
        refine (append_ok wr.heap.size s _ [] 0 w4 (unhide HSZ) (unhide HN) (unhide HD4) (by decide) (by decide) ⟨none, 0, rfl, ⟨by simp, by simp⟩, by intro j; simp, .inl rfl⟩ (by simp)).mono ?_
        rintro e w5 ⟨rfl, hw5⟩
        have hd4 : wr.heap.size < w4.heap.size := (Array.getElem?_eq_some_iff.1 (unhide HD4)).1
        have HB5 : Hid (Below w2.heap.size w2 w5) := (unhide HB4).trans ((unhide hw5).2.below (fun k e => by have := unhide HS3; omega) (unhide HB4).size)
        go_wp2_with fail
        refine (num_0 _).mono ?_
        rintro e w' ⟨rfl, hw⟩
        obtain rfl := hw.symm
        clear hw
        go_wp2_with fail
        have h5 : One w5 w2.heap.size wr.heap.size s [] := by
          obtain ⟨⟨m, fb, c, sv, ev, h1, h2, h3, h4, h5, h6, h7⟩, hr⟩ := (unhide hw5).1
          have := (unhide HB4).size
          exact ⟨⟨m, fb, c, sv, ev, h1, h2, h3, h4, h5, owns_mono h6 this, Nat.le_trans this h7⟩, hr⟩
        have H5 := hide h5
        clear h5
        refine (sync_ok w2.heap.size wr.heap.size s [] w5 (unhide HSZ) (unhide HN) (unhide H5) (by simp) (unhide HS3)).mono ?_
        rintro e w6 ⟨rfl, hw6⟩
        have HB6 : Hid (Below w2.heap.size w2 w6) := (unhide HB5).trans ((unhide hw6).below (fun k e => e) (unhide HB5).size)
        clear hw6 H5 hw5
        go_wp2_with fail
        refine (num_0 _).mono ?_
        rintro e w' ⟨rfl, hw⟩
        obtain rfl := hw.symm
        clear hw
        go_wp2
        go_roundw
        case rel => exact ⟨k + 1, by omega, by omega, by go_num, HB6⟩
        case measure => simp [intOf]; omega
    · have hor : k = len ∨ k = 40 := by omega
      have HE : Hid (Below w.heap.size w wr) := bnx (unhide HB2) (unhide HBEL)
      rcases hor with rfl | rfl
      · go_wp2_with fail
        refine (wakes10 _).mono ?_
        rintro e w3 ⟨rfl, hb3⟩
        go_wp2
        go_ret
        exact ⟨rfl, bnx (unhide HE) hb3⟩
      · by_cases hl : 40 < len
        · go_wp2_with fail
          refine (wakes10 _).mono ?_
          rintro e w3 ⟨rfl, hb3⟩
          go_wp2
          go_ret
          exact ⟨rfl, bnx (unhide HE) hb3⟩
        · obtain rfl : len = 40 := by omega
          go_wp2_with fail
          refine (wakes10 _).mono ?_
          rintro e w3 ⟨rfl, hb3⟩
          go_wp2
          go_ret
          exact ⟨rfl, bnx (unhide HE) hb3⟩
end Go.Proofs.YtondonppakjbgaaDoorRRR.D
