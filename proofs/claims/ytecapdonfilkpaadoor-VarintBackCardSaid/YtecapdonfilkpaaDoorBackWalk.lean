/- Proved here: the statement VarintBack, called in any world whose errors.errorType is as laid, on any slice that reads, tells true and changes nothing that was there. -/
import Derived.Test.YtecapdonfilkpaaDoorWakes
import Derived.Test.YtecapdonfilkpaaDoorBackPlain
import Derived.Test.YtecapdonfilkpaaDoorCopy
namespace Go.Proofs.YtecapdonfilkpaaDoor
open Go.RowKit

theorem range_append (xs ys : List Int) (hx : ∀ j, 0 ≤ xs.getD j 0 ∧ xs.getD j 0 ≤ 255) (hy : ∀ j, 0 ≤ ys.getD j 0 ∧ ys.getD j 0 ≤ 255) : ∀ j, 0 ≤ (xs ++ ys).getD j 0 ∧ (xs ++ ys).getD j 0 ≤ 255 := by
  intro j
  by_cases h : j < xs.length
  · have := hx j
    rw [List.getD_eq_getElem?_getD, List.getElem?_append_left h, ← List.getD_eq_getElem?_getD]
    exact this
  · have := hy (j - xs.length)
    rw [List.getD_eq_getElem?_getD, List.getElem?_append_right (by omega), ← List.getD_eq_getElem?_getD]
    exact this
theorem copy_any (g n : Nat) (xs : List Int) (w : World) (B : Nat) (hl : Hid (n = xs.length)) (hn : n ≤ 140737488355328) (hown : w.ownsRow B 5 1 (.slice (some ⟨g, 0, none⟩) n n) n (xs.map (Value.int .u8))) :
    Calls Tryd.prog 14 #[.slice (some ⟨g, 0, none⟩) n n] w fun e w' => ∃ v, e = .returned v ∧ Hid (w'.ownsRow w.heap.size 5 1 v n (xs.map (Value.int .u8))) ∧ Below w.heap.size w w' := by
  refine copy_core g 0 n n xs w (unhide hl).symm hn (fun j hj => ?_)
  have hj' : j < xs.length := by have := unhide hl; omega
  rw [Nat.zero_add, hown.cellAt j (by omega), List.getElem?_map, List.getElem?_eq_getElem hj', List.getD_eq_getElem?_getD, List.getElem?_eq_getElem hj']
  rfl

theorem below_undrew {B : Nat} {w w' : World} (h : Below B w.drew w') : Below B w w' := ⟨h.os, h.tape, h.output, h.size, h.block⟩
theorem get_put (n : Nat) (x : Int) (l : List Int) (v : Value) (w : World) (hn : Hid (n = (put x).length)) (h0 : 0 ≤ x) (h1 : x ≤ 268435455) (h : Byt w v (put x ++ l)) :
    Calls Tryd.prog 12 #[v] w fun e w' => ∃ E, e = .returned (.tuple #[.int .i64 x, .int .i64 n, E]) ∧ Hid (ErrIs w' E 0) ∧ Below w.heap.size w w' := by
  have hg := get_any v _ w h
  rw [vget_put x h0 h1 l] at hg
  have hs : (n : Int) = sz x := by have := put_length x; have := unhide hn; omega
  rw [hs]
  exact hg
theorem get_short (m : Nat) (x : Int) (v : Value) (w : World) (hm : Hid (m < (put x).length)) (h : Byt w v ((put x).take m)) :
    Calls Tryd.prog 12 #[v] w fun e w' => ∃ E, e = .returned (.tuple #[.int .i64 0, .int .i64 0, E]) ∧ Hid (ErrIs w' E 3) ∧ Below w.heap.size w w' := by
  have hg := get_any v _ w h
  rw [vget_short x m (unhide hm)] at hg
  exact hg

set_option maxRecDepth 100000 in
set_option maxHeartbeats 16000000 in
theorem back_walk (b off len cap : Nat) (ns : Nat → Int) (vs : Nat → Value) (bs : Nat → List Int) (w : World) (hlen : len ≤ maxLen) (hg : Laid w)
    (hc : ∀ k, k < len → w.cell? ⟨b, off + k * 2, none⟩ = some (.int .i64 (ns k)) ∧ w.cell? ⟨b, off + k * 2 + 1, none⟩ = some (vs k) ∧ Byt w (vs k) (bs k) ∧ (bs k).length ≤ 140737488351232) :
    Calls Tryd.prog 5 #[.slice (some ⟨b, off, none⟩) len cap] w fun e w' => e = .returned (.bool true) ∧ Below w.heap.size w w' := by
  unfold maxLen at hlen
  have HC := hide hc
  have HG := hide hg
  clear hc hg
  go_enter Tryd.func5, Tryd.ntmps5
  go_wp2
  go_loopw [3, 4, 5] (fun t s i wr => ∃ (T S : Int) (k : Nat), t = .int .i64 T ∧ s = .int .i64 S ∧ i = .int .i64 k ∧ k ≤ len ∧ k ≤ 40 ∧ Below w.heap.size w wr ∧ Hid ((T = -1 ∧ S = 0) ∨ (0 ≤ T ∧ T ≤ 268435455 ∧ S = sz T))) (fun _ _ i _ => 40 - (intOf i).toNat)
  case atStart => exact ⟨-1, 0, 0, rfl, rfl, rfl, Nat.zero_le _, by omega, Below.refl _ _, .inl ⟨rfl, rfl⟩⟩
  case round =>
    obtain ⟨T, S, k, rfl, rfl, rfl, hk, hk40, hbel, hTS⟩ := hrel
    obtain ⟨wo, hwo⟩ : ∃ wo, wo = wr := ⟨wr, rfl⟩
    subst hwo
    by_cases hlt : k < len ∧ k < 40
    · obtain ⟨hlt, hlt40⟩ := hlt
      obtain ⟨hc0, hc1, hby, hbl⟩ := (unhide HC) k hlt
      have hcr := (hbel.cell (p := ⟨b, off + k * 2, none⟩) (cell_lt hc0)).trans hc0
      have hcs := (hbel.cell (p := ⟨b, off + k * 2 + 1, none⟩) (cell_lt hc1)).trans hc1
      have hblk := cell_lt hc0
      simp at hblk
      have hsz := hbel.size
      have HY : Hid (Byt wo (vs k) (bs k)) := hby.below hbel
      clear hc0 hc1 hby
      generalize ns k = x at hcr
      generalize vs k = v at hcs HY
      generalize bs k = l at HY hbl
      have hgr : Hid (Laid wo) := (unhide HG).below hbel (unhide HG).pos
      have hBel := hide hbel
      clear hbel
      by_cases hbad : x < 0 ∨ 268435455 < x
      · have hb1 : Hid (Below wo.heap.size wo (wo.alloc (.cells #[.string ⟨#[118, 97, 114, 105, 110, 116]⟩, .iface 42 (.int .i64 1)] 49))) := (Below.refl _ _).alloc (Nat.le_refl _) _
        have he : Hid (ErrIs (wo.alloc (.cells #[.string ⟨#[118, 97, 114, 105, 110, 116]⟩, .iface 42 (.int .i64 1)] 49)) (.iface 47 (.pointer (some ⟨wo.heap.size, 0, none⟩))) 1) := .inr ⟨_, rfl, by simp⟩
        have hg1 : Hid (Laid (wo.alloc (.cells #[.string ⟨#[118, 97, 114, 105, 110, 116]⟩, .iface 42 (.int .i64 1)] 49))) := (unhide hgr).below (unhide hb1) (unhide hgr).pos
        have HBad := hide hbad
        clear hbad
        go_wp2_with fail
        refine (put_bad x _ (unhide HBad)).mono ?_
        rintro e w' ⟨rfl, rfl⟩
        go_wp2_with fail
        refine (numl_any _ 1 _ (unhide hg1) (unhide he)).mono ?_
        rintro e wq ⟨rfl, hbq⟩
        have hbrq : Below wo.heap.size wo wq := (unhide hb1).trans (hbq.mono (by simp))
        have hcsq : wq.cell? ⟨b, off + k * 2 + 1, none⟩ = some v := (hbrq.cell (p := ⟨b, off + k * 2 + 1, none⟩) (by simp; omega)).trans hcs
        have HYq : Hid (Byt wq v l) := (unhide HY).below hbrq
        have hgq : Hid (Laid wq) := (unhide hgr).below hbrq (unhide hgr).pos
        have HBq : Hid (Below w.heap.size w wq) := (unhide hBel).trans (hbrq.mono hsz)
        clear hbrq hbq hb1 he hg1 hcs hcr

        have HR := hide (get_any v l wq (unhide HYq))
        have HVK : Hid (∀ n k, vget l = (n, k, 0) → Told l n k) := fun n k h => vget_ok l (unhide HYq).range n k h
        generalize vget l = g at HR HVK
        obtain ⟨n', s', er⟩ := g
        dsimp only at HR
        go_wp2_with fail
        refine (unhide HR).mono ?_
        rintro e w6 ⟨E6, rfl, hE6, hb6⟩
        have hcs6 : w6.cell? ⟨b, off + k * 2 + 1, none⟩ = some v := (hb6.cell (p := ⟨b, off + k * 2 + 1, none⟩) (by have hq := (unhide HBq).size; simp; omega)).trans hcsq
        have HY6 : Hid (Byt w6 v l) := (unhide HYq).below hb6
        have hg6 : Hid (Laid w6) := (unhide hgq).below hb6 (unhide hgq).pos
        have HB6 : Hid (Below w.heap.size w w6) := (unhide HBq).trans (hb6.mono (unhide HBq).size)
        have HE6 := hide hE6
        clear hE6 hb6 HR hcsq
        by_cases her : er = 0
        · subst her
          obtain ⟨hn0, hn1', K, rfl, hK1, hK2, hKp⟩ := (unhide HVK) n' s' rfl
          have HKp := hide hKp
          clear hKp HVK
          obtain ⟨b2, off2, cap2, rfl, hc2, hc2'⟩ := (unhide HY6).form1 (by omega)
          unfold maxLen at hc2'
          go_wp2_with fail
          refine (numl_any _ 0 _ (unhide hg6) (unhide HE6)).mono ?_
          rintro e w7 ⟨rfl, hb7⟩
          have hcs7 : w7.cell? ⟨b, off + k * 2 + 1, none⟩ = some (.slice (some ⟨b2, off2, none⟩) l.length cap2) := (hb7.cell (p := ⟨b, off + k * 2 + 1, none⟩) (by have hq := (unhide HB6).size; simp; omega)).trans hcs6
          have HY7 : Hid (Byt w7 (.slice (some ⟨b2, off2, none⟩) l.length cap2) l) := (unhide HY6).below hb7
          have HB7 : Hid (Below w.heap.size w w7) := (unhide HB6).trans (hb7.mono (unhide HB6).size)
          clear hb7 hcs6
          go_wp2_with fail
          refine (put_use n' _ hn0 hn1').mono ?_
          rintro e w8 ⟨n8, hn8, rfl, hown8, hb8⟩
          have hcs8 : w8.cell? ⟨b, off + k * 2 + 1, none⟩ = some (.slice (some ⟨b2, off2, none⟩) l.length cap2) := (hb8.cell (p := ⟨b, off + k * 2 + 1, none⟩) (by have hq := (unhide HB7).size; simp; omega)).trans hcs7
          have HY8 : Hid (Byt w8 (.slice (some ⟨b2, off2, none⟩) K cap2) (l.take K)) := ((unhide HY7).below hb8).take K hK2
          have HYb : Hid (Byt w8 (.slice (some ⟨w7.heap.size, 0, none⟩) n8 n8) (put n')) := byt_of_owns (unhide hown8) (put_range n' hn0 hn1')
          have HB8 : Hid (Below w.heap.size w w8) := (unhide HB7).trans (hb8.mono (unhide HB7).size)
          clear hb8 hcs7
          go_wp2_with fail
          refine (numl_nil _).mono ?_
          rintro e w' ⟨rfl, hw8⟩
          obtain rfl := hw8.symm
          go_wp2_with fail
          refine (eq_any _ _ (put n') (l.take K) _ (unhide HYb) (unhide HY8)).mono ?_
          rintro e w' ⟨rfl, q, rfl⟩
          have hdq : decide (put n' = l.take K) = true := decide_eq_true (unhide HKp)
          go_wp2
          go_roundw
          case rel => exact ⟨T, S, k + 1, rfl, rfl, by go_num, by omega, by omega, below_drewN (unhide HB8) q, hTS⟩
          case measure => simp [intOf]; omega
        · have her' : ((er : Int) == 0) = false := beq_eq_false_iff_ne.2 her
          clear HVK
          go_wp2_with fail
          refine (numl_any _ er _ (unhide hg6) (unhide HE6)).mono ?_
          rintro e w7 ⟨rfl, hb7⟩
          have HB7 : Hid (Below w.heap.size w w7) := (unhide HB6).trans (hb7.mono (unhide HB6).size)
          clear hb7 hcs6
          go_wp2
          go_roundw
          case rel => exact ⟨T, S, k + 1, rfl, rfl, by go_num, by omega, by omega, unhide HB7, hTS⟩
          case measure => simp [intOf]; omega
      · have h0 : 0 ≤ x := by omega
        have h1 : x ≤ 268435455 := by omega
        clear hbad
        go_wp2_with fail
        refine (put_use x _ h0 h1).mono ?_
        rintro e w1 ⟨n, hn, rfl, hown, hb1⟩
        have hcr1 : w1.cell? ⟨b, off + k * 2, none⟩ = some (.int .i64 x) := (hb1.cell (p := ⟨b, off + k * 2, none⟩) (by simp; omega)).trans hcr
        have hcs1 : w1.cell? ⟨b, off + k * 2 + 1, none⟩ = some v := (hb1.cell (p := ⟨b, off + k * 2 + 1, none⟩) (by simp; omega)).trans hcs
        have HY1 : Hid (Byt w1 v l) := (unhide HY).below hb1
        have hg1 : Hid (Laid w1) := (unhide hgr).below hb1 (unhide hgr).pos
        have hs1 := hb1.size
        have hns : Hid ((n : Int) = sz x) := by have h2 := put_length x; have h3 := unhide hn; show (n : Int) = sz x; omega
        have hn4 : n ≤ 4 := by have := put_len x; have := unhide hn; omega
        have hn1 : 1 ≤ n := by have := put_len x; have := unhide hn; omega
        have HB1 : Hid (Below w.heap.size w w1) := (unhide hBel).trans (hb1.mono hsz)
        have hsw : w.heap.size ≤ w1.heap.size := by omega
        clear hb1 hcr hcs HY hgr
        have hk0' : (0 : Int) ≤ (k : Int) := Int.natCast_nonneg _
        have hk1' : (k : Int) < (len : Int) := by omega
        go_wp2_with fail
        refine (numl_nil _).mono ?_
        rintro e w' ⟨rfl, hw⟩
        obtain rfl := hw.symm
        clear hw
        go_wp2_with fail
        go_region_held3 (fun w' => w'.cell? ⟨b, off + k * 2 + 1, none⟩ = some v)
          (first | exact hcs1 | exact hcs2 | exact hcs3 | exact hcs4)
          (first
            | (go_at_call 14; refine (copy_any _ _ (put x) _ wo.heap.size hn (by omega) (by exact unhide hown)).mono ?_; rintro e w2 ⟨v2, rfl, hown2, hb2⟩; have hcs2 : w2.cell? ⟨b, off + k * 2 + 1, none⟩ = some v := (hb2.cell (p := ⟨b, off + k * 2 + 1, none⟩) (by simp; omega)).trans hcs1; have HY2 : Hid (Byt w2 v l) := Byt.below (by exact unhide HY1) hb2; have HB2 : Hid (Below w1.heap.size w1 w2) := below_undrew hb2; have hs2 : w1.heap.size ≤ w2.heap.size := hb2.size; have hne : some b ≠ v2.ownBlock := fun e => by (have hq := ((unhide hown2).lt b e.symm).1; simp at hq; omega))
            | (refine step_append_byt (by rfl) _ _ (by rfl) w1.heap.size v2 n (put x) (by rfl) (by exact unhide hown2) v l (by rfl) (by exact unhide HY2) (by omega) (by exact hs2) ?_; intro v3 w3 hown3 hgrow3; have hcs3 : w3.cell? ⟨b, off + k * 2 + 1, none⟩ = some v := hgrow3.cell hcs2 hne; have HO3 := hide hown3; have HB3 : Hid (Below w1.heap.size w1 w3) := (unhide HB2).grown hgrow3 hs2 (fun k hk => ((unhide hown2).lt k hk).1); clear hown3 hgrow3)
            | (go_at_call 12; refine (get_put n x l v3 _ hn h0 h1 (byt_of_owns (by exact unhide HO3) (range_append _ _ (put_range x h0 h1) (unhide HY1).range))).mono ?_; rintro e w4 ⟨E, rfl, HE4, hb4⟩; have hcs4 : w4.cell? ⟨b, off + k * 2 + 1, none⟩ = some v := (hb4.cell (p := ⟨b, off + k * 2 + 1, none⟩) (by have hq := (unhide HB3).size; simp; omega)).trans hcs3; have HB4 : Hid (Below w1.heap.size w1 w4) := (unhide HB3).trans (hb4.mono (unhide HB3).size); clear hb4))
        have hg4 : Hid (Laid w4) := (unhide hg1).below (unhide HB4) (by have := (unhide hg1).pos; omega)
        clear hcs4 hcs3 hcs2 HY2 HB2 HB3 HO3 hown2 hb2 hne hs2
        go_wp2_with fail
        refine (numl_any _ 0 _ (unhide hg4) (unhide HE4)).mono ?_
        rintro e w5 ⟨rfl, hb5⟩
        have HB5 : Hid (Below w1.heap.size w1 w5) := (unhide HB4).trans (hb5.mono (unhide HB4).size)
        have hcr5 : w5.cell? ⟨b, off + k * 2, none⟩ = some (.int .i64 x) := ((unhide HB5).cell (p := ⟨b, off + k * 2, none⟩) (by simp; omega)).trans hcr1
        clear hb5 HE4 HB4 hg4
        have hmono : Hid ((T = -1 ∧ S = 0) ∨ (0 ≤ T ∧ x = T ∧ (n : Int) = S) ∨ (0 ≤ T ∧ T < x ∧ S ≤ (n : Int)) ∨ (0 ≤ T ∧ x < T ∧ (n : Int) ≤ S)) := by
          show _ ∨ _
          have h2 := unhide hns
          rcases (unhide hTS) with h | ⟨h3, _, h5⟩
          · exact .inl h
          · rcases Int.lt_trichotomy T x with h6 | h6 | h6
            · exact .inr (.inr (.inl ⟨h3, h6, by rw [h5, h2]; exact sz_mono _ _ (by omega)⟩))
            · exact .inr (.inl ⟨h3, h6.symm, by rw [h5, h2, h6]⟩)
            · exact .inr (.inr (.inr ⟨h3, h6, by rw [h5, h2]; exact sz_mono _ _ (by omega)⟩))
        clear hTS
        rcases (unhide hmono) with ⟨rfl, rfl⟩ | ⟨hT0, rfl, rfl⟩ | ⟨hT0, hTx, hSn⟩ | ⟨hT0, hTx, hSn⟩
        · clear hmono
          go_wp2
          go_loopw [11] (fun j wr => ∃ m : Nat, m ≤ n ∧ j = .int .i64 m ∧ Below w1.heap.size w1 wr) (fun j _ => n - (intOf j).toNat)
          case atStart => exact ⟨0, Nat.zero_le _, rfl, unhide HB5⟩
          case round =>
            obtain ⟨m, hmn, rfl, hbz⟩ := hrel
            by_cases hm : m < n
            · have HYz : Hid (Byt wr (.slice (some ⟨wo.heap.size, 0, none⟩) m n) ((put x).take m)) := ((byt_of_owns (unhide hown) (put_range x h0 h1)).below hbz).take m hmn
              have hgz : Hid (Laid wr) := (unhide hg1).below hbz (unhide hg1).pos
              have hm' : Hid (m < (put x).length) := by have := unhide hn; show m < _; omega
              have HBz := hide hbz
              have hsz1 := hbz.size
              clear hbz
              go_wp2_with fail
              refine (get_short m x _ _ hm' (unhide HYz)).mono ?_
              rintro e wy ⟨Ey, rfl, HEy, hby⟩
              have hgy : Hid (Laid wy) := (unhide hgz).below hby (unhide hgz).pos
              have HBy : Hid (Below w1.heap.size w1 wy) := (unhide HBz).trans (hby.mono hsz1)
              have hsy := (unhide HBy).size
              clear hby
              go_wp2_with fail
              refine (numl_any _ 3 _ (unhide hgy) (unhide HEy)).mono ?_
              rintro e wx ⟨rfl, hbx⟩
              have HBx : Hid (Below w1.heap.size w1 wx) := (unhide HBy).trans (hbx.mono hsy)
              clear hbx
              go_wp2
              go_roundw
              case rel => exact ⟨m + 1, by omega, by go_num, unhide HBx⟩
              case measure => simp [intOf]; omega
            · have hcsq : wr.cell? ⟨b, off + k * 2 + 1, none⟩ = some v := (hbz.cell (p := ⟨b, off + k * 2 + 1, none⟩) (by simp; omega)).trans hcs1
              have HYq : Hid (Byt wr v l) := (unhide HY1).below hbz
              have hgq : Hid (Laid wr) := (unhide hg1).below hbz (unhide hg1).pos
              have HBq : Hid (Below w.heap.size w wr) := (unhide HB1).trans (hbz.mono hsw)
              clear hbz
              have HR := hide (get_any v l wr (unhide HYq))
              have HVK : Hid (∀ n k, vget l = (n, k, 0) → Told l n k) := fun n k h => vget_ok l (unhide HYq).range n k h
              generalize vget l = g at HR HVK
              obtain ⟨n', s', er⟩ := g
              dsimp only at HR
              go_wp2_with fail
              refine (unhide HR).mono ?_
              rintro e w6 ⟨E6, rfl, hE6, hb6⟩
              have hcs6 : w6.cell? ⟨b, off + k * 2 + 1, none⟩ = some v := (hb6.cell (p := ⟨b, off + k * 2 + 1, none⟩) (by have hq := (unhide HBq).size; simp; omega)).trans hcsq
              have HY6 : Hid (Byt w6 v l) := (unhide HYq).below hb6
              have hg6 : Hid (Laid w6) := (unhide hgq).below hb6 (unhide hgq).pos
              have HB6 : Hid (Below w.heap.size w w6) := (unhide HBq).trans (hb6.mono (unhide HBq).size)
              have HE6 := hide hE6
              clear hE6 hb6 HR hcsq
              by_cases her : er = 0
              · subst her
                obtain ⟨hn0, hn1', K, rfl, hK1, hK2, hKp⟩ := (unhide HVK) n' s' rfl
                have HKp := hide hKp
                clear hKp HVK
                obtain ⟨b2, off2, cap2, rfl, hc2, hc2'⟩ := (unhide HY6).form1 (by omega)
                unfold maxLen at hc2'
                go_wp2_with fail
                refine (numl_any _ 0 _ (unhide hg6) (unhide HE6)).mono ?_
                rintro e w7 ⟨rfl, hb7⟩
                have hcs7 : w7.cell? ⟨b, off + k * 2 + 1, none⟩ = some (.slice (some ⟨b2, off2, none⟩) l.length cap2) := (hb7.cell (p := ⟨b, off + k * 2 + 1, none⟩) (by have hq := (unhide HB6).size; simp; omega)).trans hcs6
                have HY7 : Hid (Byt w7 (.slice (some ⟨b2, off2, none⟩) l.length cap2) l) := (unhide HY6).below hb7
                have HB7 : Hid (Below w.heap.size w w7) := (unhide HB6).trans (hb7.mono (unhide HB6).size)
                clear hb7 hcs6
                go_wp2_with fail
                refine (put_use n' _ hn0 hn1').mono ?_
                rintro e w8 ⟨n8, hn8, rfl, hown8, hb8⟩
                have hcs8 : w8.cell? ⟨b, off + k * 2 + 1, none⟩ = some (.slice (some ⟨b2, off2, none⟩) l.length cap2) := (hb8.cell (p := ⟨b, off + k * 2 + 1, none⟩) (by have hq := (unhide HB7).size; simp; omega)).trans hcs7
                have HY8 : Hid (Byt w8 (.slice (some ⟨b2, off2, none⟩) K cap2) (l.take K)) := ((unhide HY7).below hb8).take K hK2
                have HYb : Hid (Byt w8 (.slice (some ⟨w7.heap.size, 0, none⟩) n8 n8) (put n')) := byt_of_owns (unhide hown8) (put_range n' hn0 hn1')
                have HB8 : Hid (Below w.heap.size w w8) := (unhide HB7).trans (hb8.mono (unhide HB7).size)
                clear hb8 hcs7
                go_wp2_with fail
                refine (numl_nil _).mono ?_
                rintro e w' ⟨rfl, hw8⟩
                obtain rfl := hw8.symm
                go_wp2_with fail
                refine (eq_any _ _ (put n') (l.take K) _ (unhide HYb) (unhide HY8)).mono ?_
                rintro e w' ⟨rfl, q, rfl⟩
                have hdq : decide (put n' = l.take K) = true := decide_eq_true (unhide HKp)
                go_wp2
                go_roundw
                case rel => exact ⟨x, n, k + 1, rfl, rfl, by go_num, by omega, by omega, below_drewN (unhide HB8) q, .inr ⟨h0, h1, unhide hns⟩⟩
                case measure => simp [intOf]; omega
              · have her' : ((er : Int) == 0) = false := beq_eq_false_iff_ne.2 her
                clear HVK
                go_wp2_with fail
                refine (numl_any _ er _ (unhide hg6) (unhide HE6)).mono ?_
                rintro e w7 ⟨rfl, hb7⟩
                have HB7 : Hid (Below w.heap.size w w7) := (unhide HB6).trans (hb7.mono (unhide HB6).size)
                clear hb7 hcs6
                go_wp2
                go_roundw
                case rel => exact ⟨x, n, k + 1, rfl, rfl, by go_num, by omega, by omega, unhide HB7, .inr ⟨h0, h1, unhide hns⟩⟩
                case measure => simp [intOf]; omega
        · clear hmono
          go_wp2
          go_loopw [11] (fun j wr => ∃ m : Nat, m ≤ n ∧ j = .int .i64 m ∧ Below w1.heap.size w1 wr) (fun j _ => n - (intOf j).toNat)
          case atStart => exact ⟨0, Nat.zero_le _, rfl, unhide HB5⟩
          case round =>
            obtain ⟨m, hmn, rfl, hbz⟩ := hrel
            by_cases hm : m < n
            · have HYz : Hid (Byt wr (.slice (some ⟨wo.heap.size, 0, none⟩) m n) ((put x).take m)) := ((byt_of_owns (unhide hown) (put_range x h0 h1)).below hbz).take m hmn
              have hgz : Hid (Laid wr) := (unhide hg1).below hbz (unhide hg1).pos
              have hm' : Hid (m < (put x).length) := by have := unhide hn; show m < _; omega
              have HBz := hide hbz
              have hsz1 := hbz.size
              clear hbz
              go_wp2_with fail
              refine (get_short m x _ _ hm' (unhide HYz)).mono ?_
              rintro e wy ⟨Ey, rfl, HEy, hby⟩
              have hgy : Hid (Laid wy) := (unhide hgz).below hby (unhide hgz).pos
              have HBy : Hid (Below w1.heap.size w1 wy) := (unhide HBz).trans (hby.mono hsz1)
              have hsy := (unhide HBy).size
              clear hby
              go_wp2_with fail
              refine (numl_any _ 3 _ (unhide hgy) (unhide HEy)).mono ?_
              rintro e wx ⟨rfl, hbx⟩
              have HBx : Hid (Below w1.heap.size w1 wx) := (unhide HBy).trans (hbx.mono hsy)
              clear hbx
              go_wp2
              go_roundw
              case rel => exact ⟨m + 1, by omega, by go_num, unhide HBx⟩
              case measure => simp [intOf]; omega
            · have hcsq : wr.cell? ⟨b, off + k * 2 + 1, none⟩ = some v := (hbz.cell (p := ⟨b, off + k * 2 + 1, none⟩) (by simp; omega)).trans hcs1
              have HYq : Hid (Byt wr v l) := (unhide HY1).below hbz
              have hgq : Hid (Laid wr) := (unhide hg1).below hbz (unhide hg1).pos
              have HBq : Hid (Below w.heap.size w wr) := (unhide HB1).trans (hbz.mono hsw)
              clear hbz
              have HR := hide (get_any v l wr (unhide HYq))
              have HVK : Hid (∀ n k, vget l = (n, k, 0) → Told l n k) := fun n k h => vget_ok l (unhide HYq).range n k h
              generalize vget l = g at HR HVK
              obtain ⟨n', s', er⟩ := g
              dsimp only at HR
              go_wp2_with fail
              refine (unhide HR).mono ?_
              rintro e w6 ⟨E6, rfl, hE6, hb6⟩
              have hcs6 : w6.cell? ⟨b, off + k * 2 + 1, none⟩ = some v := (hb6.cell (p := ⟨b, off + k * 2 + 1, none⟩) (by have hq := (unhide HBq).size; simp; omega)).trans hcsq
              have HY6 : Hid (Byt w6 v l) := (unhide HYq).below hb6
              have hg6 : Hid (Laid w6) := (unhide hgq).below hb6 (unhide hgq).pos
              have HB6 : Hid (Below w.heap.size w w6) := (unhide HBq).trans (hb6.mono (unhide HBq).size)
              have HE6 := hide hE6
              clear hE6 hb6 HR hcsq
              by_cases her : er = 0
              · subst her
                obtain ⟨hn0, hn1', K, rfl, hK1, hK2, hKp⟩ := (unhide HVK) n' s' rfl
                have HKp := hide hKp
                clear hKp HVK
                obtain ⟨b2, off2, cap2, rfl, hc2, hc2'⟩ := (unhide HY6).form1 (by omega)
                unfold maxLen at hc2'
                go_wp2_with fail
                refine (numl_any _ 0 _ (unhide hg6) (unhide HE6)).mono ?_
                rintro e w7 ⟨rfl, hb7⟩
                have hcs7 : w7.cell? ⟨b, off + k * 2 + 1, none⟩ = some (.slice (some ⟨b2, off2, none⟩) l.length cap2) := (hb7.cell (p := ⟨b, off + k * 2 + 1, none⟩) (by have hq := (unhide HB6).size; simp; omega)).trans hcs6
                have HY7 : Hid (Byt w7 (.slice (some ⟨b2, off2, none⟩) l.length cap2) l) := (unhide HY6).below hb7
                have HB7 : Hid (Below w.heap.size w w7) := (unhide HB6).trans (hb7.mono (unhide HB6).size)
                clear hb7 hcs6
                go_wp2_with fail
                refine (put_use n' _ hn0 hn1').mono ?_
                rintro e w8 ⟨n8, hn8, rfl, hown8, hb8⟩
                have hcs8 : w8.cell? ⟨b, off + k * 2 + 1, none⟩ = some (.slice (some ⟨b2, off2, none⟩) l.length cap2) := (hb8.cell (p := ⟨b, off + k * 2 + 1, none⟩) (by have hq := (unhide HB7).size; simp; omega)).trans hcs7
                have HY8 : Hid (Byt w8 (.slice (some ⟨b2, off2, none⟩) K cap2) (l.take K)) := ((unhide HY7).below hb8).take K hK2
                have HYb : Hid (Byt w8 (.slice (some ⟨w7.heap.size, 0, none⟩) n8 n8) (put n')) := byt_of_owns (unhide hown8) (put_range n' hn0 hn1')
                have HB8 : Hid (Below w.heap.size w w8) := (unhide HB7).trans (hb8.mono (unhide HB7).size)
                clear hb8 hcs7
                go_wp2_with fail
                refine (numl_nil _).mono ?_
                rintro e w' ⟨rfl, hw8⟩
                obtain rfl := hw8.symm
                go_wp2_with fail
                refine (eq_any _ _ (put n') (l.take K) _ (unhide HYb) (unhide HY8)).mono ?_
                rintro e w' ⟨rfl, q, rfl⟩
                have hdq : decide (put n' = l.take K) = true := decide_eq_true (unhide HKp)
                go_wp2
                go_roundw
                case rel => exact ⟨x, n, k + 1, rfl, rfl, by go_num, by omega, by omega, below_drewN (unhide HB8) q, .inr ⟨h0, h1, unhide hns⟩⟩
                case measure => simp [intOf]; omega
              · have her' : ((er : Int) == 0) = false := beq_eq_false_iff_ne.2 her
                clear HVK
                go_wp2_with fail
                refine (numl_any _ er _ (unhide hg6) (unhide HE6)).mono ?_
                rintro e w7 ⟨rfl, hb7⟩
                have HB7 : Hid (Below w.heap.size w w7) := (unhide HB6).trans (hb7.mono (unhide HB6).size)
                clear hb7 hcs6
                go_wp2
                go_roundw
                case rel => exact ⟨x, n, k + 1, rfl, rfl, by go_num, by omega, by omega, unhide HB7, .inr ⟨h0, h1, unhide hns⟩⟩
                case measure => simp [intOf]; omega
        · clear hmono
          go_wp2
          go_loopw [11] (fun j wr => ∃ m : Nat, m ≤ n ∧ j = .int .i64 m ∧ Below w1.heap.size w1 wr) (fun j _ => n - (intOf j).toNat)
          case atStart => exact ⟨0, Nat.zero_le _, rfl, unhide HB5⟩
          case round =>
            obtain ⟨m, hmn, rfl, hbz⟩ := hrel
            by_cases hm : m < n
            · have HYz : Hid (Byt wr (.slice (some ⟨wo.heap.size, 0, none⟩) m n) ((put x).take m)) := ((byt_of_owns (unhide hown) (put_range x h0 h1)).below hbz).take m hmn
              have hgz : Hid (Laid wr) := (unhide hg1).below hbz (unhide hg1).pos
              have hm' : Hid (m < (put x).length) := by have := unhide hn; show m < _; omega
              have HBz := hide hbz
              have hsz1 := hbz.size
              clear hbz
              go_wp2_with fail
              refine (get_short m x _ _ hm' (unhide HYz)).mono ?_
              rintro e wy ⟨Ey, rfl, HEy, hby⟩
              have hgy : Hid (Laid wy) := (unhide hgz).below hby (unhide hgz).pos
              have HBy : Hid (Below w1.heap.size w1 wy) := (unhide HBz).trans (hby.mono hsz1)
              have hsy := (unhide HBy).size
              clear hby
              go_wp2_with fail
              refine (numl_any _ 3 _ (unhide hgy) (unhide HEy)).mono ?_
              rintro e wx ⟨rfl, hbx⟩
              have HBx : Hid (Below w1.heap.size w1 wx) := (unhide HBy).trans (hbx.mono hsy)
              clear hbx
              go_wp2
              go_roundw
              case rel => exact ⟨m + 1, by omega, by go_num, unhide HBx⟩
              case measure => simp [intOf]; omega
            · have hcsq : wr.cell? ⟨b, off + k * 2 + 1, none⟩ = some v := (hbz.cell (p := ⟨b, off + k * 2 + 1, none⟩) (by simp; omega)).trans hcs1
              have HYq : Hid (Byt wr v l) := (unhide HY1).below hbz
              have hgq : Hid (Laid wr) := (unhide hg1).below hbz (unhide hg1).pos
              have HBq : Hid (Below w.heap.size w wr) := (unhide HB1).trans (hbz.mono hsw)
              clear hbz
              have HR := hide (get_any v l wr (unhide HYq))
              have HVK : Hid (∀ n k, vget l = (n, k, 0) → Told l n k) := fun n k h => vget_ok l (unhide HYq).range n k h
              generalize vget l = g at HR HVK
              obtain ⟨n', s', er⟩ := g
              dsimp only at HR
              go_wp2_with fail
              refine (unhide HR).mono ?_
              rintro e w6 ⟨E6, rfl, hE6, hb6⟩
              have hcs6 : w6.cell? ⟨b, off + k * 2 + 1, none⟩ = some v := (hb6.cell (p := ⟨b, off + k * 2 + 1, none⟩) (by have hq := (unhide HBq).size; simp; omega)).trans hcsq
              have HY6 : Hid (Byt w6 v l) := (unhide HYq).below hb6
              have hg6 : Hid (Laid w6) := (unhide hgq).below hb6 (unhide hgq).pos
              have HB6 : Hid (Below w.heap.size w w6) := (unhide HBq).trans (hb6.mono (unhide HBq).size)
              have HE6 := hide hE6
              clear hE6 hb6 HR hcsq
              by_cases her : er = 0
              · subst her
                obtain ⟨hn0, hn1', K, rfl, hK1, hK2, hKp⟩ := (unhide HVK) n' s' rfl
                have HKp := hide hKp
                clear hKp HVK
                obtain ⟨b2, off2, cap2, rfl, hc2, hc2'⟩ := (unhide HY6).form1 (by omega)
                unfold maxLen at hc2'
                go_wp2_with fail
                refine (numl_any _ 0 _ (unhide hg6) (unhide HE6)).mono ?_
                rintro e w7 ⟨rfl, hb7⟩
                have hcs7 : w7.cell? ⟨b, off + k * 2 + 1, none⟩ = some (.slice (some ⟨b2, off2, none⟩) l.length cap2) := (hb7.cell (p := ⟨b, off + k * 2 + 1, none⟩) (by have hq := (unhide HB6).size; simp; omega)).trans hcs6
                have HY7 : Hid (Byt w7 (.slice (some ⟨b2, off2, none⟩) l.length cap2) l) := (unhide HY6).below hb7
                have HB7 : Hid (Below w.heap.size w w7) := (unhide HB6).trans (hb7.mono (unhide HB6).size)
                clear hb7 hcs6
                go_wp2_with fail
                refine (put_use n' _ hn0 hn1').mono ?_
                rintro e w8 ⟨n8, hn8, rfl, hown8, hb8⟩
                have hcs8 : w8.cell? ⟨b, off + k * 2 + 1, none⟩ = some (.slice (some ⟨b2, off2, none⟩) l.length cap2) := (hb8.cell (p := ⟨b, off + k * 2 + 1, none⟩) (by have hq := (unhide HB7).size; simp; omega)).trans hcs7
                have HY8 : Hid (Byt w8 (.slice (some ⟨b2, off2, none⟩) K cap2) (l.take K)) := ((unhide HY7).below hb8).take K hK2
                have HYb : Hid (Byt w8 (.slice (some ⟨w7.heap.size, 0, none⟩) n8 n8) (put n')) := byt_of_owns (unhide hown8) (put_range n' hn0 hn1')
                have HB8 : Hid (Below w.heap.size w w8) := (unhide HB7).trans (hb8.mono (unhide HB7).size)
                clear hb8 hcs7
                go_wp2_with fail
                refine (numl_nil _).mono ?_
                rintro e w' ⟨rfl, hw8⟩
                obtain rfl := hw8.symm
                go_wp2_with fail
                refine (eq_any _ _ (put n') (l.take K) _ (unhide HYb) (unhide HY8)).mono ?_
                rintro e w' ⟨rfl, q, rfl⟩
                have hdq : decide (put n' = l.take K) = true := decide_eq_true (unhide HKp)
                go_wp2
                go_roundw
                case rel => exact ⟨x, n, k + 1, rfl, rfl, by go_num, by omega, by omega, below_drewN (unhide HB8) q, .inr ⟨h0, h1, unhide hns⟩⟩
                case measure => simp [intOf]; omega
              · have her' : ((er : Int) == 0) = false := beq_eq_false_iff_ne.2 her
                clear HVK
                go_wp2_with fail
                refine (numl_any _ er _ (unhide hg6) (unhide HE6)).mono ?_
                rintro e w7 ⟨rfl, hb7⟩
                have HB7 : Hid (Below w.heap.size w w7) := (unhide HB6).trans (hb7.mono (unhide HB6).size)
                clear hb7 hcs6
                go_wp2
                go_roundw
                case rel => exact ⟨x, n, k + 1, rfl, rfl, by go_num, by omega, by omega, unhide HB7, .inr ⟨h0, h1, unhide hns⟩⟩
                case measure => simp [intOf]; omega
        · clear hmono
          go_wp2
          go_loopw [11] (fun j wr => ∃ m : Nat, m ≤ n ∧ j = .int .i64 m ∧ Below w1.heap.size w1 wr) (fun j _ => n - (intOf j).toNat)
          case atStart => exact ⟨0, Nat.zero_le _, rfl, unhide HB5⟩
          case round =>
            obtain ⟨m, hmn, rfl, hbz⟩ := hrel
            by_cases hm : m < n
            · have HYz : Hid (Byt wr (.slice (some ⟨wo.heap.size, 0, none⟩) m n) ((put x).take m)) := ((byt_of_owns (unhide hown) (put_range x h0 h1)).below hbz).take m hmn
              have hgz : Hid (Laid wr) := (unhide hg1).below hbz (unhide hg1).pos
              have hm' : Hid (m < (put x).length) := by have := unhide hn; show m < _; omega
              have HBz := hide hbz
              have hsz1 := hbz.size
              clear hbz
              go_wp2_with fail
              refine (get_short m x _ _ hm' (unhide HYz)).mono ?_
              rintro e wy ⟨Ey, rfl, HEy, hby⟩
              have hgy : Hid (Laid wy) := (unhide hgz).below hby (unhide hgz).pos
              have HBy : Hid (Below w1.heap.size w1 wy) := (unhide HBz).trans (hby.mono hsz1)
              have hsy := (unhide HBy).size
              clear hby
              go_wp2_with fail
              refine (numl_any _ 3 _ (unhide hgy) (unhide HEy)).mono ?_
              rintro e wx ⟨rfl, hbx⟩
              have HBx : Hid (Below w1.heap.size w1 wx) := (unhide HBy).trans (hbx.mono hsy)
              clear hbx
              go_wp2
              go_roundw
              case rel => exact ⟨m + 1, by omega, by go_num, unhide HBx⟩
              case measure => simp [intOf]; omega
            · have hcsq : wr.cell? ⟨b, off + k * 2 + 1, none⟩ = some v := (hbz.cell (p := ⟨b, off + k * 2 + 1, none⟩) (by simp; omega)).trans hcs1
              have HYq : Hid (Byt wr v l) := (unhide HY1).below hbz
              have hgq : Hid (Laid wr) := (unhide hg1).below hbz (unhide hg1).pos
              have HBq : Hid (Below w.heap.size w wr) := (unhide HB1).trans (hbz.mono hsw)
              clear hbz
              have HR := hide (get_any v l wr (unhide HYq))
              have HVK : Hid (∀ n k, vget l = (n, k, 0) → Told l n k) := fun n k h => vget_ok l (unhide HYq).range n k h
              generalize vget l = g at HR HVK
              obtain ⟨n', s', er⟩ := g
              dsimp only at HR
              go_wp2_with fail
              refine (unhide HR).mono ?_
              rintro e w6 ⟨E6, rfl, hE6, hb6⟩
              have hcs6 : w6.cell? ⟨b, off + k * 2 + 1, none⟩ = some v := (hb6.cell (p := ⟨b, off + k * 2 + 1, none⟩) (by have hq := (unhide HBq).size; simp; omega)).trans hcsq
              have HY6 : Hid (Byt w6 v l) := (unhide HYq).below hb6
              have hg6 : Hid (Laid w6) := (unhide hgq).below hb6 (unhide hgq).pos
              have HB6 : Hid (Below w.heap.size w w6) := (unhide HBq).trans (hb6.mono (unhide HBq).size)
              have HE6 := hide hE6
              clear hE6 hb6 HR hcsq
              by_cases her : er = 0
              · subst her
                obtain ⟨hn0, hn1', K, rfl, hK1, hK2, hKp⟩ := (unhide HVK) n' s' rfl
                have HKp := hide hKp
                clear hKp HVK
                obtain ⟨b2, off2, cap2, rfl, hc2, hc2'⟩ := (unhide HY6).form1 (by omega)
                unfold maxLen at hc2'
                go_wp2_with fail
                refine (numl_any _ 0 _ (unhide hg6) (unhide HE6)).mono ?_
                rintro e w7 ⟨rfl, hb7⟩
                have hcs7 : w7.cell? ⟨b, off + k * 2 + 1, none⟩ = some (.slice (some ⟨b2, off2, none⟩) l.length cap2) := (hb7.cell (p := ⟨b, off + k * 2 + 1, none⟩) (by have hq := (unhide HB6).size; simp; omega)).trans hcs6
                have HY7 : Hid (Byt w7 (.slice (some ⟨b2, off2, none⟩) l.length cap2) l) := (unhide HY6).below hb7
                have HB7 : Hid (Below w.heap.size w w7) := (unhide HB6).trans (hb7.mono (unhide HB6).size)
                clear hb7 hcs6
                go_wp2_with fail
                refine (put_use n' _ hn0 hn1').mono ?_
                rintro e w8 ⟨n8, hn8, rfl, hown8, hb8⟩
                have hcs8 : w8.cell? ⟨b, off + k * 2 + 1, none⟩ = some (.slice (some ⟨b2, off2, none⟩) l.length cap2) := (hb8.cell (p := ⟨b, off + k * 2 + 1, none⟩) (by have hq := (unhide HB7).size; simp; omega)).trans hcs7
                have HY8 : Hid (Byt w8 (.slice (some ⟨b2, off2, none⟩) K cap2) (l.take K)) := ((unhide HY7).below hb8).take K hK2
                have HYb : Hid (Byt w8 (.slice (some ⟨w7.heap.size, 0, none⟩) n8 n8) (put n')) := byt_of_owns (unhide hown8) (put_range n' hn0 hn1')
                have HB8 : Hid (Below w.heap.size w w8) := (unhide HB7).trans (hb8.mono (unhide HB7).size)
                clear hb8 hcs7
                go_wp2_with fail
                refine (numl_nil _).mono ?_
                rintro e w' ⟨rfl, hw8⟩
                obtain rfl := hw8.symm
                go_wp2_with fail
                refine (eq_any _ _ (put n') (l.take K) _ (unhide HYb) (unhide HY8)).mono ?_
                rintro e w' ⟨rfl, q, rfl⟩
                have hdq : decide (put n' = l.take K) = true := decide_eq_true (unhide HKp)
                go_wp2
                go_roundw
                case rel => exact ⟨x, n, k + 1, rfl, rfl, by go_num, by omega, by omega, below_drewN (unhide HB8) q, .inr ⟨h0, h1, unhide hns⟩⟩
                case measure => simp [intOf]; omega
              · have her' : ((er : Int) == 0) = false := beq_eq_false_iff_ne.2 her
                clear HVK
                go_wp2_with fail
                refine (numl_any _ er _ (unhide hg6) (unhide HE6)).mono ?_
                rintro e w7 ⟨rfl, hb7⟩
                have HB7 : Hid (Below w.heap.size w w7) := (unhide HB6).trans (hb7.mono (unhide HB6).size)
                clear hb7 hcs6
                go_wp2
                go_roundw
                case rel => exact ⟨x, n, k + 1, rfl, rfl, by go_num, by omega, by omega, unhide HB7, .inr ⟨h0, h1, unhide hns⟩⟩
                case measure => simp [intOf]; omega
    · have hBel := hide hbel
      have hsz := hbel.size
      clear hbel
      by_cases hlt1 : k < len
      · have h40 : k = 40 := by omega
        subst h40
        go_wp2_with fail
        refine (wakes_any _).mono ?_
        rintro e w2 ⟨rfl, hb2⟩
        go_wp2
        go_ret
        exact ⟨rfl, (unhide hBel).trans (hb2.mono hsz)⟩
      · go_wp2_with fail
        refine (wakes_any _).mono ?_
        rintro e w2 ⟨rfl, hb2⟩
        go_wp2
        go_ret
        exact ⟨rfl, (unhide hBel).trans (hb2.mono hsz)⟩

set_option maxRecDepth 100000 in
theorem back_walk0 (ao : Option Addr) (cap : Nat) (w : World) :
    Calls Tryd.prog 5 #[.slice ao 0 cap] w fun e w' => e = .returned (.bool true) ∧ Below w.heap.size w w' := by
  go_enter Tryd.func5, Tryd.ntmps5
  go_wp2
  refine wp_loop_rounds 1 ?_
  rw [rounds_succ]
  go_wp2_with fail
  refine (wakes_any _).mono ?_
  rintro e w2 ⟨rfl, hb2⟩
  go_wp2
  go_ret
  exact ⟨rfl, hb2⟩
end Go.Proofs.YtecapdonfilkpaaDoor
