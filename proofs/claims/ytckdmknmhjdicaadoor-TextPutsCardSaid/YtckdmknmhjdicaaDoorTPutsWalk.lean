/- Proved here: the statement TextPuts, called in any world whose errors.errorType is as laid, on any slice that reads, tells true and changes nothing that was there. -/
import Derived.Test.YtckdmknmhjdicaaDoorTWakes
import Derived.Test.YtckdmknmhjdicaaDoorTRefText
namespace Go.Proofs.YtckdmknmhjdicaaDoor
open Go.RowKit

/-- bytes that a call may have told: nil, or a text's with its length in memory of its own -/
def Told (B : Nat) (w : World) (v : Value) (l : List Int) : Prop := (v = .slice none 0 0 ∧ l = []) ∨ ∃ n, w.ownsRow B 5 1 v n (l.map (Value.int .u8)) ∧ 2 ≤ n ∧ n ≤ 65537 ∧ ∀ j, 0 ≤ l.getD j 0 ∧ l.getD j 0 ≤ 255
theorem Told.below {B : Nat} {w w' : World} {v : Value} {l : List Int} (h : Told B w v l) (hb : Below w.heap.size w w') : Told B w' v l := by
  rcases h with h | ⟨n, h1, h2⟩
  · exact .inl h
  · exact .inr ⟨n, owns_below h1 hb, h2⟩
theorem Told.mono {B B' : Nat} {w : World} {v : Value} {l : List Int} (h : Told B w v l) (hB : B' ≤ B) : Told B' w v l := by
  rcases h with h | ⟨n, h1, h2⟩
  · exact .inl h
  · exact .inr ⟨n, owns_mono h1 hB, h2⟩
theorem Told.byt {B : Nat} {w : World} {v : Value} {l : List Int} (h : Told B w v l) : Byt w v l := by
  rcases h with ⟨rfl, rfl⟩ | ⟨n, h1, _, _, h4⟩
  · exact ⟨none, 0, rfl, ⟨by simp, by simp⟩, by intro j; simp, .inl rfl⟩
  · exact byt_of_owns h1 h4
theorem told_tx {B : Nat} {w : World} {v : Value} {s : ByteArray} (h : w.ownsRow B 5 1 v (2 + s.size) ((tx s).map (Value.int .u8))) (hs : s.size ≤ 65535) : Told B w v (tx s) := .inr ⟨_, h, by omega, by omega, tx_range s hs⟩
theorem told_nil (B : Nat) (w : World) : Told B w (.slice none 0 0) [] := .inl ⟨rfl, rfl⟩

/-- what Put, PutBin and the page's own tell, as numbers: the error's number; the bytes -/
def ptx (n : Int) (s : ByteArray) : List Int := if n = 0 then tx s else []
def lim (s : ByteArray) : Int := if s.size ≤ 65535 then 0 else 2
theorem put_use (s : ByteArray) (w : World) (hs : s.size ≤ 70000) : Calls Tryd.prog 9 #[.string s] w fun e w' => ∃ v E, e = .returned (.tuple #[v, E]) ∧ Hid (Told w.heap.size w' v (ptx (chk (sb s)) s)) ∧ Hid (ErrIs w' E (chk (sb s))) ∧ Below w.heap.size w w' := by
  by_cases h : chk (sb s) = 0
  · refine (put_ok s w h).mono ?_
    rintro e w' ⟨v, rfl, hown, hb⟩
    refine ⟨v, _, rfl, ?_, .inl ⟨h, rfl⟩, hb⟩
    unfold ptx
    rw [if_pos h]
    exact told_tx (unhide hown) (by have := chk_0 h; rw [sb_length] at this; exact this)
  · refine (put_bad s _ w (by omega) rfl h).mono ?_
    rintro e w' ⟨rfl, rfl⟩
    refine ⟨_, _, rfl, ?_, fault_is _ w, fault_below _ w⟩
    unfold ptx
    rw [if_neg h]
    exact told_nil _ _
theorem putBin_use (s : ByteArray) (w : World) : Calls Tryd.prog 10 #[.string s] w fun e w' => ∃ v E, e = .returned (.tuple #[v, E]) ∧ Hid (Told w.heap.size w' v (ptx (lim s) s)) ∧ Hid (ErrIs w' E (lim s)) ∧ Below w.heap.size w w' := by
  by_cases h : s.size ≤ 65535
  · have hl : lim s = 0 := by unfold lim; rw [if_pos h]
    refine (putBin_ok s w h).mono ?_
    rintro e w' ⟨v, rfl, hown, hb⟩
    refine ⟨v, _, rfl, ?_, .inl ⟨hl, rfl⟩, hb⟩
    unfold ptx
    rw [if_pos hl]
    exact told_tx (unhide hown) h
  · have hl : lim s = 2 := by unfold lim; rw [if_neg h]
    refine (putBin_bad s w (by omega)).mono ?_
    rintro e w' ⟨rfl, rfl⟩
    refine ⟨_, _, rfl, ?_, by rw [hl]; exact fault_is _ w, fault_below _ w⟩
    unfold ptx
    rw [if_neg (by rw [hl]; decide)]
    exact told_nil _ _
theorem bytes_told (B : Nat) (v : Value) (l : List Int) (w : World) (hB : B ≤ w.heap.size) (h : Told B w v l) : Calls Tryd.prog 14 #[v] w fun e w' => e = .returned (.tuple #[]) ∧ Below B w w' := by
  rcases h with ⟨rfl, _⟩ | ⟨n, h1, h2, h3, _⟩
  · refine (bytes_nil w).mono ?_
    rintro e w' ⟨rfl, hb⟩
    exact ⟨rfl, hb.mono hB⟩
  · have h1' := h1
    rcases h1.2 with ⟨_, hn⟩ | ⟨g, cap, cur, rfl, _⟩
    · omega
    · exact bytes_any B g n cap l w hB (by omega) h1'

theorem eq_use (va vb : Value) (l : List Int) (w : World) (ha : Byt w va l) (hb : Byt w vb l) : Calls Tryd.prog 13 #[va, vb] w fun e w' => e = .returned (.bool true) ∧ Below w.heap.size w w' := by
  refine (eq_any va vb l l w ha hb).mono ?_
  rintro e w' ⟨rfl, q, rfl⟩
  exact ⟨by simp, below_drewN (Below.refl _ _) q⟩

set_option maxRecDepth 100000 in
set_option maxHeartbeats 8000000 in
theorem puts_walk (b off len cap : Nat) (ss : Nat → ByteArray) (vs : Nat → Value) (bs : Nat → List Int) (w : World) (hlen : len ≤ maxLen) (hg : Laid w)
    (hc : ∀ k, k < len → w.cell? ⟨b, off + k * 2, none⟩ = some (.string (ss k)) ∧ w.cell? ⟨b, off + k * 2 + 1, none⟩ = some (vs k) ∧ Byt w (vs k) (bs k)) :
    Calls Tryd.prog 3 #[.slice (some ⟨b, off, none⟩) len cap] w fun e w' => e = .returned (.bool true) ∧ Below w.heap.size w w' := by
  unfold maxLen at hlen
  have HC := hide hc
  have HG := hide hg
  clear hc hg
  go_enter Tryd.func3, Tryd.ntmps3
  go_wp2
  go_loopw [3] (fun i wr => ∃ k : Nat, k ≤ len ∧ k ≤ 20 ∧ i = .int .i64 k ∧ Below w.heap.size w wr) (fun i _ => 20 - (intOf i).toNat)
  case atStart => exact ⟨0, Nat.zero_le _, by omega, rfl, Below.refl _ _⟩
  case round =>
    obtain ⟨k, hk, hk20, rfl, hbel⟩ := hrel
    by_cases hlt : k < len ∧ k < 20
    · obtain ⟨hlt, hlt20⟩ := hlt
      obtain ⟨hc0, hc1, hby⟩ := (unhide HC) k hlt
      have hcr := (hbel.cell (p := ⟨b, off + k * 2, none⟩) (cell_lt hc0)).trans hc0
      have hcs := (hbel.cell (p := ⟨b, off + k * 2 + 1, none⟩) (cell_lt hc1)).trans hc1
      have hbl : b < w.heap.size := cell_lt hc0
      have hsz := hbel.size
      have HY : Hid (Byt wr (vs k) (bs k)) := hby.below hbel
      clear hc0 hc1 hby
      generalize ss k = s at hcr
      generalize vs k = v at hcs HY
      generalize bs k = l at HY
      have hgr : Hid (Laid wr) := (unhide HG).below hbel (unhide HG).pos
      have hBel := hide hbel
      clear hbel
      obtain ⟨ao, vc, rfl, hv1, hv2⟩ := (unhide HY).form
      unfold maxLen at hv2
      generalize hn : l.length = n at hcs HY hv1
      have HN := hide hn
      clear hn
      by_cases hh : (decide (70000 < s.size) || decide (5000 < n)) = true
      · have hh' : Hid (true = (decide (70000 < s.size) || decide (5000 < n))) := hh.symm
        clear hh
        go_wp2_with fail
        refine (heavy_use s ao n vc _ true hh').mono ?_
        rintro e w2 ⟨rfl, hb2⟩
        go_wp2
        go_ret
        exact ⟨rfl, (unhide hBel).trans (hb2.mono hsz)⟩
      · obtain ⟨hs70, hn5, hh'⟩ := not_heavy hh
        clear hh
        by_cases hq : 3 < k ∧ 3000 < s.size
        · obtain ⟨hq1, hq2⟩ := hq
          go_wp2_with fail
          refine (heavy_use s ao n vc _ false hh').mono ?_
          rintro e w1 ⟨rfl, hb1⟩
          have hcr1 : w1.cell? ⟨b, off + k * 2, none⟩ = some (.string s) := (hb1.cell (p := ⟨b, off + k * 2, none⟩) (by simp; omega)).trans hcr
          have HB1 : Hid (Below w.heap.size w w1) := (unhide hBel).trans (hb1.mono hsz)
          clear hb1 hcs hcr HY hgr hBel hsz
          go_wp2
          go_ret
          exact ⟨rfl, unhide HB1⟩
        · have HRC := hide (fun w => rcheck_any s w (by omega))
          have HPU := hide (fun w => put_use s w hs70)
          have HPB := hide (putBin_use s)
          have HCK := hide (fun w => check_num s w (by omega))
          have hk3 : (3 < k ∧ s.size ≤ 3000) ∨ k ≤ 3 := by omega
          clear hq
          by_cases hm : s.size ≤ 65535
          · have hlim : lim s = 0 := by unfold lim; rw [if_pos hm]
            rw [hlim] at HPB
            clear hlim
            have HTR : Hid (tx s = ptx 0 s) := rfl
            generalize hlr : ptx 0 s = lr at HPB HTR
            clear hlr
            by_cases hz : chk (sb s) = 0
            · have HTX : Hid (tx s = ptx 0 s) := rfl
              rw [hz] at HRC HPU HCK
              clear hz
              generalize hlw : ptx 0 s = lw at HPU HTX
              clear hlw
              rcases hk3 with ⟨hk3, hk4⟩ | hk3
              all_goals
                go_wp2_with fail
                refine (heavy_use s ao n vc _ false hh').mono ?_
                rintro e w1 ⟨rfl, hb1⟩
                have hcr1 : w1.cell? ⟨b, off + k * 2, none⟩ = some (.string s) := (hb1.cell (p := ⟨b, off + k * 2, none⟩) (by simp; omega)).trans hcr
                have hg1 : Hid (Laid w1) := (unhide hgr).below hb1 (unhide hgr).pos
                have HB1 : Hid (Below w.heap.size w w1) := (unhide hBel).trans (hb1.mono hsz)
                have hs1 : w.heap.size ≤ w1.heap.size := (unhide HB1).size
                clear hb1 hcs hcr HY hgr hBel hsz
                go_wp2_with fail
                refine ((unhide HRC) _).mono ?_
                rintro e w2 ⟨rfl, hb2⟩
                have hg2 : Hid (Laid w2) := (unhide hg1).below hb2 (unhide hg1).pos
                have HB2 : Hid (Below w.heap.size w w2) := (unhide HB1).trans (hb2.mono hs1)
                have hs2 : w.heap.size ≤ w2.heap.size := (unhide HB2).size
                clear hb2 HB1 hs1 hg1
                clear hcr1
                go_wp2_with fail
                refine (bin_any s _ hm).mono ?_
                rintro e w3 ⟨vw, rfl, hown, hb3⟩
                have HW3 : Hid (Told w.heap.size w3 vw lw) := (unhide HTX) ▸ (told_tx (unhide hown) hm).mono hs2
                have hg3 : Hid (Laid w3) := (unhide hg2).below hb3 (unhide hg2).pos
                have HB3 : Hid (Below w.heap.size w w3) := (unhide HB2).trans (hb3.mono hs2)
                have hs3 : w.heap.size ≤ w3.heap.size := (unhide HB3).size
                clear hb3 HB2 hs2 hg2
                clear hown
                go_wp2_with fail
                refine (bin_any s _ hm).mono ?_
                rintro e w4 ⟨vr, rfl, hown, hb4⟩
                have HR4 : Hid (Told w.heap.size w4 vr lr) := (unhide HTR) ▸ (told_tx (unhide hown) hm).mono hs3
                have hg4 : Hid (Laid w4) := (unhide hg3).below hb4 (unhide hg3).pos
                have HW4 : Hid (Told w.heap.size w4 vw lw) := (unhide HW3).below hb4
                have HB4 : Hid (Below w.heap.size w w4) := (unhide HB3).trans (hb4.mono hs3)
                have hs4 : w.heap.size ≤ w4.heap.size := (unhide HB4).size
                clear hb4 HB3 hs3 hg3 HW3
                clear hown
                go_wp2_with fail
                refine ((unhide HPU) _).mono ?_
                rintro e w5 ⟨vb, E, rfl, hto, hE, hb5⟩
                have HP5 : Hid (Told w.heap.size w5 vb lw) := (unhide hto).mono hs4
                have HE5 : Hid (ErrIs w5 E 0) := hE
                have hg5 : Hid (Laid w5) := (unhide hg4).below hb5 (unhide hg4).pos
                have HW5 : Hid (Told w.heap.size w5 vw lw) := (unhide HW4).below hb5
                have HR5 : Hid (Told w.heap.size w5 vr lr) := (unhide HR4).below hb5
                have HB5 : Hid (Below w.heap.size w w5) := (unhide HB4).trans (hb5.mono hs4)
                have hs5 : w.heap.size ≤ w5.heap.size := (unhide HB5).size
                clear hb5 HB4 hs4 hg4 HW4 HR4
                clear hto hE
                go_wp2_with fail
                refine ((unhide HPB) _).mono ?_
                rintro e w6 ⟨vc2, F, rfl, hto, hE, hb6⟩
                have HQ6 : Hid (Told w.heap.size w6 vc2 lr) := (unhide hto).mono hs5
                have HF6 : Hid (ErrIs w6 F 0) := hE
                have hg6 : Hid (Laid w6) := (unhide hg5).below hb6 (unhide hg5).pos
                have HW6 : Hid (Told w.heap.size w6 vw lw) := (unhide HW5).below hb6
                have HR6 : Hid (Told w.heap.size w6 vr lr) := (unhide HR5).below hb6
                have HP6 : Hid (Told w.heap.size w6 vb lw) := (unhide HP5).below hb6
                have HE6 : Hid (ErrIs w6 E 0) := (unhide HE5).below hb6
                have HB6 : Hid (Below w.heap.size w w6) := (unhide HB5).trans (hb6.mono hs5)
                have hs6 : w.heap.size ≤ w6.heap.size := (unhide HB6).size
                clear hb6 HB5 hs5 hg5 HW5 HR5 HP5 HE5
                clear hto hE
                go_wp2_with fail
                refine ((unhide HCK) _).mono ?_
                rintro e w7 ⟨G, rfl, hE, hb7⟩
                have HG27 : Hid (ErrIs w7 G 0) := hE
                have hg7 : Hid (Laid w7) := (unhide hg6).below hb7 (unhide hg6).pos
                have HW7 : Hid (Told w.heap.size w7 vw lw) := (unhide HW6).below hb7
                have HR7 : Hid (Told w.heap.size w7 vr lr) := (unhide HR6).below hb7
                have HP7 : Hid (Told w.heap.size w7 vb lw) := (unhide HP6).below hb7
                have HE7 : Hid (ErrIs w7 E 0) := (unhide HE6).below hb7
                have HQ7 : Hid (Told w.heap.size w7 vc2 lr) := (unhide HQ6).below hb7
                have HF7 : Hid (ErrIs w7 F 0) := (unhide HF6).below hb7
                have HB7 : Hid (Below w.heap.size w w7) := (unhide HB6).trans (hb7.mono hs6)
                have hs7 : w.heap.size ≤ w7.heap.size := (unhide HB7).size
                clear hb7 HB6 hs6 hg6 HW6 HR6 HP6 HE6 HQ6 HF6
                clear hE
                go_wp2_with fail
                refine (numl_any _ 0 _ (unhide hg7) (unhide HG27)).mono ?_
                rintro e w8 ⟨rfl, hb8⟩
                have hg8 : Hid (Laid w8) := (unhide hg7).below hb8 (unhide hg7).pos
                have HW8 : Hid (Told w.heap.size w8 vw lw) := (unhide HW7).below hb8
                have HR8 : Hid (Told w.heap.size w8 vr lr) := (unhide HR7).below hb8
                have HP8 : Hid (Told w.heap.size w8 vb lw) := (unhide HP7).below hb8
                have HE8 : Hid (ErrIs w8 E 0) := (unhide HE7).below hb8
                have HQ8 : Hid (Told w.heap.size w8 vc2 lr) := (unhide HQ7).below hb8
                have HF8 : Hid (ErrIs w8 F 0) := (unhide HF7).below hb8
                have HG28 : Hid (ErrIs w8 G 0) := (unhide HG27).below hb8
                have HB8 : Hid (Below w.heap.size w w8) := (unhide HB7).trans (hb8.mono hs7)
                have hs8 : w.heap.size ≤ w8.heap.size := (unhide HB8).size
                clear hb8 HB7 hs7 hg7 HW7 HR7 HP7 HE7 HQ7 HF7 HG27
                clear HG28
                go_wp2_with fail
                refine (numl_any _ 0 _ (unhide hg8) (unhide HE8)).mono ?_
                rintro e w9 ⟨rfl, hb9⟩
                have hg9 : Hid (Laid w9) := (unhide hg8).below hb9 (unhide hg8).pos
                have HW9 : Hid (Told w.heap.size w9 vw lw) := (unhide HW8).below hb9
                have HR9 : Hid (Told w.heap.size w9 vr lr) := (unhide HR8).below hb9
                have HP9 : Hid (Told w.heap.size w9 vb lw) := (unhide HP8).below hb9
                have HE9 : Hid (ErrIs w9 E 0) := (unhide HE8).below hb9
                have HQ9 : Hid (Told w.heap.size w9 vc2 lr) := (unhide HQ8).below hb9
                have HF9 : Hid (ErrIs w9 F 0) := (unhide HF8).below hb9
                have HB9 : Hid (Below w.heap.size w w9) := (unhide HB8).trans (hb9.mono hs8)
                have hs9 : w.heap.size ≤ w9.heap.size := (unhide HB9).size
                clear hb9 HB8 hs8 hg8 HW8 HR8 HP8 HE8 HQ8 HF8
                clear HE9
                go_wp2_with fail
                refine (eq_use _ _ lw _ (unhide HP9).byt (unhide HW9).byt).mono ?_
                rintro e w10 ⟨rfl, hb10⟩
                have hg10 : Hid (Laid w10) := (unhide hg9).below hb10 (unhide hg9).pos
                have HW10 : Hid (Told w.heap.size w10 vw lw) := (unhide HW9).below hb10
                have HR10 : Hid (Told w.heap.size w10 vr lr) := (unhide HR9).below hb10
                have HP10 : Hid (Told w.heap.size w10 vb lw) := (unhide HP9).below hb10
                have HQ10 : Hid (Told w.heap.size w10 vc2 lr) := (unhide HQ9).below hb10
                have HF10 : Hid (ErrIs w10 F 0) := (unhide HF9).below hb10
                have HB10 : Hid (Below w.heap.size w w10) := (unhide HB9).trans (hb10.mono hs9)
                have hs10 : w.heap.size ≤ w10.heap.size := (unhide HB10).size
                clear hb10 HB9 hs9 hg9 HW9 HR9 HP9 HQ9 HF9
                clear HW10
                go_wp2_with fail
                refine (numl_any _ 0 _ (unhide hg10) (unhide HF10)).mono ?_
                rintro e w11 ⟨rfl, hb11⟩
                have hg11 : Hid (Laid w11) := (unhide hg10).below hb11 (unhide hg10).pos
                have HR11 : Hid (Told w.heap.size w11 vr lr) := (unhide HR10).below hb11
                have HP11 : Hid (Told w.heap.size w11 vb lw) := (unhide HP10).below hb11
                have HQ11 : Hid (Told w.heap.size w11 vc2 lr) := (unhide HQ10).below hb11
                have HF11 : Hid (ErrIs w11 F 0) := (unhide HF10).below hb11
                have HB11 : Hid (Below w.heap.size w w11) := (unhide HB10).trans (hb11.mono hs10)
                have hs11 : w.heap.size ≤ w11.heap.size := (unhide HB11).size
                clear hb11 HB10 hs10 hg10 HR10 HP10 HQ10 HF10
                clear HF11
                go_wp2_with fail
                refine (eq_use _ _ lr _ (unhide HQ11).byt (unhide HR11).byt).mono ?_
                rintro e w12 ⟨rfl, hb12⟩
                have hg12 : Hid (Laid w12) := (unhide hg11).below hb12 (unhide hg11).pos
                have HR12 : Hid (Told w.heap.size w12 vr lr) := (unhide HR11).below hb12
                have HP12 : Hid (Told w.heap.size w12 vb lw) := (unhide HP11).below hb12
                have HQ12 : Hid (Told w.heap.size w12 vc2 lr) := (unhide HQ11).below hb12
                have HB12 : Hid (Below w.heap.size w w12) := (unhide HB11).trans (hb12.mono hs11)
                have hs12 : w.heap.size ≤ w12.heap.size := (unhide HB12).size
                clear hb12 HB11 hs11 hg11 HR11 HP11 HQ11
                clear HR12
                go_wp2_with fail
                refine (bytes_told w.heap.size vb lw _ hs12 (unhide HP12)).mono ?_
                rintro e w13 ⟨rfl, hb13⟩
                have HBz : Hid (Below w.heap.size w w13) := (unhide HB12).trans hb13
                clear hb13 HB12 hs12 hg12 HP12 HQ12
                go_wp2
                go_roundw
                case rel => exact ⟨k + 1, by omega, by omega, by go_num, unhide HBz⟩
                case measure => simp [intOf]; omega
            · have HTX : Hid ([] = ptx (chk (sb s)) s) := by show _ = _; unfold ptx; rw [if_neg hz]
              generalize hlw : ptx (chk (sb s)) s = lw at HPU HTX
              generalize chk (sb s) = c at HRC HPU HCK hz
              clear hlw
              have hz0 : (c == 0) = false := beq_eq_false_iff_ne.2 hz
              rcases hk3 with ⟨hk3, hk4⟩ | hk3
              all_goals
                go_wp2_with fail
                refine (heavy_use s ao n vc _ false hh').mono ?_
                rintro e w1 ⟨rfl, hb1⟩
                have hcr1 : w1.cell? ⟨b, off + k * 2, none⟩ = some (.string s) := (hb1.cell (p := ⟨b, off + k * 2, none⟩) (by simp; omega)).trans hcr
                have hg1 : Hid (Laid w1) := (unhide hgr).below hb1 (unhide hgr).pos
                have HB1 : Hid (Below w.heap.size w w1) := (unhide hBel).trans (hb1.mono hsz)
                have hs1 : w.heap.size ≤ w1.heap.size := (unhide HB1).size
                clear hb1 hcs hcr HY hgr hBel hsz
                go_wp2_with fail
                refine ((unhide HRC) _).mono ?_
                rintro e w2 ⟨rfl, hb2⟩
                have hg2 : Hid (Laid w2) := (unhide hg1).below hb2 (unhide hg1).pos
                have HB2 : Hid (Below w.heap.size w w2) := (unhide HB1).trans (hb2.mono hs1)
                have hs2 : w.heap.size ≤ w2.heap.size := (unhide HB2).size
                clear hb2 HB1 hs1 hg1
                clear hcr1
                have HW2 : Hid (Told w.heap.size w2 (.slice none 0 0) lw) := (unhide HTX) ▸ told_nil _ _
                go_wp2_with fail
                refine (bin_any s _ hm).mono ?_
                rintro e w3 ⟨vr, rfl, hown, hb3⟩
                have HR3 : Hid (Told w.heap.size w3 vr lr) := (unhide HTR) ▸ (told_tx (unhide hown) hm).mono hs2
                have hg3 : Hid (Laid w3) := (unhide hg2).below hb3 (unhide hg2).pos
                have HW3 : Hid (Told w.heap.size w3 (.slice none 0 0) lw) := (unhide HW2).below hb3
                have HB3 : Hid (Below w.heap.size w w3) := (unhide HB2).trans (hb3.mono hs2)
                have hs3 : w.heap.size ≤ w3.heap.size := (unhide HB3).size
                clear hb3 HB2 hs2 hg2 HW2
                clear hown
                go_wp2_with fail
                refine ((unhide HPU) _).mono ?_
                rintro e w4 ⟨vb, E, rfl, hto, hE, hb4⟩
                have HP4 : Hid (Told w.heap.size w4 vb lw) := (unhide hto).mono hs3
                have HE4 : Hid (ErrIs w4 E c) := hE
                have hg4 : Hid (Laid w4) := (unhide hg3).below hb4 (unhide hg3).pos
                have HW4 : Hid (Told w.heap.size w4 (.slice none 0 0) lw) := (unhide HW3).below hb4
                have HR4 : Hid (Told w.heap.size w4 vr lr) := (unhide HR3).below hb4
                have HB4 : Hid (Below w.heap.size w w4) := (unhide HB3).trans (hb4.mono hs3)
                have hs4 : w.heap.size ≤ w4.heap.size := (unhide HB4).size
                clear hb4 HB3 hs3 hg3 HW3 HR3
                clear hto hE
                go_wp2_with fail
                refine ((unhide HPB) _).mono ?_
                rintro e w5 ⟨vc2, F, rfl, hto, hE, hb5⟩
                have HQ5 : Hid (Told w.heap.size w5 vc2 lr) := (unhide hto).mono hs4
                have HF5 : Hid (ErrIs w5 F 0) := hE
                have hg5 : Hid (Laid w5) := (unhide hg4).below hb5 (unhide hg4).pos
                have HW5 : Hid (Told w.heap.size w5 (.slice none 0 0) lw) := (unhide HW4).below hb5
                have HR5 : Hid (Told w.heap.size w5 vr lr) := (unhide HR4).below hb5
                have HP5 : Hid (Told w.heap.size w5 vb lw) := (unhide HP4).below hb5
                have HE5 : Hid (ErrIs w5 E c) := (unhide HE4).below hb5
                have HB5 : Hid (Below w.heap.size w w5) := (unhide HB4).trans (hb5.mono hs4)
                have hs5 : w.heap.size ≤ w5.heap.size := (unhide HB5).size
                clear hb5 HB4 hs4 hg4 HW4 HR4 HP4 HE4
                clear hto hE
                go_wp2_with fail
                refine ((unhide HCK) _).mono ?_
                rintro e w6 ⟨G, rfl, hE, hb6⟩
                have HG26 : Hid (ErrIs w6 G c) := hE
                have hg6 : Hid (Laid w6) := (unhide hg5).below hb6 (unhide hg5).pos
                have HW6 : Hid (Told w.heap.size w6 (.slice none 0 0) lw) := (unhide HW5).below hb6
                have HR6 : Hid (Told w.heap.size w6 vr lr) := (unhide HR5).below hb6
                have HP6 : Hid (Told w.heap.size w6 vb lw) := (unhide HP5).below hb6
                have HE6 : Hid (ErrIs w6 E c) := (unhide HE5).below hb6
                have HQ6 : Hid (Told w.heap.size w6 vc2 lr) := (unhide HQ5).below hb6
                have HF6 : Hid (ErrIs w6 F 0) := (unhide HF5).below hb6
                have HB6 : Hid (Below w.heap.size w w6) := (unhide HB5).trans (hb6.mono hs5)
                have hs6 : w.heap.size ≤ w6.heap.size := (unhide HB6).size
                clear hb6 HB5 hs5 hg5 HW5 HR5 HP5 HE5 HQ5 HF5
                clear hE
                go_wp2_with fail
                refine (numl_any _ c _ (unhide hg6) (unhide HG26)).mono ?_
                rintro e w7 ⟨rfl, hb7⟩
                have hg7 : Hid (Laid w7) := (unhide hg6).below hb7 (unhide hg6).pos
                have HW7 : Hid (Told w.heap.size w7 (.slice none 0 0) lw) := (unhide HW6).below hb7
                have HR7 : Hid (Told w.heap.size w7 vr lr) := (unhide HR6).below hb7
                have HP7 : Hid (Told w.heap.size w7 vb lw) := (unhide HP6).below hb7
                have HE7 : Hid (ErrIs w7 E c) := (unhide HE6).below hb7
                have HQ7 : Hid (Told w.heap.size w7 vc2 lr) := (unhide HQ6).below hb7
                have HF7 : Hid (ErrIs w7 F 0) := (unhide HF6).below hb7
                have HG27 : Hid (ErrIs w7 G c) := (unhide HG26).below hb7
                have HB7 : Hid (Below w.heap.size w w7) := (unhide HB6).trans (hb7.mono hs6)
                have hs7 : w.heap.size ≤ w7.heap.size := (unhide HB7).size
                clear hb7 HB6 hs6 hg6 HW6 HR6 HP6 HE6 HQ6 HF6 HG26
                clear HG27
                go_wp2_with fail
                refine (numl_any _ c _ (unhide hg7) (unhide HE7)).mono ?_
                rintro e w8 ⟨rfl, hb8⟩
                have hg8 : Hid (Laid w8) := (unhide hg7).below hb8 (unhide hg7).pos
                have HW8 : Hid (Told w.heap.size w8 (.slice none 0 0) lw) := (unhide HW7).below hb8
                have HR8 : Hid (Told w.heap.size w8 vr lr) := (unhide HR7).below hb8
                have HP8 : Hid (Told w.heap.size w8 vb lw) := (unhide HP7).below hb8
                have HE8 : Hid (ErrIs w8 E c) := (unhide HE7).below hb8
                have HQ8 : Hid (Told w.heap.size w8 vc2 lr) := (unhide HQ7).below hb8
                have HF8 : Hid (ErrIs w8 F 0) := (unhide HF7).below hb8
                have HB8 : Hid (Below w.heap.size w w8) := (unhide HB7).trans (hb8.mono hs7)
                have hs8 : w.heap.size ≤ w8.heap.size := (unhide HB8).size
                clear hb8 HB7 hs7 hg7 HW7 HR7 HP7 HE7 HQ7 HF7
                clear HE8
                go_wp2_with fail
                refine (eq_use _ _ lw _ (unhide HP8).byt (unhide HW8).byt).mono ?_
                rintro e w9 ⟨rfl, hb9⟩
                have hg9 : Hid (Laid w9) := (unhide hg8).below hb9 (unhide hg8).pos
                have HW9 : Hid (Told w.heap.size w9 (.slice none 0 0) lw) := (unhide HW8).below hb9
                have HR9 : Hid (Told w.heap.size w9 vr lr) := (unhide HR8).below hb9
                have HP9 : Hid (Told w.heap.size w9 vb lw) := (unhide HP8).below hb9
                have HQ9 : Hid (Told w.heap.size w9 vc2 lr) := (unhide HQ8).below hb9
                have HF9 : Hid (ErrIs w9 F 0) := (unhide HF8).below hb9
                have HB9 : Hid (Below w.heap.size w w9) := (unhide HB8).trans (hb9.mono hs8)
                have hs9 : w.heap.size ≤ w9.heap.size := (unhide HB9).size
                clear hb9 HB8 hs8 hg8 HW8 HR8 HP8 HQ8 HF8
                clear HW9
                go_wp2_with fail
                refine (numl_any _ 0 _ (unhide hg9) (unhide HF9)).mono ?_
                rintro e w10 ⟨rfl, hb10⟩
                have hg10 : Hid (Laid w10) := (unhide hg9).below hb10 (unhide hg9).pos
                have HR10 : Hid (Told w.heap.size w10 vr lr) := (unhide HR9).below hb10
                have HP10 : Hid (Told w.heap.size w10 vb lw) := (unhide HP9).below hb10
                have HQ10 : Hid (Told w.heap.size w10 vc2 lr) := (unhide HQ9).below hb10
                have HF10 : Hid (ErrIs w10 F 0) := (unhide HF9).below hb10
                have HB10 : Hid (Below w.heap.size w w10) := (unhide HB9).trans (hb10.mono hs9)
                have hs10 : w.heap.size ≤ w10.heap.size := (unhide HB10).size
                clear hb10 HB9 hs9 hg9 HR9 HP9 HQ9 HF9
                clear HF10
                go_wp2_with fail
                refine (eq_use _ _ lr _ (unhide HQ10).byt (unhide HR10).byt).mono ?_
                rintro e w11 ⟨rfl, hb11⟩
                have hg11 : Hid (Laid w11) := (unhide hg10).below hb11 (unhide hg10).pos
                have HR11 : Hid (Told w.heap.size w11 vr lr) := (unhide HR10).below hb11
                have HP11 : Hid (Told w.heap.size w11 vb lw) := (unhide HP10).below hb11
                have HQ11 : Hid (Told w.heap.size w11 vc2 lr) := (unhide HQ10).below hb11
                have HB11 : Hid (Below w.heap.size w w11) := (unhide HB10).trans (hb11.mono hs10)
                have hs11 : w.heap.size ≤ w11.heap.size := (unhide HB11).size
                clear hb11 HB10 hs10 hg10 HR10 HP10 HQ10
                clear HR11
                go_wp2_with fail
                refine (bytes_told w.heap.size vb lw _ hs11 (unhide HP11)).mono ?_
                rintro e w12 ⟨rfl, hb12⟩
                have HBz : Hid (Below w.heap.size w w12) := (unhide HB11).trans hb12
                clear hb12 HB11 hs11 hg11 HP11 HQ11
                go_wp2
                go_roundw
                case rel => exact ⟨k + 1, by omega, by omega, by go_num, unhide HBz⟩
                case measure => simp [intOf]; omega
          · have hlim : lim s = 2 := by unfold lim; rw [if_neg hm]
            have hz : chk (sb s) ≠ 0 := fun h => hm (by have := chk_0 h; rw [sb_length] at this; exact this)
            rw [hlim] at HPB
            clear hlim
            have HTR : Hid ([] = ptx 2 s) := rfl
            generalize hlr : ptx 2 s = lr at HPB HTR
            clear hlr
            have HTX : Hid ([] = ptx (chk (sb s)) s) := by show _ = _; unfold ptx; rw [if_neg hz]
            generalize hlw : ptx (chk (sb s)) s = lw at HPU HTX
            generalize chk (sb s) = c at HRC HPU HCK hz
            clear hlw
            have hz0 : (c == 0) = false := beq_eq_false_iff_ne.2 hz
            have hk4 : k ≤ 3 := by omega
            clear hk3
            go_wp2_with fail
            refine (heavy_use s ao n vc _ false hh').mono ?_
            rintro e w1 ⟨rfl, hb1⟩
            have hcr1 : w1.cell? ⟨b, off + k * 2, none⟩ = some (.string s) := (hb1.cell (p := ⟨b, off + k * 2, none⟩) (by simp; omega)).trans hcr
            have hg1 : Hid (Laid w1) := (unhide hgr).below hb1 (unhide hgr).pos
            have HB1 : Hid (Below w.heap.size w w1) := (unhide hBel).trans (hb1.mono hsz)
            have hs1 : w.heap.size ≤ w1.heap.size := (unhide HB1).size
            clear hb1 hcs hcr HY hgr hBel hsz
            go_wp2_with fail
            refine ((unhide HRC) _).mono ?_
            rintro e w2 ⟨rfl, hb2⟩
            have hg2 : Hid (Laid w2) := (unhide hg1).below hb2 (unhide hg1).pos
            have HB2 : Hid (Below w.heap.size w w2) := (unhide HB1).trans (hb2.mono hs1)
            have hs2 : w.heap.size ≤ w2.heap.size := (unhide HB2).size
            clear hb2 HB1 hs1 hg1
            clear hcr1
            have HW2 : Hid (Told w.heap.size w2 (.slice none 0 0) lw) := (unhide HTX) ▸ told_nil _ _
            have HR2 : Hid (Told w.heap.size w2 (.slice none 0 0) lr) := (unhide HTR) ▸ told_nil _ _
            go_wp2_with fail
            refine ((unhide HPU) _).mono ?_
            rintro e w3 ⟨vb, E, rfl, hto, hE, hb3⟩
            have HP3 : Hid (Told w.heap.size w3 vb lw) := (unhide hto).mono hs2
            have HE3 : Hid (ErrIs w3 E c) := hE
            have hg3 : Hid (Laid w3) := (unhide hg2).below hb3 (unhide hg2).pos
            have HW3 : Hid (Told w.heap.size w3 (.slice none 0 0) lw) := (unhide HW2).below hb3
            have HR3 : Hid (Told w.heap.size w3 (.slice none 0 0) lr) := (unhide HR2).below hb3
            have HB3 : Hid (Below w.heap.size w w3) := (unhide HB2).trans (hb3.mono hs2)
            have hs3 : w.heap.size ≤ w3.heap.size := (unhide HB3).size
            clear hb3 HB2 hs2 hg2 HW2 HR2
            clear hto hE
            go_wp2_with fail
            refine ((unhide HPB) _).mono ?_
            rintro e w4 ⟨vc2, F, rfl, hto, hE, hb4⟩
            have HQ4 : Hid (Told w.heap.size w4 vc2 lr) := (unhide hto).mono hs3
            have HF4 : Hid (ErrIs w4 F 2) := hE
            have hg4 : Hid (Laid w4) := (unhide hg3).below hb4 (unhide hg3).pos
            have HW4 : Hid (Told w.heap.size w4 (.slice none 0 0) lw) := (unhide HW3).below hb4
            have HR4 : Hid (Told w.heap.size w4 (.slice none 0 0) lr) := (unhide HR3).below hb4
            have HP4 : Hid (Told w.heap.size w4 vb lw) := (unhide HP3).below hb4
            have HE4 : Hid (ErrIs w4 E c) := (unhide HE3).below hb4
            have HB4 : Hid (Below w.heap.size w w4) := (unhide HB3).trans (hb4.mono hs3)
            have hs4 : w.heap.size ≤ w4.heap.size := (unhide HB4).size
            clear hb4 HB3 hs3 hg3 HW3 HR3 HP3 HE3
            clear hto hE
            go_wp2_with fail
            refine ((unhide HCK) _).mono ?_
            rintro e w5 ⟨G, rfl, hE, hb5⟩
            have HG25 : Hid (ErrIs w5 G c) := hE
            have hg5 : Hid (Laid w5) := (unhide hg4).below hb5 (unhide hg4).pos
            have HW5 : Hid (Told w.heap.size w5 (.slice none 0 0) lw) := (unhide HW4).below hb5
            have HR5 : Hid (Told w.heap.size w5 (.slice none 0 0) lr) := (unhide HR4).below hb5
            have HP5 : Hid (Told w.heap.size w5 vb lw) := (unhide HP4).below hb5
            have HE5 : Hid (ErrIs w5 E c) := (unhide HE4).below hb5
            have HQ5 : Hid (Told w.heap.size w5 vc2 lr) := (unhide HQ4).below hb5
            have HF5 : Hid (ErrIs w5 F 2) := (unhide HF4).below hb5
            have HB5 : Hid (Below w.heap.size w w5) := (unhide HB4).trans (hb5.mono hs4)
            have hs5 : w.heap.size ≤ w5.heap.size := (unhide HB5).size
            clear hb5 HB4 hs4 hg4 HW4 HR4 HP4 HE4 HQ4 HF4
            clear hE
            go_wp2_with fail
            refine (numl_any _ c _ (unhide hg5) (unhide HG25)).mono ?_
            rintro e w6 ⟨rfl, hb6⟩
            have hg6 : Hid (Laid w6) := (unhide hg5).below hb6 (unhide hg5).pos
            have HW6 : Hid (Told w.heap.size w6 (.slice none 0 0) lw) := (unhide HW5).below hb6
            have HR6 : Hid (Told w.heap.size w6 (.slice none 0 0) lr) := (unhide HR5).below hb6
            have HP6 : Hid (Told w.heap.size w6 vb lw) := (unhide HP5).below hb6
            have HE6 : Hid (ErrIs w6 E c) := (unhide HE5).below hb6
            have HQ6 : Hid (Told w.heap.size w6 vc2 lr) := (unhide HQ5).below hb6
            have HF6 : Hid (ErrIs w6 F 2) := (unhide HF5).below hb6
            have HG26 : Hid (ErrIs w6 G c) := (unhide HG25).below hb6
            have HB6 : Hid (Below w.heap.size w w6) := (unhide HB5).trans (hb6.mono hs5)
            have hs6 : w.heap.size ≤ w6.heap.size := (unhide HB6).size
            clear hb6 HB5 hs5 hg5 HW5 HR5 HP5 HE5 HQ5 HF5 HG25
            clear HG26
            go_wp2_with fail
            refine (numl_any _ c _ (unhide hg6) (unhide HE6)).mono ?_
            rintro e w7 ⟨rfl, hb7⟩
            have hg7 : Hid (Laid w7) := (unhide hg6).below hb7 (unhide hg6).pos
            have HW7 : Hid (Told w.heap.size w7 (.slice none 0 0) lw) := (unhide HW6).below hb7
            have HR7 : Hid (Told w.heap.size w7 (.slice none 0 0) lr) := (unhide HR6).below hb7
            have HP7 : Hid (Told w.heap.size w7 vb lw) := (unhide HP6).below hb7
            have HE7 : Hid (ErrIs w7 E c) := (unhide HE6).below hb7
            have HQ7 : Hid (Told w.heap.size w7 vc2 lr) := (unhide HQ6).below hb7
            have HF7 : Hid (ErrIs w7 F 2) := (unhide HF6).below hb7
            have HB7 : Hid (Below w.heap.size w w7) := (unhide HB6).trans (hb7.mono hs6)
            have hs7 : w.heap.size ≤ w7.heap.size := (unhide HB7).size
            clear hb7 HB6 hs6 hg6 HW6 HR6 HP6 HE6 HQ6 HF6
            clear HE7
            go_wp2_with fail
            refine (eq_use _ _ lw _ (unhide HP7).byt (unhide HW7).byt).mono ?_
            rintro e w8 ⟨rfl, hb8⟩
            have hg8 : Hid (Laid w8) := (unhide hg7).below hb8 (unhide hg7).pos
            have HW8 : Hid (Told w.heap.size w8 (.slice none 0 0) lw) := (unhide HW7).below hb8
            have HR8 : Hid (Told w.heap.size w8 (.slice none 0 0) lr) := (unhide HR7).below hb8
            have HP8 : Hid (Told w.heap.size w8 vb lw) := (unhide HP7).below hb8
            have HQ8 : Hid (Told w.heap.size w8 vc2 lr) := (unhide HQ7).below hb8
            have HF8 : Hid (ErrIs w8 F 2) := (unhide HF7).below hb8
            have HB8 : Hid (Below w.heap.size w w8) := (unhide HB7).trans (hb8.mono hs7)
            have hs8 : w.heap.size ≤ w8.heap.size := (unhide HB8).size
            clear hb8 HB7 hs7 hg7 HW7 HR7 HP7 HQ7 HF7
            clear HW8
            go_wp2_with fail
            refine (numl_any _ 2 _ (unhide hg8) (unhide HF8)).mono ?_
            rintro e w9 ⟨rfl, hb9⟩
            have hg9 : Hid (Laid w9) := (unhide hg8).below hb9 (unhide hg8).pos
            have HR9 : Hid (Told w.heap.size w9 (.slice none 0 0) lr) := (unhide HR8).below hb9
            have HP9 : Hid (Told w.heap.size w9 vb lw) := (unhide HP8).below hb9
            have HQ9 : Hid (Told w.heap.size w9 vc2 lr) := (unhide HQ8).below hb9
            have HF9 : Hid (ErrIs w9 F 2) := (unhide HF8).below hb9
            have HB9 : Hid (Below w.heap.size w w9) := (unhide HB8).trans (hb9.mono hs8)
            have hs9 : w.heap.size ≤ w9.heap.size := (unhide HB9).size
            clear hb9 HB8 hs8 hg8 HR8 HP8 HQ8 HF8
            clear HF9
            go_wp2_with fail
            refine (eq_use _ _ lr _ (unhide HQ9).byt (unhide HR9).byt).mono ?_
            rintro e w10 ⟨rfl, hb10⟩
            have hg10 : Hid (Laid w10) := (unhide hg9).below hb10 (unhide hg9).pos
            have HR10 : Hid (Told w.heap.size w10 (.slice none 0 0) lr) := (unhide HR9).below hb10
            have HP10 : Hid (Told w.heap.size w10 vb lw) := (unhide HP9).below hb10
            have HQ10 : Hid (Told w.heap.size w10 vc2 lr) := (unhide HQ9).below hb10
            have HB10 : Hid (Below w.heap.size w w10) := (unhide HB9).trans (hb10.mono hs9)
            have hs10 : w.heap.size ≤ w10.heap.size := (unhide HB10).size
            clear hb10 HB9 hs9 hg9 HR9 HP9 HQ9
            clear HR10
            go_wp2_with fail
            refine (bytes_told w.heap.size vb lw _ hs10 (unhide HP10)).mono ?_
            rintro e w11 ⟨rfl, hb11⟩
            have HBz : Hid (Below w.heap.size w w11) := (unhide HB10).trans hb11
            clear hb11 HB10 hs10 hg10 HP10 HQ10
            go_wp2
            go_roundw
            case rel => exact ⟨k + 1, by omega, by omega, by go_num, unhide HBz⟩
            case measure => simp [intOf]; omega
    · have hBel := hide hbel
      have hsz := hbel.size
      clear hbel
      by_cases hlt1 : k < len
      · obtain rfl : k = 20 := by omega
        go_wp2_with fail
        refine (wakes_any _).mono ?_
        rintro e w2 ⟨rfl, hb2⟩
        go_wp2
        go_ret
        exact ⟨rfl, (unhide hBel).trans (hb2.mono hsz)⟩
      · go_wp2_with fail
        refine (wakes_any _).mono ?_
        rintro e w2 ⟨rfl, hb2⟩
        go_wp2
        go_ret
        exact ⟨rfl, (unhide hBel).trans (hb2.mono hsz)⟩

theorem puts_walk0 (ao : Option Addr) (cap : Nat) (w : World) :
    Calls Tryd.prog 3 #[.slice ao 0 cap] w fun e w' => e = .returned (.bool true) ∧ Below w.heap.size w w' := by
  go_enter Tryd.func3, Tryd.ntmps3
  go_wp2
  refine wp_loop_rounds 1 ?_
  rw [rounds_succ]
  go_wp2_with fail
  refine (wakes_any _).mono ?_
  rintro e w2 ⟨rfl, hb2⟩
  go_wp2
  go_ret
  exact ⟨rfl, hb2⟩
end Go.Proofs.YtckdmknmhjdicaaDoor
