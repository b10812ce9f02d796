/- Proved here: the walk of dovecotelaw9.SumParts: at any asks it returns true. -/
import Derived.Test.YtlomlhnmkhngjaaZCLaw
import Derived.Test.YtlomlhnmkhngjaaZKTk
import Derived.Deep.RegionHeld3
import Derived.Laws.ShiftsVarLaws
namespace Go.Proofs.Ytlomlhnmkhngjaa.C
open Go.RowKit
set_option maxRecDepth 100000

theorem within_succ (i : Int) (m : Nat) (w : World) (hm : m ≤ 3000) : Calls Try.prog 10 #[.int .i64 i, .int .i64 ((m : Int) + 1)] w fun e w' => e = .returned (.int .i64 ((wth i (m + 1) : Nat) : Int)) ∧ w' = w := by
  have h := within_any i (m + 1) w (by omega) (by omega)
  rwa [show ((m + 1 : Nat) : Int) = (m : Int) + 1 from by omega] at h
theorem Nbs.nil (w : World) : Nbs w (.slice none 0 0) [] := ⟨none, 0, rfl, ⟨by simp, by simp⟩, by intro j; simp, .inl rfl⟩
theorem Nbs.take {w : World} {b off cap : Nat} {l : List Nat} (h : Nbs w (.slice (some ⟨b, off, none⟩) l.length cap) l) (p : Nat) (hp : p ≤ l.length) : Nbs w (.slice (some ⟨b, off, none⟩) p cap) (l.take p) := by
  obtain ⟨ao, cp, e, ⟨h1, h2⟩, hr, hc⟩ := h
  simp only [Value.slice.injEq, true_and] at e
  obtain ⟨rfl, rfl⟩ := e
  have hl : (l.take p).length = p := by rw [List.length_take]; omega
  refine ⟨_, cap, by rw [hl], ⟨by omega, h2⟩, fun x hx => hr x (List.mem_of_mem_take hx), ?_⟩
  rcases hc with rfl | ⟨b', off', e, hc⟩
  · exact .inl (by simp)
  · simp only [Option.some.injEq, Addr.mk.injEq, and_true] at e
    obtain ⟨rfl, rfl⟩ := e
    refine .inr ⟨b, off, rfl, fun j hj => ?_⟩
    rw [hl] at hj
    rw [hc j (by omega), List.getD_eq_getElem?_getD, List.getD_eq_getElem?_getD, List.getElem?_take, if_pos hj]
theorem Nbs.drop' {w : World} {b off cap : Nat} {l : List Nat} (h : Nbs w (.slice (some ⟨b, off, none⟩) l.length cap) l) (p : Nat) (hp : p ≤ l.length) : Nbs w (.slice (if cap = p then some ⟨b, off, none⟩ else some ⟨b, off + p, none⟩) (l.length - p) (cap - p)) (l.drop p) := by
  obtain ⟨ao, cp, e, ⟨h1, h2⟩, hr, hc⟩ := h
  simp only [Value.slice.injEq, true_and] at e
  obtain ⟨rfl, rfl⟩ := e
  have hl : (l.drop p).length = l.length - p := List.length_drop
  refine ⟨_, cap - p, by rw [hl], ⟨by omega, by omega⟩, fun x hx => hr x (List.mem_of_mem_drop hx), ?_⟩
  by_cases hpl : p = l.length
  · exact .inl (List.drop_of_length_le (by omega))
  rcases hc with rfl | ⟨b', off', e, hc⟩
  · exact .inl (by simp)
  · simp only [Option.some.injEq, Addr.mk.injEq, and_true] at e
    obtain ⟨rfl, rfl⟩ := e
    rw [if_neg (by omega)]
    refine .inr ⟨b, off + p, rfl, fun j hj => ?_⟩
    rw [hl] at hj
    rw [Nat.add_assoc, hc (p + j) (by omega), List.getD_eq_getElem?_getD, List.getD_eq_getElem?_getD, List.getElem?_drop]
theorem wrap_pow (q : Nat) (h : q < 8) : IntKind.u8.wrap (2 ^ q) = ((2 ^ q : Nat) : Int) := by
  have : q = 0 ∨ q = 1 ∨ q = 2 ∨ q = 3 ∨ q = 4 ∨ q = 5 ∨ q = 6 ∨ q = 7 := by omega
  rcases this with rfl | rfl | rfl | rfl | rfl | rfl | rfl | rfl <;> decide
theorem pow_lt (q : Nat) (h : q < 8) : 2 ^ q < 256 := Nat.pow_lt_pow_right (a := 2) (by decide) h
theorem turn_val (x q : Nat) (hx : x < 256) (hq : q < 8) : bits .xor .u8 (x : Int) (IntKind.u8.wrap (2 ^ q)) = ((x ^^^ 2 ^ q : Nat) : Int) := by
  rw [wrap_pow q hq, u8_xor_nat x (2 ^ q) hx (pow_lt q hq)]
theorem turn_lt (x q : Nat) (hx : x < 256) (hq : q < 8) : x ^^^ 2 ^ q < 256 := Nat.xor_lt_two_pow (n := 8) hx (pow_lt q hq)
theorem crc_set {s Q y : Nat} {l : List Nat} (hs : s < 4294967296) (hl : ∀ x ∈ l, x < 256) (hQ : Q < l.length) (hy : y < 256) (hne : y ≠ l.getD Q 0) : crc s (l.set Q y) ≠ crc s l := by
  have e1 : l.set Q y = l.take Q ++ y :: l.drop (Q + 1) := by rw [List.set_eq_take_append_cons_drop, if_pos hQ]
  have e2 : l = l.take Q ++ l[Q] :: l.drop (Q + 1) := by rw [← List.drop_eq_getElem_cons hQ, List.take_append_drop]
  rw [List.getD_eq_getElem?_getD, List.getElem?_eq_getElem hQ] at hne
  have h := crc_diff (s := s) (x := y) (y := l[Q]) (l := l.take Q) (m := l.drop (Q + 1)) hs (fun z hz => hl z (List.mem_of_mem_take hz)) (fun z hz => hl z (List.mem_of_mem_drop hz)) hy (hl _ (List.getElem_mem hQ)) hne
  rw [← e1, ← e2] at h
  exact h
theorem Nbs.set {w : World} {g cc Q y : Nat} {l : List Nat} (h : Nbs w (.slice (some ⟨g, 0, none⟩) l.length cc) l) (hQ : Q < l.length) (hy : y < 256) : Nbs (w.setCell ⟨g, Q, none⟩ (.int .u8 (y : Int))).drew (.slice (some ⟨g, 0, none⟩) l.length cc) (l.set Q y) := by
  obtain ⟨ao, cp, e, hcp, hr, hc⟩ := h
  simp only [Value.slice.injEq, true_and] at e
  obtain ⟨rfl, rfl⟩ := e
  have hl : (l.set Q y).length = l.length := List.length_set
  refine ⟨_, cc, by rw [hl], by rw [hl]; exact hcp, fun x hx => ?_, ?_⟩
  · rcases List.mem_or_eq_of_mem_set hx with hx | rfl
    · exact hr x hx
    · exact hy
  rcases hc with rfl | ⟨b', off', e, hc⟩
  · simp at hQ
  simp only [Option.some.injEq, Addr.mk.injEq, and_true] at e
  obtain ⟨rfl, rfl⟩ := e
  refine .inr ⟨g, 0, rfl, fun j hj => ?_⟩
  rw [hl] at hj
  have hcj := hc j hj
  rw [Nat.zero_add] at hcj ⊢
  show (w.setCell ⟨g, Q, none⟩ (.int .u8 (y : Int))).cell? ⟨g, j, none⟩ = _
  by_cases e : Q = j
  · subst e
    rw [World.cell?_setCell_same' w ⟨g, Q, none⟩ _ (by rw [hcj]; rfl), List.getD_eq_getElem?_getD, List.getElem?_set_self hQ]
    rfl
  · rw [World.cell?_setCell_other _ _ _ _ (by simp), hcj, List.getD_eq_getElem?_getD, List.getD_eq_getElem?_getD, List.getElem?_set_ne e]
set_option maxHeartbeats 8000000 in
theorem parts9_walk (b off len cap : Nat) (aks : Nat → Ak) (w : World) (hlen : len ≤ maxLen) (hk : AsksIn w b off aks len) : Calls Try.prog 4 #[.slice (some ⟨b, off, none⟩) len cap] w fun e w' => e = .returned (.bool true) ∧ Below w.heap.size w w' := by
  have HA := hide hk
  clear hk
  go_enter Try.func4, Try.ntmps4
  go_wp2
  go_loopw [3] (fun i wr => ∃ k : Nat, k ≤ len ∧ k ≤ 20 ∧ i = .int .i64 k ∧ Hid (Below w.heap.size w wr)) (fun i _ => 20 - (intOf i).toNat)
  case atStart => exact ⟨0, Nat.zero_le _, by omega, rfl, Below.refl _ _⟩
  case round =>
    obtain ⟨k, hk, hk6, rfl, HBEL⟩ := hrel
    by_cases hlt : k < len ∧ k < 20
    · obtain ⟨hlt, hlt6⟩ := hlt
      obtain ⟨bo, bc, hc, hl, hs, hll⟩ := ((unhide HA) k hlt).below (unhide HBEL)
      generalize aks k = ak at hc hl hs hll
      obtain ⟨s, l, n⟩ := ak
      dsimp only at hc hl hs hll
      have HL := hide hl
      have HCC := hide hc
      obtain ⟨c0, c1, c2⟩ := hc
      clear hl
      by_cases h3 : 3000 < l.length
      · go_wp2
        go_roundw
        case rel => exact ⟨k + 1, by omega, by omega, by go_num, HBEL⟩
        case measure => simp [intOf] <;> omega
      by_cases h4 : l.length = 0
      · go_wp2
        go_roundw
        case rel => exact ⟨k + 1, by omega, by omega, by go_num, HBEL⟩
        case measure => simp [intOf] <;> omega
      obtain ⟨B, O, rfl, hcap, hr⟩ : ∃ B O, bo = some ⟨B, O, none⟩ ∧ l.length ≤ bc ∧ ∀ x ∈ l, x < 256 := by
        obtain ⟨ao, cp, e, hcp, hr, hc⟩ := unhide HL
        simp only [Value.slice.injEq, true_and] at e
        obtain ⟨rfl, rfl⟩ := e
        rcases hc with rfl | ⟨B, O, rfl, _⟩
        · exact absurd rfl h4
        · exact ⟨B, O, rfl, hcp.1, hr⟩
      have hcr : crc (crc s (l.take (wth n (l.length + 1)))) (l.drop (wth n (l.length + 1))) = crc s l := by rw [crc_app, List.take_append_drop]
      have hcl : crc s (l.take (wth n (l.length + 1))) < 4294967296 := crc_lt hs fun x hx => hr x (List.mem_of_mem_take hx)
      have hbl : b < wr.heap.size := cell_lt c0
      have HK : Hid (∀ W : World, Below wr.heap.size wr W → W.cell? ⟨b, off + k * 3, none⟩ = some (.int .u32 (s : Int)) ∧ W.cell? ⟨b, off + k * 3 + 2, none⟩ = some (.int .i64 n)) := fun W hW => ⟨(hW.cell hbl).trans (unhide HCC).1, (hW.cell hbl).trans (unhide HCC).2.2⟩
      have HR := hide hr
      clear hr
      have h5 : ¬ ((l.length : Int) = 0) := by omega
      have h7 : ((l.length : Int) == 0) = false := beq_false_of_ne h5
      go_wp2_with fail
      refine (within_succ n l.length _ (by omega)).mono ?_
      rintro e w1 ⟨rfl, hw1⟩
      obtain rfl := hw1.symm
      clear hw1
      have hKp : wth n (l.length + 1) ≤ l.length := Nat.le_of_lt_succ (Nat.mod_lt _ (by omega))
      generalize wth n (l.length + 1) = Kp at hKp hcr hcl
      go_wp2_with fail
      obtain ⟨wo, hwo⟩ : ∃ wo, wo = wr := ⟨wr, rfl⟩
      subst hwo
      refine (sum_any s _ l _ hs (unhide HL) hll).mono ?_
      rintro e wr ⟨rfl, hw2⟩
      have HK := hide (show ∀ W : World, Below wr.heap.size wr W → W.cell? ⟨b, off + k * 3, none⟩ = some (.int .u32 (s : Int)) ∧ W.cell? ⟨b, off + k * 3 + 2, none⟩ = some (.int .i64 n) from fun W hW => (unhide HK) W (bnx hw2 hW))
      have HL := hide ((unhide HL).below hw2)
      have HBEL := hide (bnx (unhide HBEL) hw2)
      have c0 := (hw2.cell hbl).trans c0
      have c1 := (hw2.cell hbl).trans c1
      have c2 := (hw2.cell hbl).trans c2
      have hbl : b < wr.heap.size := Nat.lt_of_lt_of_le hbl hw2.size
      clear hw2
      go_wp2_with fail
      refine wp_region_noPanic ?_
      refine wp_region_held_drew (S := (fun w' => w'.cell? ⟨b, off + k * 3, none⟩ = some (.int .u32 (s : Int)))) (by kernel_rfl) ((unhide HK) _ (below_drewN (Below.refl _ _) 1)).1 (fun hHeld => ?_)
      refine rtk 0 (h := ?_)
      refine rtk 1 (h := ?_)
      refine rtk 2 (h := ?_)
      refine rtk 3 (h := ?_)
      refine rtk 4 (h := ?_)
      refine rtk 5 (h := ?_)
      refine rtk 6 (h := ?_)
      refine rtk 7 (h := ?_)
      refine rtk 9 (h := ?_)
      refine rtk 10 (h := ?_)
      refine rtk 11 (h := ?_)
      refine rtk 13 (h := ?_)
      refine rcl 8 (h := fun K hK => ?_)
      go_simp
      refine (sum_any s _ (l.take Kp) _ hs ((Nbs.take (unhide HL) Kp hKp).below (below_drewN (Below.refl _ _) 1)) (by rw [List.length_take]; omega)).mono ?_
      rintro e w3 ⟨rfl, hw3⟩
      have HB3 : Hid (Below wr.heap.size wr w3) := bnx (below_drewN (Below.refl _ _) 1) hw3
      clear hw3
      refine hK.out _ _ ((unhide HK) _ (unhide HB3)).1 (fun hHeld => ?_)
      clear hK K
      refine rcl 12 (h := fun K hK => ?_)
      go_simp
      refine (sum_any (crc s (l.take Kp)) _ (l.drop Kp) _ hcl ((Nbs.drop' (unhide HL) Kp hKp).below (unhide HB3)) (by rw [List.length_drop]; omega)).mono ?_
      rintro e w4 ⟨rfl, hw4⟩
      rw [hcr]
      have HB4 : Hid (Below wr.heap.size wr w4) := bnx (unhide HB3) hw4
      clear hw4
      refine hK.out _ _ ((unhide HK) _ (unhide HB4)).1 (fun hHeld => ?_)
      clear hK K
      refine rtk 14 (h := ?_)
      refine rtk 15 (h := ?_)
      refine rtk 16 (h := ?_)
      refine rtk 17 (h := ?_)
      refine rtk 18 (h := ?_)
      refine rtk 19 (h := ?_)
      refine rtk 20 (h := ?_)
      refine rtk 22 (h := ?_)
      refine rtk 23 (h := ?_)
      refine rtk 24 (h := ?_)
      refine rtk 25 (h := ?_)
      refine rtk 26 (h := ?_)
      refine rcl 21 (h := fun K hK => ?_)
      go_simp
      refine (sum_any s _ [] _ hs (Nbs.nil _) (by simp)).mono ?_
      rintro e w5 ⟨rfl, hw5⟩
      rw [crc_nil]
      have HB5 : Hid (Below wr.heap.size wr w5) := bnx (unhide HB4) hw5
      clear hw5
      refine hK.out _ _ ((unhide HK) _ (unhide HB5)).1 (fun hHeld => ?_)
      clear hK K
      refine rtk 27 (h := ?_)
      refine rtk 28 (h := ?_)
      refine wpAnyH_done (by kernel_rfl) ?_ _
      refine NoPanic.normal ?_
      generalize (if bc = Kp then (some ⟨B, O, none⟩ : Option Addr) else some ⟨B, O + Kp, none⟩) = vz
      go_wp2_with fail
      refine (copy_any _ l _ ((unhide HL).below (unhide HB5)) hll).mono ?_
      rintro e w6 ⟨v6, rfl, HO6, hb6⟩
      have HB6 := hide (bnx (unhide HB5) hb6)
      have HLC : Hid (Nbs w6 v6 l) := nbs_of_owns (unhide HO6) (unhide HR)
      obtain ⟨g, cc, rfl, hg5, hfz, hcc⟩ : ∃ g cc, v6 = .slice (some ⟨g, 0, none⟩) l.length cc ∧ w5.heap.size ≤ g ∧ (∀ j, w6.frozen? ⟨g, j, none⟩ = false) ∧ l.length ≤ cc := by
        rcases (unhide HO6).2 with ⟨_, h0⟩ | ⟨g, cc, cur, e, hg, hh, hcc, _⟩
        · exact absurd h0 h4
        · exact ⟨g, cc, e, hg, fun j => by simp [World.frozen?, hh], hcc⟩
      have hg6 : wr.heap.size ≤ g := Nat.le_trans (unhide HB5).size hg5
      have hN6 : w6.drew.cell? ⟨b, off + k * 3 + 2, none⟩ = some (.int .i64 n) := ((unhide HK) _ (bnx (unhide HB6) (below_drewN (Below.refl _ _) 1))).2
      have hcx : w6.drew.cell? ⟨g, wth n l.length, none⟩ = some (.int .u8 ((l.getD (wth n l.length) 0 : Nat) : Int)) := by
        obtain ⟨_, _, e, _, _, hc⟩ := (unhide HLC)
        simp only [Value.slice.injEq, true_and] at e
        obtain ⟨rfl, rfl⟩ := e
        rcases hc with rfl | ⟨g', o', e, hc⟩
        · exact absurd rfl h4
        · simp only [Option.some.injEq, Addr.mk.injEq, and_true] at e
          obtain ⟨rfl, rfl⟩ := e
          have := hc (wth n l.length) (Nat.mod_lt _ (by omega))
          rw [Nat.zero_add] at this
          exact this
      have hQ : wth n l.length < l.length := Nat.mod_lt _ (by omega)
      obtain ⟨x, hx⟩ : ∃ x, l.getD (wth n l.length) 0 = x := ⟨_, rfl⟩
      rw [hx] at hcx
      have HX := hide hx
      have hx6 : x < 256 := by
        rw [← hx, List.getD_eq_getElem?_getD, List.getElem?_eq_getElem hQ]
        exact (unhide HR) _ (List.getElem_mem hQ)
      clear hx
      have hq : wth n 8 < 8 := Nat.mod_lt _ (by omega)
      clear c0 c1 c2 hb6 hHeld
      go_wp2_with fail
      refine wp_region_noPanic ?_
      refine wp_region_held_drew (S := (fun w' => w'.cell? ⟨b, off + k * 3 + 2, none⟩ = some (.int .i64 n))) (by kernel_rfl) ((unhide HK) _ (bnx (unhide HB6) (below_drewN (Below.refl _ _) 1))).2 (fun hHeld => ?_)
      refine rtk 0 (h := ?_)
      refine rtk 1 (h := ?_)
      refine rtk 2 (h := ?_)
      refine rtk 3 (h := ?_)
      refine rtk 4 (h := ?_)
      refine rtk 5 (h := ?_)
      refine rtk 6 (h := ?_)
      refine rtk 7 (h := ?_)
      refine rtk 11 (h := ?_)
      refine rtk 12 (h := ?_)
      refine rtk 13 (h := ?_)
      refine rtk 14 (h := ?_)
      refine rtk 15 (h := ?_)
      refine rcl 8 (h := fun K hK => ?_)
      go_simp
      refine (within_any n l.length _ (by omega) (by omega)).mono ?_
      rintro e w7 ⟨rfl, hw7⟩
      obtain rfl := hw7
      generalize wth n l.length = Q at *
      refine hK.out _ _ hN6 (fun hHeld => ?_)
      clear hK K
      refine rtk 9 (h := ?_)
      refine wpAnyH_ready (rs := [10, 16]) (by kernel_rfl) (by simp) (rac (h := fun K hK => ?_) (hs := rac (h := fun K hK => ?_) (hs := AllReadyH.nil)))
      · go_simp
        refine hK.out _ _ hN6 (fun hHeld => ?_)
        clear hK K
        refine rcl 16 (h := fun K hK => ?_)
        go_simp
        refine (within_any n 8 _ (by omega) (by omega)).mono ?_
        rintro e w7 ⟨rfl, hw7⟩
        obtain rfl := hw7
        generalize wth n 8 = q at *
        refine hK.out _ _ hN6 (fun hHeld => ?_)
        clear hK K
        refine rtk 17 (h := ?_)
        refine rtk 18 (h := ?_)
        refine rtk 19 (h := ?_)
        refine rcl 20 (h := fun K hK => ?_)
        go_simp
        rw [turn_val x q hx6 hq]
        have h1 : x ^^^ 2 ^ q < 256 := turn_lt x q hx6 hq
        have h2 := turn_ne x q
        generalize x ^^^ 2 ^ q = y at h1 h2 ⊢
        have HB8 : Hid (Below wr.heap.size wr (w6.setCell ⟨g, Q, none⟩ (.int .u8 (y : Int))).drew) := below_drewN ((unhide HB6).setCell (p := ⟨g, Q, none⟩) hg6 (.int .u8 (y : Int))) 1
        have HN8 := hide (Nbs.set (unhide HLC) hQ h1)
        have HZ : Hid (crc s (l.set Q y) ≠ crc s l) := crc_set hs (unhide HR) hQ h1 (by rw [unhide HX]; exact h2)
        generalize (w6.setCell ⟨g, Q, none⟩ (.int .u8 (y : Int))).drew = w8 at HB8 HN8 ⊢
        have hS8 := ((unhide HK) w8 (unhide HB8)).1
        have hN8 := ((unhide HK) w8 (unhide HB8)).2
        refine hK.out _ _ hN8 (fun hHeld => ?_)
        clear hK K
        refine wpAnyH_done (by kernel_rfl) ?_ _
        refine NoPanic.normal ?_
        go_wp2_with fail
        refine (sum_any s _ (l.set Q y) _ hs (unhide HN8) (by rw [List.length_set]; exact hll)).mono ?_
        rintro e w9 ⟨rfl, hw9⟩
        have HB9 : Hid (Below wr.heap.size wr w9) := bnx (unhide HB8) hw9
        clear hw9
        have hz := unhide HZ
        generalize crc s (l.set Q y) = z at hz ⊢
        have hzi : ¬ (z : Int) = ((crc s l : Nat) : Int) := fun e => hz (by omega)
        have hzb : ((z : Int) == ((crc s l : Nat) : Int)) = false := beq_false_of_ne hzi
        go_wp2
        go_roundw
        case rel => exact ⟨k + 1, by omega, by omega, by go_num, hide (bnx (unhide HBEL) (unhide HB9))⟩
        case measure => simp [intOf] <;> omega
      · go_simp
        refine (within_any n 8 _ (by omega) (by omega)).mono ?_
        rintro e w7 ⟨rfl, hw7⟩
        obtain rfl := hw7
        generalize wth n 8 = q at *
        refine hK.out _ _ hN6 (fun hHeld => ?_)
        clear hK K
        refine rtk 17 (h := ?_)
        refine rcl 10 (h := fun K hK => ?_)
        go_simp
        refine hK.out _ _ hN6 (fun hHeld => ?_)
        clear hK K
        refine rtk 18 (h := ?_)
        refine rtk 19 (h := ?_)
        refine rcl 20 (h := fun K hK => ?_)
        go_simp
        rw [turn_val x q hx6 hq]
        have h1 : x ^^^ 2 ^ q < 256 := turn_lt x q hx6 hq
        have h2 := turn_ne x q
        generalize x ^^^ 2 ^ q = y at h1 h2 ⊢
        have HB8 : Hid (Below wr.heap.size wr (w6.setCell ⟨g, Q, none⟩ (.int .u8 (y : Int))).drew) := below_drewN ((unhide HB6).setCell (p := ⟨g, Q, none⟩) hg6 (.int .u8 (y : Int))) 1
        have HN8 := hide (Nbs.set (unhide HLC) hQ h1)
        have HZ : Hid (crc s (l.set Q y) ≠ crc s l) := crc_set hs (unhide HR) hQ h1 (by rw [unhide HX]; exact h2)
        generalize (w6.setCell ⟨g, Q, none⟩ (.int .u8 (y : Int))).drew = w8 at HB8 HN8 ⊢
        have hS8 := ((unhide HK) w8 (unhide HB8)).1
        have hN8 := ((unhide HK) w8 (unhide HB8)).2
        refine hK.out _ _ hN8 (fun hHeld => ?_)
        clear hK K
        refine wpAnyH_done (by kernel_rfl) ?_ _
        refine NoPanic.normal ?_
        go_wp2_with fail
        refine (sum_any s _ (l.set Q y) _ hs (unhide HN8) (by rw [List.length_set]; exact hll)).mono ?_
        rintro e w9 ⟨rfl, hw9⟩
        have HB9 : Hid (Below wr.heap.size wr w9) := bnx (unhide HB8) hw9
        clear hw9
        have hz := unhide HZ
        generalize crc s (l.set Q y) = z at hz ⊢
        have hzi : ¬ (z : Int) = ((crc s l : Nat) : Int) := fun e => hz (by omega)
        have hzb : ((z : Int) == ((crc s l : Nat) : Int)) = false := beq_false_of_ne hzi
        go_wp2
        go_roundw
        case rel => exact ⟨k + 1, by omega, by omega, by go_num, hide (bnx (unhide HBEL) (unhide HB9))⟩
        case measure => simp [intOf] <;> omega
    · by_cases h1 : k < len
      · obtain rfl : k = 20 := by omega
        go_wp2_with (go_at_call 9; refine (wakes9 _).mono ?_; rintro e w2 ⟨rfl, hb2⟩)
        go_ret
        exact ⟨rfl, bnx (unhide HBEL) hb2⟩
      · obtain rfl : k = len := by omega
        go_wp2_with (go_at_call 9; refine (wakes9 _).mono ?_; rintro e w2 ⟨rfl, hb2⟩)
        go_ret
        exact ⟨rfl, bnx (unhide HBEL) hb2⟩
theorem parts9_walk0 (ao : Option Addr) (cap : Nat) (w : World) : Calls Try.prog 4 #[.slice ao 0 cap] w fun e w' => e = .returned (.bool true) ∧ Below w.heap.size w w' := by
  go_enter Try.func4, Try.ntmps4
  go_wp2
  go_loop [3] (fun i => i = .int .i64 0) (fun _ => 0)
  case atStart => rfl
  case round =>
    subst hrel
    go_wp2_with (go_at_call 9; refine (wakes9 _).mono ?_; rintro e w2 ⟨rfl, hb2⟩)
    go_ret
    exact ⟨rfl, hb2⟩
end Go.Proofs.Ytlomlhnmkhngjaa.C
