/- Proved here: quorum.Change, the page's Change. Helper contracts. -/
import Derived.Test.YtnflgfpicigajaaDoorZUEn
namespace Go.Proofs.YtnflgfpicigajaaDoor.Qu
open Go.RowKit Nt
set_option maxRecDepth 100000

theorem chg_apt (a b : List Int) : chgB a b = (decide (b ≠ []) && aptB a b) := rfl
set_option maxHeartbeats 4000000 in
theorem rchg_any (a1 a2 : Option Addr) (n1 c1 n2 c2 : Nat) (l1 l2 : List Int) (w : World) (h1 : Ls w a1 n1 c1 l1) (h2 : Ls w a2 n2 c2 l2) :
    Calls Tryd.prog 17 #[.slice a1 n1 c1, .slice a2 n2 c2] w fun e w' => e = .returned (.bool (chgB l1 l2)) ∧ w' = w := by
  have H1 := hide h1
  have H2 := hide h2
  have HC1 := hide (fun x => in_any a1 n1 c1 l1 x w h1)
  have HC2 := hide (fun x => in_any a2 n2 c2 l2 x w h2)
  have hx1 := h1.2.2.2.1
  have hx2 := h2.2.2.2.1
  have HL1 := hide h1.1
  have HL2 := hide h2.1
  obtain ⟨d, hd⟩ : ∃ d, d = chgB l1 l2 := ⟨_, rfl⟩
  have HD := hide hd
  rw [← hd]
  clear hd h1 h2
  have HE : Hid (∀ n, n = n2 → (decide (l2 ≠ []) = decide (0 < n))) := fun n hn => by
    rw [hn, ← unhide HL2]
    apply decide_eq_decide.2
    rw [List.length_pos_iff]
  by_cases e0 : n2 = 0
  · subst e0
    have HF : Hid (false = d) := by
      show _ = _
      rw [unhide HD, chg_apt, unhide HE 0 rfl]; rfl
    clear HE
    go_enter Tryd.func17, Tryd.ntmps17
    go_wp2
    go_ret
    exact ⟨ret_bool (unhide HF), rfl⟩
  · have HP : Hid (d = aptB l1 l2) := by
      show _ = _
      rw [unhide HD, chg_apt, unhide HE n2 rfl, decide_eq_true (Nat.pos_of_ne_zero e0), Bool.true_and]
    have hz : ((n2 : Int) == 0) = false := beq_eq_false_iff_ne.2 (by omega)
    clear HE HD
    by_cases e1 : n2 < n1
    · have hgt : (n2 : Int) < (n1 : Int) := by omega
      have hw1 : IntKind.i64.wrap ((n2 : Int) + 1) = (n2 : Int) + 1 := by rw [IntKind.wrap_i64]; omega
      by_cases e2 : n1 = n2 + 1
      · have HDA : Hid (d = allIn l2 l1) := by
          show _ = _
          rw [unhide HP]
          unfold aptB
          rw [unhide HL1, unhide HL2, decide_eq_false (by omega), decide_eq_true e2]
          simp
        have hne : ((n1 : Int) == (n2 : Int) + 1) = true := beq_iff_eq.2 (by omega)
        have hne2 : ((n1 : Int) != (n2 : Int) + 1) = false := by unfold bne; rw [hne]; rfl
        clear HP e1 e2
        go_enter Tryd.func17, Tryd.ntmps17
        go_wp2
        go_loopw [5] (fun i wr => ∃ k : Nat, k ≤ n2 ∧ i = .int .i64 k ∧ wr = w ∧ Hid (∀ j, j < k → l2.getD j 0 ∈ l1)) (fun i _ => n2 - (intOf i).toNat)
        case atStart => exact ⟨0, Nat.zero_le _, rfl, rfl, fun j hj => absurd hj (Nat.not_lt_zero j)⟩
        case round =>
          obtain ⟨k, hk, rfl, rfl, HN⟩ := hrel
          by_cases hlt : k < n2
          · obtain ⟨b, off, rfl, hc⟩ := (unhide H2).at hlt
            have HM : Hid (l2.getD k 0 ∈ l2) := mem_getD (by rw [unhide HL2]; exact hlt)
            have HS := hide (fun (h2 : l2.getD k 0 ∈ l1) => upto_snoc (p := fun x => x ∈ l1) (unhide HN) h2)
            generalize l2.getD k 0 = y at hc HM HS
            have HCy := hide (unhide HC1 y)
            go_wp2_with fail
            refine (unhide HCy).mono ?_
            rintro e w2 ⟨⟨z, rfl, HZ⟩, hw⟩
            obtain rfl := hw.symm
            rcases unhide HZ with ⟨h1, h2, _⟩ | ⟨h1, rfl⟩
            · have HS2 := hide (unhide HS h1)
              have h3 : ¬ z < 0 := by omega
              clear HM HS h1 HZ h2
              go_wp2
              go_roundw
              case rel => exact ⟨k + 1, by omega, by go_num, by first | rfl | trivial, HS2⟩
              case measure => simp [intOf]; omega
            · have HF : Hid (false = d) := by
                show _ = _
                rw [unhide HDA]
                symm
                unfold allIn
                rw [List.all_eq_false]
                exact ⟨y, unhide HM, by simpa using h1⟩
              clear HM HS h1 HZ
              go_wp2
              go_ret
              exact ⟨ret_bool (unhide HF), rfl⟩
          · obtain rfl : k = n2 := by omega
            have HT : Hid (true = d) := by
              show _ = _
              rw [unhide HDA]
              unfold allIn
              symm
              rw [List.all_eq_true]
              intro x hx
              simpa using upto_all (p := fun x => x ∈ l1) (fun j hj => unhide HN j (by rw [← unhide HL2]; exact hj)) x hx
            go_wp2
            go_ret
            exact ⟨ret_bool (unhide HT), rfl⟩
      · have HF : Hid (false = d) := by
          show _ = _
          rw [unhide HP]
          unfold aptB
          rw [unhide HL1, unhide HL2, decide_eq_false (by omega), decide_eq_false e2]
          rfl
        have hne : ((n1 : Int) == (n2 : Int) + 1) = false := beq_eq_false_iff_ne.2 (by omega)
        have hne2 : ((n1 : Int) != (n2 : Int) + 1) = true := by unfold bne; rw [hne]; rfl
        clear HP e1 e2
        go_enter Tryd.func17, Tryd.ntmps17
        go_wp2
        go_ret
        exact ⟨ret_bool (unhide HF), rfl⟩
    · have hgt : ¬ (n2 : Int) < (n1 : Int) := by omega
      have hw1 : IntKind.i64.wrap ((n1 : Int) + 1) = (n1 : Int) + 1 := by rw [IntKind.wrap_i64]; omega
      by_cases e2 : n2 = n1 + 1
      · have HDA : Hid (d = allIn l1 l2) := by
          show _ = _
          rw [unhide HP]
          unfold aptB
          rw [unhide HL1, unhide HL2, decide_eq_true e2, decide_eq_false (by omega)]
          simp
        have hne : ((n2 : Int) == (n1 : Int) + 1) = true := beq_iff_eq.2 (by omega)
        have hne2 : ((n2 : Int) != (n1 : Int) + 1) = false := by unfold bne; rw [hne]; rfl
        clear HP e1 e2
        go_enter Tryd.func17, Tryd.ntmps17
        go_wp2
        go_loopw [5] (fun i wr => ∃ k : Nat, k ≤ n1 ∧ i = .int .i64 k ∧ wr = w ∧ Hid (∀ j, j < k → l1.getD j 0 ∈ l2)) (fun i _ => n1 - (intOf i).toNat)
        case atStart => exact ⟨0, Nat.zero_le _, rfl, rfl, fun j hj => absurd hj (Nat.not_lt_zero j)⟩
        case round =>
          obtain ⟨k, hk, rfl, rfl, HN⟩ := hrel
          by_cases hlt : k < n1
          · obtain ⟨b, off, rfl, hc⟩ := (unhide H1).at hlt
            have HM : Hid (l1.getD k 0 ∈ l1) := mem_getD (by rw [unhide HL1]; exact hlt)
            have HS := hide (fun (h2 : l1.getD k 0 ∈ l2) => upto_snoc (p := fun x => x ∈ l2) (unhide HN) h2)
            generalize l1.getD k 0 = y at hc HM HS
            have HCy := hide (unhide HC2 y)
            go_wp2_with fail
            refine (unhide HCy).mono ?_
            rintro e w2 ⟨⟨z, rfl, HZ⟩, hw⟩
            obtain rfl := hw.symm
            rcases unhide HZ with ⟨h1, h2, _⟩ | ⟨h1, rfl⟩
            · have HS2 := hide (unhide HS h1)
              have h3 : ¬ z < 0 := by omega
              clear HM HS h1 HZ h2
              go_wp2
              go_roundw
              case rel => exact ⟨k + 1, by omega, by go_num, by first | rfl | trivial, HS2⟩
              case measure => simp [intOf]; omega
            · have HF : Hid (false = d) := by
                show _ = _
                rw [unhide HDA]
                symm
                unfold allIn
                rw [List.all_eq_false]
                exact ⟨y, unhide HM, by simpa using h1⟩
              clear HM HS h1 HZ
              go_wp2
              go_ret
              exact ⟨ret_bool (unhide HF), rfl⟩
          · obtain rfl : k = n1 := by omega
            have HT : Hid (true = d) := by
              show _ = _
              rw [unhide HDA]
              unfold allIn
              symm
              rw [List.all_eq_true]
              intro x hx
              simpa using upto_all (p := fun x => x ∈ l2) (fun j hj => unhide HN j (by rw [← unhide HL1]; exact hj)) x hx
            go_wp2
            go_ret
            exact ⟨ret_bool (unhide HT), rfl⟩
      · have HF : Hid (false = d) := by
          show _ = _
          rw [unhide HP]
          unfold aptB
          rw [unhide HL1, unhide HL2, decide_eq_false e2, decide_eq_false (by omega)]
          rfl
        have hne : ((n2 : Int) == (n1 : Int) + 1) = false := beq_eq_false_iff_ne.2 (by omega)
        have hne2 : ((n2 : Int) != (n1 : Int) + 1) = true := by unfold bne; rw [hne]; rfl
        clear HP e1 e2
        go_enter Tryd.func17, Tryd.ntmps17
        go_wp2
        go_ret
        exact ⟨ret_bool (unhide HF), rfl⟩
/-- what Change answers -/
def ChgR (a b : List Int) (e : Ending) (w w' : World) : Prop := (Mem a ∧ Mem b ∧ e = .returned (.tuple #[.bool (chgB a b), .nilIface]) ∧ Below w.heap.size w w') ∨ (¬ (Mem a ∧ Mem b) ∧ ∃ x, e = .returned (.tuple #[.bool false, .iface 62 x]) ∧ ErB w' (.iface 62 x) 1 ∧ Below w.heap.size w w')
set_option maxHeartbeats 4000000 in
theorem chg_any (a1 a2 : Option Addr) (n1 c1 n2 c2 : Nat) (l1 l2 : List Int) (w : World) (h1 : Ls w a1 n1 c1 l1) (h2 : Ls w a2 n2 c2 l2) :
    Calls Tryd.prog 16 #[.slice a1 n1 c1, .slice a2 n2 c2] w fun e w' => ChgR l1 l2 e w w' := by
  have HB0 : Hid (Below w.heap.size w (w.alloc (.cells #[.slice a1 n1 c1, .slice a2 n2 c2] 23))) := (Below.refl _ _).alloc (Nat.le_refl _) _
  have hc0 : (w.alloc (.cells #[.slice a1 n1 c1, .slice a2 n2 c2] 23)).cell? ⟨w.heap.size, 0, none⟩ = some (.slice a1 n1 c1) := by simp
  have hc1 : (w.alloc (.cells #[.slice a1 n1 c1, .slice a2 n2 c2] 23)).cell? ⟨w.heap.size, 1, none⟩ = some (.slice a2 n2 c2) := by simp
  have HK1 := hide (chk_any a1 n1 c1 l1 _ (h1.below (unhide HB0)))
  have HK2 := hide (chk_any a2 n2 c2 l2 _ (h2.below (unhide HB0)))
  have HA := hide (apart_any a1 a2 n1 c1 n2 c2 l1 l2 _ (h1.below (unhide HB0)) (h2.below (unhide HB0)))
  have hx2 := h2.2.2.2.1
  have HL2 := hide h2.1
  obtain ⟨d, hd⟩ : ∃ d, d = chgB l1 l2 := ⟨_, rfl⟩
  have HD := hide hd
  clear h1 h2
  have HE : Hid (∀ n, n = n2 → (decide (l2 ≠ []) = decide (0 < n))) := fun n hn => by
    rw [hn, ← unhide HL2]
    apply decide_eq_decide.2
    rw [List.length_pos_iff]
  have hal : ∀ W, W = w.alloc (.cells #[.slice a1 n1 c1, .slice a2 n2 c2] 23) → True := fun _ _ => trivial
  clear hal hd
  go_enter Tryd.func16, Tryd.ntmps16
  go_wp2
  generalize w.alloc (.cells #[.slice a1 n1 c1, .slice a2 n2 c2] 23) = w0 at HB0 hc0 hc1 HK1 HK2 HA ⊢
  go_loopw [13] (fun i wr => ∃ k : Nat, k ≤ 2 ∧ i = .int .i64 k ∧ wr = w0 ∧ Hid (1 ≤ k → Mem l1) ∧ Hid (2 ≤ k → Mem l2)) (fun i _ => 2 - (intOf i).toNat)
  case atStart => exact ⟨0, Nat.zero_le _, rfl, rfl, fun h => absurd h (by omega), fun h => absurd h (by omega)⟩
  case round =>
    obtain ⟨k, hk, rfl, rfl, HM1, HM2⟩ := hrel
    match k, hk, HM1, HM2 with
    | 0, hk, HM1, HM2 =>
      clear hk HM1 HM2
      go_wp2_with fail
      refine (unhide HK1).mono ?_
      rintro e w2 hr
      rcases hr with ⟨hM, rfl, hw⟩ | ⟨hM, x, rfl, hE, hb⟩
      · obtain rfl := hw.symm
        have HM := hide hM
        clear hM
        go_wp2
        go_roundw
        case rel => exact ⟨1, by omega, by go_num, by first | rfl | trivial, fun _ => unhide HM, fun h => absurd h (by omega)⟩
        case measure => simp [intOf]
      · have HM := hide hM
        have HE1 := hide hE
        have HB2 := hide (bnx (unhide HB0) hb)
        clear hM hE hb
        go_wp2
        go_returns
        exact .inr ⟨fun h => unhide HM h.1, _, rfl, unhide HE1, unhide HB2⟩
    | 1, hk, HM1, HM2 =>
      clear hk HM2
      go_wp2_with fail
      refine (unhide HK2).mono ?_
      rintro e w2 hr
      rcases hr with ⟨hM, rfl, hw⟩ | ⟨hM, x, rfl, hE, hb⟩
      · obtain rfl := hw.symm
        have HM := hide hM
        clear hM
        go_wp2
        go_roundw
        case rel => exact ⟨2, by omega, by go_num, by first | rfl | trivial, fun _ => unhide HM1 (by omega), fun _ => unhide HM⟩
        case measure => simp [intOf]
      · have HM := hide hM
        have HE1 := hide hE
        have HB2 := hide (bnx (unhide HB0) hb)
        clear hM hE hb
        go_wp2
        go_returns
        exact .inr ⟨fun h => unhide HM h.2, _, rfl, unhide HE1, unhide HB2⟩
    | 2, hk, HM1, HM2 =>
      clear hk
      by_cases e0 : n2 = 0
      · subst e0
        have HF : Hid (false = d) := by
          show _ = _
          rw [unhide HD, chg_apt, unhide HE 0 rfl]; rfl
        clear HE
        go_wp2
        go_returns
        exact .inl ⟨unhide HM1 (by omega), unhide HM2 (by omega), by rw [← unhide HD, ← unhide HF]; rfl, unhide HB0⟩
      · have HP : Hid (d = aptB l1 l2) := by
          show _ = _
          rw [unhide HD, chg_apt, unhide HE n2 rfl, decide_eq_true (Nat.pos_of_ne_zero e0), Bool.true_and]
        have hz : (0 : Int) < (n2 : Int) := by omega
        clear HE
        go_wp2_with fail
        refine (unhide HA).mono ?_
        rw [← unhide HP]
        rintro e w2 ⟨rfl, hw⟩
        obtain rfl := hw.symm
        go_wp2
        go_returns
        exact .inl ⟨unhide HM1 (by omega), unhide HM2 (by omega), by rw [← unhide HD]; rfl, unhide HB0⟩
end Go.Proofs.YtnflgfpicigajaaDoor.Qu
