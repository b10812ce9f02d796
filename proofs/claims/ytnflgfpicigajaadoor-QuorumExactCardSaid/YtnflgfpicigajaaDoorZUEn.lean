/- Proved here: quorum.Enough, the page's Members and Enough. Helper contracts. -/
import Derived.Test.YtnflgfpicigajaaDoorZUCk
namespace Go.Proofs.YtnflgfpicigajaaDoor.Qu
open Go.RowKit Nt
set_option maxRecDepth 100000

theorem take_snocI (l : List Int) (k : Nat) (h : k < l.length) : l.take (k + 1) = l.take k ++ [l.getD k 0] := by
  rw [List.take_succ_eq_append_getElem h, List.getD_eq_getElem?_getD, List.getElem?_eq_getElem h]; rfl
/-- how many of the first k -/
def cK (l : List Int) (p : Int → Bool) (k : Nat) : Nat := (l.take k).countP p
theorem cK_zero (l : List Int) (p : Int → Bool) : cK l p 0 = 0 := rfl
theorem cK_yes {l : List Int} {p : Int → Bool} {k : Nat} (h : k < l.length) (hp : p (l.getD k 0) = true) : cK l p (k + 1) = cK l p k + 1 := by
  unfold cK
  rw [take_snocI l k h, List.countP_append, List.countP_cons, if_pos hp]
  rfl
theorem cK_no {l : List Int} {p : Int → Bool} {k : Nat} (h : k < l.length) (hp : p (l.getD k 0) = false) : cK l p (k + 1) = cK l p k := by
  unfold cK
  rw [take_snocI l k h, List.countP_append, List.countP_cons, if_neg (by rw [hp]; simp)]
  rfl
theorem cK_all (l : List Int) (p : Int → Bool) : cK l p l.length = l.countP p := by unfold cK; rw [List.take_length]
theorem cK_le (l : List Int) (p : Int → Bool) (k : Nat) : cK l p k ≤ k := Nat.le_trans List.countP_le_length (by rw [List.length_take]; omega)
/-- an answer beside an error -/
def EnoR (m v : List Int) (e : Ending) (w w' : World) : Prop := (Mem m ∧ e = .returned (.tuple #[.bool (enoB m v), .nilIface]) ∧ w' = w) ∨ (¬ Mem m ∧ ∃ x, e = .returned (.tuple #[.bool false, .iface 62 x]) ∧ ErB w' (.iface 62 x) 1 ∧ Below w.heap.size w w')
set_option maxHeartbeats 2000000 in
theorem eno_any (a1 a2 : Option Addr) (n1 c1 n2 c2 : Nat) (m v : List Int) (w : World) (h1 : Ls w a1 n1 c1 m) (h2 : Ls w a2 n2 c2 v) :
    Calls Tryd.prog 10 #[.slice a1 n1 c1, .slice a2 n2 c2] w fun e w' => EnoR m v e w w' := by
  have H := hide h1
  have HC := hide (fun x => cont_any a2 n2 c2 v x w h2)
  have HK := hide (chk_any a1 n1 c1 m w h1)
  have hmx := h1.2.2.2.1
  have HMO := hide (most_any a1 n1 c1 w hmx)
  have HL := hide h1.1
  clear h1 h2
  go_enter Tryd.func10, Tryd.ntmps10
  go_wp2_with fail
  refine (unhide HK).mono ?_
  rintro e w1 hr
  rcases hr with ⟨hM, rfl, hw⟩ | ⟨hM, x, rfl, hE, hb⟩
  · obtain rfl := hw.symm
    have HM := hide hM
    clear hM
    go_wp2
    go_loopw [7, 17] (fun c i wr => ∃ k : Nat, k ≤ n1 ∧ i = .int .i64 k ∧ c = .int .i64 (cK m (fun x => decide (x ∈ v)) k : Nat) ∧ wr = w) (fun _ i _ => n1 - (intOf i).toNat)
    case atStart => exact ⟨0, Nat.zero_le _, rfl, rfl, rfl⟩
    case round =>
      obtain ⟨k, hk, rfl, rfl, rfl⟩ := hrel
      by_cases hlt : k < n1
      · obtain ⟨b, off, rfl, hc⟩ := (unhide H).at hlt
        have HY := hide (fun h => cK_yes (p := fun x => decide (x ∈ v)) (show k < m.length by rw [unhide HL]; exact hlt) h)
        have HN := hide (fun h => cK_no (p := fun x => decide (x ∈ v)) (show k < m.length by rw [unhide HL]; exact hlt) h)
        have hck := cK_le m (fun x => decide (x ∈ v)) k
        generalize cK m (fun x => decide (x ∈ v)) k = c at HY HN hck ⊢
        generalize m.getD k 0 = y at hc HY HN
        have HCy := hide (unhide HC y)
        obtain ⟨d, hd⟩ : ∃ d, d = decide (y ∈ v) := ⟨_, rfl⟩
        have HD := hide hd
        rw [← hd] at HCy
        clear hd
        go_wp2_with fail
        refine (unhide HCy).mono ?_
        rintro e w2 ⟨rfl, hw⟩
        obtain rfl := hw.symm
        cases d
        · have HN2 := hide (unhide HN (unhide HD).symm)
          clear HY HN
          go_wp2
          go_roundw
          case rel => exact ⟨k + 1, by omega, by go_num, by rw [unhide HN2], by first | rfl | trivial⟩
          case measure => simp [intOf]; omega
        · have HY2 := hide (unhide HY (unhide HD).symm)
          clear HY HN
          go_wp2
          go_roundw
          case rel => exact ⟨k + 1, by omega, by go_num, by rw [unhide HY2]; go_num, by first | rfl | trivial⟩
          case measure => simp [intOf]; omega
      · obtain rfl : k = n1 := by omega
        have HE : Hid (decide (((cK m (fun x => decide (x ∈ v)) k : Nat) : Int) ≥ ((k / 2 + 1 : Nat) : Int)) = enoB m v) := by
          show _ = _
          have e : cK m (fun x => decide (x ∈ v)) k = cnt m v := by rw [← unhide HL]; exact cK_all _ _
          rw [e]
          unfold enoB
          rw [unhide HL]
          apply decide_eq_decide.2
          omega
        generalize cK m (fun x => decide (x ∈ v)) k = c at HE ⊢
        go_wp2_with fail
        refine (unhide HMO).mono ?_
        rintro e w2 ⟨rfl, hw⟩
        obtain rfl := hw.symm
        go_wp2
        go_returns
        exact .inl ⟨unhide HM, by rw [← unhide HE]; rfl, rfl⟩
  · have HM := hide hM
    have HE := hide hE
    have HB := hide hb
    clear hM hE hb
    go_wp2
    go_returns
    exact .inr ⟨unhide HM, _, rfl, unhide HE, unhide HB⟩
set_option maxHeartbeats 2000000 in
theorem reno_any (a1 a2 : Option Addr) (n1 c1 n2 c2 : Nat) (m v : List Int) (w : World) (h1 : Ls w a1 n1 c1 m) (h2 : Ls w a2 n2 c2 v) :
    Calls Tryd.prog 13 #[.slice a1 n1 c1, .slice a2 n2 c2] w fun e w' => e = .returned (.bool (enoB m v)) ∧ w' = w := by
  have H := hide h1
  have HC := hide (fun x => in_any a2 n2 c2 v x w h2)
  have hmx := h1.2.2.2.1
  have HL := hide h1.1
  clear h1 h2
  go_enter Tryd.func13, Tryd.ntmps13
  go_wp2
  go_loopw [5, 6] (fun c i wr => ∃ k : Nat, k ≤ n1 ∧ i = .int .i64 k ∧ c = .int .i64 (cK m (fun x => decide (x ∈ v)) k : Nat) ∧ wr = w) (fun _ i _ => n1 - (intOf i).toNat)
  case atStart => exact ⟨0, Nat.zero_le _, rfl, rfl, rfl⟩
  case round =>
    obtain ⟨k, hk, rfl, rfl, rfl⟩ := hrel
    by_cases hlt : k < n1
    · obtain ⟨b, off, rfl, hc⟩ := (unhide H).at hlt
      have HY := hide (fun h => cK_yes (p := fun x => decide (x ∈ v)) (show k < m.length by rw [unhide HL]; exact hlt) h)
      have HN := hide (fun h => cK_no (p := fun x => decide (x ∈ v)) (show k < m.length by rw [unhide HL]; exact hlt) h)
      have hck := cK_le m (fun x => decide (x ∈ v)) k
      generalize cK m (fun x => decide (x ∈ v)) k = c at HY HN hck ⊢
      generalize m.getD k 0 = y at hc HY HN
      have HCy := hide (unhide HC y)
      go_wp2_with fail
      refine (unhide HCy).mono ?_
      rintro e w2 ⟨⟨z, rfl, HZ⟩, hw⟩
      obtain rfl := hw.symm
      rcases unhide HZ with ⟨h1, h2, _⟩ | ⟨h1, rfl⟩
      · have HY2 := hide (unhide HY (decide_eq_true h1))
        clear HY HN h1 HZ
        go_wp2
        go_roundw
        case rel => exact ⟨k + 1, by omega, by go_num, by rw [unhide HY2]; go_num, by first | rfl | trivial⟩
        case measure => simp [intOf]; omega
      · have HN2 := hide (unhide HN (decide_eq_false h1))
        clear HY HN h1 HZ
        go_wp2
        go_roundw
        case rel => exact ⟨k + 1, by omega, by go_num, by rw [unhide HN2], by first | rfl | trivial⟩
        case measure => simp [intOf]; omega
    · obtain rfl : k = n1 := by omega
      have hck := cK_le m (fun x => decide (x ∈ v)) k
      have HE : Hid (decide ((2 * (cK m (fun x => decide (x ∈ v)) k : Nat) : Int) > (k : Int)) = enoB m v) := by
        show _ = _
        have e : cK m (fun x => decide (x ∈ v)) k = cnt m v := by rw [← unhide HL]; exact cK_all _ _
        rw [e]
        unfold enoB
        rw [unhide HL]
        apply decide_eq_decide.2
        omega
      generalize cK m (fun x => decide (x ∈ v)) k = c at HE hck ⊢
      have hw1 : IntKind.i64.wrap (2 * (c : Int)) = 2 * (c : Int) := by rw [IntKind.wrap_i64]; omega
      have hw2 : wrap64 (2 * (c : Int)) = 2 * (c : Int) := by unfold wrap64; omega
      go_wp2
      go_ret
      exact ⟨by rw [← unhide HE]; rfl, rfl⟩
theorem mem_page {m : List Int} (h1 : ∀ j, j < m.length → 1 ≤ m.getD j 0 ∧ m.getD j 0 ≤ 7) : Rise m ↔ Mem m := ⟨fun h => mem_of_page h1 h, fun h => h.rise⟩
set_option maxHeartbeats 2000000 in
theorem rmem_any (ao : Option Addr) (n cap : Nat) (m : List Int) (w : World) (h : Ls w ao n cap m) :
    Calls Tryd.prog 9 #[.slice ao n cap] w fun e w' => e = .returned (.bool (decide (Mem m))) ∧ ∃ q, w' = w.drewN q := by
  have H := hide h
  have HR := hide (rise_any ao n cap m w h)
  have hmx := h.2.2.2.1
  have HL := hide h.1
  clear h
  obtain ⟨d, hd⟩ : ∃ d, d = decide (Mem m) := ⟨_, rfl⟩
  have HD := hide hd
  rw [← hd]
  clear hd
  go_enter Tryd.func9, Tryd.ntmps9
  go_wp2
  go_loopw [3] (fun i wr => ∃ k : Nat, k ≤ n ∧ i = .int .i64 k ∧ wr = w ∧ Hid (∀ j, j < k → 1 ≤ m.getD j 0 ∧ m.getD j 0 ≤ 7)) (fun i _ => n - (intOf i).toNat)
  case atStart => exact ⟨0, Nat.zero_le _, rfl, rfl, fun j hj => absurd hj (Nat.not_lt_zero j)⟩
  case round =>
    obtain ⟨k, hk, rfl, rfl, HN⟩ := hrel
    by_cases hlt : k < n
    · obtain ⟨b, off, rfl, hc⟩ := (unhide H).at hlt
      have HS := hide (fun (h2 : 1 ≤ m.getD k 0 ∧ m.getD k 0 ≤ 7) => upto_snoc (p := fun x => 1 ≤ x ∧ x ≤ 7) (unhide HN) h2)
      have HF := hide (fun (h2 : ¬ (1 ≤ m.getD k 0 ∧ m.getD k 0 ≤ 7)) => fun (hm : Mem m) => h2 ⟨hm.pos k (by rw [unhide HL]; exact hlt), (hm k (by rw [unhide HL]; exact hlt)).2⟩)
      generalize m.getD k 0 = y at hc HS HF
      by_cases h2 : 1 ≤ y ∧ y ≤ 7
      · obtain ⟨h3, h4⟩ := h2
        have HS2 := hide (unhide HS ⟨h3, h4⟩)
        have h5 : ¬ y < 1 := by omega
        have h6 : ¬ 7 < y := by omega
        clear HS HF
        go_wp2
        go_roundw
        case rel => exact ⟨k + 1, by omega, by go_num, by first | rfl | trivial, HS2⟩
        case measure => simp [intOf]; omega
      · have HF2 : Hid (false = d) := by show _ = _; rw [unhide HD, decide_eq_false (unhide HF h2)]
        clear HS HF
        by_cases h3 : y < 1
        · go_wp2
          go_ret
          exact ⟨ret_bool (unhide HF2), 0, rfl⟩
        · have h4 : 7 < y := by omega
          clear h2
          go_wp2
          go_ret
          exact ⟨ret_bool (unhide HF2), 0, rfl⟩
    · obtain rfl : k = n := by omega
      have HQ : Hid (Rise m ↔ Mem m) := mem_page (fun j hj => unhide HN j (by rw [← unhide HL]; exact hj))
      go_wp2_with fail
      refine (unhide HR).mono ?_
      rintro e w2 ⟨⟨f, rfl, HF⟩, q, rfl⟩
      have HE : Hid (f = d) := by
        show _ = _
        rw [unhide HD]
        have h := (unhide HF).trans (unhide HQ)
        by_cases hm : Mem m
        · rw [h.2 hm, decide_eq_true hm]
        · rw [decide_eq_false hm]
          cases f
          · rfl
          · exact absurd (h.1 rfl) hm
      go_wp2
      go_ret
      exact ⟨ret_bool (unhide HE), q, rfl⟩
end Go.Proofs.YtnflgfpicigajaaDoor.Qu
