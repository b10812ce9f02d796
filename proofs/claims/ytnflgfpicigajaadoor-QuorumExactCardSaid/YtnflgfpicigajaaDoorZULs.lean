/- Proved here: contracts of slices.Index, Contains, IndexFunc, ContainsFunc at numbers, of the page's In, Rising and Members, of quorum's most, below, within, apart. Helper contracts. -/
import Derived.Test.YtnflgfpicigajaaDoorZUPl
import Derived.Test.YtnflgfpicigajaaDoorZNFr
namespace Go.Proofs.YtnflgfpicigajaaDoor.Qu
open Go.RowKit Nt
set_option maxRecDepth 100000

/-- a list of numbers in memory, as a slice of n that may hold cap -/
def Ls (w : World) (ao : Option Addr) (n cap : Nat) (l : List Int) : Prop := l.length = n ∧ n ≤ cap ∧ (cap ≤ maxLen ∧ (ao = none → cap = 0)) ∧ n ≤ 17592186043904 ∧ (n = 0 ∨ ∃ b off, ao = some ⟨b, off, none⟩ ∧ ∀ j, j < l.length → w.cell? ⟨b, off + j, none⟩ = some (.int .i64 (l.getD j 0)))
theorem Ls.below {w w' : World} {ao : Option Addr} {n cap : Nat} {l : List Int} (h : Ls w ao n cap l) (hb : Below w.heap.size w w') : Ls w' ao n cap l := by
  obtain ⟨h1, h2, h3, h4, h5⟩ := h
  refine ⟨h1, h2, h3, h4, ?_⟩
  rcases h5 with h5 | ⟨b, off, e, hc⟩
  · exact .inl h5
  · exact .inr ⟨b, off, e, fun j hj => (hb.cell (p := ⟨b, off + j, none⟩) (cell_lt (hc j hj))).trans (hc j hj)⟩
theorem Ls.drewN {w : World} {ao : Option Addr} {n cap : Nat} {l : List Int} (h : Ls w ao n cap l) (q : Nat) : Ls (w.drewN q) ao n cap l := h
theorem Ls.nil (w : World) : Ls w none 0 0 [] := ⟨rfl, Nat.le_refl _, ⟨by decide, fun _ => rfl⟩, by decide, .inl rfl⟩
theorem Ls.at {w : World} {ao : Option Addr} {n cap : Nat} {l : List Int} (h : Ls w ao n cap l) {k : Nat} (hk : k < n) : ∃ b off, ao = some ⟨b, off, none⟩ ∧ w.cell? ⟨b, off + k, none⟩ = some (.int .i64 (l.getD k 0)) := by
  obtain ⟨h1, _, _, _, h5⟩ := h
  rcases h5 with h5 | ⟨b, off, e, hc⟩
  · omega
  · exact ⟨b, off, e, hc k (by omega)⟩
theorem Ls.zero {w w' : World} {ao : Option Addr} {n cap : Nat} {l : List Int} (h : Ls w ao n cap l) (h0 : n = 0) : Ls w' ao n cap l := ⟨h.1, h.2.1, h.2.2.1, h.2.2.2.1, .inl h0⟩
theorem ret_bool {a b : Bool} (h : a = b) : Ending.returned (.bool a) = .returned (.bool b) := by rw [h]
theorem not_mem_upto {l : List Int} {x : Int} (h : ∀ j, j < l.length → l.getD j 0 ≠ x) : x ∉ l := by
  intro hx
  obtain ⟨k, hk, rfl⟩ := List.mem_iff_getElem.1 hx
  refine h k hk ?_
  rw [List.getD_eq_getElem?_getD, List.getElem?_eq_getElem hk]; rfl
theorem mem_getD {l : List Int} {k : Nat} (h : k < l.length) : l.getD k 0 ∈ l := by
  rw [List.getD_eq_getElem?_getD, List.getElem?_eq_getElem h]
  exact List.getElem_mem h
/-- where x stands in l, or -1 -/
def AtL (l : List Int) (x z : Int) : Prop := (x ∈ l ∧ 0 ≤ z ∧ z ≤ 17592186043904) ∨ (x ∉ l ∧ z = -1)
theorem upto_step {l : List Int} {x : Int} {k : Nat} (h : ∀ j, j < k → l.getD j 0 ≠ x) (h2 : l.getD k 0 ≠ x) : ∀ j, j < k + 1 → l.getD j 0 ≠ x := fun j hj => by
  rcases Nat.lt_succ_iff_lt_or_eq.1 hj with h3 | h3
  · exact h j h3
  · rw [h3]; exact h2
set_option maxHeartbeats 2000000 in
theorem ix_any (ao : Option Addr) (n cap : Nat) (l : List Int) (x : Int) (w : World) (h : Ls w ao n cap l) :
    Calls Tryd.prog 36 #[.slice ao n cap, .int .i64 x] w fun e w' => (∃ z, e = .returned (.int .i64 z) ∧ Hid (AtL l x z)) ∧ w' = w := by
  have H := hide h
  have hmx := h.2.2.2.1
  have HL := hide h.1
  clear h
  go_enter Tryd.func36, Tryd.ntmps36
  go_wp2
  go_loopw [8] (fun i wr => ∃ k : Nat, k ≤ n ∧ i = .int .i64 k ∧ wr = w ∧ Hid (∀ j, j < k → l.getD j 0 ≠ x)) (fun i _ => n - (intOf i).toNat)
  case atStart => exact ⟨0, Nat.zero_le _, rfl, rfl, fun j hj => absurd hj (Nat.not_lt_zero j)⟩
  case round =>
    obtain ⟨k, hk, rfl, rfl, HN⟩ := hrel
    by_cases hlt : k < n
    · obtain ⟨b, off, rfl, hc⟩ := (unhide H).at hlt
      have HM : Hid (l.getD k 0 ∈ l) := mem_getD (by rw [unhide HL]; exact hlt)
      have HS := hide (fun (h2 : l.getD k 0 ≠ x) => upto_step (unhide HN) h2)
      generalize l.getD k 0 = y at hc HM HS
      by_cases hxy : y = x
      · have hb1 : (y == x) = true := beq_iff_eq.2 hxy
        have hb2 : (x == y) = true := beq_iff_eq.2 hxy.symm
        have HM2 : Hid (x ∈ l) := by show _ ∈ _; rw [← hxy]; exact unhide HM
        clear hxy HM HS
        go_wp2
        go_ret
        exact ⟨⟨_, rfl, .inl ⟨unhide HM2, by omega, by omega⟩⟩, rfl⟩
      · have hb1 : (y == x) = false := beq_eq_false_iff_ne.2 hxy
        have hb2 : (x == y) = false := beq_eq_false_iff_ne.2 (fun e => hxy e.symm)
        have HS2 := hide (unhide HS hxy)
        clear hxy HM HS
        go_wp2
        go_roundw
        case rel => exact ⟨k + 1, by omega, by go_num, by first | rfl | trivial, HS2⟩
        case measure => simp [intOf]; omega
    · obtain rfl : k = n := by omega
      go_wp2
      go_ret
      exact ⟨⟨_, rfl, .inr ⟨not_mem_upto (fun j hj => unhide HN j (by rw [← unhide HL]; exact hj)), rfl⟩⟩, rfl⟩
set_option maxHeartbeats 2000000 in
theorem in_any (ao : Option Addr) (n cap : Nat) (l : List Int) (x : Int) (w : World) (h : Ls w ao n cap l) :
    Calls Tryd.prog 25 #[.slice ao n cap, .int .i64 x] w fun e w' => (∃ z, e = .returned (.int .i64 z) ∧ Hid (AtL l x z)) ∧ w' = w := by
  have H := hide h
  have hmx := h.2.2.2.1
  have HL := hide h.1
  clear h
  go_enter Tryd.func25, Tryd.ntmps25
  go_wp2
  go_loopw [5] (fun i wr => ∃ k : Nat, k ≤ n ∧ i = .int .i64 k ∧ wr = w ∧ Hid (∀ j, j < k → l.getD j 0 ≠ x)) (fun i _ => n - (intOf i).toNat)
  case atStart => exact ⟨0, Nat.zero_le _, rfl, rfl, fun j hj => absurd hj (Nat.not_lt_zero j)⟩
  case round =>
    obtain ⟨k, hk, rfl, rfl, HN⟩ := hrel
    by_cases hlt : k < n
    · obtain ⟨b, off, rfl, hc⟩ := (unhide H).at hlt
      have HM : Hid (l.getD k 0 ∈ l) := mem_getD (by rw [unhide HL]; exact hlt)
      have HS := hide (fun (h2 : l.getD k 0 ≠ x) => upto_step (unhide HN) h2)
      generalize l.getD k 0 = y at hc HM HS
      by_cases hxy : y = x
      · have hb1 : (y == x) = true := beq_iff_eq.2 hxy
        have hb2 : (x == y) = true := beq_iff_eq.2 hxy.symm
        have HM2 : Hid (x ∈ l) := by show _ ∈ _; rw [← hxy]; exact unhide HM
        clear hxy HM HS
        go_wp2
        go_ret
        exact ⟨⟨_, rfl, .inl ⟨unhide HM2, by omega, by omega⟩⟩, rfl⟩
      · have hb1 : (y == x) = false := beq_eq_false_iff_ne.2 hxy
        have hb2 : (x == y) = false := beq_eq_false_iff_ne.2 (fun e => hxy e.symm)
        have HS2 := hide (unhide HS hxy)
        clear hxy HM HS
        go_wp2
        go_roundw
        case rel => exact ⟨k + 1, by omega, by go_num, by first | rfl | trivial, HS2⟩
        case measure => simp [intOf]; omega
    · obtain rfl : k = n := by omega
      go_wp2
      go_ret
      exact ⟨⟨_, rfl, .inr ⟨not_mem_upto (fun j hj => unhide HN j (by rw [← unhide HL]; exact hj)), rfl⟩⟩, rfl⟩
set_option maxHeartbeats 2000000 in
theorem cont_any (ao : Option Addr) (n cap : Nat) (l : List Int) (x : Int) (w : World) (h : Ls w ao n cap l) :
    Calls Tryd.prog 27 #[.slice ao n cap, .int .i64 x] w fun e w' => e = .returned (.bool (decide (x ∈ l))) ∧ w' = w := by
  have HC := hide (ix_any ao n cap l x w h)
  obtain ⟨d, hd⟩ : ∃ d, d = decide (x ∈ l) := ⟨_, rfl⟩
  have HD := hide hd
  rw [← hd]
  clear hd h
  go_enter Tryd.func27, Tryd.ntmps27
  go_wp2_with fail
  refine (unhide HC).mono ?_
  rintro e w1 ⟨⟨z, rfl, HZ⟩, hw⟩
  obtain rfl := hw.symm
  rcases unhide HZ with ⟨h1, h2, _⟩ | ⟨h1, rfl⟩
  · have HT : Hid (true = d) := by show _ = _; rw [unhide HD, decide_eq_true h1]
    have h3 : decide (z ≥ 0) = true := decide_eq_true h2
    clear h1 HZ
    go_wp2
    go_ret
    exact ⟨ret_bool (unhide HT), rfl⟩
  · have HT : Hid (false = d) := by show _ = _; rw [unhide HD, decide_eq_false h1]
    clear h1 HZ
    go_wp2
    go_ret
    exact ⟨ret_bool (unhide HT), rfl⟩
/-- the last one ahead is what the loop remembers -/
theorem ahd_succ (m : List Int) (k : Nat) : ahd m (k + 1) = m.getD k 0 := by unfold ahd; rw [if_neg (by omega), Nat.add_sub_cancel]
theorem ahd_zero (m : List Int) : ahd m 0 = 0 := rfl
set_option maxHeartbeats 2000000 in
theorem below_any (x : Int) (w : World) : Calls Tryd.prog 32 #[.int .i64 x] w fun e w' => e = .returned (.bool (decide (x < 0))) ∧ w' = w := by
  go_enter Tryd.func32, Tryd.ntmps32
  go_wp2
  go_ret
  exact ⟨rfl, rfl⟩
set_option maxHeartbeats 2000000 in
theorem most_any (ao : Option Addr) (n cap : Nat) (w : World) (hn : n ≤ 17592186043904) : Calls Tryd.prog 28 #[.slice ao n cap] w fun e w' => e = .returned (.int .i64 ((n / 2 + 1 : Nat) : Int)) ∧ w' = w := by
  go_enter Tryd.func28, Tryd.ntmps28
  go_wp2
  go_ret
  refine ⟨?_, rfl⟩
  rw [show ((n / 2 + 1 : Nat) : Int) = (n : Int) / 2 + 1 by omega]
  rfl
theorem upto_all {l : List Int} {p : Int → Prop} (h : ∀ j, j < l.length → p (l.getD j 0)) : ∀ x ∈ l, p x := by
  intro x hx
  obtain ⟨k, hk, rfl⟩ := List.mem_iff_getElem.1 hx
  have := h k hk
  rw [List.getD_eq_getElem?_getD, List.getElem?_eq_getElem hk] at this
  exact this
theorem upto_snoc {l : List Int} {p : Int → Prop} {k : Nat} (h : ∀ j, j < k → p (l.getD j 0)) (h2 : p (l.getD k 0)) : ∀ j, j < k + 1 → p (l.getD j 0) := fun j hj => by
  rcases Nat.lt_succ_iff_lt_or_eq.1 hj with h3 | h3
  · exact h j h3
  · rw [h3]; exact h2
set_option maxHeartbeats 2000000 in
theorem within_any (a1 a2 : Option Addr) (n1 c1 n2 c2 : Nat) (l1 l2 : List Int) (w : World) (h1 : Ls w a1 n1 c1 l1) (h2 : Ls w a2 n2 c2 l2) :
    Calls Tryd.prog 42 #[.slice a1 n1 c1, .slice a2 n2 c2] w fun e w' => e = .returned (.bool (allIn l1 l2)) ∧ w' = w := by
  have H := hide h1
  have HC := hide (fun x => cont_any a2 n2 c2 l2 x w h2)
  have hmx := h1.2.2.2.1
  have HL := hide h1.1
  obtain ⟨d, hd⟩ : ∃ d, d = allIn l1 l2 := ⟨_, rfl⟩
  have HD := hide hd
  rw [← hd]
  clear hd h1 h2
  go_enter Tryd.func42, Tryd.ntmps42
  go_wp2
  go_loopw [9] (fun i wr => ∃ k : Nat, k ≤ n1 ∧ i = .int .i64 k ∧ wr = w ∧ Hid (∀ j, j < k → l1.getD j 0 ∈ l2)) (fun i _ => n1 - (intOf i).toNat)
  case atStart => exact ⟨0, Nat.zero_le _, rfl, rfl, fun j hj => absurd hj (Nat.not_lt_zero j)⟩
  case round =>
    obtain ⟨k, hk, rfl, rfl, HN⟩ := hrel
    by_cases hlt : k < n1
    · obtain ⟨b, off, rfl, hc⟩ := (unhide H).at hlt
      have HM : Hid (l1.getD k 0 ∈ l1) := mem_getD (by rw [unhide HL]; exact hlt)
      have HS := hide (fun (h2 : l1.getD k 0 ∈ l2) => upto_snoc (p := fun x => x ∈ l2) (unhide HN) h2)
      generalize l1.getD k 0 = y at hc HM HS
      have HCy := hide (unhide HC y)
      obtain ⟨m, hm⟩ : ∃ m, m = decide (y ∈ l2) := ⟨_, rfl⟩
      have HMM := hide hm
      rw [← hm] at HCy
      clear hm
      go_wp2_with fail
      refine (unhide HCy).mono ?_
      rintro e w1 ⟨rfl, hw⟩
      obtain rfl := hw.symm
      cases m
      · have HF : Hid (false = d) := by
          show _ = _
          rw [unhide HD]
          have := of_decide_eq_false (unhide HMM).symm
          unfold allIn
          symm
          rw [List.all_eq_false]
          exact ⟨y, unhide HM, by simpa using this⟩
        clear HM HS HMM
        go_wp2
        go_ret
        exact ⟨ret_bool (unhide HF), rfl⟩
      · have HS2 := hide (unhide HS (of_decide_eq_true (unhide HMM).symm))
        clear HM HS HMM
        go_wp2
        go_roundw
        case rel => exact ⟨k + 1, by omega, by go_num, by first | rfl | trivial, HS2⟩
        case measure => simp [intOf]; omega
    · obtain rfl : k = n1 := by omega
      have HT : Hid (true = d) := by
        show _ = _
        rw [unhide HD]
        unfold allIn
        symm
        rw [List.all_eq_true]
        intro x hx
        simpa using upto_all (p := fun x => x ∈ l2) (fun j hj => unhide HN j (by rw [← unhide HL]; exact hj)) x hx
      go_wp2
      go_ret
      exact ⟨ret_bool (unhide HT), rfl⟩
/-- what apart tells -/
def aptB (a b : List Int) : Bool := (decide (b.length = a.length + 1) && allIn a b) || (decide (a.length = b.length + 1) && allIn b a)
set_option maxHeartbeats 2000000 in
theorem apart_any (a1 a2 : Option Addr) (n1 c1 n2 c2 : Nat) (l1 l2 : List Int) (w : World) (h1 : Ls w a1 n1 c1 l1) (h2 : Ls w a2 n2 c2 l2) :
    Calls Tryd.prog 35 #[.slice a1 n1 c1, .slice a2 n2 c2] w fun e w' => e = .returned (.bool (aptB l1 l2)) ∧ w' = w := by
  have HC1 := hide (within_any a1 a2 n1 c1 n2 c2 l1 l2 w h1 h2)
  have HC2 := hide (within_any a2 a1 n2 c2 n1 c1 l2 l1 w h2 h1)
  have hx1 := h1.2.2.2.1
  have hx2 := h2.2.2.2.1
  have HL1 := hide h1.1
  have HL2 := hide h2.1
  obtain ⟨d, hd⟩ : ∃ d, d = aptB l1 l2 := ⟨_, rfl⟩
  have HD := hide hd
  rw [← hd]
  obtain ⟨d1, hd1⟩ : ∃ d1, d1 = allIn l1 l2 := ⟨_, rfl⟩
  obtain ⟨d2, hd2⟩ : ∃ d2, d2 = allIn l2 l1 := ⟨_, rfl⟩
  rw [← hd1] at HC1
  rw [← hd2] at HC2
  have HD1 := hide hd1
  have HD2 := hide hd2
  clear hd hd1 hd2 h1 h2
  by_cases e1 : n2 = n1 + 1
  · have HF : Hid (d1 = d) := by
      show _ = _
      rw [unhide HD, unhide HD1]
      unfold aptB
      rw [decide_eq_true (by rw [unhide HL1, unhide HL2]; exact e1), decide_eq_false (by rw [unhide HL1, unhide HL2]; omega)]
      simp
    have hw : wrap64 ((n1 : Int) - (n2 : Int)) = -1 := by unfold wrap64; omega
    have hw2 : IntKind.i64.wrap ((n1 : Int) - (n2 : Int)) = -1 := by rw [IntKind.wrap_i64]; omega
    have hw3 : (n1 : Int) - (n2 : Int) = -1 := by omega
    clear e1
    go_enter Tryd.func35, Tryd.ntmps35
    go_wp2_with fail
    refine (unhide HC1).mono ?_
    rintro e w1 ⟨rfl, hw⟩
    obtain rfl := hw.symm
    go_wp2
    go_ret
    exact ⟨ret_bool (unhide HF), rfl⟩
  · by_cases e2 : n1 = n2 + 1
    · have HF : Hid (d2 = d) := by
        show _ = _
        rw [unhide HD, unhide HD2]
        unfold aptB
        rw [decide_eq_false (by rw [unhide HL1, unhide HL2]; exact e1), decide_eq_true (by rw [unhide HL1, unhide HL2]; omega)]
        simp
      have hw : wrap64 ((n1 : Int) - (n2 : Int)) = 1 := by unfold wrap64; omega
      have hw2 : IntKind.i64.wrap ((n1 : Int) - (n2 : Int)) = 1 := by rw [IntKind.wrap_i64]; omega
      clear e1 e2
      go_enter Tryd.func35, Tryd.ntmps35
      go_wp2_with fail
      refine (unhide HC2).mono ?_
      rintro e w1 ⟨rfl, hw⟩
      obtain rfl := hw.symm
      go_wp2
      go_ret
      exact ⟨ret_bool (unhide HF), rfl⟩
    · have HF : Hid (false = d) := by
        show _ = _
        rw [unhide HD]
        unfold aptB
        rw [decide_eq_false (by rw [unhide HL1, unhide HL2]; exact e1), decide_eq_false (by rw [unhide HL1, unhide HL2]; exact e2)]
        rfl
      obtain ⟨z, hz⟩ : ∃ z : Int, z = (n1 : Int) - (n2 : Int) := ⟨_, rfl⟩
      have hw : wrap64 ((n1 : Int) - (n2 : Int)) = z := by unfold wrap64; omega
      have hw2 : IntKind.i64.wrap ((n1 : Int) - (n2 : Int)) = z := by rw [IntKind.wrap_i64]; omega
      have b1 : (z == -1) = false := beq_eq_false_iff_ne.2 (by omega)
      have b2 : (z == 1) = false := beq_eq_false_iff_ne.2 (by omega)
      clear hz e1 e2
      go_enter Tryd.func35, Tryd.ntmps35
      go_wp2
      go_ret
      exact ⟨ret_bool (unhide HF), rfl⟩
end Go.Proofs.YtnflgfpicigajaaDoor.Qu
