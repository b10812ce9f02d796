/- Proved here: helpers, one text behind the other. -/
import Derived.Test.YtmmhdhpocjnlbaaGreatDoorZULs
import Derived.Test.YtmmhdhpocjnlbaaGreatDoorZKEr2
/- Proved here: quorum.fault and Check, the page's Rising and Members, dovecotelaw16.num. Helper contracts. -/
namespace Go.Proofs.YtmmhdhpocjnlbaaGreatDoor.Qu
open Go.RowKit Nt
set_option maxRecDepth 100000

/-- an error that the package tells -/
def ErB (w : World) (E : Value) (n : Int) : Prop := ∃ g, E = .iface 64 (.pointer (some ⟨g, 0, none⟩)) ∧ w.cell? ⟨g, 1, none⟩ = some (.iface 61 (.int .i64 n))
theorem ErB.below {w w' : World} {E : Value} {n : Int} (h : ErB w E n) (hb : Below w.heap.size w w') : ErB w' E n := by
  obtain ⟨g, h2, h3⟩ := h
  exact ⟨g, h2, (hb.cell (cell_lt h3)).trans h3⟩
/-- an error, or none -/
def ErrB (w : World) (E : Value) (n : Int) : Prop := (n = 0 ∧ E = .nilIface) ∨ ErB w E n
theorem ErrB.below {w w' : World} {E : Value} {n : Int} (h : ErrB w E n) (hb : Below w.heap.size w w') : ErrB w' E n := h.imp id (·.below hb)
theorem ErrB.errX {w : World} {E : Value} {n : Int} (h : ErrB w E n) : ErrX w E n := by
  rcases h with h | h
  · exact .inl h
  · obtain ⟨g, h2, h3⟩ := h
    exact .inr ⟨1, by omega, g, _, h2, h3, rfl⟩
theorem ErrB.nil (w : World) : ErrB w .nilIface 0 := .inl ⟨rfl, rfl⟩
set_option maxHeartbeats 1000000 in
theorem fault_any (t : TypeId) (x : Value) (w : World) : Calls Tryz.prog 79 #[.iface t x] w fun e w' => e = .returned (.iface 64 (.pointer (some ⟨w.heap.size, 0, none⟩))) ∧ w' = w.alloc (.cells #[.string ⟨#[113, 117, 111, 114, 117, 109]⟩, .iface t x] 66) := by
  go_enter Tryz.func79, Tryz.ntmps79
  go_wp2
  go_ret
  exact ⟨rfl, rfl⟩
theorem fault_n (n : Int) (w : World) : Calls Tryz.prog 79 #[.iface 61 (.int .i64 n)] w fun e w' => ∃ x, e = .returned (.iface 64 x) ∧ Hid (ErB w' (.iface 64 x) n) ∧ Hid (Below w.heap.size w w') := by
  refine (fault_any _ _ w).mono ?_
  rintro e w' ⟨rfl, rfl⟩
  exact ⟨_, rfl, ⟨_, rfl, by simp⟩, (Below.refl _ _).alloc (Nat.le_refl _) _⟩
theorem mem_fail {m : List Int} {k : Nat} (hk : k < m.length) (h : ¬ (ahd m k < m.getD k 0 ∧ m.getD k 0 ≤ 7)) : ¬ Mem m := fun hm => h (hm k hk)
theorem mem_step {m : List Int} {k : Nat} (h : ∀ j, j < k → ahd m j < m.getD j 0 ∧ m.getD j 0 ≤ 7) (h2 : ahd m k < m.getD k 0 ∧ m.getD k 0 ≤ 7) : ∀ j, j < k + 1 → ahd m j < m.getD j 0 ∧ m.getD j 0 ≤ 7 := fun j hj => by
  rcases Nat.lt_succ_iff_lt_or_eq.1 hj with h3 | h3
  · exact h j h3
  · rw [h3]; exact h2
/-- what Check answers: nothing, or an error of its own -/
def ChkR (m : List Int) (e : Ending) (w w' : World) : Prop := (Mem m ∧ e = .returned .nilIface ∧ w' = w) ∨ (¬ Mem m ∧ ∃ x, e = .returned (.iface 64 x) ∧ ErB w' (.iface 64 x) 1 ∧ Below w.heap.size w w')
set_option maxHeartbeats 2000000 in
theorem chk_any (ao : Option Addr) (n cap : Nat) (m : List Int) (w : World) (h : Ls w ao n cap m) :
    Calls Tryz.prog 69 #[.slice ao n cap] w fun e w' => ChkR m e w w' := by
  have H := hide h
  have hmx := h.2.2.2.1
  have HL := hide h.1
  clear h
  go_enter Tryz.func69, Tryz.ntmps69
  go_wp2
  go_loopw [3, 8] (fun la i wr => ∃ k : Nat, k ≤ n ∧ i = .int .i64 k ∧ la = .int .i64 (ahd m k) ∧ wr = w ∧ Hid (∀ j, j < k → ahd m j < m.getD j 0 ∧ m.getD j 0 ≤ 7)) (fun _ i _ => n - (intOf i).toNat)
  case atStart => exact ⟨0, Nat.zero_le _, rfl, rfl, rfl, fun j hj => absurd hj (Nat.not_lt_zero j)⟩
  case round =>
    obtain ⟨k, hk, rfl, rfl, rfl, HN⟩ := hrel
    by_cases hlt : k < n
    · obtain ⟨b, off, rfl, hc⟩ := (unhide H).at hlt
      have HS := hide (fun (h2 : ahd m k < m.getD k 0 ∧ m.getD k 0 ≤ 7) => mem_step (unhide HN) h2)
      have HF := hide (fun (h2 : ¬ (ahd m k < m.getD k 0 ∧ m.getD k 0 ≤ 7)) => mem_fail (by rw [unhide HL]; exact hlt) h2)
      have HA := hide (ahd_succ m k)
      generalize m.getD k 0 = y at hc HS HF HA
      generalize ahd m k = la at HS HF ⊢
      by_cases h2 : la < y ∧ y ≤ 7
      · obtain ⟨h3, h4⟩ := h2
        have HS2 := hide (unhide HS ⟨h3, h4⟩)
        have h5 : ¬ y ≤ la := by omega
        have h6 : ¬ 7 < y := by omega
        clear HS HF
        go_wp2
        go_roundw
        case rel => exact ⟨k + 1, by omega, by go_num, by rw [unhide HA], by first | rfl | trivial, HS2⟩
        case measure => simp [intOf]; omega
      · have HF2 := hide (unhide HF h2)
        clear HS HF
        by_cases h3 : y ≤ la
        · go_wp2_with fail
          refine (fault_n 1 _).mono ?_
          rintro e w3 ⟨x, rfl, HER, HB2⟩
          go_wp2
          go_ret
          exact .inr ⟨unhide HF2, _, rfl, unhide HER, unhide HB2⟩
        · have h4 : 7 < y := by omega
          clear h2
          go_wp2_with fail
          refine (fault_n 1 _).mono ?_
          rintro e w3 ⟨x, rfl, HER, HB2⟩
          go_wp2
          go_ret
          exact .inr ⟨unhide HF2, _, rfl, unhide HER, unhide HB2⟩
    · obtain rfl : k = n := by omega
      go_wp2
      go_ret
      exact .inl ⟨fun j hj => unhide HN j (by rw [← unhide HL]; exact hj), rfl, rfl⟩
/-- the page's rising -/
def Rise (m : List Int) : Prop := ∀ k, 1 ≤ k → k < m.length → m.getD (k - 1) 0 < m.getD k 0
theorem rise_step {m : List Int} {k : Nat} (h : ∀ j, 1 ≤ j → j < k → m.getD (j - 1) 0 < m.getD j 0) (h2 : m.getD (k - 1) 0 < m.getD k 0) : ∀ j, 1 ≤ j → j < k + 1 → m.getD (j - 1) 0 < m.getD j 0 := fun j h1 hj => by
  rcases Nat.lt_succ_iff_lt_or_eq.1 hj with h3 | h3
  · exact h j h1 h3
  · rw [h3]; exact h2
set_option maxHeartbeats 2000000 in
theorem rise_any (ao : Option Addr) (n cap : Nat) (m : List Int) (w : World) (h : Ls w ao n cap m) :
    Calls Tryz.prog 33 #[.slice ao n cap] w fun e w' => (∃ d, e = .returned (.bool d) ∧ Hid (d = true ↔ Rise m)) ∧ ∃ q, w' = w.drewN q := by
  have H := hide h
  have hmx := h.2.2.2.1
  have HL := hide h.1
  clear h
  go_enter Tryz.func33, Tryz.ntmps33
  go_wp2
  go_loopw [3] (fun i wr => ∃ k q : Nat, 1 ≤ k ∧ (k ≤ n ∨ k = 1) ∧ i = .int .i64 k ∧ wr = w.drewN q ∧ Hid (∀ j, 1 ≤ j → j < k → m.getD (j - 1) 0 < m.getD j 0)) (fun i _ => n - (intOf i).toNat)
  case atStart => exact ⟨1, 0, Nat.le_refl _, .inr rfl, rfl, rfl, fun j h1 hj => absurd hj (by omega)⟩
  case round =>
    obtain ⟨k, q, hk1, hk, rfl, rfl, HN⟩ := hrel
    by_cases hlt : k < n
    · obtain ⟨b, off, rfl, hc⟩ := (unhide H).at hlt
      obtain ⟨b', off', e, hp⟩ := (unhide H).at (show k - 1 < n by omega)
      obtain ⟨rfl, rfl⟩ : b = b' ∧ off = off' := by simpa using e
      clear e
      have HS := hide (fun (h2 : m.getD (k - 1) 0 < m.getD k 0) => rise_step (unhide HN) h2)
      have HF := hide (fun (h2 : ¬ m.getD (k - 1) 0 < m.getD k 0) => fun (hr : Rise m) => h2 (hr k hk1 (by rw [unhide HL]; exact hlt)))
      generalize m.getD k 0 = y at hc HS HF
      generalize m.getD (k - 1) 0 = x at hp HS HF
      obtain ⟨j, hj⟩ : ∃ j, k = j + 1 := ⟨k - 1, by omega⟩
      subst hj
      rw [Nat.add_sub_cancel] at hp
      have hw1 : IntKind.i64.wrap (((j + 1 : Nat) : Int) - 1) = (j : Int) := by rw [IntKind.wrap_i64]; omega
      have hw2 : wrap64 (((j + 1 : Nat) : Int) - 1) = (j : Int) := by unfold wrap64; omega
      clear hk hk1
      by_cases h2 : x < y
      · have HS2 := hide (unhide HS h2)
        have h3 : ¬ y ≤ x := by omega
        have h3d : decide (y ≤ x) = false := decide_eq_false h3
        clear HS HF
        go_wp2
        go_quiet (fail)
        go_wp2
        go_roundw
        case rel => exact ⟨j + 2, _, by omega, .inl (by omega), by go_num, rfl, HS2⟩
        case measure => simp [intOf]; omega
      · have HF2 := hide (unhide HF h2)
        have h3 : y ≤ x := by omega
        clear HS HF
        go_wp2
        go_quiet (fail)
        go_wp2
        go_ret
        exact ⟨⟨_, rfl, by constructor
                           · intro h; cases h
                           · intro h; exact absurd h (unhide HF2)⟩, _, drewN_drewN _ _ _⟩
    · go_wp2
      go_ret
      exact ⟨⟨_, rfl, ⟨fun _ j h1 hj => unhide HN j h1 (by rw [unhide HL] at hj; omega), fun _ => rfl⟩⟩, _, rfl⟩
end Go.Proofs.YtmmhdhpocjnlbaaGreatDoor.Qu
/- Proved here: quorum.Enough, the page's Members and Enough. Helper contracts. -/
namespace Go.Proofs.YtmmhdhpocjnlbaaGreatDoor.Qu
open Go.RowKit Nt
set_option maxRecDepth 100000

theorem take_snocI (l : List Int) (k : Nat) (h : k < l.length) : l.take (k + 1) = l.take k ++ [l.getD k 0] := by
  rw [List.take_succ_eq_append_getElem h, List.getD_eq_getElem?_getD, List.getElem?_eq_getElem h]; rfl
/-- how many of the first k -/
def cK (l : List Int) (p : Int → Bool) (k : Nat) : Nat := (l.take k).countP p
theorem cK_zero (l : List Int) (p : Int → Bool) : cK l p 0 = 0 := rfl
theorem cK_yes {l : List Int} {p : Int → Bool} {k : Nat} (h : k < l.length) (hp : p (l.getD k 0) = true) : cK l p (k + 1) = cK l p k + 1 := by
  unfold cK
  rw [take_snocI l k h, List.countP_append, List.countP_cons, if_pos hp]
  rfl
theorem cK_no {l : List Int} {p : Int → Bool} {k : Nat} (h : k < l.length) (hp : p (l.getD k 0) = false) : cK l p (k + 1) = cK l p k := by
  unfold cK
  rw [take_snocI l k h, List.countP_append, List.countP_cons, if_neg (by rw [hp]; simp)]
  rfl
theorem cK_all (l : List Int) (p : Int → Bool) : cK l p l.length = l.countP p := by unfold cK; rw [List.take_length]
theorem cK_le (l : List Int) (p : Int → Bool) (k : Nat) : cK l p k ≤ k := Nat.le_trans List.countP_le_length (by rw [List.length_take]; omega)
/-- an answer beside an error -/
def EnoR (m v : List Int) (e : Ending) (w w' : World) : Prop := (Mem m ∧ e = .returned (.tuple #[.bool (enoB m v), .nilIface]) ∧ w' = w) ∨ (¬ Mem m ∧ ∃ x, e = .returned (.tuple #[.bool false, .iface 64 x]) ∧ ErB w' (.iface 64 x) 1 ∧ Below w.heap.size w w')
theorem mem_page {m : List Int} (h1 : ∀ j, j < m.length → 1 ≤ m.getD j 0 ∧ m.getD j 0 ≤ 7) : Rise m ↔ Mem m := ⟨fun h => mem_of_page h1 h, fun h => h.rise⟩
set_option maxHeartbeats 2000000 in
theorem rmem_any (ao : Option Addr) (n cap : Nat) (m : List Int) (w : World) (h : Ls w ao n cap m) :
    Calls Tryz.prog 21 #[.slice ao n cap] w fun e w' => e = .returned (.bool (decide (Mem m))) ∧ ∃ q, w' = w.drewN q := by
  have H := hide h
  have HR := hide (rise_any ao n cap m w h)
  have hmx := h.2.2.2.1
  have HL := hide h.1
  clear h
  obtain ⟨d, hd⟩ : ∃ d, d = decide (Mem m) := ⟨_, rfl⟩
  have HD := hide hd
  rw [← hd]
  clear hd
  go_enter Tryz.func21, Tryz.ntmps21
  go_wp2
  go_loopw [3] (fun i wr => ∃ k : Nat, k ≤ n ∧ i = .int .i64 k ∧ wr = w ∧ Hid (∀ j, j < k → 1 ≤ m.getD j 0 ∧ m.getD j 0 ≤ 7)) (fun i _ => n - (intOf i).toNat)
  case atStart => exact ⟨0, Nat.zero_le _, rfl, rfl, fun j hj => absurd hj (Nat.not_lt_zero j)⟩
  case round =>
    obtain ⟨k, hk, rfl, rfl, HN⟩ := hrel
    by_cases hlt : k < n
    · obtain ⟨b, off, rfl, hc⟩ := (unhide H).at hlt
      have HS := hide (fun (h2 : 1 ≤ m.getD k 0 ∧ m.getD k 0 ≤ 7) => upto_snoc (p := fun x => 1 ≤ x ∧ x ≤ 7) (unhide HN) h2)
      have HF := hide (fun (h2 : ¬ (1 ≤ m.getD k 0 ∧ m.getD k 0 ≤ 7)) => fun (hm : Mem m) => h2 ⟨hm.pos k (by rw [unhide HL]; exact hlt), (hm k (by rw [unhide HL]; exact hlt)).2⟩)
      generalize m.getD k 0 = y at hc HS HF
      by_cases h2 : 1 ≤ y ∧ y ≤ 7
      · obtain ⟨h3, h4⟩ := h2
        have HS2 := hide (unhide HS ⟨h3, h4⟩)
        have h5 : ¬ y < 1 := by omega
        have h6 : ¬ 7 < y := by omega
        clear HS HF
        go_wp2
        go_roundw
        case rel => exact ⟨k + 1, by omega, by go_num, by first | rfl | trivial, HS2⟩
        case measure => simp [intOf]; omega
      · have HF2 : Hid (false = d) := by show _ = _; rw [unhide HD, decide_eq_false (unhide HF h2)]
        clear HS HF
        by_cases h3 : y < 1
        · go_wp2
          go_ret
          exact ⟨ret_bool (unhide HF2), 0, rfl⟩
        · have h4 : 7 < y := by omega
          clear h2
          go_wp2
          go_ret
          exact ⟨ret_bool (unhide HF2), 0, rfl⟩
    · obtain rfl : k = n := by omega
      have HQ : Hid (Rise m ↔ Mem m) := mem_page (fun j hj => unhide HN j (by rw [← unhide HL]; exact hj))
      go_wp2_with fail
      refine (unhide HR).mono ?_
      rintro e w2 ⟨⟨f, rfl, HF⟩, q, rfl⟩
      have HE : Hid (f = d) := by
        show _ = _
        rw [unhide HD]
        have h := (unhide HF).trans (unhide HQ)
        by_cases hm : Mem m
        · rw [h.2 hm, decide_eq_true hm]
        · rw [decide_eq_false hm]
          cases f
          · rfl
          · exact absurd (h.1 rfl) hm
      go_wp2
      go_ret
      exact ⟨ret_bool (unhide HE), q, rfl⟩
end Go.Proofs.YtmmhdhpocjnlbaaGreatDoor.Qu
