/- Proved here: the page's Index. Helper contracts. -/
import Derived.Test.YtnflgfpicigajaaDoorZUEn
namespace Go.Proofs.YtnflgfpicigajaaDoor.Qu
open Go.RowKit Nt
set_option maxRecDepth 100000

theorem bst_take (l : List Int) (k : Nat) (h : k < l.length) (b : Int) : bst l (l.take (k + 1)) b = (if l.length < 2 * geC l (l.getD k 0) then max (bst l (l.take k) b) (l.getD k 0) else bst l (l.take k) b) := by
  rw [take_snocI l k h, bst_snoc]
theorem max_if (a b : Int) : Value.int .i64 (if a < b then b else a) = Value.int .i64 (max a b) := by
  congr 1
  by_cases h : a < b
  · rw [if_pos h]; omega
  · rw [if_neg h]; omega
/-- the best of the first k -/
def bK (l : List Int) (k : Nat) : Int := bst l (l.take k) 0
theorem bK_yes {l : List Int} {k : Nat} (h : k < l.length) (hg : l.length < 2 * geC l (l.getD k 0)) : bK l (k + 1) = max (bK l k) (l.getD k 0) := by
  unfold bK
  rw [bst_take l k h, if_pos hg]
theorem bK_no {l : List Int} {k : Nat} (h : k < l.length) (hg : ¬ l.length < 2 * geC l (l.getD k 0)) : bK l (k + 1) = bK l k := by
  unfold bK
  rw [bst_take l k h, if_neg hg]
theorem bK_all (l : List Int) : bK l l.length = bst l l 0 := by unfold bK; rw [List.take_length]
set_option maxHeartbeats 4000000 in
theorem rix_any (ao : Option Addr) (n cap : Nat) (l : List Int) (w : World) (h : Ls w ao n cap l) :
    Calls Tryd.prog 14 #[.slice ao n cap] w fun e w' => e = .returned (.int .i64 (bst l l 0)) ∧ ∃ q, w' = w.drewN q := by
  have H := hide h
  have hmx := h.2.2.2.1
  have HL := hide h.1
  clear h
  go_enter Tryd.func14, Tryd.ntmps14
  go_wp2
  go_loopw [3, 4] (fun c i wr => ∃ k q : Nat, k ≤ n ∧ i = .int .i64 k ∧ c = .int .i64 (bK l k) ∧ wr = w.drewN q) (fun _ i _ => n - (intOf i).toNat)
  case atStart => exact ⟨0, 0, Nat.zero_le _, rfl, rfl, rfl⟩
  case round =>
    obtain ⟨k, q, hk, rfl, rfl, rfl⟩ := hrel
    by_cases hlt : k < n
    · obtain ⟨b, off, rfl, hc⟩ := (unhide H).at hlt
      have HY := hide (fun h => bK_yes (show k < l.length by rw [unhide HL]; exact hlt) h)
      have HN := hide (fun h => bK_no (show k < l.length by rw [unhide HL]; exact hlt) h)
      generalize bK l k = bb at HY HN ⊢
      obtain ⟨y, hy⟩ : ∃ y, y = l.getD k 0 := ⟨_, rfl⟩
      have HYY := hide hy
      rw [← hy] at hc HY HN
      clear hy
      go_wp2
      go_loopw [5, 6] (fun c i wr => ∃ j r : Nat, j ≤ n ∧ i = .int .i64 j ∧ c = .int .i64 (cK l (fun x => decide (y ≤ x)) j : Nat) ∧ wr = w.drewN r) (fun _ i _ => n - (intOf i).toNat)
      case atStart => exact ⟨0, q, Nat.zero_le _, rfl, rfl, rfl⟩
      case round =>
        obtain ⟨j, r, hj, rfl, rfl, rfl⟩ := hrel
        by_cases hlj : j < n
        · obtain ⟨b', off', e, hd⟩ := (unhide H).at hlj
          obtain ⟨rfl, rfl⟩ : b = b' ∧ off = off' := by simpa using e
          clear e
          have HY1 := hide (fun h => cK_yes (p := fun x => decide (y ≤ x)) (show j < l.length by rw [unhide HL]; exact hlj) h)
          have HN1 := hide (fun h => cK_no (p := fun x => decide (y ≤ x)) (show j < l.length by rw [unhide HL]; exact hlj) h)
          have hck := cK_le l (fun x => decide (y ≤ x)) j
          generalize cK l (fun x => decide (y ≤ x)) j = c at HY1 HN1 hck ⊢
          generalize l.getD j 0 = x at hd HY1 HN1
          by_cases hxy : y ≤ x
          · have HE := hide (unhide HY1 (decide_eq_true hxy))
            clear HY1 HN1
            go_wp2
            go_quiet (fail)
            go_wp2
            go_roundw
            case rel => exact ⟨j + 1, _, by omega, by go_num, by rw [unhide HE]; go_num, rfl⟩
            case measure => simp [intOf]; omega
          · have HE := hide (unhide HN1 (decide_eq_false hxy))
            clear HY1 HN1
            go_wp2
            go_quiet (fail)
            go_wp2
            go_roundw
            case rel => exact ⟨j + 1, _, by omega, by go_num, by rw [unhide HE], rfl⟩
            case measure => simp [intOf]; omega
        · obtain rfl : j = n := by omega
          have HC : Hid (cK l (fun x => decide (y ≤ x)) j = geC l y) := by
            show _ = _
            rw [← unhide HL]
            exact cK_all _ _
          have hck := cK_le l (fun x => decide (y ≤ x)) j
          generalize cK l (fun x => decide (y ≤ x)) j = c at HC hck ⊢
          have hw1 : IntKind.i64.wrap (2 * (c : Int)) = 2 * (c : Int) := by rw [IntKind.wrap_i64]; omega
          have hw2 : wrap64 (2 * (c : Int)) = 2 * (c : Int) := by unfold wrap64; omega
          by_cases hg : (j : Int) < 2 * (c : Int)
          · have HE := hide (unhide HY (by rw [unhide HL, ← unhide HC]; omega))
            clear HY HN
            go_wp2
            go_roundw
            case rel => exact ⟨k + 1, _, by omega, by go_num, by rw [unhide HE]; exact max_if bb y, rfl⟩
            case measure => simp [intOf]; omega
          · have HE := hide (unhide HN (by rw [unhide HL, ← unhide HC]; omega))
            clear HY HN
            go_wp2
            go_roundw
            case rel => exact ⟨k + 1, _, by omega, by go_num, by rw [unhide HE], rfl⟩
            case measure => simp [intOf]; omega
    · obtain rfl : k = n := by omega
      have HE : Hid (bK l k = bst l l 0) := by show _ = _; rw [← unhide HL]; exact bK_all l
      go_wp2
      go_ret
      exact ⟨by rw [← unhide HE]; rfl, q, rfl⟩
end Go.Proofs.YtnflgfpicigajaaDoor.Qu
