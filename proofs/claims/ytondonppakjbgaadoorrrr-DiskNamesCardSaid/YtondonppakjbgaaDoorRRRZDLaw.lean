/- Proved here: dovecotelaw10's num, heavy and wakes. Helper contracts. -/
import Derived.Test.YtondonppakjbgaaDoorRRRZDNew
import Derived.Test.YtondonppakjbgaaDoorRRRZEq
import Derived.Lib.SlBytesConst
namespace Go.Proofs.YtondonppakjbgaaDoorRRR.D
open Go.RowKit Go.Maps
set_option maxRecDepth 100000

theorem bnx {w a b : World} (h : Below w.heap.size w a) (h2 : Below a.heap.size a b) : Below w.heap.size w b := h.trans (h2.mono h.size)
theorem num_er (v : Value) (n : Int) (B : Nat) (w : World) (hg : Laid w) (hv : ErN w B v n) :
    Calls Tryd.prog 6 #[v] w fun e w' => e = .returned (.int .i64 n) ∧ Below w.heap.size w w' := by
  have H := hide (num_any v n w hg hv.is)
  obtain ⟨t, x, hx⟩ | hx : (∃ t x, v = .iface t x) ∨ v = .nilIface := by
    rcases hv with ⟨_, h⟩ | ⟨_, b, h, _⟩
    · exact .inr h
    · exact .inl ⟨_, _, h⟩
  · subst hx
    clear hg hv
    go_enter Tryd.func6, Tryd.ntmps6
    go_wp2_with (go_at_call 15; refine (unhide H).mono ?_; rintro e w' ⟨rfl, hb⟩)
    go_ret
    exact ⟨rfl, hb⟩
  · subst hx
    clear hg hv
    go_enter Tryd.func6, Tryd.ntmps6
    go_wp2_with (go_at_call 15; refine (unhide H).mono ?_; rintro e w' ⟨rfl, hb⟩)
    go_ret
    exact ⟨rfl, hb⟩
theorem num_0 (w : World) : Calls Tryd.prog 6 #[.nilIface] w fun e w' => e = .returned (.int .i64 0) ∧ w' = w := by
  go_enter Tryd.func6, Tryd.ntmps6
  go_wp2_with (go_at_call 15; refine (num_nil _).mono ?_; rintro e w' ⟨rfl, hw⟩; obtain rfl := hw.symm; clear hw)
  go_ret
  exact ⟨rfl, rfl⟩
/-- three bytes in a block of one's own -/
theorem abc_byt {w : World} {b : Nat} {f : Nat × Nat} (h : w.heap[b]? = some (.cells #[.int .u8 97, .int .u8 98, .int .u8 99] 5 f)) : Byt w (.slice (some ⟨b, 0, none⟩) 3 3) [97, 98, 99] := by
  refine ⟨_, 3, rfl, ⟨by decide, by unfold maxLen; omega⟩, ?_, .inr ⟨_, 0, rfl, fun j hj => ?_⟩⟩
  · intro j; rcases j with _ | _ | _ | j <;> simp
  · have : j = 0 ∨ j = 1 ∨ j = 2 := by simp at hj; omega
    rcases this with rfl | rfl | rfl <;> simp [World.cell?, h]
theorem nm_a : nmB ⟨#[97]⟩ = true := by decide
theorem new_nil' (w : World) : Calls Tryd.prog 5 #[.slice none 0 0] w fun e w' => e = .returned (.tuple #[.pointer (some ⟨w.heap.size, 0, none⟩), .nilIface]) ∧ Hid (w'.heap[w.heap.size]? = some (dkO (.map none) 0) ∧ Below w.heap.size w w') := by
  refine (new_nil w).mono ?_
  rintro e w' ⟨rfl, rfl⟩
  exact ⟨rfl, heap_alloc_new w _, (Below.refl _ _).alloc (Nat.le_refl _) _⟩
set_option maxHeartbeats 1000000 in
theorem wakes10 (w : World) : Calls Tryd.prog 10 #[] w fun e w' => e = .returned (.bool true) ∧ Below w.heap.size w w' := by
  have kc := fun (w : World) (C : Array Value) (n c : Nat) => Lib.run_convert_bytes_const (P := Tryd.prog) w 27 5 C n c Tryd.underlying27 Tryd.underlying5
  go_enter Tryd.func10, Tryd.ntmps10
  go_wp2_with (first
    | (go_at_call 5; refine (new_nil' _).mono ?_; rintro e w1 ⟨rfl, hw1⟩)
    | (go_at_call 6; refine (num_0 _).mono ?_; rintro e w' ⟨rfl, hw⟩; obtain rfl := hw.symm; clear hw)
    | (go_at_call 8; refine (append_ok w.heap.size ⟨#[97]⟩ _ [97, 98, 99] 0 _ (by decide) nm_a ((Below.heap_alloc _ _ _ (Array.getElem?_eq_some_iff.1 (unhide hw1).1).1).trans (unhide hw1).1) (by decide) (by decide) (abc_byt (heap_alloc_new w1 _)) (by decide)).mono ?_; rintro e w2 ⟨rfl, hw2⟩)
    | (go_at_call 18; refine (read_one _ w.heap.size ⟨#[97]⟩ [97, 98, 99] w2 (by decide) nm_a (unhide hw2).1 (by decide)).mono ?_; rintro e w3 ⟨v, rfl, hv, hb3⟩; have hy3 : Hid (Byt w3 v [97, 98, 99]) := byt_of_owns (unhide hv) (by intro j; rcases j with _ | _ | _ | j <;> simp); obtain ⟨va, vc, hva, _⟩ := (unhide hy3).form; subst hva)
    | (go_at_call 19; refine (eq_any _ _ [97, 98, 99] [97, 98, 99] _ ((unhide hy3).below ((Below.refl _ _).alloc (Nat.le_refl _) _)) (abc_byt (heap_alloc_new w3 _))).mono ?_; rintro e w' ⟨rfl, q, rfl⟩)
    | go_in)
  go_ret
  refine ⟨rfl, below_drewN ?_ _⟩
  have b1 := (unhide hw1).2
  have b2 : Below w.heap.size w w2 := (b1.alloc (by have := b1.size; omega) _).trans ((unhide hw2).2.below (fun k e => by omega) (by have := b1.size; simp; omega))
  exact (bnx b2 hb3).alloc (by have := (bnx b2 hb3).size; omega) _
/-- what is done, as it lies in memory: its name and two lists -/
def Act (w : World) (b p : Nat) (s : ByteArray) : Prop :=
  w.cell? ⟨b, p + 1, none⟩ = some (.string s) ∧ s.size ≤ maxLen ∧ ∃ a n c a' n' c', w.cell? ⟨b, p + 4, none⟩ = some (.slice a n c) ∧ w.cell? ⟨b, p + 5, none⟩ = some (.slice a' n' c')
/-- a readable script's two lists -/
structure Scr (w : World) (fo lo : Option Addr) (fl len : Nat) : Prop where
  fle : fl ≤ maxLen
  lle : len ≤ maxLen
  fs : fl = 0 ∨ ∃ b off, fo = some ⟨b, off, none⟩ ∧ ∀ i, i < fl → ∃ a n c, w.cell? ⟨b, off + i * 2 + 1, none⟩ = some (.slice a n c)
  ls : len = 0 ∨ ∃ b off, lo = some ⟨b, off, none⟩ ∧ ∀ i, i < len → ∃ s, Act w b (off + i * 6) s
theorem Act.below {w w' : World} {b p : Nat} {s : ByteArray} (h : Act w b p s) (hb : Below w.heap.size w w') : Act w' b p s := by
  obtain ⟨h1, h2, a, n, c, a', n', c', h3, h4⟩ := h
  exact ⟨(hb.cell (cell_lt h1)).trans h1, h2, a, n, c, a', n', c', (hb.cell (cell_lt h3)).trans h3, (hb.cell (cell_lt h4)).trans h4⟩
theorem Scr.below {w w' : World} {fo lo : Option Addr} {fl len : Nat} (h : Scr w fo lo fl len) (hb : Below w.heap.size w w') : Scr w' fo lo fl len := by
  refine ⟨h.fle, h.lle, ?_, ?_⟩
  · rcases h.fs with h1 | ⟨b, off, e, h1⟩
    · exact .inl h1
    · refine .inr ⟨b, off, e, fun i hi => ?_⟩
      obtain ⟨a, n, c, k⟩ := h1 i hi
      exact ⟨a, n, c, (hb.cell (cell_lt k)).trans k⟩
  · rcases h.ls with h1 | ⟨b, off, e, h1⟩
    · exact .inl h1
    · refine .inr ⟨b, off, e, fun i hi => ?_⟩
      obtain ⟨s, k⟩ := h1 i hi
      exact ⟨s, k.below hb⟩
def HvPost (w : World) (e : Ending) (w' : World) : Prop := ∃ q, e = .returned (.bool q) ∧ Below w.heap.size w w'
set_option maxHeartbeats 2000000 in
theorem heavy_any (fo lo : Option Addr) (fl fc len cap : Nat) (w : World) (h : Scr w fo lo fl len) : Calls Tryd.prog 4 #[.agg #[.slice fo fl fc, .slice lo len cap]] w (HvPost w) := by
  have HS : Hid (Scr (w.alloc (.cells #[.slice fo fl fc, .slice lo len cap] 25)) fo lo fl len) := h.below ((Below.refl _ _).alloc (Nat.le_refl _) _)
  have HB : Hid (Below w.heap.size w (w.alloc (.cells #[.slice fo fl fc, .slice lo len cap] 25))) := (Below.refl _ _).alloc (Nat.le_refl _) _
  have x0 : (w.alloc (.cells #[.slice fo fl fc, .slice lo len cap] 25)).cell? ⟨w.heap.size, 0, none⟩ = some (.slice fo fl fc) := by simp
  have x1 : (w.alloc (.cells #[.slice fo fl fc, .slice lo len cap] 25)).cell? ⟨w.heap.size, 1, none⟩ = some (.slice lo len cap) := by simp
  have hfl := h.fle
  have hlen := h.lle
  unfold maxLen at hlen hfl
  clear h
  go_enter Tryd.func4, Tryd.ntmps4
  go_wp2
  generalize w.alloc (.cells #[.slice fo fl fc, .slice lo len cap] 25) = w1 at HS HB x0 x1 ⊢
  go_loopw [3, 4] (fun n i wr => ∃ (k : Nat) (N : Int), n = .int .i64 N ∧ i = .int .i64 k ∧ k ≤ fl ∧ k ≤ 40 ∧ wr = w1) (fun _ i _ => 40 - (intOf i).toNat)
  case atStart => exact ⟨0, 0, rfl, rfl, Nat.zero_le _, by omega, rfl⟩
  case round =>
    obtain ⟨k, N, rfl, rfl, hk, hk4, hw⟩ := hrel
    obtain rfl := hw.symm
    clear hw
    by_cases hlt : k < fl
    · by_cases hlt4 : k < 40
      · rcases (unhide HS).fs with h0 | ⟨fb, foff, rfl, hc⟩
        · omega
        · obtain ⟨ca, cn, cc, hck⟩ := hc k hlt
          clear hc
          go_wp2
          go_roundw
          case rel => exact ⟨k + 1, _, rfl, by go_num, by omega, by omega, by first | trivial | rfl⟩
          case measure => simp [intOf]; omega
      · obtain rfl : k = 40 := by omega
        go_wp2
        go_loopw [3, 5] (fun n i wr => ∃ (k q : Nat) (N : Int), n = .int .i64 N ∧ i = .int .i64 k ∧ k ≤ len ∧ k ≤ 40 ∧ wr = w1.drewN q) (fun _ i _ => 40 - (intOf i).toNat)
        case atStart => exact ⟨0, 0, N, rfl, rfl, Nat.zero_le _, by omega, rfl⟩
        case round =>
          obtain ⟨j, q, M, rfl, rfl, hj, hj4, hw⟩ := hrel
          subst hw
          by_cases hjl : j < len
          · by_cases hjl4 : j < 40
            · rcases (unhide HS).ls with h0 | ⟨lb, loff, rfl, hc⟩
              · omega
              · obtain ⟨s, k1, _, a, n, c, a', n', c', k4, k5⟩ := hc j hjl
                clear hc
                go_wp2
                go_quiet (fail)
                go_wp2
                go_roundw
                case rel => exact ⟨j + 1, _, _, rfl, by go_num, by omega, by omega, rfl⟩
                case measure => simp [intOf]; omega
            · obtain rfl : j = 40 := by omega
              go_wp2
              all_goals go_ret
              all_goals exact ⟨_, rfl, below_drewN (unhide HB) _⟩
          · obtain rfl : j = len := by omega
            go_wp2
            all_goals go_ret
            all_goals exact ⟨_, rfl, below_drewN (unhide HB) _⟩
    · obtain rfl : k = fl := by omega
      go_wp2
      go_loopw [3, 5] (fun n i wr => ∃ (k q : Nat) (N : Int), n = .int .i64 N ∧ i = .int .i64 k ∧ k ≤ len ∧ k ≤ 40 ∧ wr = w1.drewN q) (fun _ i _ => 40 - (intOf i).toNat)
      case atStart => exact ⟨0, 0, N, rfl, rfl, Nat.zero_le _, by omega, rfl⟩
      case round =>
        obtain ⟨j, q, M, rfl, rfl, hj, hj4, hw⟩ := hrel
        subst hw
        by_cases hjl : j < len
        · by_cases hjl4 : j < 40
          · rcases (unhide HS).ls with h0 | ⟨lb, loff, rfl, hc⟩
            · omega
            · obtain ⟨s, k1, _, a, n, c, a', n', c', k4, k5⟩ := hc j hjl
              clear hc
              go_wp2
              go_quiet (fail)
              go_wp2
              go_roundw
              case rel => exact ⟨j + 1, _, _, rfl, by go_num, by omega, by omega, rfl⟩
              case measure => simp [intOf]; omega
          · obtain rfl : j = 40 := by omega
            go_wp2
            all_goals go_ret
            all_goals exact ⟨_, rfl, below_drewN (unhide HB) _⟩
        · obtain rfl : j = len := by omega
          go_wp2
          all_goals go_ret
          all_goals exact ⟨_, rfl, below_drewN (unhide HB) _⟩
end Go.Proofs.YtondonppakjbgaaDoorRRR.D
