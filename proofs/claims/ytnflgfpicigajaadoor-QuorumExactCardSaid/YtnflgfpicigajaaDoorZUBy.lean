/- Proved here: quorum.Bytes, the page's Bytes. Helper contracts. -/
import Derived.Test.YtnflgfpicigajaaDoorZUPr
namespace Go.Proofs.YtnflgfpicigajaaDoor.Qu
open Go.RowKit Nt
set_option maxRecDepth 100000

theorem info8 : (Tryd.prog.info? 5).map (fun i => (i.zero, i.size, i.bytes)) = some (some (.int .u8 0), 1, 1) := by kernel_rfl
theorem mk0 (w : World) : (Instr.makeSlice 59 (.int .i64 0) (.int .i64 0)).run Tryd.prog w = .ok (.slice (some ⟨w.heap.size, 0, none⟩) 0 0) (w.alloc (.cells #[] 5)) := by kernel_rfl
theorem mk1 (w : World) : (Instr.makeSlice 59 (.int .i64 0) (.int .i64 1)).run Tryd.prog w = .ok (.slice (some ⟨w.heap.size, 0, none⟩) 0 1) (w.alloc (.cells #[.int .u8 0] 5)) := by kernel_rfl
theorem mk2 (w : World) : (Instr.makeSlice 59 (.int .i64 0) (.int .i64 2)).run Tryd.prog w = .ok (.slice (some ⟨w.heap.size, 0, none⟩) 0 2) (w.alloc (.cells #[.int .u8 0, .int .u8 0] 5)) := by kernel_rfl
theorem mk3 (w : World) : (Instr.makeSlice 59 (.int .i64 0) (.int .i64 3)).run Tryd.prog w = .ok (.slice (some ⟨w.heap.size, 0, none⟩) 0 3) (w.alloc (.cells #[.int .u8 0, .int .u8 0, .int .u8 0] 5)) := by kernel_rfl
theorem mk4 (w : World) : (Instr.makeSlice 59 (.int .i64 0) (.int .i64 4)).run Tryd.prog w = .ok (.slice (some ⟨w.heap.size, 0, none⟩) 0 4) (w.alloc (.cells #[.int .u8 0, .int .u8 0, .int .u8 0, .int .u8 0] 5)) := by kernel_rfl
theorem mk5 (w : World) : (Instr.makeSlice 59 (.int .i64 0) (.int .i64 5)).run Tryd.prog w = .ok (.slice (some ⟨w.heap.size, 0, none⟩) 0 5) (w.alloc (.cells #[.int .u8 0, .int .u8 0, .int .u8 0, .int .u8 0, .int .u8 0] 5)) := by kernel_rfl
theorem mk6 (w : World) : (Instr.makeSlice 59 (.int .i64 0) (.int .i64 6)).run Tryd.prog w = .ok (.slice (some ⟨w.heap.size, 0, none⟩) 0 6) (w.alloc (.cells #[.int .u8 0, .int .u8 0, .int .u8 0, .int .u8 0, .int .u8 0, .int .u8 0] 5)) := by kernel_rfl
theorem mk7 (w : World) : (Instr.makeSlice 59 (.int .i64 0) (.int .i64 7)).run Tryd.prog w = .ok (.slice (some ⟨w.heap.size, 0, none⟩) 0 7) (w.alloc (.cells #[.int .u8 0, .int .u8 0, .int .u8 0, .int .u8 0, .int .u8 0, .int .u8 0, .int .u8 0] 5)) := by kernel_rfl
theorem make_by (w : World) (n : Nat) (hn : n ≤ 7) : (Instr.makeSlice 59 (.int .i64 0) (.int .i64 (n : Int))).run Tryd.prog w = .ok (.slice (some ⟨w.heap.size, 0, none⟩) 0 n) (w.alloc (.cells (Array.replicate n (.int .u8 0)) 5)) := by
  match n, hn with
  | 0, _ => exact mk0 w
  | 1, _ => exact mk1 w
  | 2, _ => exact mk2 w
  | 3, _ => exact mk3 w
  | 4, _ => exact mk4 w
  | 5, _ => exact mk5 w
  | 6, _ => exact mk6 w
  | 7, _ => exact mk7 w
theorem made_own (w : World) (n : Nat) (hn : n ≤ 7) : (w.alloc (.cells (Array.replicate n (.int .u8 0)) 5)).ownsRow w.heap.size 5 1 (.slice (some ⟨w.heap.size, 0, none⟩) 0 n) 0 [] := by
  refine ⟨rfl, .inr ⟨w.heap.size, n, Array.replicate n (.int .u8 0), rfl, Nat.le_refl _, (by show (Array.push w.heap _)[w.heap.size]? = _; rw [Array.getElem?_push_size]), Nat.zero_le _, by unfold maxLen; omega, by rw [Array.size_replicate, Nat.mul_one], rfl⟩⟩
theorem mem_small {m : List Int} (h : Mem m) (j : Nat) : 0 ≤ m.getD j 0 ∧ m.getD j 0 ≤ 255 := by
  by_cases hj : j < m.length
  · have h1 := h.pos j hj
    have h2 := (h j hj).2
    omega
  · rw [List.getD_eq_getElem?_getD, List.getElem?_eq_none (by omega)]
    simp
/-- what Bytes answers -/
def BytR (m : List Int) (e : Ending) (w w' : World) : Prop := (Mem m ∧ e = .returned (.tuple #[.string (bs m), .nilIface]) ∧ Below w.heap.size w w') ∨ (¬ Mem m ∧ ∃ x, e = .returned (.tuple #[.string ⟨#[]⟩, .iface 62 x]) ∧ ErB w' (.iface 62 x) 1 ∧ Below w.heap.size w w')
set_option maxHeartbeats 4000000 in
theorem byt_any (ao : Option Addr) (n cap : Nat) (m : List Int) (w : World) (h : Ls w ao n cap m) :
    Calls Tryd.prog 21 #[.slice ao n cap] w fun e w' => BytR m e w w' := by
  obtain ⟨i0, hi, hz0, hz1, hz2⟩ := info_parts info8
  have H := hide h
  have HL := hide h.1
  have HK := hide (chk_any ao n cap m w h)
  clear h
  by_cases hM : Mem m
  · have hn7 : n ≤ 7 := by have := hM.len7; rw [unhide HL] at this; exact this
    have hmk := make_by w n hn7
    have HO0 := hide (made_own w n hn7)
    have HM := hide hM
    have HB0 : Hid (Below w.heap.size w (w.alloc (.cells (Array.replicate n (.int .u8 0)) 5))) := (Below.refl _ _).alloc (Nat.le_refl _) _
    generalize w.alloc (.cells (Array.replicate n (.int .u8 0)) 5) = w1 at hmk HO0 HB0
    clear hM
    go_enter Tryd.func21, Tryd.ntmps21
    go_wp2_with fail
    refine (unhide HK).mono ?_
    rintro e w2 hr
    rcases hr with ⟨_, rfl, hw⟩ | ⟨hM, _⟩
    · obtain rfl := hw.symm
      go_wp2
      go_loopw [5, 18] (fun v i wr => ∃ k : Nat, k ≤ n ∧ i = .int .i64 k ∧ Hid (wr.ownsRow w.heap.size 5 1 v k ((m.take k).map (Value.int .u8))) ∧ Below w.heap.size w wr) (fun _ i _ => n - (intOf i).toNat)
      case atStart => exact ⟨0, Nat.zero_le _, rfl, unhide HO0, unhide HB0⟩
      case round =>
        obtain ⟨k, hk, rfl, HOWN, hbel⟩ := hrel
        by_cases hlt : k < n
        · obtain ⟨b, off, rfl, hc⟩ := ((unhide H).below hbel).at hlt
          have HPS : Hid ((m.take (k + 1)).map (Value.int .u8) = (m.take k).map (Value.int .u8) ++ [.int .u8 (m.getD k 0)]) := by
            show _ = _
            rw [take_snocI m k (by rw [unhide HL]; exact hlt), List.map_append]; rfl
          have hx := mem_small (unhide HM) k
          generalize m.getD k 0 = x at hc HPS hx
          have hx8 : IntKind.u8.wrap x = x := by
            have h8 : (2 : Int) ^ IntKind.u8.bits = 256 := rfl
            have hsg : IntKind.u8.signed = false := rfl
            simp only [IntKind.wrap, h8, hsg, Bool.false_and, Bool.false_eq_true, if_false]
            omega
          have HBEL := hide hbel
          have hsz := hbel.size
          clear hbel hx
          go_wp2_with (first
            | (at_builtin; refine wpList_append_own _ rfl _ _ 59 rfl w.heap.size 5 i0 _ 1 1 Tryd.underlying59 hi hz0 hz1 hz2 rfl (by decide) _ _ _ rfl ((unhide HOWN).alloc _) ⟨wr.heap.size, 0, none⟩ 1 1 [.int .u8 x] rfl rfl (one_cell _ _ _) (one_one _ _) (by unfold maxLen; omega) (by omega) (by simp; omega) ?_)
            | go_in)
          intro v' w4 hown' hgrow _
          have HB1 : Hid (Below w.heap.size w w4) := ((unhide HBEL).alloc hsz _).grown hgrow (by simp; omega) (fun k hk => ((unhide HOWN).lt k hk).1)
          have HO1 : Hid (w4.ownsRow w.heap.size 5 1 v' (k + 1) ((m.take (k + 1)).map (Value.int .u8))) := by show World.ownsRow _ _ _ _ _ _ _; rw [unhide HPS]; first | exact hown' | (rw [List.map_take]; exact hown')
          clear hgrow hown'
          go_wp2
          go_roundw
          case rel => exact ⟨k + 1, by omega, by go_num, HO1, unhide HB1⟩
          case measure => simp [intOf]; omega
        · obtain rfl : k = n := by omega
          have HO : Hid (Byt wr u5 m) := by
            have := unhide HOWN
            rw [List.take_of_length_le (Nat.le_of_eq (unhide HL))] at this
            exact byt_of_owns this (mem_small (unhide HM))
          have HBEL := hide hbel
          have hcv := conv_byt wr u5 m (unhide HO)
          clear hbel HOWN
          go_wp2
          go_returns
          exact .inl ⟨unhide HM, rfl, unhide HBEL⟩
    · exact absurd (unhide HM) hM
  · have HM := hide hM
    clear hM
    go_enter Tryd.func21, Tryd.ntmps21
    go_wp2_with fail
    refine (unhide HK).mono ?_
    rintro e w2 hr
    rcases hr with ⟨hM, _⟩ | ⟨hM, x, rfl, hE, hb⟩
    · exact absurd hM (unhide HM)
    · have HE := hide hE
      have HB2 := hide hb
      clear hM hE hb
      go_wp2
      go_returns
      exact .inr ⟨unhide HM, _, rfl, unhide HE, unhide HB2⟩
set_option maxHeartbeats 4000000 in
theorem rbyt_any (ao : Option Addr) (n cap : Nat) (m : List Int) (w : World) (h : Ls w ao n cap m) (hM : Mem m) :
    Calls Tryd.prog 22 #[.slice ao n cap] w fun e w' => e = .returned (.string (bs m)) ∧ Below w.heap.size w w' := by
  obtain ⟨i0, hi, hz0, hz1, hz2⟩ := info_parts info8
  have H := hide h
  have HL := hide h.1
  have hn7 : n ≤ 7 := by have := hM.len7; rw [h.1] at this; exact this
  have HM := hide hM
  clear h hM
  go_enter Tryd.func22, Tryd.ntmps22
  go_wp2
  go_loopw [3, 4] (fun v i wr => ∃ k : Nat, k ≤ n ∧ i = .int .i64 k ∧ Hid (wr.ownsRow w.heap.size 5 1 v k ((m.take k).map (Value.int .u8))) ∧ Below w.heap.size w wr) (fun _ i _ => n - (intOf i).toNat)
  case atStart => exact ⟨0, Nat.zero_le _, rfl, World.ownsRow_nil _ _ _ _, Below.refl _ _⟩
  case round =>
    obtain ⟨k, hk, rfl, HOWN, hbel⟩ := hrel
    by_cases hlt : k < n
    · obtain ⟨b, off, rfl, hc⟩ := ((unhide H).below hbel).at hlt
      have HPS : Hid ((m.take (k + 1)).map (Value.int .u8) = (m.take k).map (Value.int .u8) ++ [.int .u8 (m.getD k 0)]) := by
        show _ = _
        rw [take_snocI m k (by rw [unhide HL]; exact hlt), List.map_append]; rfl
      have hx := mem_small (unhide HM) k
      generalize m.getD k 0 = x at hc HPS hx
      have hx8 : IntKind.u8.wrap x = x := by
        have h8 : (2 : Int) ^ IntKind.u8.bits = 256 := rfl
        have hsg : IntKind.u8.signed = false := rfl
        simp only [IntKind.wrap, h8, hsg, Bool.false_and, Bool.false_eq_true, if_false]
        omega
      have HBEL := hide hbel
      have hsz := hbel.size
      clear hbel hx
      go_wp2_with (first
        | (at_builtin; refine wpList_append_own _ rfl _ _ 59 rfl w.heap.size 5 i0 _ 1 1 Tryd.underlying59 hi hz0 hz1 hz2 rfl (by decide) _ _ _ rfl ((unhide HOWN).alloc _) ⟨wr.heap.size, 0, none⟩ 1 1 [.int .u8 x] rfl rfl (one_cell _ _ _) (one_one _ _) (by unfold maxLen; omega) (by omega) (by simp; omega) ?_)
        | go_in)
      intro v' w4 hown' hgrow _
      have HB1 : Hid (Below w.heap.size w w4) := ((unhide HBEL).alloc hsz _).grown hgrow (by simp; omega) (fun k hk => ((unhide HOWN).lt k hk).1)
      have HO1 : Hid (w4.ownsRow w.heap.size 5 1 v' (k + 1) ((m.take (k + 1)).map (Value.int .u8))) := by show World.ownsRow _ _ _ _ _ _ _; rw [unhide HPS]; first | exact hown' | (rw [List.map_take]; exact hown')
      clear hgrow hown'
      go_wp2
      go_roundw
      case rel => exact ⟨k + 1, by omega, by go_num, HO1, unhide HB1⟩
      case measure => simp [intOf]; omega
    · obtain rfl : k = n := by omega
      have HO : Hid (Byt wr u3 m) := by
        have := unhide HOWN
        rw [List.take_of_length_le (Nat.le_of_eq (unhide HL))] at this
        exact byt_of_owns this (mem_small (unhide HM))
      have HBEL := hide hbel
      have hcv := conv_byt wr u3 m (unhide HO)
      clear hbel HOWN
      go_wp2
      go_ret
      exact ⟨rfl, unhide HBEL⟩
end Go.Proofs.YtnflgfpicigajaaDoor.Qu
