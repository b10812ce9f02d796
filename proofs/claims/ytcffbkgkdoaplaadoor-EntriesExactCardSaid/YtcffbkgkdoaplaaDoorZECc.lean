/- Proved here: slices.Concat of lists of entries: memory of its own. Helper contracts. -/
import Derived.Test.YtcffbkgkdoaplaaDoorZECo
namespace Go.Proofs.YtcffbkgkdoaplaaDoor.Et
open Go.RowKit Nt
set_option maxRecDepth 100000

structure Sl where
  a : Option Addr
  n : Nat
  c : Nat
/-- lists in a row -/
def RowsE (w : World) (g m : Nat) (f : Nat → Sl) (ls : List (List En)) : Prop := ls.length = m ∧ ∀ i, i < m → w.cell? ⟨g, i, none⟩ = some (.slice (f i).a (f i).n (f i).c) ∧ Es w (f i).a (f i).n (f i).c (ls.getD i [])
theorem RowsE.below {w w' : World} {g m : Nat} {f : Nat → Sl} {ls : List (List En)} (h : RowsE w g m f ls) (hb : Below w.heap.size w w') : RowsE w' g m f ls := ⟨h.1, fun i hi => ⟨(hb.cell (cell_lt (h.2 i hi).1)).trans (h.2 i hi).1, (h.2 i hi).2.below hb⟩⟩
theorem flat_snocE (ls : List (List En)) (k : Nat) (h : k < ls.length) : (ls.take (k + 1)).flatten = (ls.take k).flatten ++ ls.getD k [] := by
  rw [List.take_add_one, List.getElem?_eq_getElem h, List.flatten_append, List.getD_eq_getElem?_getD, List.getElem?_eq_getElem h]
  simp
theorem take_flat_leE (ls : List (List En)) (k : Nat) : (ls.take k).flatten.length ≤ ls.flatten.length := by
  have h : ls.flatten = (ls.take k).flatten ++ (ls.drop k).flatten := by rw [← List.flatten_append, List.take_append_drop]
  rw [h, List.length_append]
  omega
set_option maxHeartbeats 8000000 in
theorem concat_any (g m cap : Nat) (f : Nat → Sl) (ls : List (List En)) (w : World) (hm : m ≤ 4) (hmx : ls.flatten.length ≤ 1000000) (hr : RowsE w g m f ls) :
    Calls Tryd.prog 45 #[.slice (some ⟨g, 0, none⟩) m cap] w fun e w' => ∃ v, e = .returned v ∧ Hid (w'.ownsRow w.heap.size 68 4 v ls.flatten.length (ecs ls.flatten)) ∧ Hid (Below w.heap.size w w') := by
  obtain ⟨i0, hi, hz0, hz1, hz2⟩ := info_parts infoEnt
  have HR := hide hr
  have HMX := hide hmx
  clear hr hmx
  go_enter Tryd.func45, Tryd.ntmps45
  go_wp2
  go_loopw [3, 11] (fun sz i wr => ∃ k : Nat, k ≤ m ∧ i = .int .i64 k ∧ sz = .int .i64 ((ls.take k).flatten.length : Nat) ∧ wr = w) (fun _ i _ => m - (intOf i).toNat)
  case atStart => exact ⟨0, Nat.zero_le _, rfl, rfl, rfl⟩
  case round =>
    obtain ⟨k, hk, rfl, rfl, hw⟩ := hrel
    obtain rfl := hw.symm
    by_cases hlt : k < m
    · obtain ⟨c0, he⟩ := (unhide HR).2 k hlt
      have HF := hide (flat_snocE ls k (by rw [(unhide HR).1]; exact hlt))
      have hle := take_flat_leE ls (k + 1)
      have HMX2 := unhide HMX
      rw [unhide HF, List.length_append] at hle
      have hl1 := he.1
      generalize (f k).a = ao at c0 he
      generalize hn : (f k).n = n at c0 he hl1
      generalize (f k).c = c at c0 he
      have HL : Hid ((ls.take (k + 1)).flatten.length = (ls.take k).flatten.length + n) := by
        show _ = _
        rw [unhide HF, List.length_append, hl1]
      rw [hl1] at hle
      generalize (ls.take k).flatten.length = N at hle HL
      clear he hl1 hn
      go_wp2
      go_roundw
      case rel => exact ⟨k + 1, by omega, by go_num, by rw [unhide HL]; go_num, by first | rfl | trivial⟩
      case measure => simp [intOf]; omega
    · obtain rfl : m = k := by omega
      rw [List.take_of_length_le (Nat.le_of_eq (unhide HR).1)]
      obtain ⟨N, hN⟩ : ∃ N, N = ls.flatten.length := ⟨_, rfl⟩
      rw [← hN]
      have hNx : N ≤ 1000000 := by rw [hN]; exact unhide HMX
      have HN := hide hN
      clear hN HMX
      go_wp2_with fail
      refine (grow_nil N _ hNx).mono ?_
      rintro e w1 ⟨v0, rfl, HO1, HB1⟩
      go_wp2
      go_loopw [6, 27] (fun v i wr => ∃ k : Nat, k ≤ m ∧ i = .int .i64 k ∧ Hid (wr.ownsRow w.heap.size 68 4 v (ls.take k).flatten.length (ecs (ls.take k).flatten)) ∧ Hid (Below w.heap.size w wr)) (fun _ i _ => m - (intOf i).toNat)
      case atStart => exact ⟨0, Nat.zero_le _, rfl, unhide HO1, HB1⟩
      case round =>
        obtain ⟨k, hk, rfl, HO, HB⟩ := hrel
        by_cases hlt : k < m
        · obtain ⟨c0, he⟩ := ((unhide HR).below (unhide HB)).2 k hlt
          have HF := hide (flat_snocE ls k (by rw [(unhide HR).1]; exact hlt))
          have hle := take_flat_leE ls (k + 1)
          rw [← unhide HN, unhide HF, List.length_append] at hle
          have hl1 := he.1
          generalize (f k).a = ao at c0 he
          generalize (f k).n = n at c0 he hl1
          generalize (f k).c = c at c0 he
          rw [hl1] at hle
          have HCI := hide he.cin
          have hsz := (unhide HB).size
          have HEC : Hid (ecs (ls.take (k + 1)).flatten = ecs (ls.take k).flatten ++ ecs (ls.getD k []) ∧ (ls.take (k + 1)).flatten.length = (ls.take k).flatten.length + n) := ⟨by rw [unhide HF, ecs_app], by rw [unhide HF, List.length_append, hl1]⟩
          generalize ls.getD k [] = lk at HCI HEC
          generalize (ls.take k).flatten = Fk at HO HEC hle
          have H1 := hide (ecs_one lk)
          clear he hl1 HF
          go_wp2_with (first
            | (at_builtin; refine wpList_app_c _ rfl _ _ 23 rfl w.heap.size 68 i0 _ 4 40 Tryd.underlying23 hi hz0 hz1 hz2 rfl (by decide) _ _ _ n _ (ecs lk) rfl rfl (unhide HO) (unhide HCI) (unhide H1) (by unfold maxLen; omega) (by omega) (by omega) ?_)
            | go_in)
          intro v' w2 hown hgrow _
          have HO2 : Hid (w2.ownsRow w.heap.size 68 4 v' (ls.take (k + 1)).flatten.length (ecs (ls.take (k + 1)).flatten)) := by
            show World.ownsRow _ _ _ _ _ _ _
            rw [(unhide HEC).1, (unhide HEC).2]; exact hown
          have HB2 : Hid (Below w.heap.size w w2) := (unhide HB).grown hgrow hsz (fun k hk => ((unhide HO).lt k hk).1)
          clear hown hgrow
          go_wp2
          go_roundw
          case rel => exact ⟨k + 1, by omega, by go_num, HO2, HB2⟩
          case measure => simp [intOf]; omega
        · obtain rfl : m = k := by omega
          have HO2 : Hid (wr.ownsRow w.heap.size 68 4 u6 ls.flatten.length (ecs ls.flatten)) := by
            have := unhide HO
            rw [List.take_of_length_le (Nat.le_of_eq (unhide HR).1)] at this
            exact this
          go_wp2
          go_ret
          exact ⟨_, rfl, HO2, HB⟩
end Go.Proofs.YtcffbkgkdoaplaaDoor.Et
