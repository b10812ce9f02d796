/- Proved here: topic's Filter and Match at a subscription that a name matches. Helper contracts. -/
import Derived.Test.YtdjpllmgjmnolaaGreatDoorZYOa
namespace Go.Proofs.YtdjpllmgjmnolaaGreatDoor.Y
open Go.RowKit Go.Maps
set_option maxRecDepth 100000

/-- what stands behind a group is a filter of its own -/
theorem flt_inner {l g p : List UInt8} (h : flt l = some (g, p)) : flt p = some ([], p) := by
  cases hp : shr.isPrefixOf l with
  | false =>
    rw [flt_not hp] at h
    split at h
    · rename_i hq
      simp only [Option.some.injEq, Prod.mk.injEq] at h
      obtain ⟨_, rfl⟩ := h
      rw [flt_not hp, if_pos hq]
    · cases h
  | true =>
    obtain ⟨n, _, _, h3⟩ := slash_at (l.drop 7)
    rcases h3 with ⟨_, hi⟩ | ⟨b, e, _, hi, _⟩
    · rw [flt_no1 hp hi] at h; cases h
    · rw [flt_cut hp e hi] at h
      split at h
      · rename_i hq
        simp only [Option.some.injEq, Prod.mk.injEq] at h
        obtain ⟨_, rfl⟩ := h
        rw [flt_not hq.2.1, if_pos hq.2.2]
      · cases h
/-- a subscription that a name matches: its filter is told, and matches by itself -/
theorem tf_any (u : Rw) (hu : RwOk u) (nm : ByteArray) (hs : nm.size ≤ 70000) (hnm : isName nm.data.toList = true) (hh : hits u.s.f.data.toList nm.data.toList = true) :
    ∃ g p : ByteArray, (∀ W, Len W → Calls Tryz.prog 19 #[.string u.s.f] W fun e w' => e = .returned (.tuple #[.string g, .string p, .nilIface]) ∧ Below W.heap.size W w') ∧ (∀ W, Len W → Calls Tryz.prog 20 #[.string p, .string nm] W fun e w' => e = .returned (.tuple #[.bool true, .nilIface]) ∧ Below W.heap.size W w') := by
  cases h : flt u.s.f.data.toList with
  | none => unfold hits at hh; rw [h] at hh; cases hh
  | some x =>
    obtain ⟨g, p⟩ := x
    have hm : mtc p nm.data.toList = true := by unfold hits at hh; rw [h] at hh; exact hh
    have hin := flt_inner h
    have hpl : (bt p).size ≤ 70000 := by
      rw [bt_size]
      have hl := prt_len u.s.f.data.toList
      rw [size_len] at hl
      have hf := hu.2.1
      unfold flt at h
      split at h
      · split at h
        · simp only [Option.some.injEq, Prod.mk.injEq] at h
          rw [← h.2]; omega
        · cases h
      · cases h
    refine ⟨bt g, bt p, fun W hW => filter_yes u.s.f g p W hu.2.1 hW h, fun W hW => ?_⟩
    have hmay : mayM (bt p).data.toList nm.data.toList = true := by
      unfold mayM
      rw [bt_data, hnm, decide_eq_true hin]
      rfl
    have k := _root_.Go.Proofs.YtdjpllmgjmnolaaGreatDoor.match_yes (bt p) nm W hpl hs hW hmay
    rw [bt_data, hm] at k
    exact k
end Go.Proofs.YtdjpllmgjmnolaaGreatDoor.Y
