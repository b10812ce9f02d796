/- Proved here: text.Get and dovecoteref1.GetText tell the text with which bytes begin, and how many bytes it is with its length, or that it is none, or not all there. Helper contracts. -/
import Derived.Test.YtpfpollejhdbgaaDoorTGetBin
namespace Go.Proofs.YtpfpollejhdbgaaDoor
open Go.RowKit

/-- GetBin's answer: the bytes, how many with their length, the error's number -/
def gbn (l : List Int) : ByteArray × Int × Int := if full l = true then (gbs l, (2 + nb l : Nat), 0) else (⟨#[]⟩, 0, 3)
/-- Get's -/
def gt (l : List Int) : ByteArray × Int × Int := if full l = true then (if utf (sb (gbs l)) = true then (gbs l, (2 + nb l : Nat), 0) else (⟨#[]⟩, 0, 1)) else (⟨#[]⟩, 0, 3)
theorem gbs_size (l : List Int) (hr : ∀ j, 0 ≤ l.getD j 0 ∧ l.getD j 0 ≤ 255) : (gbs l).size ≤ 65535 := by
  rw [← sb_length]
  unfold gbs
  rw [sb_bs _ (take_drop_range l 2 _ hr), List.length_take]
  have := (nb_or l (hr 0) (hr 1)).2
  omega
theorem below_q {w : World} (q : Nat) : Below w.heap.size w (w.drewN q) := below_drewN (Below.refl _ _) q

theorem getBin_any (v : Value) (l : List Int) (w : World) (hv : Byt w v l) : Calls Tryd.prog 80 #[v] w fun e w' => ∃ E, e = .returned (.tuple #[.string (gbn l).1, .int .i64 (gbn l).2.1, E]) ∧ Hid (ErrIs w' E (gbn l).2.2) ∧ Below w.heap.size w w' := by
  by_cases hf : full l = true
  · unfold gbn
    rw [if_pos hf]
    refine (gbin_ok v l w hv hf).mono ?_
    rintro e w' ⟨rfl, q, rfl⟩
    exact ⟨_, rfl, .inl ⟨rfl, rfl⟩, below_q q⟩
  · unfold gbn
    rw [if_neg hf]
    refine (gbin_short v l w hv (by simpa using hf)).mono ?_
    rintro e w' ⟨rfl, q, rfl⟩
    exact ⟨_, rfl, fault_is 3 (w.drewN q), (below_q q).trans (fault_below 3 (w.drewN q))⟩
theorem rgetBin_any (v : Value) (l : List Int) (w : World) (hv : Byt w v l) : Calls Tryd.prog 52 #[v] w fun e w' => e = .returned (.tuple #[.string (gbn l).1, .int .i64 (gbn l).2.1, .int .i64 (gbn l).2.2]) ∧ Below w.heap.size w w' := by
  by_cases hf : full l = true
  · unfold gbn
    rw [if_pos hf]
    refine (rgbin_ok v l w hv hf).mono ?_
    rintro e w' ⟨rfl, q, rfl⟩
    exact ⟨rfl, below_q q⟩
  · unfold gbn
    rw [if_neg hf]
    refine (rgbin_short v l w hv (by simpa using hf)).mono ?_
    rintro e w' ⟨rfl, q, rfl⟩
    exact ⟨rfl, below_q q⟩

theorem get_short (v : Value) (l : List Int) (w : World) (hv : Byt w v l) (h : full l = false) : Calls Tryd.prog 79 #[v] w fun e w' => e = .returned (.tuple #[.string ⟨#[]⟩, .int .i64 0, .iface 79 (.pointer (some ⟨w.heap.size, 0, none⟩))]) ∧ ∃ q, w' = faultW 3 (w.drewN q) := by
  have HG := hide (gbin_short v l w hv h)
  have HV := hide hv
  clear hv
  go_enter Tryd.func79, Tryd.ntmps79
  go_wp2_with (go_at_call 80; refine (unhide HG).mono ?_; rintro e w' ⟨rfl, q, rfl⟩)
  go_ret3
  exact ⟨rfl, _, rfl⟩
theorem get_ok (v : Value) (l : List Int) (w : World) (hv : Byt w v l) (h : full l = true) (hu : utf (sb (gbs l)) = true) : Calls Tryd.prog 79 #[v] w fun e w' => e = .returned (.tuple #[.string (gbs l), .int .i64 (2 + nb l : Nat), .nilIface]) ∧ ∃ q, w' = w.drewN q := by
  have HG := hide (gbin_ok v l w hv h)
  have hz := gbs_size l hv.range
  have HC : Hid (chk (sb (gbs l)) = 0) := by show _ = _; unfold chk; rw [if_pos hu, if_pos (by rw [sb_length]; exact hz)]
  have hnb := (nb_or l (hv.range 0) (hv.range 1)).2
  have HV := hide hv
  have HU := hide hu
  clear hv hu
  generalize nb l = n at HG hnb
  generalize gbs l = g at HG hz HC
  go_enter Tryd.func79, Tryd.ntmps79
  go_wp2_with (first | (go_at_call 80; refine (unhide HG).mono ?_; rintro e w' ⟨rfl, q, rfl⟩) | (go_at_call 83; refine (check_ok g _ (by omega) (unhide HC)).mono ?_; rintro e w' ⟨rfl, rfl⟩))
  go_ret3
  exact ⟨rfl, _, rfl⟩
theorem get_form (v : Value) (l : List Int) (w : World) (hv : Byt w v l) (h : full l = true) (hu : utf (sb (gbs l)) = false) : Calls Tryd.prog 79 #[v] w fun e w' => e = .returned (.tuple #[.string ⟨#[]⟩, .int .i64 0, .iface 79 (.pointer (some ⟨w.heap.size, 0, none⟩))]) ∧ ∃ q, w' = faultW 1 (w.drewN q) := by
  have HG := hide (gbin_ok v l w hv h)
  have hz := gbs_size l hv.range
  have HC : Hid (chk (sb (gbs l)) = 1) := by show _ = _; unfold chk; rw [if_neg (by rw [hu]; simp)]
  have HV := hide hv
  have HU := hide hu
  clear hv hu
  generalize nb l = n at HG
  generalize gbs l = g at HG hz HC
  go_enter Tryd.func79, Tryd.ntmps79
  go_wp2_with (first | (go_at_call 80; refine (unhide HG).mono ?_; rintro e w' ⟨rfl, q, rfl⟩) | (go_at_call 83; refine (check_bad g 1 _ (by omega) (unhide HC) (by decide)).mono ?_; rintro e w' ⟨rfl, rfl⟩))
  go_ret3
  exact ⟨rfl, _, rfl⟩
theorem get_any (v : Value) (l : List Int) (w : World) (hv : Byt w v l) : Calls Tryd.prog 79 #[v] w fun e w' => ∃ E, e = .returned (.tuple #[.string (gt l).1, .int .i64 (gt l).2.1, E]) ∧ Hid (ErrIs w' E (gt l).2.2) ∧ Below w.heap.size w w' := by
  unfold gt
  by_cases hf : full l = true
  · rw [if_pos hf]
    by_cases hu : utf (sb (gbs l)) = true
    · rw [if_pos hu]
      refine (get_ok v l w hv hf hu).mono ?_
      rintro e w' ⟨rfl, q, rfl⟩
      exact ⟨_, rfl, .inl ⟨rfl, rfl⟩, below_q q⟩
    · rw [if_neg hu]
      refine (get_form v l w hv hf (by simpa using hu)).mono ?_
      rintro e w' ⟨rfl, q, rfl⟩
      exact ⟨_, rfl, fault_is 1 (w.drewN q), (below_q q).trans (fault_below 1 (w.drewN q))⟩
  · rw [if_neg hf]
    refine (get_short v l w hv (by simpa using hf)).mono ?_
    rintro e w' ⟨rfl, q, rfl⟩
    exact ⟨_, rfl, fault_is 3 (w.drewN q), (below_q q).trans (fault_below 3 (w.drewN q))⟩

theorem rget_short (v : Value) (l : List Int) (w : World) (hv : Byt w v l) (h : full l = false) : Calls Tryd.prog 51 #[v] w fun e w' => e = .returned (.tuple #[.string ⟨#[]⟩, .int .i64 0, .int .i64 3]) ∧ Below w.heap.size w w' := by
  have HG := hide (rgbin_short v l w hv h)
  have HV := hide hv
  clear hv
  go_enter Tryd.func51, Tryd.ntmps51
  go_wp2_with (go_at_call 52; refine (unhide HG).mono ?_; rintro e w' ⟨rfl, q, rfl⟩)
  go_ret3
  exact ⟨rfl, below_q q⟩
theorem rget_ok (v : Value) (l : List Int) (w : World) (hv : Byt w v l) (h : full l = true) (hu : utf (sb (gbs l)) = true) : Calls Tryd.prog 51 #[v] w fun e w' => e = .returned (.tuple #[.string (gbs l), .int .i64 (2 + nb l : Nat), .int .i64 0]) ∧ Below w.heap.size w w' := by
  have HG := hide (rgbin_ok v l w hv h)
  have hz := gbs_size l hv.range
  have HV := hide hv
  clear hv
  generalize nb l = n at HG
  generalize gbs l = g at HG hz hu
  go_enter Tryd.func51, Tryd.ntmps51
  go_wp2_with (first | (go_at_call 52; refine (unhide HG).mono ?_; rintro e w' ⟨rfl, q, rfl⟩; obtain ⟨v2, w2, hrun, hby, hb⟩ := conv_str g (by unfold maxLen; omega) (w.drewN q); have HBY := hide hby; have HB := hide hb; clear hby hb) | (go_at_call 53; refine (rutf_any v2 (sb g) _ (unhide HBY)).mono ?_; rintro e w' ⟨rfl, rfl⟩))
  go_ret3
  exact ⟨rfl, (below_q q).trans (unhide HB)⟩
theorem rget_form (v : Value) (l : List Int) (w : World) (hv : Byt w v l) (h : full l = true) (hu : utf (sb (gbs l)) = false) : Calls Tryd.prog 51 #[v] w fun e w' => e = .returned (.tuple #[.string ⟨#[]⟩, .int .i64 0, .int .i64 1]) ∧ Below w.heap.size w w' := by
  have HG := hide (rgbin_ok v l w hv h)
  have hz := gbs_size l hv.range
  have HV := hide hv
  clear hv
  generalize nb l = n at HG
  generalize gbs l = g at HG hz hu
  go_enter Tryd.func51, Tryd.ntmps51
  go_wp2_with (first | (go_at_call 52; refine (unhide HG).mono ?_; rintro e w' ⟨rfl, q, rfl⟩; obtain ⟨v2, w2, hrun, hby, hb⟩ := conv_str g (by unfold maxLen; omega) (w.drewN q); have HBY := hide hby; have HB := hide hb; clear hby hb) | (go_at_call 53; refine (rutf_any v2 (sb g) _ (unhide HBY)).mono ?_; rintro e w' ⟨rfl, rfl⟩))
  go_ret3
  exact ⟨rfl, (below_q q).trans (unhide HB)⟩
theorem rget_any (v : Value) (l : List Int) (w : World) (hv : Byt w v l) : Calls Tryd.prog 51 #[v] w fun e w' => e = .returned (.tuple #[.string (gt l).1, .int .i64 (gt l).2.1, .int .i64 (gt l).2.2]) ∧ Below w.heap.size w w' := by
  unfold gt
  by_cases hf : full l = true
  · rw [if_pos hf]
    by_cases hu : utf (sb (gbs l)) = true
    · rw [if_pos hu]
      exact rget_ok v l w hv hf hu
    · rw [if_neg hu]
      exact rget_form v l w hv hf (by simpa using hu)
  · rw [if_neg hf]
    exact rget_short v l w hv (by simpa using hf)
end Go.Proofs.YtpfpollejhdbgaaDoor
